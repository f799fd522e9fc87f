/- Walks: MetaTurned. -/
import Derived.Test.YtepbphgpklphiaaDoorMO
import Derived.Test.YtepbphgpklphiaaDoorMG
namespace Go.Proofs.YtepbphgpklphiaaDoor
open Go.RowKit

theorem str_row {P : Program} (w : World) (src dst e : TypeId) (s : ByteArray) (hs : P.underlying src = some .string) (hd : P.underlying dst = some (.slice e)) (he : P.underlying e = some (.int .u8)) :
    ∃ cs cap fr, (convert src dst (.string s)).run P w = .ok (.slice (some ⟨w.heap.size, 0, none⟩) s.size cap) (w.drew.alloc (.cells cs e fr)) ∧ fr = (cs.size, cs.size + 1) ∧ s.size ≤ cs.size ∧ ∀ k (h : k < s.size), cs[k]? = some (.int .u8 s[k].toNat) := by
  refine ⟨_, _, _, run_bytes_of_string w src dst e s hs hd he, rfl, ?_, ?_⟩
  · unfold bytesRow; simp
  · intro k h
    have h' : k < s.data.size := h
    unfold bytesRow
    rw [Array.getElem?_append_left (by simpa using h'), Array.getElem?_map, Array.getElem?_eq_getElem h']
    rfl
theorem of8 (x : UInt8) : BitVec.ofInt 8 (x.toNat : Int) = x.toBitVec := by
  rw [BitVec.ofInt_natCast]
  apply BitVec.eq_of_toNat_eq
  rw [BitVec.toNat_ofNat]
  exact Nat.mod_eq_of_lt x.toNat_lt
theorem wr8 (x : UInt8) : IntKind.u8.wrap (x.toBitVec.toNat : Int) = (x.toNat : Int) := by
  have := x.toNat_lt
  rw [IntKind.wrap_u8]
  show ((x.toNat : Int)) % 256 = _
  omega
theorem x8 (a b : UInt8) : bits .xor .u8 (a.toNat : Int) (b.toNat : Int) = ((a ^^^ b).toNat : Int) := by
  show IntKind.u8.wrap ((BitVec.ofInt 8 (a.toNat : Int) ^^^ BitVec.ofInt 8 (b.toNat : Int)).toNat : Int) = _
  rw [of8, of8]
  exact wr8 (a ^^^ b)

set_option maxRecDepth 100000 in
set_option maxHeartbeats 2000000 in
theorem mturned_bad {p q : Int} {MA : Array Value} {n : Int} (w : World) (hMs : MA.size = 38)
    (HA : Hid (∀ W, Same w W → Calls Tryd.prog 9 #[] W fun e w' => e = .returned (.bool true) ∧ Same W w'))
    (HE : Hid (∀ W, Same w W → Calls Tryd.prog 10 #[frameV p q, .agg MA] W fun e w' => e = .returned (.tuple #[.string ⟨#[]⟩, .int .i64 2]) ∧ Same W w'))
    (HC : Hid (∀ W, Calls Tryd.prog 11 #[frameV p q, .agg MA] W fun e w' => e = .returned (.int .i64 2) ∧ Same W w')) :
    Calls Tryd.prog 5 #[frameV p q, .agg MA, .int .i64 n] w fun e w' => e = .returned (.bool true) ∧ Same w w' := by
  have hMz : (Tryd.prog.info? 32).map (·.size) = some MA.size := by rw [Tryd.infoM, hMs]
  have sx : Same w ((w.alloc (.cells #[.int .i64 p, .int .i64 q] 24)).alloc (.cells MA 32)) := ((Fr.refl _ w).alloc _).alloc _
  have c0 : ((w.alloc (.cells #[.int .i64 p, .int .i64 q] 24)).alloc (.cells MA 32)).cell? ⟨w.heap.size, 0, none⟩ = some (.int .i64 p) := by simp
  have c1 : ((w.alloc (.cells #[.int .i64 p, .int .i64 q] 24)).alloc (.cells MA 32)).cell? ⟨w.heap.size, 1, none⟩ = some (.int .i64 q) := by simp
  have r0 : ((w.alloc (.cells #[.int .i64 p, .int .i64 q] 24)).alloc (.cells MA 32)).heap[w.heap.size + 1]? = some (.cells MA 32 (0, 0)) := heap_alloc2_new w _ _
  go_enter Tryd.func5, Tryd.ntmps5
  go_wp2_with fail
  refine (HA.out _ sx).mono ?_
  rintro e W1 ⟨rfl, s1⟩
  have c0 := s1.keep c0
  have c1 := s1.keep c1
  have r1 := (s1.block _ (lt_of_heap r0) (fun f => f)).trans r0
  have t1 := sx.trans s1
  clear s1 sx r0
  go_wp2_with (first | (refine wpList_load_want (by rfl) 32 _ (by rfl) (w.heap.size + 1) (by rfl) 32 MA (0, 0) _ r1 Tryd.underlying32 rfl hMz ?_))
  refine (HE.out _ t1).mono ?_
  rintro e W2 ⟨rfl, s2⟩
  have c0 := s2.keep c0
  have c1 := s2.keep c1
  have r2 := (s2.block _ (lt_of_heap r1) (fun f => f)).trans r1
  have t2 := t1.trans s2
  clear s2 t1 r1
  go_wp2_with (first | (refine wpList_load_want (by rfl) 32 _ (by rfl) (w.heap.size + 1) (by rfl) 32 MA (0, 0) _ r2 Tryd.underlying32 rfl hMz ?_))
  refine (HC.out _).mono ?_
  rintro e W3 ⟨rfl, s3⟩
  go_wp2_with fail
  go_ret
  exact ⟨rfl, t2.trans s3⟩

set_option maxRecDepth 100000 in
set_option maxHeartbeats 4000000 in
theorem mturned_good {p : Nat} {q : Int} {MA ZA RA : Array Value} {s T : ByteArray} {n n1 : Int} {j : Nat} {x y e : UInt8} {L : Nat} (w : World) (hMs : MA.size = 38) (hzl : (#[.int .u64 0, .int .u32 0, .int .u8 0, .int .u8 0, .int .u8 0, .int .u8 0, .int .u8 0, .int .u8 0, .int .u8 0, .int .u8 0, .int .u8 0, .int .u8 0, .int .u8 0, .int .u8 0, .int .u8 0, .int .u8 0, .int .u8 0, .int .u8 0, .int .u8 0, .int .u8 0, .int .u8 0, .int .u8 0, .int .u8 0, .int .u8 0, .int .u8 0, .int .u8 0, .int .u8 0, .int .u8 0, .int .u8 0, .int .u8 0, .int .u8 0, .int .u8 0, .int .u8 0, .int .u8 0, .int .u64 0, .int .u64 0, .int .u32 0, .int .u32 0] : Array Value) = ZA) (hzs : ZA.size = 38) (hRs : RA.size = 38) (hRo : RA.all (·.oneCell') = true)
    (hn1 : n1 = if n < 0 then -(n + 1) else n) (hnb : 0 ≤ n1 ∧ n1 ≤ 9223372036854775807) (hnn : -9223372036854775808 ≤ n) (hp : 1 ≤ p ∧ p ≤ 100000) (hs : s.size = p) (hjj : (j : Int) = n1 % p) (hee : (e.toNat : Int) = 1 + n1 / p % 255) (hx : s.data.toList[j]? = some x) (hy : y = x ^^^ e) (hT : T.data.toList = s.data.toList.set j y)
    {small : Bool} (hsm : decide ((j : Int) < (p : Int) / 8) = small)
    (hEqZ : small = true → ∀ W : World, (Op.equalIn 10000 32 (.agg RA) (.agg ZA)).run Tryd.prog W = .ok true W) (hEqM : small = false → ∀ W : World, (Op.equalIn 10000 32 (.agg RA) (.agg MA)).run Tryd.prog W = .ok true W) (hL : L = if small = true then 3 else 1)
    (HA : Hid (∀ W, Same w W → Calls Tryd.prog 9 #[] W fun e w' => e = .returned (.bool true) ∧ Same W w'))
    (HE : Hid (∀ W, Same w W → Calls Tryd.prog 10 #[frameV p q, .agg MA] W fun e w' => e = .returned (.tuple #[.string s, .int .i64 0]) ∧ Same W w'))
    (HD : Hid (∀ W, Same w W → Calls Tryd.prog 12 #[frameV p q, .string T] W fun e w' => e = .returned (.tuple #[.agg RA, .int .u8 L, .int .i64 0]) ∧ Same W w')) :
    Calls Tryd.prog 5 #[frameV p q, .agg MA, .int .i64 n] w fun e w' => e = .returned (.bool true) ∧ Same w w' := by
  have hzl := hzl
  have hMz : (Tryd.prog.info? 32).map (·.size) = some MA.size := by rw [Tryd.infoM, hMs]
  have hRz : (Tryd.prog.info? 32).map (·.size) = some RA.size := by rw [Tryd.infoM, hRs]
  have sx : Same w ((w.alloc (.cells #[.int .i64 (p : Int), .int .i64 q] 24)).alloc (.cells MA 32)) := ((Fr.refl _ w).alloc _).alloc _
  have c0 : ((w.alloc (.cells #[.int .i64 (p : Int), .int .i64 q] 24)).alloc (.cells MA 32)).cell? ⟨w.heap.size, 0, none⟩ = some (.int .i64 p) := by simp
  have c1 : ((w.alloc (.cells #[.int .i64 (p : Int), .int .i64 q] 24)).alloc (.cells MA 32)).cell? ⟨w.heap.size, 1, none⟩ = some (.int .i64 q) := by simp
  have r0 : ((w.alloc (.cells #[.int .i64 (p : Int), .int .i64 q] 24)).alloc (.cells MA 32)).heap[w.heap.size + 1]? = some (.cells MA 32 (0, 0)) := heap_alloc2_new w _ _
  go_enter Tryd.func5, Tryd.ntmps5
  go_wp2_with fail
  refine (HA.out _ sx).mono ?_
  rintro e W1 ⟨rfl, s1⟩
  have c0 := s1.keep c0
  have c1 := s1.keep c1
  have r1 := (s1.block _ (lt_of_heap r0) (fun f => f)).trans r0
  have t1 := sx.trans s1
  clear s1 sx r0
  go_wp2_with (first | (refine wpList_load_want (by rfl) 32 _ (by rfl) (w.heap.size + 1) (by rfl) 32 MA (0, 0) _ r1 Tryd.underlying32 rfl hMz ?_))
  refine (HE.out _ t1).mono ?_
  rintro e W2 ⟨rfl, s2⟩
  have c0 := s2.keep c0
  have c1 := s2.keep c1
  have r2 := (s2.block _ (lt_of_heap r1) (fun f => f)).trans r1
  have t2 := t1.trans s2
  clear s2 t1 r1
  obtain ⟨cs, cap, fr, hcv, hfr, hsz, hcell⟩ := str_row (P := Tryd.prog) W2 9 41 5 s Tryd.underlying9 Tryd.underlying41 Tryd.underlying5
  have HCL : Hid (∀ k (h : k < s.size), cs[k]? = some (.int .u8 s[k].toNat)) := hcell
  clear hcell
  have HX : Hid ((n1 = if n < 0 then -(n + 1) else n) ∧ s.size = p ∧ (j : Int) = n1 % p ∧ s.data.toList[j]? = some x ∧ T.data.toList = s.data.toList.set j y ∧ y = x ^^^ e) := ⟨hn1, hs, hjj, hx, hT, hy⟩
  clear hn1 hs hjj hx hT hy
  by_cases hneg : n < 0
  · obtain ⟨D, hD⟩ : ∃ D : Int, D = n1 / p := ⟨_, rfl⟩
    obtain ⟨M, hM⟩ : ∃ M : Int, M = D % 255 := ⟨_, rfl⟩
    have hD0 : 0 ≤ D ∧ D ≤ 9223372036854775807 := by
      rw [hD]
      have h1 := Int.ediv_nonneg hnb.1 (show (0 : Int) ≤ p by omega)
      have h2 := Int.ediv_le_self (a := n1) p hnb.1
      omega
    have a3 : D.tmod 255 = M := by rw [Int.tmod_eq_emod_of_nonneg hD0.1, hM]
    have a4 : wrap64 (1 + M) % 256 = (e.toNat : Int) := by
      have : (e.toNat : Int) = 1 + M := by rw [hee, hM, hD]
      rw [this, wrap64]; omega
    have hnn1 : n1 = -(n + 1) := by have := HX.out.1; rw [if_pos hneg] at this; exact this
    have a1 : -(n + 1).tmod (p : Int) = (j : Int) := by rw [← Int.neg_tmod, ← hnn1, Int.tmod_eq_emod_of_nonneg hnb.1, HX.out.2.2.1]
    have a2 : wrap64 (-(n + 1).tdiv (p : Int)) = D := by rw [← Int.neg_tdiv, ← hnn1, Int.tdiv_eq_ediv_of_nonneg hnb.1, ← hD, wrap64]; omega
    clear hnn1
    have hjp : (j : Int) < (p : Int) := by
      have h1 := HX.out.2.2.1
      have h2 := Int.emod_lt_of_pos n1 (show (0 : Int) < p by omega)
      omega
    have hjs : j < s.size := by have := HX.out.2.1; omega
    have b0 : (0 : Int) ≤ (j : Int) := by omega
    have b1 : (j : Int) < (s.size : Int) := by omega
    have e2 : bits .xor .u8 (x.toNat : Int) (e.toNat : Int) = (y.toNat : Int) := by rw [HX.out.2.2.2.2.2]; exact x8 x e
    have hxs : s[j] = x := by
      have h1 := HX.out.2.2.2.1
      rw [List.getElem?_eq_getElem (by rw [bytes_length]; exact hjs)] at h1
      exact Option.some.inj h1
    have hg : (W2.alloc (.cells cs 5 (cs.size, cs.size + 1))).heap[W2.heap.size]? = some (.cells cs 5 (cs.size, cs.size + 1)) := heap_alloc_new W2 _
    have hcx : (W2.alloc (.cells cs 5 (cs.size, cs.size + 1))).cell? ⟨W2.heap.size, j, none⟩ = some (.int .u8 x.toNat) := by rw [cell_of_row _ _ _ _ _ _ hg, HCL.out j hjs, hxs]
    have hfz : (W2.alloc (.cells cs 5 (cs.size, cs.size + 1))).frozen? ⟨W2.heap.size, j, none⟩ = false := by
      have : ¬ cs.size ≤ j := by omega
      unfold World.frozen?
      simp only [hg]
      simp [this]
    have v1 : (convert 41 9 (.slice (some ⟨W2.heap.size, 0, none⟩) s.size cap)).run Tryd.prog ((W2.alloc (.cells cs 5 (cs.size, cs.size + 1))).setCell ⟨W2.heap.size, j, none⟩ (.int .u8 y.toNat)).drew = .ok (.string T) ((W2.alloc (.cells cs 5 (cs.size, cs.size + 1))).setCell ⟨W2.heap.size, j, none⟩ (.int .u8 y.toNat)).drew := by
      have hTl : (s.data.toList.set j y).length = s.size := by rw [List.length_set, bytes_length]
      have hcv := run_convert_bytes_back (P := Tryd.prog) ((W2.alloc (.cells cs 5 (cs.size, cs.size + 1))).setCell ⟨W2.heap.size, j, none⟩ (.int .u8 y.toNat)).drew 41 9 5 ⟨W2.heap.size, 0, none⟩ cap (s.data.toList.set j y) Tryd.underlying41 Tryd.underlying5 Tryd.underlying9 (by
        intro k hk
        have hks : k < s.size := by rw [hTl] at hk; exact hk
        rw [Addr.add_mid, Nat.zero_add]
        show ((W2.alloc (.cells cs 5 (cs.size, cs.size + 1))).setCell ⟨W2.heap.size, j, none⟩ (.int .u8 y.toNat)).cell? ⟨W2.heap.size, k, none⟩ = _
        by_cases hjk : j = k
        · subst hjk
          rw [World.cell?_setCell_same _ _ _ hcx]
          simp
        · rw [World.cell?_setCell_other _ _ _ _ (by intro h; apply hjk; injection h), cell_of_row _ _ _ _ _ _ hg, HCL.out k hks]
          rw [List.getElem_set_ne hjk]
          rfl)
      rw [hTl] at hcv
      have eT : (⟨(s.data.toList.set j y).toArray⟩ : ByteArray) = T := by
        apply bytes_ext
        rw [List.toList_toArray, HX.out.2.2.2.2.1]
      rw [eT] at hcv
      exact hcv
    have s4 : Same W2 ((W2.alloc (.cells cs 5 (cs.size, cs.size + 1))).setCell ⟨W2.heap.size, j, none⟩ (.int .u8 y.toNat)).drew := Fr.drew (((Fr.refl _ W2).alloc _).setCell (p := ⟨W2.heap.size, j, none⟩) (fun h => by simp only at h; omega) _)
    have d0 := s4.keep c0
    have d1 := s4.keep c1
    have q4 := (s4.block _ (lt_of_heap r2) (fun f => f)).trans r2
    have t4 := t2.trans s4
    have w8 : wrap64 ((p : Int).tdiv 8) = (p : Int) / 8 := by rw [Int.tdiv_eq_ediv_of_nonneg (by omega), wrap64]; omega
    have w9 : wrap64 ((p : Int) / 8) = (p : Int) / 8 := by rw [wrap64]; omega
    clear hD hM hD0 hee HCL hg hxs hjs hjp
    go_wp2_with fail
    refine (HD.out _ t4).mono ?_
    rintro e W5 ⟨rfl, s5⟩
    have d0 := s5.keep d0
    have t5 := t4.trans s5
    have q5 := (s5.block _ (lt_of_heap q4) (fun f => f)).trans q4
    clear s5 t4 q4 d1 v1 hcx hfz hcv s4 c0 c1 r2
    obtain ⟨P8, hP8⟩ : ∃ P8, P8 = (p : Int) / 8 := ⟨_, rfl⟩
    have w9' : wrap64 ((p : Int) / 8) = P8 := by rw [w9, hP8]
    rw [← hP8] at w8 hsm
    clear hP8 w9 a1 a2 a3 a4 b0 b1 e2 hnb hnn hneg hfr hsz hp HX
    cases small
    · have g8 := hsm
      have hq := hEqM rfl
      rw [if_neg (by simp)] at hL
      subst hL
      clear hsm hEqM hEqZ
      go_wp2_with (first | (refine wpList_store_whole (by rfl) 32 _ _ (by rfl) W5.heap.size RA ZA 32 (by rfl) (by rfl) (heap_alloc_new W5 _) (by rw [hzs, hRs]) hRz hRo ?_; intro W6 r6 f6; have s6 : Same W5 W6 := Fr.trans ((Fr.refl _ W5).alloc _) f6 (fun i hi e => by omega); have d0 := s6.keep d0; have t6 := t5.trans s6; have q6 := (s6.block _ (lt_of_heap q5) (fun f => f)).trans q5) | (refine wpList_load_want (by rfl) 32 _ (by rfl) W5.heap.size (by rfl) 32 RA (0, 0) _ r6 Tryd.underlying32 rfl hRz ?_) | (refine wpList_load_want (by rfl) 32 _ (by rfl) (w.heap.size + 1) (by rfl) 32 MA (0, 0) _ q6 Tryd.underlying32 rfl hMz ?_))
      go_ret
      exact ⟨rfl, t6⟩
    · have g8 := hsm
      have hq := hEqZ rfl
      rw [if_pos rfl] at hL
      subst hL
      clear hsm hEqM hEqZ
      go_wp2_with (first | (refine wpList_store_whole (by rfl) 32 _ _ (by rfl) W5.heap.size RA ZA 32 (by rfl) (by rfl) (heap_alloc_new W5 _) (by rw [hzs, hRs]) hRz hRo ?_; intro W6 r6 f6; have s6 : Same W5 W6 := Fr.trans ((Fr.refl _ W5).alloc _) f6 (fun i hi e => by omega); have d0 := s6.keep d0; have t6 := t5.trans s6; have q6 := (s6.block _ (lt_of_heap q5) (fun f => f)).trans q5) | (refine wpList_load_want (by rfl) 32 _ (by rfl) W5.heap.size (by rfl) 32 RA (0, 0) _ r6 Tryd.underlying32 rfl hRz ?_) | (refine wpList_load_want (by rfl) 32 _ (by rfl) (w.heap.size + 1) (by rfl) 32 MA (0, 0) _ q6 Tryd.underlying32 rfl hMz ?_))
      go_ret
      exact ⟨rfl, t6⟩
  · obtain ⟨D, hD⟩ : ∃ D : Int, D = n1 / p := ⟨_, rfl⟩
    obtain ⟨M, hM⟩ : ∃ M : Int, M = D % 255 := ⟨_, rfl⟩
    have hD0 : 0 ≤ D ∧ D ≤ 9223372036854775807 := by
      rw [hD]
      have h1 := Int.ediv_nonneg hnb.1 (show (0 : Int) ≤ p by omega)
      have h2 := Int.ediv_le_self (a := n1) p hnb.1
      omega
    have a3 : D.tmod 255 = M := by rw [Int.tmod_eq_emod_of_nonneg hD0.1, hM]
    have a4 : wrap64 (1 + M) % 256 = (e.toNat : Int) := by
      have : (e.toNat : Int) = 1 + M := by rw [hee, hM, hD]
      rw [this, wrap64]; omega
    have hnn1 : n1 = n := by have := HX.out.1; rw [if_neg hneg] at this; exact this
    have a1 : n.tmod (p : Int) = (j : Int) := by rw [← hnn1, Int.tmod_eq_emod_of_nonneg hnb.1, HX.out.2.2.1]
    have a2 : wrap64 (n.tdiv (p : Int)) = D := by rw [← hnn1, Int.tdiv_eq_ediv_of_nonneg hnb.1, ← hD, wrap64]; omega
    clear hnn1
    have hjp : (j : Int) < (p : Int) := by
      have h1 := HX.out.2.2.1
      have h2 := Int.emod_lt_of_pos n1 (show (0 : Int) < p by omega)
      omega
    have hjs : j < s.size := by have := HX.out.2.1; omega
    have b0 : (0 : Int) ≤ (j : Int) := by omega
    have b1 : (j : Int) < (s.size : Int) := by omega
    have e2 : bits .xor .u8 (x.toNat : Int) (e.toNat : Int) = (y.toNat : Int) := by rw [HX.out.2.2.2.2.2]; exact x8 x e
    have hxs : s[j] = x := by
      have h1 := HX.out.2.2.2.1
      rw [List.getElem?_eq_getElem (by rw [bytes_length]; exact hjs)] at h1
      exact Option.some.inj h1
    have hg : (W2.alloc (.cells cs 5 (cs.size, cs.size + 1))).heap[W2.heap.size]? = some (.cells cs 5 (cs.size, cs.size + 1)) := heap_alloc_new W2 _
    have hcx : (W2.alloc (.cells cs 5 (cs.size, cs.size + 1))).cell? ⟨W2.heap.size, j, none⟩ = some (.int .u8 x.toNat) := by rw [cell_of_row _ _ _ _ _ _ hg, HCL.out j hjs, hxs]
    have hfz : (W2.alloc (.cells cs 5 (cs.size, cs.size + 1))).frozen? ⟨W2.heap.size, j, none⟩ = false := by
      have : ¬ cs.size ≤ j := by omega
      unfold World.frozen?
      simp only [hg]
      simp [this]
    have v1 : (convert 41 9 (.slice (some ⟨W2.heap.size, 0, none⟩) s.size cap)).run Tryd.prog ((W2.alloc (.cells cs 5 (cs.size, cs.size + 1))).setCell ⟨W2.heap.size, j, none⟩ (.int .u8 y.toNat)).drew = .ok (.string T) ((W2.alloc (.cells cs 5 (cs.size, cs.size + 1))).setCell ⟨W2.heap.size, j, none⟩ (.int .u8 y.toNat)).drew := by
      have hTl : (s.data.toList.set j y).length = s.size := by rw [List.length_set, bytes_length]
      have hcv := run_convert_bytes_back (P := Tryd.prog) ((W2.alloc (.cells cs 5 (cs.size, cs.size + 1))).setCell ⟨W2.heap.size, j, none⟩ (.int .u8 y.toNat)).drew 41 9 5 ⟨W2.heap.size, 0, none⟩ cap (s.data.toList.set j y) Tryd.underlying41 Tryd.underlying5 Tryd.underlying9 (by
        intro k hk
        have hks : k < s.size := by rw [hTl] at hk; exact hk
        rw [Addr.add_mid, Nat.zero_add]
        show ((W2.alloc (.cells cs 5 (cs.size, cs.size + 1))).setCell ⟨W2.heap.size, j, none⟩ (.int .u8 y.toNat)).cell? ⟨W2.heap.size, k, none⟩ = _
        by_cases hjk : j = k
        · subst hjk
          rw [World.cell?_setCell_same _ _ _ hcx]
          simp
        · rw [World.cell?_setCell_other _ _ _ _ (by intro h; apply hjk; injection h), cell_of_row _ _ _ _ _ _ hg, HCL.out k hks]
          rw [List.getElem_set_ne hjk]
          rfl)
      rw [hTl] at hcv
      have eT : (⟨(s.data.toList.set j y).toArray⟩ : ByteArray) = T := by
        apply bytes_ext
        rw [List.toList_toArray, HX.out.2.2.2.2.1]
      rw [eT] at hcv
      exact hcv
    have s4 : Same W2 ((W2.alloc (.cells cs 5 (cs.size, cs.size + 1))).setCell ⟨W2.heap.size, j, none⟩ (.int .u8 y.toNat)).drew := Fr.drew (((Fr.refl _ W2).alloc _).setCell (p := ⟨W2.heap.size, j, none⟩) (fun h => by simp only at h; omega) _)
    have d0 := s4.keep c0
    have d1 := s4.keep c1
    have q4 := (s4.block _ (lt_of_heap r2) (fun f => f)).trans r2
    have t4 := t2.trans s4
    have w8 : wrap64 ((p : Int).tdiv 8) = (p : Int) / 8 := by rw [Int.tdiv_eq_ediv_of_nonneg (by omega), wrap64]; omega
    have w9 : wrap64 ((p : Int) / 8) = (p : Int) / 8 := by rw [wrap64]; omega
    clear hD hM hD0 hee HCL hg hxs hjs hjp
    go_wp2_with fail
    refine (HD.out _ t4).mono ?_
    rintro e W5 ⟨rfl, s5⟩
    have d0 := s5.keep d0
    have t5 := t4.trans s5
    have q5 := (s5.block _ (lt_of_heap q4) (fun f => f)).trans q4
    clear s5 t4 q4 d1 v1 hcx hfz hcv s4 c0 c1 r2
    obtain ⟨P8, hP8⟩ : ∃ P8, P8 = (p : Int) / 8 := ⟨_, rfl⟩
    have w9' : wrap64 ((p : Int) / 8) = P8 := by rw [w9, hP8]
    rw [← hP8] at w8 hsm
    clear hP8 w9 a1 a2 a3 a4 b0 b1 e2 hnb hnn hneg hfr hsz hp HX
    cases small
    · have g8 := hsm
      have hq := hEqM rfl
      rw [if_neg (by simp)] at hL
      subst hL
      clear hsm hEqM hEqZ
      go_wp2_with (first | (refine wpList_store_whole (by rfl) 32 _ _ (by rfl) W5.heap.size RA ZA 32 (by rfl) (by rfl) (heap_alloc_new W5 _) (by rw [hzs, hRs]) hRz hRo ?_; intro W6 r6 f6; have s6 : Same W5 W6 := Fr.trans ((Fr.refl _ W5).alloc _) f6 (fun i hi e => by omega); have d0 := s6.keep d0; have t6 := t5.trans s6; have q6 := (s6.block _ (lt_of_heap q5) (fun f => f)).trans q5) | (refine wpList_load_want (by rfl) 32 _ (by rfl) W5.heap.size (by rfl) 32 RA (0, 0) _ r6 Tryd.underlying32 rfl hRz ?_) | (refine wpList_load_want (by rfl) 32 _ (by rfl) (w.heap.size + 1) (by rfl) 32 MA (0, 0) _ q6 Tryd.underlying32 rfl hMz ?_))
      go_ret
      exact ⟨rfl, t6⟩
    · have g8 := hsm
      have hq := hEqZ rfl
      rw [if_pos rfl] at hL
      subst hL
      clear hsm hEqM hEqZ
      go_wp2_with (first | (refine wpList_store_whole (by rfl) 32 _ _ (by rfl) W5.heap.size RA ZA 32 (by rfl) (by rfl) (heap_alloc_new W5 _) (by rw [hzs, hRs]) hRz hRo ?_; intro W6 r6 f6; have s6 : Same W5 W6 := Fr.trans ((Fr.refl _ W5).alloc _) f6 (fun i hi e => by omega); have d0 := s6.keep d0; have t6 := t5.trans s6; have q6 := (s6.block _ (lt_of_heap q5) (fun f => f)).trans q5) | (refine wpList_load_want (by rfl) 32 _ (by rfl) W5.heap.size (by rfl) 32 RA (0, 0) _ r6 Tryd.underlying32 rfl hRz ?_) | (refine wpList_load_want (by rfl) 32 _ (by rfl) (w.heap.size + 1) (by rfl) 32 MA (0, 0) _ q6 Tryd.underlying32 rfl hMz ?_))
      go_ret
      exact ⟨rfl, t6⟩

theorem mturned_walk (w : World) (ht : TabAt w) (hz : TzAt w) (p q : Int) (m : Rec) (hm : RecOk m) (n : Int) (hn : -9223372036854775808 ≤ n ∧ n ≤ 9223372036854775807) :
    Calls Tryd.prog 5 #[frameV p q, metaV m, .int .i64 n] w fun e w' => e = .returned (.bool true) ∧ Same w w' := by
  have HA := fun W (h : Same w W) => awake_calls W (ht.same h) (hz.same h)
  have HE := fun W (h : Same w W) => encode_calls p q m hm W (ht.same h) (hz.same h)
  by_cases h : mayM p q m = true
  · rw [chkM_ok h] at HE
    obtain ⟨hp4, _, _⟩ := frameP_cases (mayM_parts h).1
    obtain ⟨P, rfl⟩ : ∃ P : Nat, p = (P : Int) := ⟨p.toNat, by omega⟩
    have hsz : (encS P q m).size = P := by have := encS_size hm h; omega
    obtain ⟨n1, hn1⟩ : ∃ n1 : Int, n1 = if n < 0 then -(n + 1) else n := ⟨_, rfl⟩
    have hnb : 0 ≤ n1 ∧ n1 ≤ 9223372036854775807 := by rw [hn1]; split <;> omega
    have hmod : 0 ≤ n1 % (P : Int) ∧ n1 % (P : Int) < P := ⟨Int.emod_nonneg _ (by omega), Int.emod_lt_of_pos _ (by omega)⟩
    obtain ⟨j, hj⟩ : ∃ j : Nat, (j : Int) = n1 % (P : Int) := ⟨(n1 % (P : Int)).toNat, by omega⟩
    have hq0 : 0 ≤ n1 / (P : Int) % 255 ∧ n1 / (P : Int) % 255 < 255 := ⟨Int.emod_nonneg _ (by omega), Int.emod_lt_of_pos _ (by omega)⟩
    obtain ⟨e, he⟩ : ∃ e : UInt8, (e.toNat : Int) = 1 + n1 / (P : Int) % 255 := ⟨UInt8.ofNat (1 + n1 / (P : Int) % 255).toNat, by rw [UInt8.toNat_ofNat']; omega⟩
    have he0 : ¬ e = 0 := by intro h0; rw [h0] at he; have : ((0 : UInt8).toNat : Int) = 0 := rfl; omega
    have hjl : j < (encS P q m).data.toList.length := by rw [bytes_length, hsz]; omega
    obtain ⟨x, hx⟩ : ∃ x, (encS P q m).data.toList[j]? = some x := ⟨_, List.getElem?_eq_getElem hjl⟩
    obtain ⟨T, hT⟩ : ∃ T : ByteArray, T.data.toList = (encS P q m).data.toList.set j (x ^^^ e) := ⟨⟨((encS P q m).data.toList.set j (x ^^^ e)).toArray⟩, by rw [List.toList_toArray]⟩
    have hT2 : T.data.toList = tset (encS P q m).data.toList j e := by
      rw [hT]; unfold tset; rw [List.getD_eq_getElem?_getD, hx]; rfl
    obtain ⟨k1, k2, k3⟩ := dec_turned hm h he0 hT2
    have HD := fun W (h : Same w W) => decode_calls P q T W (ht.same h) (hz.same h)
    rw [k1] at HD
    have hPn : (P : Int).toNat / 8 = P / 8 := by omega
    by_cases hs : j < (P : Int).toNat / 8
    · obtain ⟨g1, g2⟩ := k2 hs
      rw [g1, g2] at HD
      have hEq := fun W => eq_rec W zeroRec zeroRec rfl rfl
      rw [recEq_self] at hEq
      exact mturned_good w (arr_size m hm.d) zeroRec_lit rfl rfl (arr_one zeroRec) hn1 hnb hn.1 (by omega) hsz hj he hx rfl hT (small := true) (decide_eq_true (by omega)) (fun _ => hEq) (fun h => by cases h) rfl HA HE HD
    · obtain ⟨g1, g2⟩ := k3 hs
      rw [g1, g2] at HD
      have hEq := fun W => eq_rec W m m hm.d hm.d
      rw [recEq_self] at hEq
      exact mturned_good w (arr_size m hm.d) zeroRec_lit rfl (arr_size m hm.d) (arr_one m) hn1 hnb hn.1 (by omega) hsz hj he hx rfl hT (small := false) (decide_eq_false (by omega)) (fun h => by cases h) (fun _ => hEq) rfl HA HE HD
  · have h' : mayM p q m = false := by simpa using h
    have HC := check_calls p q m hm.d
    rw [chkM_bad h', show encS p q m = ⟨#[]⟩ from by (unfold encS; rw [if_neg h])] at HE
    rw [chkM_bad h'] at HC
    exact mturned_bad w (arr_size m hm.d) HA HE HC
end Go.Proofs.YtepbphgpklphiaaDoor
