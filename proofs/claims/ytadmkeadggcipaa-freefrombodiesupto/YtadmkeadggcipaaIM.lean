/- free: the document's FromBody. -/
import Derived.Test.YtadmkeadggcipaaIL
namespace Go.Proofs.Ytadmkeadggcipaa
open Go.RowKit Go.Maps

def RFromIs (p q : Int) (s : ByteArray) (w : World) (e : Ending) (w' : World) : Prop :=
  (docOk p q s = true ∧ ∃ ao c, e = .returned (.tuple #[.int .u32 (num4 s 0 : Int), .slice ao (docNs s).length c, .int .i64 0]) ∧ w'.ownsRow w.heap.size 27 1 (.slice ao (docNs s).length c) (docNs s).length (ncells (docNs s))) ∨
  (docOk p q s = false ∧ e = .returned (.tuple #[.int .u32 0, .slice none 0 0, .int .i64 (if frameP p q then 90 else 2)]))
def nums4 (s : ByteArray) (j : Nat) : List Nat := (List.range j).map fun i => num4 s (8 + 4 * i)
theorem nums4_succ (s : ByteArray) (j : Nat) : nums4 s (j + 1) = nums4 s j ++ [num4 s (8 + 4 * j)] := by simp [nums4, List.range_succ]
set_option maxRecDepth 100000 in
set_option maxHeartbeats 2000000 in
theorem rfrom_calls {p q : Int} (s : ByteArray) (hs : s.size ≤ 281474976710656) (w : World) :
    Calls Try.prog 14 #[frameV p q, .string s] w fun e w' => RFromIs p q s w e w' ∧ Same w w' := by
  have HM : Hid (∀ W, Calls Try.prog 20 #[.agg #[.int .i64 p, .int .i64 q]] W fun e w' => e = .returned (.bool (frameP p q)) ∧ Same W w') := rframe_calls p q
  have HE : Hid (∀ W, Calls Try.prog 8 #[.agg #[.int .i64 p, .int .i64 q]] W fun e w' => e = .returned (.int .i64 (entN p q : Int)) ∧ Same W w') := rentries_calls p q
  have HBd : Hid (∀ W pa pb po cp next ns, NRow W pa pb po ns → ns.length ≤ 4611686018427387904 → next < 4294967296 → Calls Try.prog 10 #[.agg #[.int .i64 p, .int .i64 q], .int .u32 ((next : Nat) : Int), .slice pa ns.length cp] W fun e w' => e = .returned (.tuple #[.string (bodyS p q next ns), .int .i64 (bodyE p q next ns)]) ∧ Same W w') := fun W pa pb po cp next ns h1 h2 h3 => rbody_calls W h1 h2 h3
  have HNu : Hid (∀ i W, i + 4 ≤ s.size → Calls Try.prog 31 #[.string (s.extract i (i + 4))] W fun e w' => e = .returned (.int .u32 (num4 s i : Int)) ∧ Same W w') := fun i W h => rnumber_calls _ (by rw [ByteArray.size_extract]; omega) W
  obtain ⟨V, hV⟩ : ∃ V, V = w.alloc (.cells #[.int .i64 p, .int .i64 q] 23) := ⟨_, rfl⟩
  have sx : Same w V := by rw [hV]; exact (Fr.refl _ w).alloc _
  have c0 : V.cell? ⟨w.heap.size, 0, none⟩ = some (.int .i64 p) := by rw [hV]; simp
  have c1 : V.cell? ⟨w.heap.size, 1, none⟩ = some (.int .i64 q) := by rw [hV]; simp
  have HC : Hid (∀ W, Same V W → W.cell? ⟨w.heap.size, 0, none⟩ = some (.int .i64 p) ∧ W.cell? ⟨w.heap.size, 1, none⟩ = some (.int .i64 q)) := fun W h => ⟨h.keep c0, h.keep c1⟩
  have HVZ : Hid (w.heap.size ≤ V.heap.size) := sx.size
  clear c0 c1
  cases hfp : frameP p q with
  | false =>
    rw [hfp] at HM
    have HNo : Hid (docOk p q s = false) := by show _ = _; unfold docOk; rw [hfp]; rfl
    go_enter Try.func14, Try.ntmps14
    go_wp2_with fail
    rw [← hV]
    clear hV
    refine (HM.out _).mono ?_
    rintro e W0 ⟨rfl, s0⟩
    go_wp2_with fail
    go_ret3
    exact ⟨.inr ⟨HNo.out, by rw [hfp]; rfl⟩, sx.trans s0⟩
  | true =>
    rw [hfp] at HM
    have hen : entN p q ≤ 2038 := by
      rcases entN_cases p q with ⟨_, h2⟩ | ⟨_, _, h3, _⟩ <;> omega
    have HFP : Hid (frameP p q = true) := hfp
    obtain ⟨en, hen2⟩ : ∃ en, en = entN p q := ⟨_, rfl⟩
    have HDoc : Hid (docOk p q s = (decide (8 ≤ s.size) && decide (s.size % 4 = 0) && decide (s.size ≤ 8 + 4 * en) && ((bodyE p q (num4 s 0) (docNs s) == 0) && decide (bodyS p q (num4 s 0) (docNs s) = s)))) := by show _ = _; unfold docOk; rw [hfp, hen2]; rfl
    rw [← hen2] at HE hen
    have HEN : Hid (en ≤ 2038) := hen
    clear hen hen2 hfp
    obtain ⟨z, hz⟩ : ∃ z, z = s.size := ⟨_, rfl⟩
    have HZ : Hid (z = s.size ∧ z ≤ 281474976710656) := ⟨hz, by omega⟩
    by_cases h8 : z < 8
    · have HNo : Hid (docOk p q s = false) := by show _ = _; rw [HDoc.out, decide_eq_false (by omega : ¬ 8 ≤ s.size)]; rfl
      have h8i : (s.size : Int) < 8 := by omega
      clear hs hz h8
      go_enter Try.func14, Try.ntmps14
      go_wp2_with fail
      rw [← hV]
      clear hV
      refine (HM.out _).mono ?_
      rintro e W0 ⟨rfl, s0⟩
      go_wp2_with fail
      go_ret3
      exact ⟨.inr ⟨HNo.out, by rw [HFP.out]; rfl⟩, sx.trans s0⟩
    · have h8i : decide ((s.size : Int) < 8) = false := decide_eq_false (by omega)
      by_cases h4 : z % 4 = 0
      · have h4i : (s.size : Int) % 4 = 0 := by omega
        have h4t : Int.tmod (s.size : Int) 4 = 0 := by rw [Int.tmod_eq_emod_of_nonneg (by omega)]; exact h4i
        have hw1 : RowKit.wrap64 (4 * (en : Int)) = 4 * (en : Int) := by have := HEN.out; unfold RowKit.wrap64; omega
        have hw2 : RowKit.wrap64 (8 + 4 * (en : Int)) = 8 + 4 * (en : Int) := by have := HEN.out; unfold RowKit.wrap64; omega
        obtain ⟨K, hK⟩ : ∃ K, K = (z - 8) / 4 := ⟨_, rfl⟩
        have HK : Hid (z = 8 + 4 * K ∧ docNs s = nums4 s K) := ⟨by omega, by unfold docNs nums4; rw [← hz, ← hK]⟩
        by_cases hmx : 8 + 4 * en < z
        · have HNo : Hid (docOk p q s = false) := by show _ = _; rw [HDoc.out, decide_eq_false (by omega : ¬ s.size ≤ 8 + 4 * en)]; simp
          have hmi : 8 + 4 * (en : Int) < (s.size : Int) := by omega
          clear hs hz h8 h4 hK hmx
          go_enter Try.func14, Try.ntmps14
          go_wp2_with fail
          rw [← hV]
          clear hV
          refine (HM.out _).mono ?_
          rintro e W0 ⟨rfl, s0⟩
          obtain ⟨c0, c1⟩ := HC.out _ s0
          go_wp2_with fail
          refine (HE.out _).mono ?_
          rintro e W1 ⟨rfl, s1⟩
          go_wp2_with fail
          go_ret3
          exact ⟨.inr ⟨HNo.out, by rw [HFP.out]; rfl⟩, sx.trans (s0.trans s1)⟩
        · have hmi : decide (8 + 4 * (en : Int) < (s.size : Int)) = false := decide_eq_false (by omega)
          have HDoc2 : Hid (docOk p q s = ((bodyE p q (num4 s 0) (docNs s) == 0) && decide (bodyS p q (num4 s 0) (docNs s) = s)) ∧ K ≤ en) := ⟨by rw [HDoc.out, decide_eq_true (by omega : 8 ≤ s.size), decide_eq_true (by omega : s.size % 4 = 0), decide_eq_true (by omega : s.size ≤ 8 + 4 * en)]; rfl, by omega⟩
          have HSX : Hid (Same w V) := sx
          clear hs hz h8 h4 hK hmx HDoc
          go_enter Try.func14, Try.ntmps14
          go_wp2_with fail
          rw [← hV]
          clear hV
          refine (HM.out _).mono ?_
          rintro e W0 ⟨rfl, s0⟩
          obtain ⟨c0, c1⟩ := HC.out _ s0
          go_wp2_with fail
          refine (HE.out _).mono ?_
          rintro e W1 ⟨rfl, s1⟩
          have HT1 : Hid (Same V W1) := s0.trans s1
          clear s0 s1 c0 c1 sx
          go_wp2_with fail
          clear hmi h8i h4i h4t hw1 hw2
          go_loopg [7, 8] K (fun g lv iv wr => ∃ (j m : Nat) (ao : Option Addr) (c : Nat), lv = .slice ao j c ∧ iv = .int .i64 (m : Int) ∧ j ≤ K ∧ g = K - j ∧ Hid (m = 8 + 4 * j) ∧ Hid (wr.ownsRow V.heap.size 27 1 (.slice ao j c) j (ncells (nums4 s j))) ∧ Hid (Same V wr))
          case atStart => exact ⟨0, 8, none, 0, rfl, rfl, by omega, rfl, rfl, own_nil, HT1⟩
          case round =>
            obtain ⟨j, m, ao, c, rfl, rfl, hj, hg, HMm, HO1, HS1⟩ := hrel
            by_cases hgo : j < K
            · have hgi : (m : Int) < (s.size : Int) := by have := HMm.out; have := HZ.out; have := HK.out.1; omega
              have hwm : RowKit.wrap64 ((m : Int) + 4) = (m : Int) + 4 := by have := HMm.out; have := HDoc2.out.2; have := HEN.out; unfold RowKit.wrap64; omega
              have hle : (m : Int) + 4 ≤ (s.size : Int) := by have := HMm.out; have := HZ.out; have := HK.out.1; omega
              have HLe : Hid (m + 4 ≤ s.size) := by have := hle; show _ ≤ _; omega
              go_wp2_with fail
              refine (HNu.out _ _ HLe.out).mono ?_
              rintro e X1 ⟨rfl, x1⟩
              obtain ⟨v, hv⟩ : ∃ v, v = num4 s m := ⟨_, rfl⟩
              rw [← hv]
              have HV : Hid (v = num4 s (8 + 4 * j)) := by show _ = _; rw [hv, HMm.out]
              have HOA : Hid ((X1.alloc (.cells #[.int .u32 (v : Int)] 27)).ownsRow V.heap.size 27 1 (.slice ao j c) j (ncells (nums4 s j))) := own_frameB HO1.out (Fr.alloc x1 _) (fun kk hk e => e)
              have HYA : Hid (Same V (X1.alloc (.cells #[.int .u32 (v : Int)] 27))) := Fr.alloc (HS1.out.trans x1) _
              have hjb : j + 1 ≤ 1099511627776 := by have := HDoc2.out.2; have := HEN.out; omega
              have hvb : V.heap.size ≤ (X1.alloc (.cells #[.int .u32 (v : Int)] 27)).heap.size := HYA.out.size
              clear hv x1 hle hgi
              go_wp2_with (at_builtin; go_must (refine wpList_partNums _ (by rfl) _ _ (by rfl) (by rfl) HOA.out (x := ⟨some ⟨X1.heap.size, 0, none⟩, 1, 1, [.int .u32 (v : Int)]⟩) (by rfl) (part_oneN _ _ (heap_alloc_new X1 _) rfl) hjb hvb ?_; intro ao2 c2 X2 o2 g2))
              have f2 : Fr (fun k => (Value.slice ao j c).ownBlock = some k) (X1.alloc (.cells #[.int .u32 (v : Int)] 27)) X2 := Fr.grown (Fr.refl _ _) g2 (fun k e _ => e)
              have HO2 : Hid (X2.ownsRow V.heap.size 27 1 (.slice ao2 (j + 1) c2) (j + 1) (ncells (nums4 s (j + 1)))) := by
                show World.ownsRow _ _ _ _ _ _ _
                rw [nums4_succ, ncells_app, ← HV.out]
                exact o2
              have HS2 : Hid (Same V X2) := Fr.trans HYA.out f2 (fun k hk e => by have := own_blk HOA.out k e; omega)
              have HM2 : Hid (m + 4 = 8 + 4 * (j + 1)) := by show _ = _; rw [HMm.out]; omega
              clear f2 o2 g2 hjb hvb
              go_wp2_with fail
              go_roundg (K - (j + 1))
              case measure => omega
              case rel => exact ⟨j + 1, m + 4, ao2, c2, rfl, by go_num, by omega, rfl, HM2, HO2, HS2⟩
            · obtain rfl : K = j := by omega
              have hgi : ¬ (m : Int) < (s.size : Int) := by have := HMm.out; have := HZ.out; have := HK.out.1; omega
              have h4s : (4 : Int) ≤ (s.size : Int) := by have := HZ.out; have := HK.out.1; omega
              have HLe : Hid (0 + 4 ≤ s.size) := by show _ ≤ _; omega
              have HNl : Hid (K = (docNs s).length) := by show _ = _; rw [HK.out.2]; simp [nums4]
              have HNu0 : Hid (∀ W, Calls Try.prog 31 #[.string (s.extract 0 4)] W fun e w' => e = .returned (.int .u32 (num4 s 0 : Int)) ∧ Same W w') := fun W => HNu.out 0 W HLe.out
              have HOD : Hid (wr.ownsRow V.heap.size 27 1 (.slice ao K c) K (ncells (docNs s))) := by rw [HK.out.2]; exact HO1
              obtain ⟨nx, hnx⟩ : ∃ nx, nx = num4 s 0 := ⟨_, rfl⟩
              have HNX : Hid (nx = num4 s 0 ∧ nx < 4294967296) := ⟨hnx, by rw [hnx]; exact num4_lt _ _⟩
              obtain ⟨bs, hbs⟩ : ∃ bs, bs = bodyS p q nx (docNs s) := ⟨_, rfl⟩
              obtain ⟨be, hbe⟩ : ∃ be, be = bodyE p q nx (docNs s) := ⟨_, rfl⟩
              have HOk : Hid (docOk p q s = ((be == 0) && decide (bs = s))) := by
                show _ = _
                rw [HDoc2.out.1, hbs, hbe, hnx]
              rw [← hnx] at HNu0
              obtain ⟨g0, hrow⟩ := own_nrow HOD.out HNl.out
              have HB1 : Hid (∀ W, Same wr W → Calls Try.prog 10 #[.agg #[.int .i64 p, .int .i64 q], .int .u32 (nx : Int), .slice ao K c] W fun e w' => e = .returned (.tuple #[.string bs, .int .i64 be]) ∧ Same W w') := fun W sw => by
                have := HBd.out W ao g0 0 c nx (docNs s) (hrow.same sw) (by rw [← HNl.out]; have := HDoc2.out.2; have := HEN.out; omega) HNX.out.2
                rw [← HNl.out, ← hbs, ← hbe] at this
                exact this
              obtain ⟨c0, c1⟩ := HC.out _ HS1.out
              have HKK : Hid (∀ W, Same V W → (W.cell? ⟨w.heap.size, 0, none⟩ = some (.int .i64 p) ∧ W.cell? ⟨w.heap.size, 1, none⟩ = some (.int .i64 q) ∧ Same V W)) := fun W h => ⟨(HC.out W h).1, (HC.out W h).2, h⟩
              clear hbs hbe hrow hnx
              go_wp2_with fail
              refine wp_region_held_drew (S := fun Y => Y.cell? ⟨w.heap.size, 0, none⟩ = some (.int .i64 p) ∧ Y.cell? ⟨w.heap.size, 1, none⟩ = some (.int .i64 q) ∧ Same V Y) (by kernel_rfl) (HKK.out _ (Fr.drew HS1.out)) (fun hHeld => ?_)
              refine wpAnyH_take (i := 0) (oi := { dst := some 48, op := Go.Op.load 23 (Go.Operand.tmp 2), type := 23, pos := "ref.go:77", after := #[], guard := none }) (v := .agg #[.int .i64 p, .int .i64 q]) rfl (by kernel_rfl) (by kernel_rfl) (by kernel_rfl) (fun _ _ _ h => h) (Or.inl ⟨by rfl, fun w hSw => by (obtain ⟨z0, z1, z2⟩ := hSw; go_simp)⟩) (by assumption) ?_
              try simp only [Act.put, List.setIfInBounds_toArray, List.set_cons_zero, List.set_cons_succ]
              refine wpAnyH_take (i := 1) (oi := { dst := some 49, op := Go.Op.move (Go.Operand.tmp 1), type := 9, pos := "ref.go:77", after := #[], guard := none }) (v := .string s) rfl (by kernel_rfl) (by kernel_rfl) (by kernel_rfl) (fun _ _ _ h => h) (Or.inl ⟨by rfl, fun w hSw => by (obtain ⟨z0, z1, z2⟩ := hSw; go_simp)⟩) (by assumption) ?_
              try simp only [Act.put, List.setIfInBounds_toArray, List.set_cons_zero, List.set_cons_succ]
              refine wpAnyH_take (i := 2) (oi := { dst := some 50, op := Go.Op.slice 9 (Go.Operand.tmp 49) none (some (Go.Operand.const (Go.Value.int Go.IntKind.i64 4))) none, type := 9, pos := "ref.go:77", after := #[{ on := 1, ground := Go.Ground.data }], guard := none }) (v := .string (s.extract 0 4)) rfl (by kernel_rfl) (by kernel_rfl) (by kernel_rfl) (fun _ _ _ h => h) (Or.inl ⟨by rfl, fun w hSw => by (obtain ⟨z0, z1, z2⟩ := hSw; go_simp)⟩) (by assumption) ?_
              try simp only [Act.put, List.setIfInBounds_toArray, List.set_cons_zero, List.set_cons_succ]
              refine wpAnyH_take (i := 4) (oi := { dst := some 52, op := Go.Op.move (Go.Operand.tmp 7), type := 28, pos := "ref.go:77", after := #[], guard := none }) (v := .slice ao K c) rfl (by kernel_rfl) (by kernel_rfl) (by kernel_rfl) (fun _ _ _ h => h) (Or.inl ⟨by rfl, fun w hSw => by (obtain ⟨z0, z1, z2⟩ := hSw; go_simp)⟩) (by assumption) ?_
              try simp only [Act.put, List.setIfInBounds_toArray, List.set_cons_zero, List.set_cons_succ]
              refine wpAnyH_ready (rs := [3]) (by kernel_rfl) (by simp) ?_
              refine AllReadyH.cons (o := { dst := some 51, op := Go.Op.call { callee := Go.Callee.value (Go.Operand.func 31), args := #[Go.Operand.tmp 50], argTypes := #[9] }, type := 27, pos := "ref.go:77", after := #[{ on := 2, ground := Go.Ground.data }], guard := none }) rfl (fun K hK => ?_) AllReadyH.nil
              go_simp
              go_at_call 31
              refine (HNu0.out _).mono ?_
              rintro e X1 ⟨rfl, x1⟩
              try go_wp2_with fail
              have x1 : Same wr X1 := Same.trans (Fr.drew (Fr.refl _ wr)) x1
              have y1 := HS1.out.trans x1
              refine hK.out _ _ (HKK.out _ y1) (fun hHeld => ?_)
              clear hK K
              try simp only [Act.put, List.setIfInBounds_toArray, List.set_cons_zero, List.set_cons_succ]
              refine wpAnyH_ready (rs := [5]) (by kernel_rfl) (by simp) ?_
              refine AllReadyH.cons (o := { dst := some 53, op := Go.Op.call { callee := Go.Callee.value (Go.Operand.func 10), args := #[Go.Operand.tmp 48, Go.Operand.tmp 51, Go.Operand.tmp 52], argTypes := #[23, 27, 28] }, type := 29, pos := "ref.go:77", after := #[{ on := 0, ground := Go.Ground.data }, { on := 3, ground := Go.Ground.data }, { on := 4, ground := Go.Ground.data }, { on := 3, ground := Go.Ground.chain }], guard := none }) rfl (fun K hK => ?_) AllReadyH.nil
              go_simp
              go_at_call 10
              refine (HB1.out _ x1).mono ?_
              rintro e X2 ⟨rfl, x2⟩
              try go_wp2_with fail
              have x2 : Same wr X2 := x1.trans x2
              have y2 := HS1.out.trans x2
              refine hK.out _ _ (HKK.out _ y2) (fun hHeld => ?_)
              clear hK K
              try simp only [Act.put, List.setIfInBounds_toArray, List.set_cons_zero, List.set_cons_succ]
              refine wpAnyH_take (i := 6) (oi := { dst := some 47, op := Go.Op.move (Go.Operand.tmp 53), type := 29, pos := "ref.go:77", after := #[{ on := 5, ground := Go.Ground.data }], guard := none }) (v := .tuple #[.string bs, .int .i64 be]) rfl (by kernel_rfl) (by kernel_rfl) (by kernel_rfl) (fun _ _ _ h => h) (Or.inl ⟨by rfl, fun w hSw => by (obtain ⟨z0, z1, z2⟩ := hSw; go_simp)⟩) (by assumption) ?_
              try simp only [Act.put, List.setIfInBounds_toArray, List.set_cons_zero, List.set_cons_succ]
              refine wpAnyH_take (i := 7) (oi := { dst := some 54, op := Go.Op.extract (Go.Operand.tmp 47) 0, type := 9, pos := "ref.go:77", after := #[{ on := 6, ground := Go.Ground.data }], guard := none }) (v := .string bs) rfl (by kernel_rfl) (by kernel_rfl) (by kernel_rfl) (fun _ _ _ h => h) (Or.inl ⟨by rfl, fun w hSw => by (obtain ⟨z0, z1, z2⟩ := hSw; go_simp)⟩) (by assumption) ?_
              try simp only [Act.put, List.setIfInBounds_toArray, List.set_cons_zero, List.set_cons_succ]
              refine wpAnyH_take (i := 8) (oi := { dst := some 55, op := Go.Op.extract (Go.Operand.tmp 47) 1, type := 3, pos := "ref.go:77", after := #[{ on := 6, ground := Go.Ground.data }, { on := 9, ground := Go.Ground.gcOnly Go.Departure.lateStores }], guard := none }) (v := .int .i64 be) rfl (by kernel_rfl) (by kernel_rfl) (by kernel_rfl) (fun _ _ _ h => h) (Or.inl ⟨by rfl, fun w hSw => by (obtain ⟨z0, z1, z2⟩ := hSw; go_simp)⟩) (by assumption) ?_
              try simp only [Act.put, List.setIfInBounds_toArray, List.set_cons_zero, List.set_cons_succ]
              refine wpAnyH_take (i := 9) (oi := { dst := some 9, op := Go.Op.assign (Go.Operand.tmp 54), type := 9, pos := "ref.go:77", after := #[{ on := 7, ground := Go.Ground.data }, { on := 5, ground := Go.Ground.chain }, { on := 0, ground := Go.Ground.phase }, { on := 1, ground := Go.Ground.phase }, { on := 2, ground := Go.Ground.phase }, { on := 3, ground := Go.Ground.phase }, { on := 4, ground := Go.Ground.phase }, { on := 5, ground := Go.Ground.phase }, { on := 6, ground := Go.Ground.phase }, { on := 7, ground := Go.Ground.phase }, { on := 8, ground := Go.Ground.textOnly Go.Departure.lateStores }], guard := none }) (v := .string bs) rfl (by kernel_rfl) (by kernel_rfl) (by kernel_rfl) (fun _ _ _ h => h) (Or.inl ⟨by rfl, fun w hSw => by (obtain ⟨z0, z1, z2⟩ := hSw; go_simp)⟩) (by assumption) ?_
              try simp only [Act.put, List.setIfInBounds_toArray, List.set_cons_zero, List.set_cons_succ]
              refine wpAnyH_take (i := 10) (oi := { dst := some 10, op := Go.Op.assign (Go.Operand.tmp 55), type := 3, pos := "ref.go:77", after := #[{ on := 8, ground := Go.Ground.data }, { on := 9, ground := Go.Ground.chain }, { on := 0, ground := Go.Ground.phase }, { on := 1, ground := Go.Ground.phase }, { on := 2, ground := Go.Ground.phase }, { on := 3, ground := Go.Ground.phase }, { on := 4, ground := Go.Ground.phase }, { on := 5, ground := Go.Ground.phase }, { on := 6, ground := Go.Ground.phase }, { on := 7, ground := Go.Ground.phase }, { on := 8, ground := Go.Ground.phase }, { on := 9, ground := Go.Ground.phase }], guard := none }) (v := .int .i64 be) rfl (by kernel_rfl) (by kernel_rfl) (by kernel_rfl) (fun _ _ _ h => h) (Or.inl ⟨by rfl, fun w hSw => by (obtain ⟨z0, z1, z2⟩ := hSw; go_simp)⟩) (by assumption) ?_
              try simp only [Act.put, List.setIfInBounds_toArray, List.set_cons_zero, List.set_cons_succ]
              refine wpAnyH_done (by kernel_rfl) ?_ _
              have HS3 : Hid (Same w X2) := HSX.out.trans y2
              have HO3 : Hid (X2.ownsRow w.heap.size 27 1 (.slice ao K c) K (ncells (docNs s))) := own_base (own_frameB HOD.out x2 (fun kk hk e => e)) HVZ.out
              clear x1 x2 y1 y2 c0 c1
              by_cases hbe : be = 0
              · subst hbe
                by_cases hss : bs = s
                · subst hss
                  have hok : Hid (docOk p q bs = true) := by show _ = _; rw [HOk.out]; simp
                  go_wp2_with fail
                  refine (HNu0.out _).mono ?_
                  rintro e X3 ⟨rfl, x3⟩
                  have HS4 : Hid (Same w X3) := HS3.out.trans x3
                  have HO4 : Hid (X3.ownsRow w.heap.size 27 1 (.slice ao K c) K (ncells (docNs bs))) := own_frameB HO3.out x3 (fun kk hk e => e)
                  clear x3
                  go_wp2_with fail
                  go_ret3
                  exact ⟨.inl ⟨hok.out, ao, c, by rw [← HNX.out.1, ← HNl.out]; rfl, by rw [← HNl.out]; exact HO4.out⟩, HS4.out⟩
                · have hok : Hid (docOk p q s = false) := by show _ = _; rw [HOk.out]; simp [hss]
                  have hb2 := beq_toList hss
                  go_wp2_with fail
                  go_ret3
                  exact ⟨.inr ⟨hok.out, by rw [HFP.out]; rfl⟩, HS3.out⟩
              · have hok : Hid (docOk p q s = false) := by show _ = _; rw [HOk.out]; simp [hbe]
                go_wp2_with fail
                go_ret3
                exact ⟨.inr ⟨hok.out, by rw [HFP.out]; rfl⟩, HS3.out⟩
      · have HNo : Hid (docOk p q s = false) := by show _ = _; rw [HDoc.out, decide_eq_false (by omega : ¬ s.size % 4 = 0)]; simp
        have h4i : ¬ (s.size : Int) % 4 = 0 := by omega
        have h4t : Int.tmod (s.size : Int) 4 = (s.size : Int) % 4 := Int.tmod_eq_emod_of_nonneg (by omega)
        clear hs hz h8 h4
        go_enter Try.func14, Try.ntmps14
        go_wp2_with fail
        rw [← hV]
        clear hV
        refine (HM.out _).mono ?_
        rintro e W0 ⟨rfl, s0⟩
        go_wp2_with fail
        go_ret3
        exact ⟨.inr ⟨HNo.out, by rw [HFP.out]; rfl⟩, sx.trans s0⟩
end Go.Proofs.Ytadmkeadggcipaa
