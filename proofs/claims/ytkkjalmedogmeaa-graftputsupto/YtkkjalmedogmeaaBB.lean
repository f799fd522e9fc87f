/- The document's Put. -/
import Derived.Test.YtkkjalmedogmeaaB6
import Derived.Deep.QuietTactic
namespace Go.Proofs.Ytkkjalmedogmeaa
open Go.RowKit

def putL (k v : ByteArray) : List (ByteArray × ByteArray) → List (ByteArray × ByteArray)
  | [] => [(k, v)]
  | x :: l => if Op.bytesLess k.toList x.1.toList = true then (k, v) :: x :: l else x :: putL k v l
theorem putL_ins {mk : Int} (k v : ByteArray) : ∀ (l : List (ByteArray × ByteArray)) (pv : ByteArray), risesP mk pv (l.map (·.1)) = true → putL k v (delR k l) = insR k v l := by
  intro l
  induction l with
  | nil => intro pv _; rfl
  | cons x l ih =>
    intro pv h
    rw [List.map_cons, rises_cons] at h
    rw [ins_cons, delR]
    rcases cmp_cases x.1 k with ⟨h3, h4⟩ | ⟨h3, h4⟩ | ⟨h3, h4⟩
    · have hn := not_below h3
      rw [Bool.or_eq_false_iff] at hn
      rw [if_neg (by rw [h4]; decide), if_neg (by rw [h4]; decide), if_neg (by rw [h4]; decide), if_neg (by rw [h4]; decide), putL, if_neg (by rw [hn.1]; simp), ih _ h.2.2]
    · rw [if_pos h4, if_pos h4]
      cases l with
      | nil => rfl
      | cons y l =>
        have h5 := h.2.2
        rw [List.map_cons, rises_cons, h3] at h5
        rw [putL, if_pos h5.1]
    · rw [if_neg (by rw [h4]; decide), if_pos h4, if_neg (by rw [h4]; decide), if_pos h4, putL, if_pos h3]
theorem putL_len (k v : ByteArray) : ∀ l : List (ByteArray × ByteArray), (putL k v l).length = l.length + 1 := by
  intro l
  induction l with
  | nil => rfl
  | cons x l ih =>
    rw [putL]
    split
    · simp
    · simp [ih]
set_option maxRecDepth 100000 in
set_option maxHeartbeats 4000000 in
theorem rput_core {p q : Int} {r : Nr} {N : Nd} {k v : ByteArray} {D : List (ByteArray × ByteArray)} {TH : Bool} (w : World) (hD : D.length ≤ 1048576) (hk1 : 1 ≤ k.size) (hk2 : (k.size : Int) ≤ p / 16) (hv : (v.size : Int) ≤ p / 8) (hp : p = 1024 ∨ p = 2048 ∨ p = 4096 ∨ p = 8192)
    (HR : Hid (∀ W, Calls Try.prog 21 #[frameV p q] W fun e w' => e = .returned (.bool true) ∧ Same W w'))
    (HL : Hid (∀ W, Same w W → Calls Try.prog 22 #[frameV p q, ndV r N] W fun e w' => e = .returned (.bool true) ∧ Same W w'))
    (HW : Hid (∀ W, Same w W → Calls Try.prog 23 #[ndV r N, .string k] W fun e w' => ∃ ao c, e = .returned (.tuple #[nodeV ao D.length c none 0 0 none 0 0, .bool TH]) ∧ MadeLeaf w' W.heap.size ao c D ∧ Same W w')) :
    Calls Try.prog 7 #[frameV p q, ndV r N, .agg #[.string k, .string v]] w fun e w' => ∃ ao c, e = .returned (.tuple #[nodeV ao (putL k v D).length c none 0 0 none 0 0, .bool TH, .int .i64 0]) ∧ MadeLeaf w' w.heap.size ao c (putL k v D) ∧ Same w w' := by
  obtain ⟨V, hV⟩ : ∃ V, V = (((w.alloc (.cells #[.int .i64 p, .int .i64 q] 23)).alloc (.cells #[.slice r.pa N.ps.length r.cp, .slice r.sa N.ss.length r.cs, .slice r.ka N.ks.length r.ck] 28)).alloc (.cells #[.string k, .string v] 30)).alloc (.cells #[.slice none 0 0, .slice none 0 0, .slice none 0 0] 28) := ⟨_, rfl⟩
  have t1 : Same w V := by rw [hV]; exact ((((Fr.refl _ w).alloc _).alloc _).alloc _).alloc _
  have H4 := heap3 w (.cells #[.int .i64 p, .int .i64 q] 23) (.cells #[.slice r.pa N.ps.length r.cp, .slice r.sa N.ss.length r.cs, .slice r.ka N.ks.length r.ck] 28) (.cells #[.string k, .string v] 30)
  have g0 : V.heap[w.heap.size]? = some (.cells #[.int .i64 p, .int .i64 q] 23 (0, 0)) := by rw [hV, Below.heap_alloc _ _ _ (by simp <;> omega)]; exact H4.1
  have g1 : V.heap[w.heap.size + 1]? = some (.cells #[.slice r.pa N.ps.length r.cp, .slice r.sa N.ss.length r.cs, .slice r.ka N.ks.length r.ck] 28 (0, 0)) := by rw [hV, Below.heap_alloc _ _ _ (by simp <;> omega)]; exact H4.2.1
  have g2 : V.heap[w.heap.size + 1 + 1]? = some (.cells #[.string k, .string v] 30 (0, 0)) := by rw [hV, Below.heap_alloc _ _ _ (by simp)]; exact H4.2.2
  have g3 : V.heap[w.heap.size + 1 + 1 + 1]? = some (.cells #[.slice none 0 0, .slice none 0 0, .slice none 0 0] 28 (0, 0)) := by
    have := heap_alloc_new (((w.alloc (.cells #[.int .i64 p, .int .i64 q] 23)).alloc (.cells #[.slice r.pa N.ps.length r.cp, .slice r.sa N.ss.length r.cs, .slice r.ka N.ks.length r.ck] 28)).alloc (.cells #[.string k, .string v] 30)) (.cells #[.slice none 0 0, .slice none 0 0, .slice none 0 0] 28)
    rw [show (((w.alloc (.cells #[.int .i64 p, .int .i64 q] 23)).alloc (.cells #[.slice r.pa N.ps.length r.cp, .slice r.sa N.ss.length r.cs, .slice r.ka N.ks.length r.ck] 28)).alloc (.cells #[.string k, .string v] 30)).heap.size = w.heap.size + 1 + 1 + 1 from by simp, ← hV] at this
    exact this
  have HVZ : Hid (V.heap.size = w.heap.size + 4) := by show _ = _; rw [hV]; simp
  have HG3 : Hid (V.heap[w.heap.size + 1 + 1 + 1]? = some (.cells #[.slice none 0 0, .slice none 0 0, .slice none 0 0] 28 (0, 0))) := g3
  have a0 : V.cell? ⟨w.heap.size, 0, none⟩ = some (.int .i64 p) := (cell_of_row _ _ _ _ _ _ g0).trans rfl
  have a1 : V.cell? ⟨w.heap.size, 1, none⟩ = some (.int .i64 q) := (cell_of_row _ _ _ _ _ _ g0).trans rfl
  have n0 : V.cell? ⟨w.heap.size + 1, 0, none⟩ = some (.slice r.pa N.ps.length r.cp) := (cell_of_row _ _ _ _ _ _ g1).trans rfl
  have n1 : V.cell? ⟨w.heap.size + 1, 1, none⟩ = some (.slice r.sa N.ss.length r.cs) := (cell_of_row _ _ _ _ _ _ g1).trans rfl
  have n2 : V.cell? ⟨w.heap.size + 1, 2, none⟩ = some (.slice r.ka N.ks.length r.ck) := (cell_of_row _ _ _ _ _ _ g1).trans rfl
  have k0 : V.cell? ⟨w.heap.size + 1 + 1, 0, none⟩ = some (.string k) := (cell_of_row _ _ _ _ _ _ g2).trans rfl
  have k1 : V.cell? ⟨w.heap.size + 1 + 1, 1, none⟩ = some (.string v) := (cell_of_row _ _ _ _ _ _ g2).trans rfl
  have HS : Hid (∀ W, Same V W → W.cell? ⟨w.heap.size, 0, none⟩ = some (.int .i64 p) ∧ W.cell? ⟨w.heap.size, 1, none⟩ = some (.int .i64 q) ∧ W.cell? ⟨w.heap.size + 1, 0, none⟩ = some (.slice r.pa N.ps.length r.cp) ∧ W.cell? ⟨w.heap.size + 1, 1, none⟩ = some (.slice r.sa N.ss.length r.cs) ∧ W.cell? ⟨w.heap.size + 1, 2, none⟩ = some (.slice r.ka N.ks.length r.ck) ∧ W.cell? ⟨w.heap.size + 1 + 1, 0, none⟩ = some (.string k) ∧ W.cell? ⟨w.heap.size + 1 + 1, 1, none⟩ = some (.string v)) := fun W s => ⟨s.keep a0, s.keep a1, s.keep n0, s.keep n1, s.keep n2, s.keep k0, s.keep k1⟩
  have l1 : ¬ (k.size : Int) < 1 := by omega
  have l2 : ¬ p / 16 < (k.size : Int) := by omega
  have l3 : ¬ p / 8 < (v.size : Int) := by omega
  have hp8 : (0 : Int) ≤ p := by omega
  clear H4 g0 g1 g2 g3
  clear hk1 hk2 hv
  go_enter Try.func7, Try.ntmps7
  go_wp2_with fail
  rw [← hV]
  clear hV
  refine (HR.out _).mono ?_
  rintro e W1 ⟨rfl, s1⟩
  clear a0 a1 n0 n1 n2 k0 k1
  obtain ⟨a0, a1, n0, n1, n2, k0, k1⟩ := HS.out _ s1
  go_wp2_with fail
  refine (HL.out _ (t1.trans s1)).mono ?_
  rintro e W2 ⟨rfl, s2⟩
  have s2 := s1.trans s2
  clear a0 a1 n0 n1 n2 k0 k1
  obtain ⟨a0, a1, n0, n1, n2, k0, k1⟩ := HS.out _ s2
  go_wp2_with fail
  refine (HW.out _ (t1.trans s2)).mono ?_
  rintro e W3 ⟨ao, c, rfl, m3, q3⟩
  have s3 := s2.trans q3
  go_wp2_with fail
  obtain ⟨U, hU⟩ : ∃ U, U = (W3.alloc (.cells #[.slice ao D.length c, .slice none 0 0, .slice none 0 0] 28)).alloc (.cells #[.slice none 0 0, .slice none 0 0, .slice none 0 0] 28) := ⟨_, rfl⟩
  have su : Same W3 U := by rw [hU]; exact ((Fr.refl _ W3).alloc _).alloc _
  have hl0 : U.heap[W3.heap.size]? = some (.cells #[.slice ao D.length c, .slice none 0 0, .slice none 0 0] 28 (0, 0)) := by rw [hU]; exact heap_alloc2_old W3 _ _
  have ho0 : U.heap[W3.heap.size + 1]? = some (.cells #[.slice none 0 0, .slice none 0 0, .slice none 0 0] 28 (0, 0)) := by rw [hU]; exact heap_alloc2_new W3 _ _
  have hzU : U.heap.size = W3.heap.size + 2 := by rw [hU]; simp
  rw [← hU]
  obtain ⟨ob, hob⟩ : ∃ ob, ob = W3.heap.size + 1 := ⟨_, rfl⟩
  rw [← hob] at ho0 ⊢
  obtain ⟨lb, hlb⟩ : ∃ lb, lb = W3.heap.size := ⟨_, rfl⟩
  rw [← hlb] at hl0 hzU ⊢
  have G0 : GS U U ob none 0 [] := ⟨ho0, own_nil, Fr.refl _ U, by omega⟩
  have sV : Same V U := s3.trans su
  have HSU : Hid (Same w U) := t1.trans sV
  have HVU : Hid (Same V U) := sV
  have mU : MadeLeaf U W2.heap.size ao c D := m3.same su
  obtain ⟨i0P, hiP, hz0P, hz1P, hz2P⟩ := info_parts Try.infPair
  obtain ⟨_, _, _, _, _, kc0, kc1⟩ := HS.out U sV
  have lc0 : U.cell? ⟨lb, 0, none⟩ = some (.slice ao D.length c) := (cell_of_row _ _ _ _ _ _ hl0).trans rfl
  have HDR : Hid (∃ gD, (D ≠ [] → ao = some ⟨gD, 0, none⟩ ∧ gD < U.heap.size ∧ gD < lb) ∧ ∀ (j : Nat) (x : ByteArray × ByteArray), D[j]? = some x → U.cell? ⟨gD, j * 2, none⟩ = some (.string x.1) ∧ U.cell? ⟨gD, j * 2 + 1, none⟩ = some (.string x.2)) := by
    obtain ⟨gD, hr⟩ := own_prow (own_base m3.own (Nat.zero_le _)) rfl
    refine ⟨gD, fun e => ⟨(hr.place e).1, by have := (hr.place e).2; omega, by have := (hr.place e).2; omega⟩, fun j x hx => ?_⟩
    obtain ⟨y1, y2⟩ := hr.cells j x hx
    rw [Nat.zero_add] at y1 y2
    exact ⟨su.keep y1, su.keep y2⟩
  obtain ⟨gD, HDP, HDC⟩ := HDR.out
  have HDP : Hid (D ≠ [] → ao = some ⟨gD, 0, none⟩ ∧ gD < U.heap.size ∧ gD < lb) := HDP
  have HDC : Hid (∀ (j : Nat) (x : ByteArray × ByteArray), D[j]? = some x → U.cell? ⟨gD, j * 2, none⟩ = some (.string x.1) ∧ U.cell? ⟨gD, j * 2 + 1, none⟩ = some (.string x.2)) := HDC
  have HZ0 : Hid (U.heap.size = lb + 2 ∧ ob = lb + 1 ∧ w.heap.size + 4 ≤ lb) := ⟨hzU, by omega, by have := HVZ.out; have := s3.size; omega⟩
  have HKC : Hid (U.cell? ⟨w.heap.size + 1 + 1, 0, none⟩ = some (.string k) ∧ U.cell? ⟨w.heap.size + 1 + 1, 1, none⟩ = some (.string v) ∧ U.cell? ⟨lb, 0, none⟩ = some (.slice ao D.length c)) := ⟨kc0, kc1, lc0⟩
  have HGG : Hid (GS U U ob none 0 []) := G0
  have HLN : Hid ((putL k v D).length = D.length + 1) := putL_len k v D
  clear hU hob hlb ho0 hl0 hzU G0 sV mU m3 su kc0 kc1 lc0 q3 s3 s2 s1 HDR a0 a1 n0 n1 n2 k0 k1
  go_loopg [12, 13] D.length (fun g lv iv wr => ∃ (j : Nat) (lf : Bool) (aoX : Option Addr) (cX : Nat) (OX : List (ByteArray × ByteArray)), lv = .bool lf ∧ iv = .int .i64 (j : Int) ∧ j ≤ D.length ∧ g = D.length - j ∧ Hid (GS U wr ob aoX cX OX) ∧ Hid (OX ++ (if lf = true then D.drop j else putL k v (D.drop j)) = putL k v D))
  case atStart => exact ⟨0, false, none, 0, [], rfl, rfl, by omega, rfl, HGG, rfl⟩
  case round =>
    obtain ⟨j, lf, aoX, cX, OX, rfl, rfl, hj, hg, HGx, HE⟩ := hrel
    obtain ⟨hz1, hz2, hz3⟩ := HZ0.out
    have lO : OX.length ≤ D.length + 1 := by
      have e := congrArg List.length HE.out
      rw [List.length_append, HLN.out] at e
      omega
    by_cases hgo : j < D.length
    · obtain ⟨x, hx⟩ : ∃ x, D[j]? = some x := ⟨_, List.getElem?_eq_getElem hgo⟩
      obtain ⟨x0, x1⟩ := x
      have hne : D ≠ [] := by intro e; rw [e] at hx; simp at hx
      obtain ⟨hao, hgu, hgl⟩ := HDP.out hne
      obtain ⟨d0, d1⟩ := HDC.out j _ hx
      obtain ⟨kc0, kc1, lc0⟩ := HKC.out
      rw [hao] at lc0
      have e0 := HGx.out.keep (a := ⟨lb, 0, none⟩) (by simp only; omega) lc0
      have e1 := HGx.out.keep (a := ⟨gD, j * 2, none⟩) (by simp only; omega) d0
      have e2 := HGx.out.keep (a := ⟨gD, j * 2 + 1, none⟩) (by simp only; omega) d1
      have e3 := HGx.out.keep (a := ⟨w.heap.size + 1 + 1, 0, none⟩) (by simp only; omega) kc0
      have e4 := HGx.out.keep (a := ⟨w.heap.size + 1 + 1, 1, none⟩) (by simp only; omega) kc1
      have hdrop : D.drop j = (x0, x1) :: D.drop (j + 1) := by
        have e : D[j] = (x0, x1) := by rw [List.getElem?_eq_getElem hgo] at hx; exact Option.some.inj hx
        rw [List.drop_eq_getElem_cons hgo, e]
      have HZ : Hid (U.heap.size = lb + 2 ∧ ob = lb + 1 ∧ w.heap.size + 4 ≤ lb ∧ gD < lb) := ⟨hz1, hz2, hz3, hgl⟩
      have i1 : (j : Int) < (D.length : Int) := by omega
      have i0 : (0 : Int) ≤ (j : Int) := by omega
      have HF : Hid (U.cell? ⟨lb, 0, none⟩ = some (.slice (some ⟨gD, 0, none⟩) D.length c) ∧ U.cell? ⟨gD, j * 2, none⟩ = some (.string x0) ∧ U.cell? ⟨gD, j * 2 + 1, none⟩ = some (.string x1) ∧ U.cell? ⟨w.heap.size + 1 + 1, 0, none⟩ = some (.string k) ∧ U.cell? ⟨w.heap.size + 1 + 1, 1, none⟩ = some (.string v)) := ⟨lc0, d0, d1, kc0, kc1⟩
      have HE' := HE.out
      rw [hdrop] at HE'
      clear hx hne hao hgu hgl d0 d1 kc0 kc1 lc0 hdrop hz1 hz2 hz3 HE
      simp only at e1 e2
      cases lf with
      | true =>
        have HEQ : Hid (OX ++ [(x0, x1)] ++ (if true = true then D.drop (j + 1) else putL k v (D.drop (j + 1))) = putL k v D) := by
          show _ = _
          rw [← HE', if_pos rfl, if_pos rfl, List.append_assoc]; rfl
        clear HE'
        go_wp2_with fail
        refine wp_region_held_drew (S := fun X => X.cell? ⟨lb, 0, none⟩ = some (.slice (some ⟨gD, 0, none⟩) D.length c) ∧ X.cell? ⟨gD, j * 2, none⟩ = some (.string x0) ∧ X.cell? ⟨gD, j * 2 + 1, none⟩ = some (.string x1) ∧ X.cell? ⟨w.heap.size + 1 + 1, 0, none⟩ = some (.string k) ∧ X.cell? ⟨w.heap.size + 1 + 1, 1, none⟩ = some (.string v)) (by kernel_rfl) (⟨e0, e1, e2, e3, e4⟩) (fun hHeld => ?_)
        refine wpAnyH_take (i := 0) (oi := { dst := some 60, op := Op.move (Operand.tmp 12), type := 4, pos := "ref.go:75", after := #[], guard := none }) (v := .bool true) rfl (by kernel_rfl) (by kernel_rfl) (by kernel_rfl) (fun _ _ _ h => h) (Or.inl ⟨by rfl, fun w hSw => by (obtain ⟨z1, z2, z3, z4, z5⟩ := hSw; go_simp)⟩) (by assumption) ?_
        try simp only [Act.put, List.setIfInBounds_toArray, List.set_cons_zero, List.set_cons_succ]
        refine wpAnyH_take (i := 1) (oi := { dst := some 61, op := Op.unOp UnOp.not 4 (Operand.tmp 60), type := 4, pos := "ref.go:75", after := #[{ on := 0, ground := Ground.data }], guard := none }) (v := .bool false) rfl (by kernel_rfl) (by kernel_rfl) (by kernel_rfl) (fun _ _ _ h => h) (Or.inl ⟨by rfl, fun w hSw => by (obtain ⟨z1, z2, z3, z4, z5⟩ := hSw; go_simp)⟩) (by assumption) ?_
        try simp only [Act.put, List.setIfInBounds_toArray, List.set_cons_zero, List.set_cons_succ]
        refine wpAnyH_take (i := 2) (oi := { dst := some 62, op := Op.move (Operand.tmp 61), type := 4, pos := "ref.go:75", after := #[{ on := 1, ground := Ground.data }], guard := none }) (v := .bool false) rfl (by kernel_rfl) (by kernel_rfl) (by kernel_rfl) (fun _ _ _ h => h) (Or.inl ⟨by rfl, fun w hSw => by (obtain ⟨z1, z2, z3, z4, z5⟩ := hSw; go_simp)⟩) (by assumption) ?_
        try simp only [Act.put, List.setIfInBounds_toArray, List.set_cons_zero, List.set_cons_succ]
        refine wpAnyH_take (i := 3) (oi := { dst := some 63, op := Op.fieldAddr 28 (Operand.tmp 9) 0, type := 0, pos := "ref.go:75", after := #[{ on := 2, ground := Ground.guard }], guard := some (2, true) }) (v := undef) rfl (by kernel_rfl) (by kernel_rfl) (by kernel_rfl) (fun _ _ _ h => h) (Or.inr ⟨by rfl, rfl⟩) (by assumption) ?_
        try simp only [Act.put, List.setIfInBounds_toArray, List.set_cons_zero, List.set_cons_succ]
        refine wpAnyH_take (i := 4) (oi := { dst := some 64, op := Op.load 24 (Operand.tmp 63), type := 24, pos := "ref.go:75", after := #[{ on := 3, ground := Ground.data }, { on := 2, ground := Ground.guard }], guard := some (2, true) }) (v := undef) rfl (by kernel_rfl) (by kernel_rfl) (by kernel_rfl) (fun _ _ _ h => h) (Or.inr ⟨by rfl, rfl⟩) (by assumption) ?_
        try simp only [Act.put, List.setIfInBounds_toArray, List.set_cons_zero, List.set_cons_succ]
        refine wpAnyH_take (i := 5) (oi := { dst := some 65, op := Op.move (Operand.tmp 13), type := 3, pos := "ref.go:75", after := #[{ on := 2, ground := Ground.guard }], guard := some (2, true) }) (v := undef) rfl (by kernel_rfl) (by kernel_rfl) (by kernel_rfl) (fun _ _ _ h => h) (Or.inr ⟨by rfl, rfl⟩) (by assumption) ?_
        try simp only [Act.put, List.setIfInBounds_toArray, List.set_cons_zero, List.set_cons_succ]
        refine wpAnyH_take (i := 6) (oi := { dst := some 66, op := Op.indexAddr 24 (Operand.tmp 64) (Operand.tmp 65), type := 0, pos := "ref.go:75", after := #[{ on := 4, ground := Ground.data }, { on := 5, ground := Ground.data }, { on := 2, ground := Ground.guard }], guard := some (2, true) }) (v := undef) rfl (by kernel_rfl) (by kernel_rfl) (by kernel_rfl) (fun _ _ _ h => h) (Or.inr ⟨by rfl, rfl⟩) (by assumption) ?_
        try simp only [Act.put, List.setIfInBounds_toArray, List.set_cons_zero, List.set_cons_succ]
        refine wpAnyH_take (i := 7) (oi := { dst := some 67, op := Op.fieldAddr 30 (Operand.tmp 66) 0, type := 0, pos := "ref.go:75", after := #[{ on := 6, ground := Ground.data }, { on := 2, ground := Ground.guard }], guard := some (2, true) }) (v := undef) rfl (by kernel_rfl) (by kernel_rfl) (by kernel_rfl) (fun _ _ _ h => h) (Or.inr ⟨by rfl, rfl⟩) (by assumption) ?_
        try simp only [Act.put, List.setIfInBounds_toArray, List.set_cons_zero, List.set_cons_succ]
        refine wpAnyH_take (i := 8) (oi := { dst := some 68, op := Op.load 9 (Operand.tmp 67), type := 9, pos := "ref.go:75", after := #[{ on := 7, ground := Ground.data }, { on := 2, ground := Ground.guard }], guard := some (2, true) }) (v := undef) rfl (by kernel_rfl) (by kernel_rfl) (by kernel_rfl) (fun _ _ _ h => h) (Or.inr ⟨by rfl, rfl⟩) (by assumption) ?_
        try simp only [Act.put, List.setIfInBounds_toArray, List.set_cons_zero, List.set_cons_succ]
        refine wpAnyH_take (i := 9) (oi := { dst := some 69, op := Op.fieldAddr 30 (Operand.tmp 5) 0, type := 0, pos := "ref.go:75", after := #[{ on := 2, ground := Ground.guard }], guard := some (2, true) }) (v := undef) rfl (by kernel_rfl) (by kernel_rfl) (by kernel_rfl) (fun _ _ _ h => h) (Or.inr ⟨by rfl, rfl⟩) (by assumption) ?_
        try simp only [Act.put, List.setIfInBounds_toArray, List.set_cons_zero, List.set_cons_succ]
        refine wpAnyH_take (i := 10) (oi := { dst := some 70, op := Op.load 9 (Operand.tmp 69), type := 9, pos := "ref.go:75", after := #[{ on := 9, ground := Ground.data }, { on := 2, ground := Ground.guard }], guard := some (2, true) }) (v := undef) rfl (by kernel_rfl) (by kernel_rfl) (by kernel_rfl) (fun _ _ _ h => h) (Or.inr ⟨by rfl, rfl⟩) (by assumption) ?_
        try simp only [Act.put, List.setIfInBounds_toArray, List.set_cons_zero, List.set_cons_succ]
        refine wpAnyH_take (i := 11) (oi := { dst := some 71, op := Op.binOp BinOp.gtr 9 (Operand.tmp 68) (Operand.tmp 70) 9, type := 4, pos := "ref.go:75", after := #[{ on := 8, ground := Ground.data }, { on := 10, ground := Ground.data }, { on := 2, ground := Ground.guard }], guard := some (2, true) }) (v := undef) rfl (by kernel_rfl) (by kernel_rfl) (by kernel_rfl) (fun _ _ _ h => h) (Or.inr ⟨by rfl, rfl⟩) (by assumption) ?_
        try simp only [Act.put, List.setIfInBounds_toArray, List.set_cons_zero, List.set_cons_succ]
        refine wpAnyH_take (i := 12) (oi := { dst := some 72, op := Op.pick (Operand.tmp 62) (Operand.tmp 71) (Operand.const (Value.bool false)), type := 4, pos := "ref.go:75", after := #[{ on := 2, ground := Ground.data }, { on := 11, ground := Ground.data }], guard := none }) (v := .bool false) rfl (by kernel_rfl) (by kernel_rfl) (by kernel_rfl) (fun _ _ _ h => h) (Or.inl ⟨by rfl, fun w hSw => by (obtain ⟨z1, z2, z3, z4, z5⟩ := hSw; go_simp)⟩) (by assumption) ?_
        try simp only [Act.put, List.setIfInBounds_toArray, List.set_cons_zero, List.set_cons_succ]
        refine wpAnyH_done (by kernel_rfl) ?_ _
        go_wp2_with fail
        obtain ⟨Wx, hWx⟩ : ∃ Wx, Wx = wr.drew := ⟨_, rfl⟩
        have HGx : Hid (GS U Wx ob aoX cX OX) := by rw [hWx]; exact HGx.out.drew
        rw [← hWx] at ⊢
        have e0 : Wx.cell? ⟨lb, 0, none⟩ = some (.slice (some ⟨gD, 0, none⟩) D.length c) := by rw [hWx]; exact e0
        have e1 : Wx.cell? ⟨gD, j * 2, none⟩ = some (.string x0) := by rw [hWx]; exact e1
        have e2 : Wx.cell? ⟨gD, j * 2 + 1, none⟩ = some (.string x1) := by rw [hWx]; exact e2
        have e3 : Wx.cell? ⟨w.heap.size + 1 + 1, 0, none⟩ = some (.string k) := by rw [hWx]; exact e3
        have e4 : Wx.cell? ⟨w.heap.size + 1 + 1, 1, none⟩ = some (.string v) := by rw [hWx]; exact e4
        clear hWx
        refine wp_region_held_drew (S := fun X => X.cell? ⟨lb, 0, none⟩ = some (.slice (some ⟨gD, 0, none⟩) D.length c) ∧ X.cell? ⟨gD, j * 2, none⟩ = some (.string x0) ∧ X.cell? ⟨gD, j * 2 + 1, none⟩ = some (.string x1) ∧ X.cell? ⟨w.heap.size + 1 + 1, 0, none⟩ = some (.string k) ∧ X.cell? ⟨w.heap.size + 1 + 1, 1, none⟩ = some (.string v)) (by kernel_rfl) (⟨e0, e1, e2, e3, e4⟩) (fun hHeld => ?_)
        refine wpAnyH_take (i := 0) (oi := { dst := some 79, op := Op.fieldAddr 28 (Operand.tmp 11) 0, type := 0, pos := "ref.go:79", after := #[], guard := none }) (v := .pointer (some ⟨ob, 0, none⟩)) rfl (by kernel_rfl) (by kernel_rfl) (by kernel_rfl) (fun _ _ _ h => h) (Or.inl ⟨by rfl, fun w hSw => by (obtain ⟨z1, z2, z3, z4, z5⟩ := hSw; go_simp)⟩) (by assumption) ?_
        try simp only [Act.put, List.setIfInBounds_toArray, List.set_cons_zero, List.set_cons_succ]
        refine wpAnyH_take (i := 2) (oi := { dst := some 81, op := Op.fieldAddr 28 (Operand.tmp 9) 0, type := 0, pos := "ref.go:79", after := #[], guard := none }) (v := .pointer (some ⟨lb, 0, none⟩)) rfl (by kernel_rfl) (by kernel_rfl) (by kernel_rfl) (fun _ _ _ h => h) (Or.inl ⟨by rfl, fun w hSw => by (obtain ⟨z1, z2, z3, z4, z5⟩ := hSw; go_simp)⟩) (by assumption) ?_
        try simp only [Act.put, List.setIfInBounds_toArray, List.set_cons_zero, List.set_cons_succ]
        refine wpAnyH_take (i := 3) (oi := { dst := some 82, op := Op.load 24 (Operand.tmp 81), type := 24, pos := "ref.go:79", after := #[{ on := 2, ground := Ground.data }], guard := none }) (v := .slice (some ⟨gD, 0, none⟩) D.length c) rfl (by kernel_rfl) (by kernel_rfl) (by kernel_rfl) (fun _ _ _ h => h) (Or.inl ⟨by rfl, fun w hSw => by (obtain ⟨z1, z2, z3, z4, z5⟩ := hSw; go_simp)⟩) (by assumption) ?_
        try simp only [Act.put, List.setIfInBounds_toArray, List.set_cons_zero, List.set_cons_succ]
        refine wpAnyH_take (i := 4) (oi := { dst := some 83, op := Op.move (Operand.tmp 13), type := 3, pos := "ref.go:79", after := #[], guard := none }) (v := .int .i64 (j : Int)) rfl (by kernel_rfl) (by kernel_rfl) (by kernel_rfl) (fun _ _ _ h => h) (Or.inl ⟨by rfl, fun w hSw => by (obtain ⟨z1, z2, z3, z4, z5⟩ := hSw; go_simp)⟩) (by assumption) ?_
        try simp only [Act.put, List.setIfInBounds_toArray, List.set_cons_zero, List.set_cons_succ]
        refine wpAnyH_take (i := 5) (oi := { dst := some 84, op := Op.indexAddr 24 (Operand.tmp 82) (Operand.tmp 83), type := 0, pos := "ref.go:79", after := #[{ on := 3, ground := Ground.data }, { on := 4, ground := Ground.data }], guard := none }) (v := .pointer (some ⟨gD, j * 2, none⟩)) rfl (by kernel_rfl) (by kernel_rfl) (by kernel_rfl) (fun _ _ _ h => h) (Or.inl ⟨by rfl, fun w hSw => by (obtain ⟨z1, z2, z3, z4, z5⟩ := hSw; go_simp)⟩) (by assumption) ?_
        try simp only [Act.put, List.setIfInBounds_toArray, List.set_cons_zero, List.set_cons_succ]
        refine wpAnyH_take (i := 6) (oi := { dst := some 85, op := Op.load 30 (Operand.tmp 84), type := 30, pos := "ref.go:79", after := #[{ on := 5, ground := Ground.data }], guard := none }) (v := .agg #[.string x0, .string x1]) rfl (by kernel_rfl) (by kernel_rfl) (by kernel_rfl) (fun _ _ _ h => h) (Or.inl ⟨by rfl, fun w hSw => by (obtain ⟨z1, z2, z3, z4, z5⟩ := hSw; go_simp)⟩) (by assumption) ?_
        try simp only [Act.put, List.setIfInBounds_toArray, List.set_cons_zero, List.set_cons_succ]
        have GD : GS U Wx.drew ob aoX cX OX := HGx.out.drew
        have s1 : Same Wx.drew (Wx.drew.alloc (.cells #[.string x0, .string x1] 30)) := (Fr.refl _ _).alloc _
        have GA := GD.alloc (.cells #[.string x0, .string x1] 30)
        have o0 := HGx.out.box.1
        have o0b : (Wx.alloc (.cells #[.string x0, .string x1] 30)).cell? ⟨ob, 0, none⟩ = some (.slice aoX OX.length cX) := keepA' o0 _
        have FF : (Wx.drew.alloc (.cells #[.string x0, .string x1] 30)).cell? ⟨lb, 0, none⟩ = some (.slice (some ⟨gD, 0, none⟩) D.length c) ∧ (Wx.drew.alloc (.cells #[.string x0, .string x1] 30)).cell? ⟨gD, j * 2, none⟩ = some (.string x0) ∧ (Wx.drew.alloc (.cells #[.string x0, .string x1] 30)).cell? ⟨gD, j * 2 + 1, none⟩ = some (.string x1) ∧ (Wx.drew.alloc (.cells #[.string x0, .string x1] 30)).cell? ⟨w.heap.size + 1 + 1, 0, none⟩ = some (.string k) ∧ (Wx.drew.alloc (.cells #[.string x0, .string x1] 30)).cell? ⟨w.heap.size + 1 + 1, 1, none⟩ = some (.string v) := ⟨s1.keep e0, s1.keep e1, s1.keep e2, s1.keep e3, s1.keep e4⟩
        refine wpAnyH_ready (rs := [1, 7]) (by kernel_rfl) (by simp) ?_
        refine AllReadyH.cons (o := { dst := some 80, op := Op.load 24 (Operand.tmp 79), type := 24, pos := "ref.go:79", after := #[{ on := 0, ground := Ground.data }], guard := none }) rfl (fun K hK => ?_) (AllReadyH.cons (o := { dst := some 86, op := Op.buildSlice 24 1 #[(0, Operand.tmp 85)], type := 24, pos := "ref.go:79", after := #[{ on := 6, ground := Ground.data }], guard := none }) rfl (fun K hK => ?_) AllReadyH.nil)
        · go_simp
          refine hK.out _ _ ⟨e0, e1, e2, e3, e4⟩ (fun hHeld => ?_)
          clear hK K
          try simp only [Act.put, List.setIfInBounds_toArray, List.set_cons_zero, List.set_cons_succ]
          refine wpAnyH_ready (rs := [7]) (by kernel_rfl) (by simp) ?_
          refine AllReadyH.cons (o := { dst := some 86, op := Op.buildSlice 24 1 #[(0, Operand.tmp 85)], type := 24, pos := "ref.go:79", after := #[{ on := 6, ground := Ground.data }], guard := none }) rfl (fun K hK => ?_) AllReadyH.nil
          go_simp
          refine hK.out _ _ FF (fun hHeld => ?_)
          clear hK K
          try simp only [Act.put, List.setIfInBounds_toArray, List.set_cons_zero, List.set_cons_succ]
          refine wpAnyH_ready (rs := [8]) (by kernel_rfl) (by simp) ?_
          refine AllReadyH.cons (o := { dst := some 87, op := Op.call { callee := Callee.builtin Builtin.append, args := #[Operand.tmp 80, Operand.tmp 86], argTypes := #[24, 24] }, type := 24, pos := "ref.go:79", after := #[{ on := 1, ground := Ground.data }, { on := 7, ground := Ground.data }], guard := none }) rfl (fun K hK => ?_) AllReadyH.nil
          refine step_append_lies _ rfl _ _ _ rfl U.heap.size 30 i0P (.agg #[.string ⟨#[]⟩, .string ⟨#[]⟩]) 2 32 Try.underlying24 hiP hz0P hz1P hz2P rfl (by decide) _ _ _ (by rfl) GA.own ⟨Wx.heap.size, 0, none⟩ 1 1 [.string x0, .string x1] (by rfl) rfl (World.news_of_block (heap_alloc_new Wx.drew _)) (by simp [Value.oneCell']) (by decide) (by unfold maxLen; omega) (by omega) (by have := GA.fr.size; exact this) _ rfl ?_
          intro g2 cap2 W6 own6 grow6 _ _
          obtain ⟨G6, p0, p1⟩ := GA.grow (x := (x0, x1)) own6 grow6
          have kk : ∀ (a : Addr) u, a.block < U.heap.size → (Wx.drew.alloc (.cells #[.string x0, .string x1] 30)).cell? a = some u → W6.cell? a = some u := fun a u ha hu => by
            refine World.grownBy.cell grow6 hu (fun e => ?_)
            have := GA.own.lt a.block e.symm
            omega
          have hz := HZ.out
          have F6 : W6.cell? ⟨lb, 0, none⟩ = some (.slice (some ⟨gD, 0, none⟩) D.length c) ∧ W6.cell? ⟨gD, j * 2, none⟩ = some (.string x0) ∧ W6.cell? ⟨gD, j * 2 + 1, none⟩ = some (.string x1) ∧ W6.cell? ⟨w.heap.size + 1 + 1, 0, none⟩ = some (.string k) ∧ W6.cell? ⟨w.heap.size + 1 + 1, 1, none⟩ = some (.string v) := ⟨kk _ _ (by simp only; omega) FF.1, kk _ _ (by simp only; omega) FF.2.1, kk _ _ (by simp only; omega) FF.2.2.1, kk _ _ (by simp only; omega) FF.2.2.2.1, kk _ _ (by simp only; omega) FF.2.2.2.2⟩
          clear hz
          refine hK.out _ _ F6 (fun hHeld => ?_)
          clear hK K
          try simp only [Act.put, List.setIfInBounds_toArray, List.set_cons_zero, List.set_cons_succ]
          refine wpAnyH_take (i := 9) (oi := { dst := some 88, op := Op.fieldAddr 28 (Operand.tmp 11) 0, type := 0, pos := "ref.go:79", after := #[{ on := 0, ground := Ground.phase }, { on := 1, ground := Ground.phase }, { on := 2, ground := Ground.phase }, { on := 3, ground := Ground.phase }, { on := 4, ground := Ground.phase }, { on := 5, ground := Ground.phase }, { on := 6, ground := Ground.phase }, { on := 7, ground := Ground.phase }, { on := 8, ground := Ground.phase }], guard := none }) (v := .pointer (some ⟨ob, 0, none⟩)) rfl (by kernel_rfl) (by kernel_rfl) (by kernel_rfl) (fun _ _ _ h => h) (Or.inl ⟨by rfl, fun w hSw => by (obtain ⟨z1, z2, z3, z4, z5⟩ := hSw; go_simp)⟩) (by assumption) ?_
          try simp only [Act.put, List.setIfInBounds_toArray, List.set_cons_zero, List.set_cons_succ]
          refine wpAnyH_ready (rs := [10]) (by kernel_rfl) (by simp) ?_
          refine AllReadyH.cons (o := { dst := none, op := Op.store 24 (Operand.tmp 88) (Operand.tmp 87), type := 0, pos := "ref.go:79", after := #[{ on := 9, ground := Ground.data }, { on := 8, ground := Ground.data }, { on := 8, ground := Ground.chain }, { on := 0, ground := Ground.phase }, { on := 1, ground := Ground.phase }, { on := 2, ground := Ground.phase }, { on := 3, ground := Ground.phase }, { on := 4, ground := Ground.phase }, { on := 5, ground := Ground.phase }, { on := 6, ground := Ground.phase }, { on := 7, ground := Ground.phase }, { on := 8, ground := Ground.phase }], guard := none }) rfl (fun K hK => ?_) AllReadyH.nil
          go_simp
          have hz := HZ.out
          have fs : Fr (fun kk => kk = ob) W6 (W6.setCell ⟨ob, 0, none⟩ (.slice (some ⟨g2, 0, none⟩) (OX.length + 1) cap2)) := (Fr.refl (fun kk => kk = ob) W6).setCell (p := ⟨ob, 0, none⟩) (fun _ => rfl) _
          have kf : ∀ (a : Addr) u, a.block ≠ ob → W6.cell? a = some u → (W6.setCell ⟨ob, 0, none⟩ (.slice (some ⟨g2, 0, none⟩) (OX.length + 1) cap2)).cell? a = some u := fun a u ha hu => (fs.cell (World.block_lt_of_cell? _ _ hu) ha).trans hu
          refine hK.out _ _ ⟨kf _ _ (by simp only; omega) F6.1, kf _ _ (by simp only; omega) F6.2.1, kf _ _ (by simp only; omega) F6.2.2.1, kf _ _ (by simp only; omega) F6.2.2.2.1, kf _ _ (by simp only; omega) F6.2.2.2.2⟩ (fun hHeld => ?_)
          clear hK K
          refine wpAnyH_done (by kernel_rfl) ?_ _
          have HG6 : Hid (GS U (W6.setCell ⟨ob, 0, none⟩ (.slice (some ⟨g2, 0, none⟩) (OX.length + 1) cap2)) ob (some ⟨g2, 0, none⟩) cap2 (OX ++ [(x0, x1)])) := G6
          clear G6 p0 p1 kk kf F6 FF fs own6 grow6 GA GD o0 o0b s1 HGx hz e0 e1 e2 e3 e4
          go_wp2_with fail
          go_roundg (D.length - (j + 1))
          case measure => omega
          case rel => exact ⟨j + 1, true, some ⟨g2, 0, none⟩, cap2, OX ++ [(x0, x1)], rfl, by go_num, by omega, rfl, HG6, HEQ⟩
        · go_simp
          refine hK.out _ _ FF (fun hHeld => ?_)
          clear hK K
          try simp only [Act.put, List.setIfInBounds_toArray, List.set_cons_zero, List.set_cons_succ]
          refine wpAnyH_ready (rs := [1]) (by kernel_rfl) (by simp) ?_
          refine AllReadyH.cons (o := { dst := some 80, op := Op.load 24 (Operand.tmp 79), type := 24, pos := "ref.go:79", after := #[{ on := 0, ground := Ground.data }], guard := none }) rfl (fun K hK => ?_) AllReadyH.nil
          go_simp
          refine hK.out _ _ FF (fun hHeld => ?_)
          clear hK K
          try simp only [Act.put, List.setIfInBounds_toArray, List.set_cons_zero, List.set_cons_succ]
          refine wpAnyH_ready (rs := [8]) (by kernel_rfl) (by simp) ?_
          refine AllReadyH.cons (o := { dst := some 87, op := Op.call { callee := Callee.builtin Builtin.append, args := #[Operand.tmp 80, Operand.tmp 86], argTypes := #[24, 24] }, type := 24, pos := "ref.go:79", after := #[{ on := 1, ground := Ground.data }, { on := 7, ground := Ground.data }], guard := none }) rfl (fun K hK => ?_) AllReadyH.nil
          refine step_append_lies _ rfl _ _ _ rfl U.heap.size 30 i0P (.agg #[.string ⟨#[]⟩, .string ⟨#[]⟩]) 2 32 Try.underlying24 hiP hz0P hz1P hz2P rfl (by decide) _ _ _ (by rfl) GA.own ⟨Wx.heap.size, 0, none⟩ 1 1 [.string x0, .string x1] (by rfl) rfl (World.news_of_block (heap_alloc_new Wx.drew _)) (by simp [Value.oneCell']) (by decide) (by unfold maxLen; omega) (by omega) (by have := GA.fr.size; exact this) _ rfl ?_
          intro g2 cap2 W6 own6 grow6 _ _
          obtain ⟨G6, p0, p1⟩ := GA.grow (x := (x0, x1)) own6 grow6
          have kk : ∀ (a : Addr) u, a.block < U.heap.size → (Wx.drew.alloc (.cells #[.string x0, .string x1] 30)).cell? a = some u → W6.cell? a = some u := fun a u ha hu => by
            refine World.grownBy.cell grow6 hu (fun e => ?_)
            have := GA.own.lt a.block e.symm
            omega
          have hz := HZ.out
          have F6 : W6.cell? ⟨lb, 0, none⟩ = some (.slice (some ⟨gD, 0, none⟩) D.length c) ∧ W6.cell? ⟨gD, j * 2, none⟩ = some (.string x0) ∧ W6.cell? ⟨gD, j * 2 + 1, none⟩ = some (.string x1) ∧ W6.cell? ⟨w.heap.size + 1 + 1, 0, none⟩ = some (.string k) ∧ W6.cell? ⟨w.heap.size + 1 + 1, 1, none⟩ = some (.string v) := ⟨kk _ _ (by simp only; omega) FF.1, kk _ _ (by simp only; omega) FF.2.1, kk _ _ (by simp only; omega) FF.2.2.1, kk _ _ (by simp only; omega) FF.2.2.2.1, kk _ _ (by simp only; omega) FF.2.2.2.2⟩
          clear hz
          refine hK.out _ _ F6 (fun hHeld => ?_)
          clear hK K
          try simp only [Act.put, List.setIfInBounds_toArray, List.set_cons_zero, List.set_cons_succ]
          refine wpAnyH_take (i := 9) (oi := { dst := some 88, op := Op.fieldAddr 28 (Operand.tmp 11) 0, type := 0, pos := "ref.go:79", after := #[{ on := 0, ground := Ground.phase }, { on := 1, ground := Ground.phase }, { on := 2, ground := Ground.phase }, { on := 3, ground := Ground.phase }, { on := 4, ground := Ground.phase }, { on := 5, ground := Ground.phase }, { on := 6, ground := Ground.phase }, { on := 7, ground := Ground.phase }, { on := 8, ground := Ground.phase }], guard := none }) (v := .pointer (some ⟨ob, 0, none⟩)) rfl (by kernel_rfl) (by kernel_rfl) (by kernel_rfl) (fun _ _ _ h => h) (Or.inl ⟨by rfl, fun w hSw => by (obtain ⟨z1, z2, z3, z4, z5⟩ := hSw; go_simp)⟩) (by assumption) ?_
          try simp only [Act.put, List.setIfInBounds_toArray, List.set_cons_zero, List.set_cons_succ]
          refine wpAnyH_ready (rs := [10]) (by kernel_rfl) (by simp) ?_
          refine AllReadyH.cons (o := { dst := none, op := Op.store 24 (Operand.tmp 88) (Operand.tmp 87), type := 0, pos := "ref.go:79", after := #[{ on := 9, ground := Ground.data }, { on := 8, ground := Ground.data }, { on := 8, ground := Ground.chain }, { on := 0, ground := Ground.phase }, { on := 1, ground := Ground.phase }, { on := 2, ground := Ground.phase }, { on := 3, ground := Ground.phase }, { on := 4, ground := Ground.phase }, { on := 5, ground := Ground.phase }, { on := 6, ground := Ground.phase }, { on := 7, ground := Ground.phase }, { on := 8, ground := Ground.phase }], guard := none }) rfl (fun K hK => ?_) AllReadyH.nil
          go_simp
          have hz := HZ.out
          have fs : Fr (fun kk => kk = ob) W6 (W6.setCell ⟨ob, 0, none⟩ (.slice (some ⟨g2, 0, none⟩) (OX.length + 1) cap2)) := (Fr.refl (fun kk => kk = ob) W6).setCell (p := ⟨ob, 0, none⟩) (fun _ => rfl) _
          have kf : ∀ (a : Addr) u, a.block ≠ ob → W6.cell? a = some u → (W6.setCell ⟨ob, 0, none⟩ (.slice (some ⟨g2, 0, none⟩) (OX.length + 1) cap2)).cell? a = some u := fun a u ha hu => (fs.cell (World.block_lt_of_cell? _ _ hu) ha).trans hu
          refine hK.out _ _ ⟨kf _ _ (by simp only; omega) F6.1, kf _ _ (by simp only; omega) F6.2.1, kf _ _ (by simp only; omega) F6.2.2.1, kf _ _ (by simp only; omega) F6.2.2.2.1, kf _ _ (by simp only; omega) F6.2.2.2.2⟩ (fun hHeld => ?_)
          clear hK K
          refine wpAnyH_done (by kernel_rfl) ?_ _
          have HG6 : Hid (GS U (W6.setCell ⟨ob, 0, none⟩ (.slice (some ⟨g2, 0, none⟩) (OX.length + 1) cap2)) ob (some ⟨g2, 0, none⟩) cap2 (OX ++ [(x0, x1)])) := G6
          clear G6 p0 p1 kk kf F6 FF fs own6 grow6 GA GD o0 o0b s1 HGx hz e0 e1 e2 e3 e4
          go_wp2_with fail
          go_roundg (D.length - (j + 1))
          case measure => omega
          case rel => exact ⟨j + 1, true, some ⟨g2, 0, none⟩, cap2, OX ++ [(x0, x1)], rfl, by go_num, by omega, rfl, HG6, HEQ⟩
      | false =>
        cases hb : Op.bytesLess k.toList x0.toList with
        | false =>
          have HEQ : Hid (OX ++ [(x0, x1)] ++ (if false = true then D.drop (j + 1) else putL k v (D.drop (j + 1))) = putL k v D) := by
            show _ = _
            rw [← HE', if_neg Bool.false_ne_true, if_neg Bool.false_ne_true, putL, if_neg (by rw [hb]; simp), List.append_assoc]; rfl
          have HGT : Hid (Op.bytesLess x0.toList k.toList = false → x0.toList = k.toList) := by
            rcases cmp_cases x0 k with ⟨h3, h4⟩ | ⟨h3, h4⟩ | ⟨h3, h4⟩
            · exact fun e => by rw [e] at h3; cases h3
            · exact fun _ => by rw [h3]
            · rw [hb] at h3; cases h3
          clear HE' hb
          go_wp2_with fail
          refine wp_region_held_drew (S := fun X => X.cell? ⟨lb, 0, none⟩ = some (.slice (some ⟨gD, 0, none⟩) D.length c) ∧ X.cell? ⟨gD, j * 2, none⟩ = some (.string x0) ∧ X.cell? ⟨gD, j * 2 + 1, none⟩ = some (.string x1) ∧ X.cell? ⟨w.heap.size + 1 + 1, 0, none⟩ = some (.string k) ∧ X.cell? ⟨w.heap.size + 1 + 1, 1, none⟩ = some (.string v)) (by kernel_rfl) (⟨e0, e1, e2, e3, e4⟩) (fun hHeld => ?_)
          refine wpAnyH_take (i := 0) (oi := { dst := some 60, op := Op.move (Operand.tmp 12), type := 4, pos := "ref.go:75", after := #[], guard := none }) (v := .bool false) rfl (by kernel_rfl) (by kernel_rfl) (by kernel_rfl) (fun _ _ _ h => h) (Or.inl ⟨by rfl, fun w hSw => by (obtain ⟨z1, z2, z3, z4, z5⟩ := hSw; go_simp)⟩) (by assumption) ?_
          try simp only [Act.put, List.setIfInBounds_toArray, List.set_cons_zero, List.set_cons_succ]
          refine wpAnyH_take (i := 1) (oi := { dst := some 61, op := Op.unOp UnOp.not 4 (Operand.tmp 60), type := 4, pos := "ref.go:75", after := #[{ on := 0, ground := Ground.data }], guard := none }) (v := .bool true) rfl (by kernel_rfl) (by kernel_rfl) (by kernel_rfl) (fun _ _ _ h => h) (Or.inl ⟨by rfl, fun w hSw => by (obtain ⟨z1, z2, z3, z4, z5⟩ := hSw; go_simp)⟩) (by assumption) ?_
          try simp only [Act.put, List.setIfInBounds_toArray, List.set_cons_zero, List.set_cons_succ]
          refine wpAnyH_take (i := 2) (oi := { dst := some 62, op := Op.move (Operand.tmp 61), type := 4, pos := "ref.go:75", after := #[{ on := 1, ground := Ground.data }], guard := none }) (v := .bool true) rfl (by kernel_rfl) (by kernel_rfl) (by kernel_rfl) (fun _ _ _ h => h) (Or.inl ⟨by rfl, fun w hSw => by (obtain ⟨z1, z2, z3, z4, z5⟩ := hSw; go_simp)⟩) (by assumption) ?_
          try simp only [Act.put, List.setIfInBounds_toArray, List.set_cons_zero, List.set_cons_succ]
          refine wpAnyH_take (i := 3) (oi := { dst := some 63, op := Op.fieldAddr 28 (Operand.tmp 9) 0, type := 0, pos := "ref.go:75", after := #[{ on := 2, ground := Ground.guard }], guard := some (2, true) }) (v := .pointer (some ⟨lb, 0, none⟩)) rfl (by kernel_rfl) (by kernel_rfl) (by kernel_rfl) (fun _ _ _ h => h) (Or.inl ⟨by rfl, fun w hSw => by (obtain ⟨z1, z2, z3, z4, z5⟩ := hSw; go_simp)⟩) (by assumption) ?_
          try simp only [Act.put, List.setIfInBounds_toArray, List.set_cons_zero, List.set_cons_succ]
          refine wpAnyH_take (i := 4) (oi := { dst := some 64, op := Op.load 24 (Operand.tmp 63), type := 24, pos := "ref.go:75", after := #[{ on := 3, ground := Ground.data }, { on := 2, ground := Ground.guard }], guard := some (2, true) }) (v := .slice (some ⟨gD, 0, none⟩) D.length c) rfl (by kernel_rfl) (by kernel_rfl) (by kernel_rfl) (fun _ _ _ h => h) (Or.inl ⟨by rfl, fun w hSw => by (obtain ⟨z1, z2, z3, z4, z5⟩ := hSw; go_simp)⟩) (by assumption) ?_
          try simp only [Act.put, List.setIfInBounds_toArray, List.set_cons_zero, List.set_cons_succ]
          refine wpAnyH_take (i := 5) (oi := { dst := some 65, op := Op.move (Operand.tmp 13), type := 3, pos := "ref.go:75", after := #[{ on := 2, ground := Ground.guard }], guard := some (2, true) }) (v := .int .i64 (j : Int)) rfl (by kernel_rfl) (by kernel_rfl) (by kernel_rfl) (fun _ _ _ h => h) (Or.inl ⟨by rfl, fun w hSw => by (obtain ⟨z1, z2, z3, z4, z5⟩ := hSw; go_simp)⟩) (by assumption) ?_
          try simp only [Act.put, List.setIfInBounds_toArray, List.set_cons_zero, List.set_cons_succ]
          refine wpAnyH_take (i := 6) (oi := { dst := some 66, op := Op.indexAddr 24 (Operand.tmp 64) (Operand.tmp 65), type := 0, pos := "ref.go:75", after := #[{ on := 4, ground := Ground.data }, { on := 5, ground := Ground.data }, { on := 2, ground := Ground.guard }], guard := some (2, true) }) (v := .pointer (some ⟨gD, j * 2, none⟩)) rfl (by kernel_rfl) (by kernel_rfl) (by kernel_rfl) (fun _ _ _ h => h) (Or.inl ⟨by rfl, fun w hSw => by (obtain ⟨z1, z2, z3, z4, z5⟩ := hSw; go_simp)⟩) (by assumption) ?_
          try simp only [Act.put, List.setIfInBounds_toArray, List.set_cons_zero, List.set_cons_succ]
          refine wpAnyH_take (i := 7) (oi := { dst := some 67, op := Op.fieldAddr 30 (Operand.tmp 66) 0, type := 0, pos := "ref.go:75", after := #[{ on := 6, ground := Ground.data }, { on := 2, ground := Ground.guard }], guard := some (2, true) }) (v := .pointer (some ⟨gD, j * 2, none⟩)) rfl (by kernel_rfl) (by kernel_rfl) (by kernel_rfl) (fun _ _ _ h => h) (Or.inl ⟨by rfl, fun w hSw => by (obtain ⟨z1, z2, z3, z4, z5⟩ := hSw; go_simp)⟩) (by assumption) ?_
          try simp only [Act.put, List.setIfInBounds_toArray, List.set_cons_zero, List.set_cons_succ]
          refine wpAnyH_take (i := 8) (oi := { dst := some 68, op := Op.load 9 (Operand.tmp 67), type := 9, pos := "ref.go:75", after := #[{ on := 7, ground := Ground.data }, { on := 2, ground := Ground.guard }], guard := some (2, true) }) (v := .string x0) rfl (by kernel_rfl) (by kernel_rfl) (by kernel_rfl) (fun _ _ _ h => h) (Or.inl ⟨by rfl, fun w hSw => by (obtain ⟨z1, z2, z3, z4, z5⟩ := hSw; go_simp)⟩) (by assumption) ?_
          try simp only [Act.put, List.setIfInBounds_toArray, List.set_cons_zero, List.set_cons_succ]
          refine wpAnyH_take (i := 9) (oi := { dst := some 69, op := Op.fieldAddr 30 (Operand.tmp 5) 0, type := 0, pos := "ref.go:75", after := #[{ on := 2, ground := Ground.guard }], guard := some (2, true) }) (v := .pointer (some ⟨w.heap.size + 1 + 1, 0, none⟩)) rfl (by kernel_rfl) (by kernel_rfl) (by kernel_rfl) (fun _ _ _ h => h) (Or.inl ⟨by rfl, fun w hSw => by (obtain ⟨z1, z2, z3, z4, z5⟩ := hSw; go_simp)⟩) (by assumption) ?_
          try simp only [Act.put, List.setIfInBounds_toArray, List.set_cons_zero, List.set_cons_succ]
          refine wpAnyH_take (i := 10) (oi := { dst := some 70, op := Op.load 9 (Operand.tmp 69), type := 9, pos := "ref.go:75", after := #[{ on := 9, ground := Ground.data }, { on := 2, ground := Ground.guard }], guard := some (2, true) }) (v := .string k) rfl (by kernel_rfl) (by kernel_rfl) (by kernel_rfl) (fun _ _ _ h => h) (Or.inl ⟨by rfl, fun w hSw => by (obtain ⟨z1, z2, z3, z4, z5⟩ := hSw; go_simp)⟩) (by assumption) ?_
          try simp only [Act.put, List.setIfInBounds_toArray, List.set_cons_zero, List.set_cons_succ]
          refine wpAnyH_take (i := 11) (oi := { dst := some 71, op := Op.binOp BinOp.gtr 9 (Operand.tmp 68) (Operand.tmp 70) 9, type := 4, pos := "ref.go:75", after := #[{ on := 8, ground := Ground.data }, { on := 10, ground := Ground.data }, { on := 2, ground := Ground.guard }], guard := some (2, true) }) (v := .bool false) rfl (by kernel_rfl) (by kernel_rfl) (by kernel_rfl) (fun _ _ _ h => h) (Or.inl ⟨by rfl, fun w hSw => by (obtain ⟨z1, z2, z3, z4, z5⟩ := hSw; go_simp; exact HGT.out)⟩) (by assumption) ?_
          try simp only [Act.put, List.setIfInBounds_toArray, List.set_cons_zero, List.set_cons_succ]
          refine wpAnyH_take (i := 12) (oi := { dst := some 72, op := Op.pick (Operand.tmp 62) (Operand.tmp 71) (Operand.const (Value.bool false)), type := 4, pos := "ref.go:75", after := #[{ on := 2, ground := Ground.data }, { on := 11, ground := Ground.data }], guard := none }) (v := .bool false) rfl (by kernel_rfl) (by kernel_rfl) (by kernel_rfl) (fun _ _ _ h => h) (Or.inl ⟨by rfl, fun w hSw => by (obtain ⟨z1, z2, z3, z4, z5⟩ := hSw; go_simp)⟩) (by assumption) ?_
          try simp only [Act.put, List.setIfInBounds_toArray, List.set_cons_zero, List.set_cons_succ]
          refine wpAnyH_done (by kernel_rfl) ?_ _
          go_wp2_with fail
          obtain ⟨Wx, hWx⟩ : ∃ Wx, Wx = wr.drew := ⟨_, rfl⟩
          have HGx : Hid (GS U Wx ob aoX cX OX) := by rw [hWx]; exact HGx.out.drew
          rw [← hWx] at ⊢
          have e0 : Wx.cell? ⟨lb, 0, none⟩ = some (.slice (some ⟨gD, 0, none⟩) D.length c) := by rw [hWx]; exact e0
          have e1 : Wx.cell? ⟨gD, j * 2, none⟩ = some (.string x0) := by rw [hWx]; exact e1
          have e2 : Wx.cell? ⟨gD, j * 2 + 1, none⟩ = some (.string x1) := by rw [hWx]; exact e2
          have e3 : Wx.cell? ⟨w.heap.size + 1 + 1, 0, none⟩ = some (.string k) := by rw [hWx]; exact e3
          have e4 : Wx.cell? ⟨w.heap.size + 1 + 1, 1, none⟩ = some (.string v) := by rw [hWx]; exact e4
          clear hWx
          refine wp_region_held_drew (S := fun X => X.cell? ⟨lb, 0, none⟩ = some (.slice (some ⟨gD, 0, none⟩) D.length c) ∧ X.cell? ⟨gD, j * 2, none⟩ = some (.string x0) ∧ X.cell? ⟨gD, j * 2 + 1, none⟩ = some (.string x1) ∧ X.cell? ⟨w.heap.size + 1 + 1, 0, none⟩ = some (.string k) ∧ X.cell? ⟨w.heap.size + 1 + 1, 1, none⟩ = some (.string v)) (by kernel_rfl) (⟨e0, e1, e2, e3, e4⟩) (fun hHeld => ?_)
          refine wpAnyH_take (i := 0) (oi := { dst := some 79, op := Op.fieldAddr 28 (Operand.tmp 11) 0, type := 0, pos := "ref.go:79", after := #[], guard := none }) (v := .pointer (some ⟨ob, 0, none⟩)) rfl (by kernel_rfl) (by kernel_rfl) (by kernel_rfl) (fun _ _ _ h => h) (Or.inl ⟨by rfl, fun w hSw => by (obtain ⟨z1, z2, z3, z4, z5⟩ := hSw; go_simp)⟩) (by assumption) ?_
          try simp only [Act.put, List.setIfInBounds_toArray, List.set_cons_zero, List.set_cons_succ]
          refine wpAnyH_take (i := 2) (oi := { dst := some 81, op := Op.fieldAddr 28 (Operand.tmp 9) 0, type := 0, pos := "ref.go:79", after := #[], guard := none }) (v := .pointer (some ⟨lb, 0, none⟩)) rfl (by kernel_rfl) (by kernel_rfl) (by kernel_rfl) (fun _ _ _ h => h) (Or.inl ⟨by rfl, fun w hSw => by (obtain ⟨z1, z2, z3, z4, z5⟩ := hSw; go_simp)⟩) (by assumption) ?_
          try simp only [Act.put, List.setIfInBounds_toArray, List.set_cons_zero, List.set_cons_succ]
          refine wpAnyH_take (i := 3) (oi := { dst := some 82, op := Op.load 24 (Operand.tmp 81), type := 24, pos := "ref.go:79", after := #[{ on := 2, ground := Ground.data }], guard := none }) (v := .slice (some ⟨gD, 0, none⟩) D.length c) rfl (by kernel_rfl) (by kernel_rfl) (by kernel_rfl) (fun _ _ _ h => h) (Or.inl ⟨by rfl, fun w hSw => by (obtain ⟨z1, z2, z3, z4, z5⟩ := hSw; go_simp)⟩) (by assumption) ?_
          try simp only [Act.put, List.setIfInBounds_toArray, List.set_cons_zero, List.set_cons_succ]
          refine wpAnyH_take (i := 4) (oi := { dst := some 83, op := Op.move (Operand.tmp 13), type := 3, pos := "ref.go:79", after := #[], guard := none }) (v := .int .i64 (j : Int)) rfl (by kernel_rfl) (by kernel_rfl) (by kernel_rfl) (fun _ _ _ h => h) (Or.inl ⟨by rfl, fun w hSw => by (obtain ⟨z1, z2, z3, z4, z5⟩ := hSw; go_simp)⟩) (by assumption) ?_
          try simp only [Act.put, List.setIfInBounds_toArray, List.set_cons_zero, List.set_cons_succ]
          refine wpAnyH_take (i := 5) (oi := { dst := some 84, op := Op.indexAddr 24 (Operand.tmp 82) (Operand.tmp 83), type := 0, pos := "ref.go:79", after := #[{ on := 3, ground := Ground.data }, { on := 4, ground := Ground.data }], guard := none }) (v := .pointer (some ⟨gD, j * 2, none⟩)) rfl (by kernel_rfl) (by kernel_rfl) (by kernel_rfl) (fun _ _ _ h => h) (Or.inl ⟨by rfl, fun w hSw => by (obtain ⟨z1, z2, z3, z4, z5⟩ := hSw; go_simp)⟩) (by assumption) ?_
          try simp only [Act.put, List.setIfInBounds_toArray, List.set_cons_zero, List.set_cons_succ]
          refine wpAnyH_take (i := 6) (oi := { dst := some 85, op := Op.load 30 (Operand.tmp 84), type := 30, pos := "ref.go:79", after := #[{ on := 5, ground := Ground.data }], guard := none }) (v := .agg #[.string x0, .string x1]) rfl (by kernel_rfl) (by kernel_rfl) (by kernel_rfl) (fun _ _ _ h => h) (Or.inl ⟨by rfl, fun w hSw => by (obtain ⟨z1, z2, z3, z4, z5⟩ := hSw; go_simp)⟩) (by assumption) ?_
          try simp only [Act.put, List.setIfInBounds_toArray, List.set_cons_zero, List.set_cons_succ]
          have GD : GS U Wx.drew ob aoX cX OX := HGx.out.drew
          have s1 : Same Wx.drew (Wx.drew.alloc (.cells #[.string x0, .string x1] 30)) := (Fr.refl _ _).alloc _
          have GA := GD.alloc (.cells #[.string x0, .string x1] 30)
          have o0 := HGx.out.box.1
          have o0b : (Wx.alloc (.cells #[.string x0, .string x1] 30)).cell? ⟨ob, 0, none⟩ = some (.slice aoX OX.length cX) := keepA' o0 _
          have FF : (Wx.drew.alloc (.cells #[.string x0, .string x1] 30)).cell? ⟨lb, 0, none⟩ = some (.slice (some ⟨gD, 0, none⟩) D.length c) ∧ (Wx.drew.alloc (.cells #[.string x0, .string x1] 30)).cell? ⟨gD, j * 2, none⟩ = some (.string x0) ∧ (Wx.drew.alloc (.cells #[.string x0, .string x1] 30)).cell? ⟨gD, j * 2 + 1, none⟩ = some (.string x1) ∧ (Wx.drew.alloc (.cells #[.string x0, .string x1] 30)).cell? ⟨w.heap.size + 1 + 1, 0, none⟩ = some (.string k) ∧ (Wx.drew.alloc (.cells #[.string x0, .string x1] 30)).cell? ⟨w.heap.size + 1 + 1, 1, none⟩ = some (.string v) := ⟨s1.keep e0, s1.keep e1, s1.keep e2, s1.keep e3, s1.keep e4⟩
          refine wpAnyH_ready (rs := [1, 7]) (by kernel_rfl) (by simp) ?_
          refine AllReadyH.cons (o := { dst := some 80, op := Op.load 24 (Operand.tmp 79), type := 24, pos := "ref.go:79", after := #[{ on := 0, ground := Ground.data }], guard := none }) rfl (fun K hK => ?_) (AllReadyH.cons (o := { dst := some 86, op := Op.buildSlice 24 1 #[(0, Operand.tmp 85)], type := 24, pos := "ref.go:79", after := #[{ on := 6, ground := Ground.data }], guard := none }) rfl (fun K hK => ?_) AllReadyH.nil)
          · go_simp
            refine hK.out _ _ ⟨e0, e1, e2, e3, e4⟩ (fun hHeld => ?_)
            clear hK K
            try simp only [Act.put, List.setIfInBounds_toArray, List.set_cons_zero, List.set_cons_succ]
            refine wpAnyH_ready (rs := [7]) (by kernel_rfl) (by simp) ?_
            refine AllReadyH.cons (o := { dst := some 86, op := Op.buildSlice 24 1 #[(0, Operand.tmp 85)], type := 24, pos := "ref.go:79", after := #[{ on := 6, ground := Ground.data }], guard := none }) rfl (fun K hK => ?_) AllReadyH.nil
            go_simp
            refine hK.out _ _ FF (fun hHeld => ?_)
            clear hK K
            try simp only [Act.put, List.setIfInBounds_toArray, List.set_cons_zero, List.set_cons_succ]
            refine wpAnyH_ready (rs := [8]) (by kernel_rfl) (by simp) ?_
            refine AllReadyH.cons (o := { dst := some 87, op := Op.call { callee := Callee.builtin Builtin.append, args := #[Operand.tmp 80, Operand.tmp 86], argTypes := #[24, 24] }, type := 24, pos := "ref.go:79", after := #[{ on := 1, ground := Ground.data }, { on := 7, ground := Ground.data }], guard := none }) rfl (fun K hK => ?_) AllReadyH.nil
            refine step_append_lies _ rfl _ _ _ rfl U.heap.size 30 i0P (.agg #[.string ⟨#[]⟩, .string ⟨#[]⟩]) 2 32 Try.underlying24 hiP hz0P hz1P hz2P rfl (by decide) _ _ _ (by rfl) GA.own ⟨Wx.heap.size, 0, none⟩ 1 1 [.string x0, .string x1] (by rfl) rfl (World.news_of_block (heap_alloc_new Wx.drew _)) (by simp [Value.oneCell']) (by decide) (by unfold maxLen; omega) (by omega) (by have := GA.fr.size; exact this) _ rfl ?_
            intro g2 cap2 W6 own6 grow6 _ _
            obtain ⟨G6, p0, p1⟩ := GA.grow (x := (x0, x1)) own6 grow6
            have kk : ∀ (a : Addr) u, a.block < U.heap.size → (Wx.drew.alloc (.cells #[.string x0, .string x1] 30)).cell? a = some u → W6.cell? a = some u := fun a u ha hu => by
              refine World.grownBy.cell grow6 hu (fun e => ?_)
              have := GA.own.lt a.block e.symm
              omega
            have hz := HZ.out
            have F6 : W6.cell? ⟨lb, 0, none⟩ = some (.slice (some ⟨gD, 0, none⟩) D.length c) ∧ W6.cell? ⟨gD, j * 2, none⟩ = some (.string x0) ∧ W6.cell? ⟨gD, j * 2 + 1, none⟩ = some (.string x1) ∧ W6.cell? ⟨w.heap.size + 1 + 1, 0, none⟩ = some (.string k) ∧ W6.cell? ⟨w.heap.size + 1 + 1, 1, none⟩ = some (.string v) := ⟨kk _ _ (by simp only; omega) FF.1, kk _ _ (by simp only; omega) FF.2.1, kk _ _ (by simp only; omega) FF.2.2.1, kk _ _ (by simp only; omega) FF.2.2.2.1, kk _ _ (by simp only; omega) FF.2.2.2.2⟩
            clear hz
            refine hK.out _ _ F6 (fun hHeld => ?_)
            clear hK K
            try simp only [Act.put, List.setIfInBounds_toArray, List.set_cons_zero, List.set_cons_succ]
            refine wpAnyH_take (i := 9) (oi := { dst := some 88, op := Op.fieldAddr 28 (Operand.tmp 11) 0, type := 0, pos := "ref.go:79", after := #[{ on := 0, ground := Ground.phase }, { on := 1, ground := Ground.phase }, { on := 2, ground := Ground.phase }, { on := 3, ground := Ground.phase }, { on := 4, ground := Ground.phase }, { on := 5, ground := Ground.phase }, { on := 6, ground := Ground.phase }, { on := 7, ground := Ground.phase }, { on := 8, ground := Ground.phase }], guard := none }) (v := .pointer (some ⟨ob, 0, none⟩)) rfl (by kernel_rfl) (by kernel_rfl) (by kernel_rfl) (fun _ _ _ h => h) (Or.inl ⟨by rfl, fun w hSw => by (obtain ⟨z1, z2, z3, z4, z5⟩ := hSw; go_simp)⟩) (by assumption) ?_
            try simp only [Act.put, List.setIfInBounds_toArray, List.set_cons_zero, List.set_cons_succ]
            refine wpAnyH_ready (rs := [10]) (by kernel_rfl) (by simp) ?_
            refine AllReadyH.cons (o := { dst := none, op := Op.store 24 (Operand.tmp 88) (Operand.tmp 87), type := 0, pos := "ref.go:79", after := #[{ on := 9, ground := Ground.data }, { on := 8, ground := Ground.data }, { on := 8, ground := Ground.chain }, { on := 0, ground := Ground.phase }, { on := 1, ground := Ground.phase }, { on := 2, ground := Ground.phase }, { on := 3, ground := Ground.phase }, { on := 4, ground := Ground.phase }, { on := 5, ground := Ground.phase }, { on := 6, ground := Ground.phase }, { on := 7, ground := Ground.phase }, { on := 8, ground := Ground.phase }], guard := none }) rfl (fun K hK => ?_) AllReadyH.nil
            go_simp
            have hz := HZ.out
            have fs : Fr (fun kk => kk = ob) W6 (W6.setCell ⟨ob, 0, none⟩ (.slice (some ⟨g2, 0, none⟩) (OX.length + 1) cap2)) := (Fr.refl (fun kk => kk = ob) W6).setCell (p := ⟨ob, 0, none⟩) (fun _ => rfl) _
            have kf : ∀ (a : Addr) u, a.block ≠ ob → W6.cell? a = some u → (W6.setCell ⟨ob, 0, none⟩ (.slice (some ⟨g2, 0, none⟩) (OX.length + 1) cap2)).cell? a = some u := fun a u ha hu => (fs.cell (World.block_lt_of_cell? _ _ hu) ha).trans hu
            refine hK.out _ _ ⟨kf _ _ (by simp only; omega) F6.1, kf _ _ (by simp only; omega) F6.2.1, kf _ _ (by simp only; omega) F6.2.2.1, kf _ _ (by simp only; omega) F6.2.2.2.1, kf _ _ (by simp only; omega) F6.2.2.2.2⟩ (fun hHeld => ?_)
            clear hK K
            refine wpAnyH_done (by kernel_rfl) ?_ _
            have HG6 : Hid (GS U (W6.setCell ⟨ob, 0, none⟩ (.slice (some ⟨g2, 0, none⟩) (OX.length + 1) cap2)) ob (some ⟨g2, 0, none⟩) cap2 (OX ++ [(x0, x1)])) := G6
            clear G6 p0 p1 kk kf F6 FF fs own6 grow6 GA GD o0 o0b s1 HGx hz e0 e1 e2 e3 e4
            go_wp2_with fail
            go_roundg (D.length - (j + 1))
            case measure => omega
            case rel => exact ⟨j + 1, false, some ⟨g2, 0, none⟩, cap2, OX ++ [(x0, x1)], rfl, by go_num, by omega, rfl, HG6, HEQ⟩
          · go_simp
            refine hK.out _ _ FF (fun hHeld => ?_)
            clear hK K
            try simp only [Act.put, List.setIfInBounds_toArray, List.set_cons_zero, List.set_cons_succ]
            refine wpAnyH_ready (rs := [1]) (by kernel_rfl) (by simp) ?_
            refine AllReadyH.cons (o := { dst := some 80, op := Op.load 24 (Operand.tmp 79), type := 24, pos := "ref.go:79", after := #[{ on := 0, ground := Ground.data }], guard := none }) rfl (fun K hK => ?_) AllReadyH.nil
            go_simp
            refine hK.out _ _ FF (fun hHeld => ?_)
            clear hK K
            try simp only [Act.put, List.setIfInBounds_toArray, List.set_cons_zero, List.set_cons_succ]
            refine wpAnyH_ready (rs := [8]) (by kernel_rfl) (by simp) ?_
            refine AllReadyH.cons (o := { dst := some 87, op := Op.call { callee := Callee.builtin Builtin.append, args := #[Operand.tmp 80, Operand.tmp 86], argTypes := #[24, 24] }, type := 24, pos := "ref.go:79", after := #[{ on := 1, ground := Ground.data }, { on := 7, ground := Ground.data }], guard := none }) rfl (fun K hK => ?_) AllReadyH.nil
            refine step_append_lies _ rfl _ _ _ rfl U.heap.size 30 i0P (.agg #[.string ⟨#[]⟩, .string ⟨#[]⟩]) 2 32 Try.underlying24 hiP hz0P hz1P hz2P rfl (by decide) _ _ _ (by rfl) GA.own ⟨Wx.heap.size, 0, none⟩ 1 1 [.string x0, .string x1] (by rfl) rfl (World.news_of_block (heap_alloc_new Wx.drew _)) (by simp [Value.oneCell']) (by decide) (by unfold maxLen; omega) (by omega) (by have := GA.fr.size; exact this) _ rfl ?_
            intro g2 cap2 W6 own6 grow6 _ _
            obtain ⟨G6, p0, p1⟩ := GA.grow (x := (x0, x1)) own6 grow6
            have kk : ∀ (a : Addr) u, a.block < U.heap.size → (Wx.drew.alloc (.cells #[.string x0, .string x1] 30)).cell? a = some u → W6.cell? a = some u := fun a u ha hu => by
              refine World.grownBy.cell grow6 hu (fun e => ?_)
              have := GA.own.lt a.block e.symm
              omega
            have hz := HZ.out
            have F6 : W6.cell? ⟨lb, 0, none⟩ = some (.slice (some ⟨gD, 0, none⟩) D.length c) ∧ W6.cell? ⟨gD, j * 2, none⟩ = some (.string x0) ∧ W6.cell? ⟨gD, j * 2 + 1, none⟩ = some (.string x1) ∧ W6.cell? ⟨w.heap.size + 1 + 1, 0, none⟩ = some (.string k) ∧ W6.cell? ⟨w.heap.size + 1 + 1, 1, none⟩ = some (.string v) := ⟨kk _ _ (by simp only; omega) FF.1, kk _ _ (by simp only; omega) FF.2.1, kk _ _ (by simp only; omega) FF.2.2.1, kk _ _ (by simp only; omega) FF.2.2.2.1, kk _ _ (by simp only; omega) FF.2.2.2.2⟩
            clear hz
            refine hK.out _ _ F6 (fun hHeld => ?_)
            clear hK K
            try simp only [Act.put, List.setIfInBounds_toArray, List.set_cons_zero, List.set_cons_succ]
            refine wpAnyH_take (i := 9) (oi := { dst := some 88, op := Op.fieldAddr 28 (Operand.tmp 11) 0, type := 0, pos := "ref.go:79", after := #[{ on := 0, ground := Ground.phase }, { on := 1, ground := Ground.phase }, { on := 2, ground := Ground.phase }, { on := 3, ground := Ground.phase }, { on := 4, ground := Ground.phase }, { on := 5, ground := Ground.phase }, { on := 6, ground := Ground.phase }, { on := 7, ground := Ground.phase }, { on := 8, ground := Ground.phase }], guard := none }) (v := .pointer (some ⟨ob, 0, none⟩)) rfl (by kernel_rfl) (by kernel_rfl) (by kernel_rfl) (fun _ _ _ h => h) (Or.inl ⟨by rfl, fun w hSw => by (obtain ⟨z1, z2, z3, z4, z5⟩ := hSw; go_simp)⟩) (by assumption) ?_
            try simp only [Act.put, List.setIfInBounds_toArray, List.set_cons_zero, List.set_cons_succ]
            refine wpAnyH_ready (rs := [10]) (by kernel_rfl) (by simp) ?_
            refine AllReadyH.cons (o := { dst := none, op := Op.store 24 (Operand.tmp 88) (Operand.tmp 87), type := 0, pos := "ref.go:79", after := #[{ on := 9, ground := Ground.data }, { on := 8, ground := Ground.data }, { on := 8, ground := Ground.chain }, { on := 0, ground := Ground.phase }, { on := 1, ground := Ground.phase }, { on := 2, ground := Ground.phase }, { on := 3, ground := Ground.phase }, { on := 4, ground := Ground.phase }, { on := 5, ground := Ground.phase }, { on := 6, ground := Ground.phase }, { on := 7, ground := Ground.phase }, { on := 8, ground := Ground.phase }], guard := none }) rfl (fun K hK => ?_) AllReadyH.nil
            go_simp
            have hz := HZ.out
            have fs : Fr (fun kk => kk = ob) W6 (W6.setCell ⟨ob, 0, none⟩ (.slice (some ⟨g2, 0, none⟩) (OX.length + 1) cap2)) := (Fr.refl (fun kk => kk = ob) W6).setCell (p := ⟨ob, 0, none⟩) (fun _ => rfl) _
            have kf : ∀ (a : Addr) u, a.block ≠ ob → W6.cell? a = some u → (W6.setCell ⟨ob, 0, none⟩ (.slice (some ⟨g2, 0, none⟩) (OX.length + 1) cap2)).cell? a = some u := fun a u ha hu => (fs.cell (World.block_lt_of_cell? _ _ hu) ha).trans hu
            refine hK.out _ _ ⟨kf _ _ (by simp only; omega) F6.1, kf _ _ (by simp only; omega) F6.2.1, kf _ _ (by simp only; omega) F6.2.2.1, kf _ _ (by simp only; omega) F6.2.2.2.1, kf _ _ (by simp only; omega) F6.2.2.2.2⟩ (fun hHeld => ?_)
            clear hK K
            refine wpAnyH_done (by kernel_rfl) ?_ _
            have HG6 : Hid (GS U (W6.setCell ⟨ob, 0, none⟩ (.slice (some ⟨g2, 0, none⟩) (OX.length + 1) cap2)) ob (some ⟨g2, 0, none⟩) cap2 (OX ++ [(x0, x1)])) := G6
            clear G6 p0 p1 kk kf F6 FF fs own6 grow6 GA GD o0 o0b s1 HGx hz e0 e1 e2 e3 e4
            go_wp2_with fail
            go_roundg (D.length - (j + 1))
            case measure => omega
            case rel => exact ⟨j + 1, false, some ⟨g2, 0, none⟩, cap2, OX ++ [(x0, x1)], rfl, by go_num, by omega, rfl, HG6, HEQ⟩
        | true =>
          obtain ⟨OY, hOY⟩ : ∃ OY, OY = OX ++ [(k, v)] := ⟨_, rfl⟩
          have HEQ : Hid (OY ++ [(x0, x1)] ++ (if true = true then D.drop (j + 1) else putL k v (D.drop (j + 1))) = putL k v D) := by
            show _ = _
            rw [← HE', if_neg Bool.false_ne_true, if_pos rfl, putL, if_pos hb, hOY, List.append_assoc, List.append_assoc]; rfl
          have HOY : Hid (OY = OX ++ [(k, v)]) := hOY
          have lY : OY.length ≤ D.length + 2 := by rw [hOY]; simp; omega
          have HGT : Hid (Op.bytesLess x0.toList k.toList = false ∧ ¬ x0.toList = k.toList) := by
            have h := not_below hb
            rw [Bool.or_eq_false_iff] at h
            exact ⟨h.1, by have := h.2; simpa using this⟩
          clear HE' hOY hb
          go_wp2_with fail
          refine wp_region_held_drew (S := fun X => X.cell? ⟨lb, 0, none⟩ = some (.slice (some ⟨gD, 0, none⟩) D.length c) ∧ X.cell? ⟨gD, j * 2, none⟩ = some (.string x0) ∧ X.cell? ⟨gD, j * 2 + 1, none⟩ = some (.string x1) ∧ X.cell? ⟨w.heap.size + 1 + 1, 0, none⟩ = some (.string k) ∧ X.cell? ⟨w.heap.size + 1 + 1, 1, none⟩ = some (.string v)) (by kernel_rfl) (⟨e0, e1, e2, e3, e4⟩) (fun hHeld => ?_)
          refine wpAnyH_take (i := 0) (oi := { dst := some 60, op := Op.move (Operand.tmp 12), type := 4, pos := "ref.go:75", after := #[], guard := none }) (v := .bool false) rfl (by kernel_rfl) (by kernel_rfl) (by kernel_rfl) (fun _ _ _ h => h) (Or.inl ⟨by rfl, fun w hSw => by (obtain ⟨z1, z2, z3, z4, z5⟩ := hSw; go_simp)⟩) (by assumption) ?_
          try simp only [Act.put, List.setIfInBounds_toArray, List.set_cons_zero, List.set_cons_succ]
          refine wpAnyH_take (i := 1) (oi := { dst := some 61, op := Op.unOp UnOp.not 4 (Operand.tmp 60), type := 4, pos := "ref.go:75", after := #[{ on := 0, ground := Ground.data }], guard := none }) (v := .bool true) rfl (by kernel_rfl) (by kernel_rfl) (by kernel_rfl) (fun _ _ _ h => h) (Or.inl ⟨by rfl, fun w hSw => by (obtain ⟨z1, z2, z3, z4, z5⟩ := hSw; go_simp)⟩) (by assumption) ?_
          try simp only [Act.put, List.setIfInBounds_toArray, List.set_cons_zero, List.set_cons_succ]
          refine wpAnyH_take (i := 2) (oi := { dst := some 62, op := Op.move (Operand.tmp 61), type := 4, pos := "ref.go:75", after := #[{ on := 1, ground := Ground.data }], guard := none }) (v := .bool true) rfl (by kernel_rfl) (by kernel_rfl) (by kernel_rfl) (fun _ _ _ h => h) (Or.inl ⟨by rfl, fun w hSw => by (obtain ⟨z1, z2, z3, z4, z5⟩ := hSw; go_simp)⟩) (by assumption) ?_
          try simp only [Act.put, List.setIfInBounds_toArray, List.set_cons_zero, List.set_cons_succ]
          refine wpAnyH_take (i := 3) (oi := { dst := some 63, op := Op.fieldAddr 28 (Operand.tmp 9) 0, type := 0, pos := "ref.go:75", after := #[{ on := 2, ground := Ground.guard }], guard := some (2, true) }) (v := .pointer (some ⟨lb, 0, none⟩)) rfl (by kernel_rfl) (by kernel_rfl) (by kernel_rfl) (fun _ _ _ h => h) (Or.inl ⟨by rfl, fun w hSw => by (obtain ⟨z1, z2, z3, z4, z5⟩ := hSw; go_simp)⟩) (by assumption) ?_
          try simp only [Act.put, List.setIfInBounds_toArray, List.set_cons_zero, List.set_cons_succ]
          refine wpAnyH_take (i := 4) (oi := { dst := some 64, op := Op.load 24 (Operand.tmp 63), type := 24, pos := "ref.go:75", after := #[{ on := 3, ground := Ground.data }, { on := 2, ground := Ground.guard }], guard := some (2, true) }) (v := .slice (some ⟨gD, 0, none⟩) D.length c) rfl (by kernel_rfl) (by kernel_rfl) (by kernel_rfl) (fun _ _ _ h => h) (Or.inl ⟨by rfl, fun w hSw => by (obtain ⟨z1, z2, z3, z4, z5⟩ := hSw; go_simp)⟩) (by assumption) ?_
          try simp only [Act.put, List.setIfInBounds_toArray, List.set_cons_zero, List.set_cons_succ]
          refine wpAnyH_take (i := 5) (oi := { dst := some 65, op := Op.move (Operand.tmp 13), type := 3, pos := "ref.go:75", after := #[{ on := 2, ground := Ground.guard }], guard := some (2, true) }) (v := .int .i64 (j : Int)) rfl (by kernel_rfl) (by kernel_rfl) (by kernel_rfl) (fun _ _ _ h => h) (Or.inl ⟨by rfl, fun w hSw => by (obtain ⟨z1, z2, z3, z4, z5⟩ := hSw; go_simp)⟩) (by assumption) ?_
          try simp only [Act.put, List.setIfInBounds_toArray, List.set_cons_zero, List.set_cons_succ]
          refine wpAnyH_take (i := 6) (oi := { dst := some 66, op := Op.indexAddr 24 (Operand.tmp 64) (Operand.tmp 65), type := 0, pos := "ref.go:75", after := #[{ on := 4, ground := Ground.data }, { on := 5, ground := Ground.data }, { on := 2, ground := Ground.guard }], guard := some (2, true) }) (v := .pointer (some ⟨gD, j * 2, none⟩)) rfl (by kernel_rfl) (by kernel_rfl) (by kernel_rfl) (fun _ _ _ h => h) (Or.inl ⟨by rfl, fun w hSw => by (obtain ⟨z1, z2, z3, z4, z5⟩ := hSw; go_simp)⟩) (by assumption) ?_
          try simp only [Act.put, List.setIfInBounds_toArray, List.set_cons_zero, List.set_cons_succ]
          refine wpAnyH_take (i := 7) (oi := { dst := some 67, op := Op.fieldAddr 30 (Operand.tmp 66) 0, type := 0, pos := "ref.go:75", after := #[{ on := 6, ground := Ground.data }, { on := 2, ground := Ground.guard }], guard := some (2, true) }) (v := .pointer (some ⟨gD, j * 2, none⟩)) rfl (by kernel_rfl) (by kernel_rfl) (by kernel_rfl) (fun _ _ _ h => h) (Or.inl ⟨by rfl, fun w hSw => by (obtain ⟨z1, z2, z3, z4, z5⟩ := hSw; go_simp)⟩) (by assumption) ?_
          try simp only [Act.put, List.setIfInBounds_toArray, List.set_cons_zero, List.set_cons_succ]
          refine wpAnyH_take (i := 8) (oi := { dst := some 68, op := Op.load 9 (Operand.tmp 67), type := 9, pos := "ref.go:75", after := #[{ on := 7, ground := Ground.data }, { on := 2, ground := Ground.guard }], guard := some (2, true) }) (v := .string x0) rfl (by kernel_rfl) (by kernel_rfl) (by kernel_rfl) (fun _ _ _ h => h) (Or.inl ⟨by rfl, fun w hSw => by (obtain ⟨z1, z2, z3, z4, z5⟩ := hSw; go_simp)⟩) (by assumption) ?_
          try simp only [Act.put, List.setIfInBounds_toArray, List.set_cons_zero, List.set_cons_succ]
          refine wpAnyH_take (i := 9) (oi := { dst := some 69, op := Op.fieldAddr 30 (Operand.tmp 5) 0, type := 0, pos := "ref.go:75", after := #[{ on := 2, ground := Ground.guard }], guard := some (2, true) }) (v := .pointer (some ⟨w.heap.size + 1 + 1, 0, none⟩)) rfl (by kernel_rfl) (by kernel_rfl) (by kernel_rfl) (fun _ _ _ h => h) (Or.inl ⟨by rfl, fun w hSw => by (obtain ⟨z1, z2, z3, z4, z5⟩ := hSw; go_simp)⟩) (by assumption) ?_
          try simp only [Act.put, List.setIfInBounds_toArray, List.set_cons_zero, List.set_cons_succ]
          refine wpAnyH_take (i := 10) (oi := { dst := some 70, op := Op.load 9 (Operand.tmp 69), type := 9, pos := "ref.go:75", after := #[{ on := 9, ground := Ground.data }, { on := 2, ground := Ground.guard }], guard := some (2, true) }) (v := .string k) rfl (by kernel_rfl) (by kernel_rfl) (by kernel_rfl) (fun _ _ _ h => h) (Or.inl ⟨by rfl, fun w hSw => by (obtain ⟨z1, z2, z3, z4, z5⟩ := hSw; go_simp)⟩) (by assumption) ?_
          try simp only [Act.put, List.setIfInBounds_toArray, List.set_cons_zero, List.set_cons_succ]
          refine wpAnyH_take (i := 11) (oi := { dst := some 71, op := Op.binOp BinOp.gtr 9 (Operand.tmp 68) (Operand.tmp 70) 9, type := 4, pos := "ref.go:75", after := #[{ on := 8, ground := Ground.data }, { on := 10, ground := Ground.data }, { on := 2, ground := Ground.guard }], guard := some (2, true) }) (v := .bool true) rfl (by kernel_rfl) (by kernel_rfl) (by kernel_rfl) (fun _ _ _ h => h) (Or.inl ⟨by rfl, fun w hSw => by (obtain ⟨z1, z2, z3, z4, z5⟩ := hSw; go_simp; exact HGT.out)⟩) (by assumption) ?_
          try simp only [Act.put, List.setIfInBounds_toArray, List.set_cons_zero, List.set_cons_succ]
          refine wpAnyH_take (i := 12) (oi := { dst := some 72, op := Op.pick (Operand.tmp 62) (Operand.tmp 71) (Operand.const (Value.bool false)), type := 4, pos := "ref.go:75", after := #[{ on := 2, ground := Ground.data }, { on := 11, ground := Ground.data }], guard := none }) (v := .bool true) rfl (by kernel_rfl) (by kernel_rfl) (by kernel_rfl) (fun _ _ _ h => h) (Or.inl ⟨by rfl, fun w hSw => by (obtain ⟨z1, z2, z3, z4, z5⟩ := hSw; go_simp)⟩) (by assumption) ?_
          try simp only [Act.put, List.setIfInBounds_toArray, List.set_cons_zero, List.set_cons_succ]
          refine wpAnyH_done (by kernel_rfl) ?_ _
          obtain ⟨Wx, hWx⟩ : ∃ Wx, Wx = wr.drew := ⟨_, rfl⟩
          have HGx : Hid (GS U Wx ob aoX cX OX) := by rw [hWx]; exact HGx.out.drew
          rw [← hWx] at ⊢
          have e0 : Wx.cell? ⟨lb, 0, none⟩ = some (.slice (some ⟨gD, 0, none⟩) D.length c) := by rw [hWx]; exact e0
          have e1 : Wx.cell? ⟨gD, j * 2, none⟩ = some (.string x0) := by rw [hWx]; exact e1
          have e2 : Wx.cell? ⟨gD, j * 2 + 1, none⟩ = some (.string x1) := by rw [hWx]; exact e2
          have e3 : Wx.cell? ⟨w.heap.size + 1 + 1, 0, none⟩ = some (.string k) := by rw [hWx]; exact e3
          have e4 : Wx.cell? ⟨w.heap.size + 1 + 1, 1, none⟩ = some (.string v) := by rw [hWx]; exact e4
          clear hWx
          have o0 := HGx.out.box.1
          go_wp2_with (at_builtin; go_must (refine wpList_append_lies _ (by rfl) _ _ _ (by rfl) U.heap.size 30 i0P (.agg #[.string ⟨#[]⟩, .string ⟨#[]⟩]) 2 32 Try.underlying24 hiP hz0P hz1P hz2P rfl (by decide) _ _ _ (by rfl) (HGx.out.alloc _).own ⟨Wx.heap.size, 0, none⟩ 1 1 [.string k, .string v] (by rfl) rfl (World.news_of_block (heap_alloc_new Wx _)) (by simp [Value.oneCell']) (by decide) ?_ ?_ ?_ (Wx.heap.size + 1) (by simp) ?_))
          · unfold maxLen; omega
          · omega
          · exact (HGx.out.alloc _).fr.size
          intro g1 cap1 W1 own1 grow1 _ _
          obtain ⟨G1, p0, p1⟩ := (HGx.out.alloc _).grow (x := (k, v)) own1 grow1
          rw [← HOY.out] at G1
          have HG1 : Hid (GS U (W1.setCell ⟨ob, 0, none⟩ (.slice (some ⟨g1, 0, none⟩) (OX.length + 1) cap1)) ob (some ⟨g1, 0, none⟩) cap1 OY) := G1
          clear G1 own1 grow1 o0 e0 e1 e2 e3 e4 HGx
          go_wp2_with fail
          obtain ⟨aoY, haY⟩ : ∃ a, a = some (⟨g1, 0, none⟩ : Addr) := ⟨_, rfl⟩
          rw [← haY] at HG1
          obtain ⟨Wx, hWx⟩ : ∃ Wx, Wx = W1.setCell ⟨ob, 0, none⟩ (.slice (some ⟨g1, 0, none⟩) (OX.length + 1) cap1) := ⟨_, rfl⟩
          rw [haY, ← hWx, ← haY] at HG1
          rw [← hWx]
          have HGx : Hid (GS U Wx ob aoY cap1 OY) := HG1
          obtain ⟨b0, b1, b2, b3, b4⟩ := HF.out
          obtain ⟨hz1, hz2, hz3, hgl⟩ := HZ.out
          have e0 := HGx.out.keep (a := ⟨lb, 0, none⟩) (by simp only; omega) b0
          have e1 := HGx.out.keep (a := ⟨gD, j * 2, none⟩) (by simp only; omega) b1
          have e2 := HGx.out.keep (a := ⟨gD, j * 2 + 1, none⟩) (by simp only; omega) b2
          have e3 := HGx.out.keep (a := ⟨w.heap.size + 1 + 1, 0, none⟩) (by simp only; omega) b3
          have e4 := HGx.out.keep (a := ⟨w.heap.size + 1 + 1, 1, none⟩) (by simp only; omega) b4
          clear hWx haY HG1 p0 p1 b0 b1 b2 b3 b4 hz1 hz2 hz3 hgl
          refine wp_region_held_drew (S := fun X => X.cell? ⟨lb, 0, none⟩ = some (.slice (some ⟨gD, 0, none⟩) D.length c) ∧ X.cell? ⟨gD, j * 2, none⟩ = some (.string x0) ∧ X.cell? ⟨gD, j * 2 + 1, none⟩ = some (.string x1) ∧ X.cell? ⟨w.heap.size + 1 + 1, 0, none⟩ = some (.string k) ∧ X.cell? ⟨w.heap.size + 1 + 1, 1, none⟩ = some (.string v)) (by kernel_rfl) (⟨e0, e1, e2, e3, e4⟩) (fun hHeld => ?_)
          refine wpAnyH_take (i := 0) (oi := { dst := some 79, op := Op.fieldAddr 28 (Operand.tmp 11) 0, type := 0, pos := "ref.go:79", after := #[], guard := none }) (v := .pointer (some ⟨ob, 0, none⟩)) rfl (by kernel_rfl) (by kernel_rfl) (by kernel_rfl) (fun _ _ _ h => h) (Or.inl ⟨by rfl, fun w hSw => by (obtain ⟨z1, z2, z3, z4, z5⟩ := hSw; go_simp)⟩) (by assumption) ?_
          try simp only [Act.put, List.setIfInBounds_toArray, List.set_cons_zero, List.set_cons_succ]
          refine wpAnyH_take (i := 2) (oi := { dst := some 81, op := Op.fieldAddr 28 (Operand.tmp 9) 0, type := 0, pos := "ref.go:79", after := #[], guard := none }) (v := .pointer (some ⟨lb, 0, none⟩)) rfl (by kernel_rfl) (by kernel_rfl) (by kernel_rfl) (fun _ _ _ h => h) (Or.inl ⟨by rfl, fun w hSw => by (obtain ⟨z1, z2, z3, z4, z5⟩ := hSw; go_simp)⟩) (by assumption) ?_
          try simp only [Act.put, List.setIfInBounds_toArray, List.set_cons_zero, List.set_cons_succ]
          refine wpAnyH_take (i := 3) (oi := { dst := some 82, op := Op.load 24 (Operand.tmp 81), type := 24, pos := "ref.go:79", after := #[{ on := 2, ground := Ground.data }], guard := none }) (v := .slice (some ⟨gD, 0, none⟩) D.length c) rfl (by kernel_rfl) (by kernel_rfl) (by kernel_rfl) (fun _ _ _ h => h) (Or.inl ⟨by rfl, fun w hSw => by (obtain ⟨z1, z2, z3, z4, z5⟩ := hSw; go_simp)⟩) (by assumption) ?_
          try simp only [Act.put, List.setIfInBounds_toArray, List.set_cons_zero, List.set_cons_succ]
          refine wpAnyH_take (i := 4) (oi := { dst := some 83, op := Op.move (Operand.tmp 13), type := 3, pos := "ref.go:79", after := #[], guard := none }) (v := .int .i64 (j : Int)) rfl (by kernel_rfl) (by kernel_rfl) (by kernel_rfl) (fun _ _ _ h => h) (Or.inl ⟨by rfl, fun w hSw => by (obtain ⟨z1, z2, z3, z4, z5⟩ := hSw; go_simp)⟩) (by assumption) ?_
          try simp only [Act.put, List.setIfInBounds_toArray, List.set_cons_zero, List.set_cons_succ]
          refine wpAnyH_take (i := 5) (oi := { dst := some 84, op := Op.indexAddr 24 (Operand.tmp 82) (Operand.tmp 83), type := 0, pos := "ref.go:79", after := #[{ on := 3, ground := Ground.data }, { on := 4, ground := Ground.data }], guard := none }) (v := .pointer (some ⟨gD, j * 2, none⟩)) rfl (by kernel_rfl) (by kernel_rfl) (by kernel_rfl) (fun _ _ _ h => h) (Or.inl ⟨by rfl, fun w hSw => by (obtain ⟨z1, z2, z3, z4, z5⟩ := hSw; go_simp)⟩) (by assumption) ?_
          try simp only [Act.put, List.setIfInBounds_toArray, List.set_cons_zero, List.set_cons_succ]
          refine wpAnyH_take (i := 6) (oi := { dst := some 85, op := Op.load 30 (Operand.tmp 84), type := 30, pos := "ref.go:79", after := #[{ on := 5, ground := Ground.data }], guard := none }) (v := .agg #[.string x0, .string x1]) rfl (by kernel_rfl) (by kernel_rfl) (by kernel_rfl) (fun _ _ _ h => h) (Or.inl ⟨by rfl, fun w hSw => by (obtain ⟨z1, z2, z3, z4, z5⟩ := hSw; go_simp)⟩) (by assumption) ?_
          try simp only [Act.put, List.setIfInBounds_toArray, List.set_cons_zero, List.set_cons_succ]
          have GD : GS U Wx.drew ob aoY cap1 OY := HGx.out.drew
          have s1 : Same Wx.drew (Wx.drew.alloc (.cells #[.string x0, .string x1] 30)) := (Fr.refl _ _).alloc _
          have GA := GD.alloc (.cells #[.string x0, .string x1] 30)
          have o0 := HGx.out.box.1
          have o0b : (Wx.alloc (.cells #[.string x0, .string x1] 30)).cell? ⟨ob, 0, none⟩ = some (.slice aoY OY.length cap1) := keepA' o0 _
          have FF : (Wx.drew.alloc (.cells #[.string x0, .string x1] 30)).cell? ⟨lb, 0, none⟩ = some (.slice (some ⟨gD, 0, none⟩) D.length c) ∧ (Wx.drew.alloc (.cells #[.string x0, .string x1] 30)).cell? ⟨gD, j * 2, none⟩ = some (.string x0) ∧ (Wx.drew.alloc (.cells #[.string x0, .string x1] 30)).cell? ⟨gD, j * 2 + 1, none⟩ = some (.string x1) ∧ (Wx.drew.alloc (.cells #[.string x0, .string x1] 30)).cell? ⟨w.heap.size + 1 + 1, 0, none⟩ = some (.string k) ∧ (Wx.drew.alloc (.cells #[.string x0, .string x1] 30)).cell? ⟨w.heap.size + 1 + 1, 1, none⟩ = some (.string v) := ⟨s1.keep e0, s1.keep e1, s1.keep e2, s1.keep e3, s1.keep e4⟩
          refine wpAnyH_ready (rs := [1, 7]) (by kernel_rfl) (by simp) ?_
          refine AllReadyH.cons (o := { dst := some 80, op := Op.load 24 (Operand.tmp 79), type := 24, pos := "ref.go:79", after := #[{ on := 0, ground := Ground.data }], guard := none }) rfl (fun K hK => ?_) (AllReadyH.cons (o := { dst := some 86, op := Op.buildSlice 24 1 #[(0, Operand.tmp 85)], type := 24, pos := "ref.go:79", after := #[{ on := 6, ground := Ground.data }], guard := none }) rfl (fun K hK => ?_) AllReadyH.nil)
          · go_simp
            refine hK.out _ _ ⟨e0, e1, e2, e3, e4⟩ (fun hHeld => ?_)
            clear hK K
            try simp only [Act.put, List.setIfInBounds_toArray, List.set_cons_zero, List.set_cons_succ]
            refine wpAnyH_ready (rs := [7]) (by kernel_rfl) (by simp) ?_
            refine AllReadyH.cons (o := { dst := some 86, op := Op.buildSlice 24 1 #[(0, Operand.tmp 85)], type := 24, pos := "ref.go:79", after := #[{ on := 6, ground := Ground.data }], guard := none }) rfl (fun K hK => ?_) AllReadyH.nil
            go_simp
            refine hK.out _ _ FF (fun hHeld => ?_)
            clear hK K
            try simp only [Act.put, List.setIfInBounds_toArray, List.set_cons_zero, List.set_cons_succ]
            refine wpAnyH_ready (rs := [8]) (by kernel_rfl) (by simp) ?_
            refine AllReadyH.cons (o := { dst := some 87, op := Op.call { callee := Callee.builtin Builtin.append, args := #[Operand.tmp 80, Operand.tmp 86], argTypes := #[24, 24] }, type := 24, pos := "ref.go:79", after := #[{ on := 1, ground := Ground.data }, { on := 7, ground := Ground.data }], guard := none }) rfl (fun K hK => ?_) AllReadyH.nil
            refine step_append_lies _ rfl _ _ _ rfl U.heap.size 30 i0P (.agg #[.string ⟨#[]⟩, .string ⟨#[]⟩]) 2 32 Try.underlying24 hiP hz0P hz1P hz2P rfl (by decide) _ _ _ (by rfl) GA.own ⟨Wx.heap.size, 0, none⟩ 1 1 [.string x0, .string x1] (by rfl) rfl (World.news_of_block (heap_alloc_new Wx.drew _)) (by simp [Value.oneCell']) (by decide) (by unfold maxLen; omega) (by omega) (by have := GA.fr.size; exact this) _ rfl ?_
            intro g2 cap2 W6 own6 grow6 _ _
            obtain ⟨G6, p0, p1⟩ := GA.grow (x := (x0, x1)) own6 grow6
            have kk : ∀ (a : Addr) u, a.block < U.heap.size → (Wx.drew.alloc (.cells #[.string x0, .string x1] 30)).cell? a = some u → W6.cell? a = some u := fun a u ha hu => by
              refine World.grownBy.cell grow6 hu (fun e => ?_)
              have := GA.own.lt a.block e.symm
              omega
            have hz := HZ.out
            have F6 : W6.cell? ⟨lb, 0, none⟩ = some (.slice (some ⟨gD, 0, none⟩) D.length c) ∧ W6.cell? ⟨gD, j * 2, none⟩ = some (.string x0) ∧ W6.cell? ⟨gD, j * 2 + 1, none⟩ = some (.string x1) ∧ W6.cell? ⟨w.heap.size + 1 + 1, 0, none⟩ = some (.string k) ∧ W6.cell? ⟨w.heap.size + 1 + 1, 1, none⟩ = some (.string v) := ⟨kk _ _ (by simp only; omega) FF.1, kk _ _ (by simp only; omega) FF.2.1, kk _ _ (by simp only; omega) FF.2.2.1, kk _ _ (by simp only; omega) FF.2.2.2.1, kk _ _ (by simp only; omega) FF.2.2.2.2⟩
            clear hz
            refine hK.out _ _ F6 (fun hHeld => ?_)
            clear hK K
            try simp only [Act.put, List.setIfInBounds_toArray, List.set_cons_zero, List.set_cons_succ]
            refine wpAnyH_take (i := 9) (oi := { dst := some 88, op := Op.fieldAddr 28 (Operand.tmp 11) 0, type := 0, pos := "ref.go:79", after := #[{ on := 0, ground := Ground.phase }, { on := 1, ground := Ground.phase }, { on := 2, ground := Ground.phase }, { on := 3, ground := Ground.phase }, { on := 4, ground := Ground.phase }, { on := 5, ground := Ground.phase }, { on := 6, ground := Ground.phase }, { on := 7, ground := Ground.phase }, { on := 8, ground := Ground.phase }], guard := none }) (v := .pointer (some ⟨ob, 0, none⟩)) rfl (by kernel_rfl) (by kernel_rfl) (by kernel_rfl) (fun _ _ _ h => h) (Or.inl ⟨by rfl, fun w hSw => by (obtain ⟨z1, z2, z3, z4, z5⟩ := hSw; go_simp)⟩) (by assumption) ?_
            try simp only [Act.put, List.setIfInBounds_toArray, List.set_cons_zero, List.set_cons_succ]
            refine wpAnyH_ready (rs := [10]) (by kernel_rfl) (by simp) ?_
            refine AllReadyH.cons (o := { dst := none, op := Op.store 24 (Operand.tmp 88) (Operand.tmp 87), type := 0, pos := "ref.go:79", after := #[{ on := 9, ground := Ground.data }, { on := 8, ground := Ground.data }, { on := 8, ground := Ground.chain }, { on := 0, ground := Ground.phase }, { on := 1, ground := Ground.phase }, { on := 2, ground := Ground.phase }, { on := 3, ground := Ground.phase }, { on := 4, ground := Ground.phase }, { on := 5, ground := Ground.phase }, { on := 6, ground := Ground.phase }, { on := 7, ground := Ground.phase }, { on := 8, ground := Ground.phase }], guard := none }) rfl (fun K hK => ?_) AllReadyH.nil
            go_simp
            have hz := HZ.out
            have fs : Fr (fun kk => kk = ob) W6 (W6.setCell ⟨ob, 0, none⟩ (.slice (some ⟨g2, 0, none⟩) (OY.length + 1) cap2)) := (Fr.refl (fun kk => kk = ob) W6).setCell (p := ⟨ob, 0, none⟩) (fun _ => rfl) _
            have kf : ∀ (a : Addr) u, a.block ≠ ob → W6.cell? a = some u → (W6.setCell ⟨ob, 0, none⟩ (.slice (some ⟨g2, 0, none⟩) (OY.length + 1) cap2)).cell? a = some u := fun a u ha hu => (fs.cell (World.block_lt_of_cell? _ _ hu) ha).trans hu
            refine hK.out _ _ ⟨kf _ _ (by simp only; omega) F6.1, kf _ _ (by simp only; omega) F6.2.1, kf _ _ (by simp only; omega) F6.2.2.1, kf _ _ (by simp only; omega) F6.2.2.2.1, kf _ _ (by simp only; omega) F6.2.2.2.2⟩ (fun hHeld => ?_)
            clear hK K
            refine wpAnyH_done (by kernel_rfl) ?_ _
            have HG6 : Hid (GS U (W6.setCell ⟨ob, 0, none⟩ (.slice (some ⟨g2, 0, none⟩) (OY.length + 1) cap2)) ob (some ⟨g2, 0, none⟩) cap2 (OY ++ [(x0, x1)])) := G6
            clear G6 p0 p1 kk kf F6 FF fs own6 grow6 GA GD o0 o0b s1 HGx hz e0 e1 e2 e3 e4
            go_wp2_with fail
            go_roundg (D.length - (j + 1))
            case measure => omega
            case rel => exact ⟨j + 1, true, some ⟨g2, 0, none⟩, cap2, OY ++ [(x0, x1)], rfl, by go_num, by omega, rfl, HG6, HEQ⟩
          · go_simp
            refine hK.out _ _ FF (fun hHeld => ?_)
            clear hK K
            try simp only [Act.put, List.setIfInBounds_toArray, List.set_cons_zero, List.set_cons_succ]
            refine wpAnyH_ready (rs := [1]) (by kernel_rfl) (by simp) ?_
            refine AllReadyH.cons (o := { dst := some 80, op := Op.load 24 (Operand.tmp 79), type := 24, pos := "ref.go:79", after := #[{ on := 0, ground := Ground.data }], guard := none }) rfl (fun K hK => ?_) AllReadyH.nil
            go_simp
            refine hK.out _ _ FF (fun hHeld => ?_)
            clear hK K
            try simp only [Act.put, List.setIfInBounds_toArray, List.set_cons_zero, List.set_cons_succ]
            refine wpAnyH_ready (rs := [8]) (by kernel_rfl) (by simp) ?_
            refine AllReadyH.cons (o := { dst := some 87, op := Op.call { callee := Callee.builtin Builtin.append, args := #[Operand.tmp 80, Operand.tmp 86], argTypes := #[24, 24] }, type := 24, pos := "ref.go:79", after := #[{ on := 1, ground := Ground.data }, { on := 7, ground := Ground.data }], guard := none }) rfl (fun K hK => ?_) AllReadyH.nil
            refine step_append_lies _ rfl _ _ _ rfl U.heap.size 30 i0P (.agg #[.string ⟨#[]⟩, .string ⟨#[]⟩]) 2 32 Try.underlying24 hiP hz0P hz1P hz2P rfl (by decide) _ _ _ (by rfl) GA.own ⟨Wx.heap.size, 0, none⟩ 1 1 [.string x0, .string x1] (by rfl) rfl (World.news_of_block (heap_alloc_new Wx.drew _)) (by simp [Value.oneCell']) (by decide) (by unfold maxLen; omega) (by omega) (by have := GA.fr.size; exact this) _ rfl ?_
            intro g2 cap2 W6 own6 grow6 _ _
            obtain ⟨G6, p0, p1⟩ := GA.grow (x := (x0, x1)) own6 grow6
            have kk : ∀ (a : Addr) u, a.block < U.heap.size → (Wx.drew.alloc (.cells #[.string x0, .string x1] 30)).cell? a = some u → W6.cell? a = some u := fun a u ha hu => by
              refine World.grownBy.cell grow6 hu (fun e => ?_)
              have := GA.own.lt a.block e.symm
              omega
            have hz := HZ.out
            have F6 : W6.cell? ⟨lb, 0, none⟩ = some (.slice (some ⟨gD, 0, none⟩) D.length c) ∧ W6.cell? ⟨gD, j * 2, none⟩ = some (.string x0) ∧ W6.cell? ⟨gD, j * 2 + 1, none⟩ = some (.string x1) ∧ W6.cell? ⟨w.heap.size + 1 + 1, 0, none⟩ = some (.string k) ∧ W6.cell? ⟨w.heap.size + 1 + 1, 1, none⟩ = some (.string v) := ⟨kk _ _ (by simp only; omega) FF.1, kk _ _ (by simp only; omega) FF.2.1, kk _ _ (by simp only; omega) FF.2.2.1, kk _ _ (by simp only; omega) FF.2.2.2.1, kk _ _ (by simp only; omega) FF.2.2.2.2⟩
            clear hz
            refine hK.out _ _ F6 (fun hHeld => ?_)
            clear hK K
            try simp only [Act.put, List.setIfInBounds_toArray, List.set_cons_zero, List.set_cons_succ]
            refine wpAnyH_take (i := 9) (oi := { dst := some 88, op := Op.fieldAddr 28 (Operand.tmp 11) 0, type := 0, pos := "ref.go:79", after := #[{ on := 0, ground := Ground.phase }, { on := 1, ground := Ground.phase }, { on := 2, ground := Ground.phase }, { on := 3, ground := Ground.phase }, { on := 4, ground := Ground.phase }, { on := 5, ground := Ground.phase }, { on := 6, ground := Ground.phase }, { on := 7, ground := Ground.phase }, { on := 8, ground := Ground.phase }], guard := none }) (v := .pointer (some ⟨ob, 0, none⟩)) rfl (by kernel_rfl) (by kernel_rfl) (by kernel_rfl) (fun _ _ _ h => h) (Or.inl ⟨by rfl, fun w hSw => by (obtain ⟨z1, z2, z3, z4, z5⟩ := hSw; go_simp)⟩) (by assumption) ?_
            try simp only [Act.put, List.setIfInBounds_toArray, List.set_cons_zero, List.set_cons_succ]
            refine wpAnyH_ready (rs := [10]) (by kernel_rfl) (by simp) ?_
            refine AllReadyH.cons (o := { dst := none, op := Op.store 24 (Operand.tmp 88) (Operand.tmp 87), type := 0, pos := "ref.go:79", after := #[{ on := 9, ground := Ground.data }, { on := 8, ground := Ground.data }, { on := 8, ground := Ground.chain }, { on := 0, ground := Ground.phase }, { on := 1, ground := Ground.phase }, { on := 2, ground := Ground.phase }, { on := 3, ground := Ground.phase }, { on := 4, ground := Ground.phase }, { on := 5, ground := Ground.phase }, { on := 6, ground := Ground.phase }, { on := 7, ground := Ground.phase }, { on := 8, ground := Ground.phase }], guard := none }) rfl (fun K hK => ?_) AllReadyH.nil
            go_simp
            have hz := HZ.out
            have fs : Fr (fun kk => kk = ob) W6 (W6.setCell ⟨ob, 0, none⟩ (.slice (some ⟨g2, 0, none⟩) (OY.length + 1) cap2)) := (Fr.refl (fun kk => kk = ob) W6).setCell (p := ⟨ob, 0, none⟩) (fun _ => rfl) _
            have kf : ∀ (a : Addr) u, a.block ≠ ob → W6.cell? a = some u → (W6.setCell ⟨ob, 0, none⟩ (.slice (some ⟨g2, 0, none⟩) (OY.length + 1) cap2)).cell? a = some u := fun a u ha hu => (fs.cell (World.block_lt_of_cell? _ _ hu) ha).trans hu
            refine hK.out _ _ ⟨kf _ _ (by simp only; omega) F6.1, kf _ _ (by simp only; omega) F6.2.1, kf _ _ (by simp only; omega) F6.2.2.1, kf _ _ (by simp only; omega) F6.2.2.2.1, kf _ _ (by simp only; omega) F6.2.2.2.2⟩ (fun hHeld => ?_)
            clear hK K
            refine wpAnyH_done (by kernel_rfl) ?_ _
            have HG6 : Hid (GS U (W6.setCell ⟨ob, 0, none⟩ (.slice (some ⟨g2, 0, none⟩) (OY.length + 1) cap2)) ob (some ⟨g2, 0, none⟩) cap2 (OY ++ [(x0, x1)])) := G6
            clear G6 p0 p1 kk kf F6 FF fs own6 grow6 GA GD o0 o0b s1 HGx hz e0 e1 e2 e3 e4
            go_wp2_with fail
            go_roundg (D.length - (j + 1))
            case measure => omega
            case rel => exact ⟨j + 1, true, some ⟨g2, 0, none⟩, cap2, OY ++ [(x0, x1)], rfl, by go_num, by omega, rfl, HG6, HEQ⟩
    · obtain rfl : j = D.length := by omega
      obtain ⟨kc0, kc1, lc0⟩ := HKC.out
      have e0 := HGx.out.keep (a := ⟨lb, 0, none⟩) (by simp only; omega) lc0
      have e3 := HGx.out.keep (a := ⟨w.heap.size + 1 + 1, 0, none⟩) (by simp only; omega) kc0
      have e4 := HGx.out.keep (a := ⟨w.heap.size + 1 + 1, 1, none⟩) (by simp only; omega) kc1
      have o0 := HGx.out.box
      have HZ : Hid (U.heap.size = lb + 2 ∧ ob = lb + 1 ∧ w.heap.size + 4 ≤ lb) := ⟨hz1, hz2, hz3⟩
      clear hz1 hz2 hz3 kc0 kc1 lc0
      obtain ⟨o0, o1, o2, o3⟩ := o0
      cases lf with
      | true =>
        obtain rfl : OX = putL k v D := by
          have e := HE.out
          rw [if_pos rfl, List.drop_length, List.append_nil] at e
          exact e
        have r6 : wr.heap[w.heap.size + 1 + 1 + 1]? = some (.cells #[.slice none 0 0, .slice none 0 0, .slice none 0 0] 28 (0, 0)) := (HGx.out.fr.block _ (by have := HZ.out; omega) (by have := HZ.out; omega)).trans ((HVU.out.block _ (by have := HVZ.out; omega) id).trans HG3.out)
        clear HE
        go_wp2_with (refine wpList_store_whole (by rfl) 28 _ _ (by rfl) (w.heap.size + 1 + 1 + 1) #[.slice aoX (putL k v D).length cX, .slice none 0 0, .slice none 0 0] #[.slice none 0 0, .slice none 0 0, .slice none 0 0] 28 (by rfl) (by rfl) r6 rfl (by kernel_rfl) (by kernel_rfl) ?_; intro W7 r7 f7)
        have hz := HZ.out
        have LL := HGx.out
        have o7 := own_frameB LL.own f7 (fun kk hk e => by have := LL.own.lt kk hk; omega)
        exact bodyPost_ret (results_row_tmp2 (p := 6) (u := 7) (u2 := 8) (ty := 28) (by kernel_rfl) _ _ (w.heap.size + 1 + 1 + 1) 28 _ (0, 0) _ rfl r7 Try.underlying28 rfl (by kernel_rfl)) rfl ⟨aoX, cX, rfl, ⟨own_base o7 (by omega)⟩, Fr.trans (Fr.trans (Fr.mono (S := fun _ => False) HSU.out (fun _ _ f => f.elim)) LL.fr (fun i hi e => by omega)) f7 (fun i hi e => by omega)⟩
      | false =>
        have hOY : OX ++ [(k, v)] = putL k v D := by
          have e := HE.out
          rw [if_neg Bool.false_ne_true, List.drop_length, putL] at e
          exact e
        have HOY : Hid (OX ++ [(k, v)] = putL k v D) := hOY
        have HOL : Hid ((putL k v D).length = OX.length + 1) := by show _ = _; rw [← hOY]; simp
        clear hOY HE
        go_wp2_with (at_builtin; go_must (refine wpList_append_lies _ (by rfl) _ _ _ (by rfl) U.heap.size 30 i0P (.agg #[.string ⟨#[]⟩, .string ⟨#[]⟩]) 2 32 Try.underlying24 hiP hz0P hz1P hz2P rfl (by decide) _ _ _ (by rfl) (HGx.out.alloc _).own ⟨wr.heap.size, 0, none⟩ 1 1 [.string k, .string v] (by rfl) rfl (World.news_of_block (heap_alloc_new wr _)) (by simp [Value.oneCell']) (by decide) ?_ ?_ ?_ (wr.heap.size + 1) (by simp) ?_))
        · unfold maxLen; omega
        · omega
        · exact (HGx.out.alloc _).fr.size
        intro g1 cap1 W1 own1 grow1 _ _
        have GA := HGx.out.alloc (.cells #[.string k, .string v] 30)
        have kk : ∀ (a : Addr) u, a.block < U.heap.size → (wr.alloc (.cells #[.string k, .string v] 30)).cell? a = some u → W1.cell? a = some u := fun a u ha hu => by
          refine World.grownBy.cell grow1 hu (fun e => ?_)
          have := GA.own.lt a.block e.symm
          omega
        have hlt := GA.lt
        have q1 := kk ⟨ob, 1, none⟩ _ (by simp only; omega) GA.box.2.2.1
        have q2 := kk ⟨ob, 2, none⟩ _ (by simp only; omega) GA.box.2.2.2
        obtain ⟨G1, p0, p1⟩ := GA.grow (x := (k, v)) own1 grow1
        rw [HOY.out] at G1
        have r6 : (W1.setCell ⟨ob, 0, none⟩ (.slice (some ⟨g1, 0, none⟩) (OX.length + 1) cap1)).heap[w.heap.size + 1 + 1 + 1]? = some (.cells #[.slice none 0 0, .slice none 0 0, .slice none 0 0] 28 (0, 0)) := (G1.fr.block _ (by have := HZ.out; omega) (by have := HZ.out; omega)).trans ((HVU.out.block _ (by have := HVZ.out; omega) id).trans HG3.out)
        have HG1 : Hid (GS U (W1.setCell ⟨ob, 0, none⟩ (.slice (some ⟨g1, 0, none⟩) (OX.length + 1) cap1)) ob (some ⟨g1, 0, none⟩) cap1 (putL k v D)) := G1
        clear G1 own1 grow1 o0 o1 o2 o3 e0 e3 e4 HGx GA kk hlt
        go_wp2_with (refine wpList_store_whole (by rfl) 28 _ _ (by rfl) (w.heap.size + 1 + 1 + 1) #[.slice (some ⟨g1, 0, none⟩) (OX.length + 1) cap1, .slice none 0 0, .slice none 0 0] #[.slice none 0 0, .slice none 0 0, .slice none 0 0] 28 (by rfl) (by rfl) r6 rfl (by kernel_rfl) (by kernel_rfl) ?_; intro W7 r7 f7)
        rw [← HOL.out] at r7
        have hz := HZ.out
        have LL := HG1.out
        have o7 := own_frameB LL.own f7 (fun kk hk e => by have := LL.own.lt kk hk; omega)
        exact bodyPost_ret (results_row_tmp2 (p := 6) (u := 7) (u2 := 8) (ty := 28) (by kernel_rfl) _ _ (w.heap.size + 1 + 1 + 1) 28 _ (0, 0) _ rfl r7 Try.underlying28 rfl (by kernel_rfl)) rfl ⟨some ⟨g1, 0, none⟩, cap1, rfl, ⟨own_base o7 (by omega)⟩, Fr.trans (Fr.trans (Fr.mono (S := fun _ => False) HSU.out (fun _ _ f => f.elim)) LL.fr (fun i hi e => by omega)) f7 (fun i hi e => by omega)⟩
end Go.Proofs.Ytkkjalmedogmeaa
