/- with, without, first. -/
import Derived.Test.YtmgkdnejjemfeaaK2
import Derived.Deep.RegionHeld3
namespace Go.Proofs.Ytmgkdnejjemfeaa
open Go.RowKit

theorem Try.szPair (W : World) : (sizeOf 48).run Try.prog W = .ok 2 W := by kernel_rfl
theorem Try.elPair : Try.prog.elem 24 = 48 := by kernel_rfl
/-- l[k:], its place a letter. -/
theorem low_pairs {ao : Option Addr} {n c k : Nat} (hk : k ≤ n) (hc : n ≤ c) (ha : ao = none → n = 0 ∧ c = 0) : ∃ ad : Option Addr, (∀ W : World, (Instr.sliceAt 24 (.slice ao n c) (some (.int .i64 (k : Int))) none none).run Try.prog W = .ok (.slice ad (n - k) (c - k)) W) ∧
    (ad = none → n - k = 0 ∧ c - k = 0) ∧ (∀ a, ao = some a → k < c → ad = some (a.add (k * 2))) := by
  have hu : Try.prog.underlying 24 = some (.slice (Try.prog.elem 24)) := by rw [Try.elPair]; exact Try.underlying24
  have hr : ∀ W : World, (Instr.sliceAt 24 (.slice ao n c) (some (.int .i64 (k : Int))) none none).run Try.prog W = .ok (sliced ao k n c 2) W := fun W => by
    rw [run_sliceAt_slice W _ _ _ _ _ hu, run_slice_l W _ _ _ _ hu .i64 (k : Int) (by omega) (by omega), Try.elPair, Try.szPair]
    simp [Result.andThen]
  cases ao with
  | none =>
    obtain ⟨rfl, rfl⟩ := ha rfl
    obtain rfl : k = 0 := by omega
    exact ⟨none, fun W => by rw [hr W]; simp [sliced], fun _ => ⟨rfl, rfl⟩, fun a e => by cases e⟩
  | some a =>
    by_cases hkc : c = k
    · exact ⟨some a, fun W => by rw [hr W]; simp [sliced, hkc], fun e => (by cases e), fun b _ hlt => by omega⟩
    · exact ⟨some (a.add (k * 2)), fun W => by rw [hr W]; simp [sliced, hkc], fun e => (by cases e), fun b e _ => by cases e; rfl⟩
/-- l[:i]. -/
theorem high_pairs {ao : Option Addr} {n c i : Nat} (hi : i ≤ n) (hc : n ≤ c) (W : World) : (Instr.sliceAt 24 (.slice ao n c) none (some (.int .i64 (i : Int))) none).run Try.prog W = .ok (.slice ao i c) W := by
  have hu : Try.prog.underlying 24 = some (.slice (Try.prog.elem 24)) := by rw [Try.elPair]; exact Try.underlying24
  rw [run_sliceAt_slice W _ _ _ _ _ hu, run_slice_h W _ _ _ _ hu .i64 (i : Int) (by omega) (by omega), Try.elPair, Try.szPair]
  cases ao <;> simp [Result.andThen, sliced, Addr.add]
theorem part_high {w : World} {ao : Option Addr} {n c i : Nat} {cells : List Value} (h : PartOk w 2 ⟨ao, n, c, cells⟩) (hi : i ≤ n) : PartOk w 2 ⟨ao, i, c, cells.take (i * 2)⟩ := by
  have hl : cells.length = n * 2 := h.len
  refine ⟨by show (cells.take (i * 2)).length = i * 2; rw [List.length_take]; omega, fun e => ?_, fun a ha j u hj => h.at_ a ha j u ?_, fun u hu => h.one u (List.mem_of_mem_take hu)⟩
  · obtain ⟨e1, e2⟩ := h.none e
    simp only at e1 e2
    exact ⟨by show i = 0; omega, e2⟩
  · rw [List.getElem?_take] at hj
    split at hj
    · exact hj
    · cases hj
theorem part_low {w : World} {ao ad : Option Addr} {n c k : Nat} {cells : List Value} (h : PartOk w 2 ⟨ao, n, c, cells⟩) (hk : k ≤ n) (hc : n ≤ c) (h1 : ad = none → n - k = 0 ∧ c - k = 0) (h2 : ∀ a, ao = some a → k < c → ad = some (a.add (k * 2))) (h3 : ∀ a, ao = some a → ∃ b o, a = ⟨b, o, none⟩) : PartOk w 2 ⟨ad, n - k, c - k, cells.drop (k * 2)⟩ := by
  have hl : cells.length = n * 2 := h.len
  refine ⟨by show (cells.drop (k * 2)).length = (n - k) * 2; rw [List.length_drop]; omega, h1, fun a ha j u hj => ?_, fun u hu => h.one u (List.mem_of_mem_drop hu)⟩
  rw [List.getElem?_drop] at hj
  have hlt : k * 2 + j < cells.length := (List.getElem?_eq_some_iff.1 hj).1
  cases ao with
  | none => obtain ⟨e1, _⟩ := h.none rfl; simp only at e1; omega
  | some z =>
    have := h2 z rfl (by omega)
    simp only at ha
    rw [this] at ha
    cases ha
    obtain ⟨b, o, rfl⟩ := h3 z rfl
    have hz := h.at_ _ rfl _ _ hj
    rw [WideShapes.add_plain] at hz ⊢
    rw [WideShapes.add_plain]
    rwa [Nat.add_assoc]
set_option maxRecDepth 100000 in
set_option maxHeartbeats 1000000 in
theorem withoutPairs {ao : Option Addr} {n c i m : Nat} {cells : List Value} (w : World) (h : PartOk w 2 ⟨ao, n, c, cells⟩) (h3 : ∀ a, ao = some a → ∃ b o, a = ⟨b, o, none⟩) (hn : i + m ≤ n) (hc : n ≤ c) (hn2 : n ≤ 1048576) :
    Calls Try.prog 53 #[.slice ao n c, .int .i64 (i : Int), .int .i64 (m : Int)] w fun e w' => ∃ ao' c', e = .returned (.slice ao' (n - m) c') ∧ w'.ownsRow w.heap.size 48 2 (.slice ao' (n - m) c') (n - m) (cells.take (i * 2) ++ cells.drop ((i + m) * 2)) ∧ Same w w' := by
  obtain ⟨k, hk⟩ : ∃ k, k = i + m := ⟨_, rfl⟩
  rw [← hk] at hn ⊢
  obtain ⟨ad, hlow, q1, q2⟩ := low_pairs hn hc h.none
  have hhigh := high_pairs (ao := ao) (show i ≤ n by omega) hc
  have hsum : RowKit.wrap64 ((i : Int) + (m : Int)) = (k : Int) := by unfold RowKit.wrap64; omega
  have hsum2 : (i : Int) + (m : Int) = (k : Int) := by omega
  have hwk : IntKind.i64.wrap (k : Int) = (k : Int) := by rw [IntKind.wrap_i64]; omega
  obtain ⟨V, hV⟩ : ∃ V, V = (w.alloc (.cells #[.slice ao i c, .slice ad (n - k) (c - k)] 24)).drew := ⟨_, rfl⟩
  have sV : Same w V := by rw [hV]; exact Fr.drew ((Fr.refl _ w).alloc _)
  have HCC : Hid (Calls Try.prog 54 #[.slice (some ⟨w.heap.size, 0, none⟩) 2 2] V fun e w' => ∃ ao' c', e = .returned (.slice ao' (n - m) c') ∧ w'.ownsRow V.heap.size 48 2 (.slice ao' (n - m) c') (n - m) (cells.take (i * 2) ++ cells.drop (k * 2)) ∧ Same V w') := by
    have := concatPairs (gb := w.heap.size) (cc := 2) (L := [⟨ao, i, c, cells.take (i * 2)⟩, ⟨ad, n - k, c - k, cells.drop (k * 2)⟩]) V (fun j x hx => ?_) (fun x hx => ?_) (by simp) (by simp [partsN]; omega)
    · rw [show partsN [⟨ao, i, c, cells.take (i * 2)⟩, ⟨ad, n - k, c - k, cells.drop (k * 2)⟩] = n - m from by simp [partsN]; omega, show partsC [⟨ao, i, c, cells.take (i * 2)⟩, ⟨ad, n - k, c - k, cells.drop (k * 2)⟩] = cells.take (i * 2) ++ cells.drop (k * 2) from by simp [partsC]] at this
      exact this
    · have hr : V.heap[w.heap.size]? = some (.cells #[.slice ao i c, .slice ad (n - k) (c - k)] 24 (0, 0)) := by rw [hV]; exact heap_alloc_new w _
      rw [cell_of_row _ _ _ _ _ _ hr]
      rcases j with _ | _ | j
      · obtain rfl : _ = x := by simpa using hx
        rfl
      · obtain rfl : _ = x := by simpa using hx
        rfl
      · simp at hx
    · rcases List.mem_cons.1 hx with rfl | hx
      · exact (part_high h (by omega)).same sV
      · rcases List.mem_cons.1 hx with rfl | hx
        · exact (part_low h hn hc q1 q2 h3).same sV
        · cases hx
  have HVS : Hid (w.heap.size ≤ V.heap.size) := sV.size
  have HK : Hid (k = i + m) := hk
  clear h h3 q1 q2 hk
  go_enter Try.func53, Try.ntmps53
  go_wp2_with fail
  refine wp_region_held_drew (S := fun _ => True) (by kernel_rfl) (trivial) (fun hHeld => ?_)
  refine wpAnyH_take (i := 0) (oi := { dst := some 7, op := Op.move (Operand.tmp 0), type := 24, pos := "graft.go:115", after := #[], guard := none }) (v := .slice ao n c) rfl (by kernel_rfl) (by kernel_rfl) (by kernel_rfl) (fun _ _ _ h => h) (Or.inl ⟨by rfl, fun w hSw => by (obtain _ := hSw; go_simp)⟩) (by assumption) ?_
  try simp only [Act.put, List.setIfInBounds_toArray, List.set_cons_zero, List.set_cons_succ]
  refine wpAnyH_take (i := 1) (oi := { dst := some 8, op := Op.move (Operand.tmp 1), type := 3, pos := "graft.go:115", after := #[], guard := none }) (v := .int .i64 (i : Int)) rfl (by kernel_rfl) (by kernel_rfl) (by kernel_rfl) (fun _ _ _ h => h) (Or.inl ⟨by rfl, fun w hSw => by (obtain _ := hSw; go_simp)⟩) (by assumption) ?_
  try simp only [Act.put, List.setIfInBounds_toArray, List.set_cons_zero, List.set_cons_succ]
  refine wpAnyH_take (i := 2) (oi := { dst := some 9, op := Op.slice 24 (Operand.tmp 7) none (some (Operand.tmp 8)) none, type := 24, pos := "graft.go:115", after := #[{ on := 0, ground := Ground.data }, { on := 1, ground := Ground.data }], guard := none }) (v := .slice ao i c) rfl (by kernel_rfl) (by kernel_rfl) (by kernel_rfl) (fun _ _ _ h => h) (Or.inl ⟨by rfl, fun w _ => by (have := hhigh w; go_simp)⟩) (by assumption) ?_
  try simp only [Act.put, List.setIfInBounds_toArray, List.set_cons_zero, List.set_cons_succ]
  refine wpAnyH_take (i := 3) (oi := { dst := some 10, op := Op.move (Operand.tmp 0), type := 24, pos := "graft.go:115", after := #[], guard := none }) (v := .slice ao n c) rfl (by kernel_rfl) (by kernel_rfl) (by kernel_rfl) (fun _ _ _ h => h) (Or.inl ⟨by rfl, fun w hSw => by (obtain _ := hSw; go_simp)⟩) (by assumption) ?_
  try simp only [Act.put, List.setIfInBounds_toArray, List.set_cons_zero, List.set_cons_succ]
  refine wpAnyH_take (i := 4) (oi := { dst := some 11, op := Op.move (Operand.tmp 1), type := 3, pos := "graft.go:115", after := #[], guard := none }) (v := .int .i64 (i : Int)) rfl (by kernel_rfl) (by kernel_rfl) (by kernel_rfl) (fun _ _ _ h => h) (Or.inl ⟨by rfl, fun w hSw => by (obtain _ := hSw; go_simp)⟩) (by assumption) ?_
  try simp only [Act.put, List.setIfInBounds_toArray, List.set_cons_zero, List.set_cons_succ]
  refine wpAnyH_take (i := 5) (oi := { dst := some 12, op := Op.move (Operand.tmp 2), type := 3, pos := "graft.go:115", after := #[], guard := none }) (v := .int .i64 (m : Int)) rfl (by kernel_rfl) (by kernel_rfl) (by kernel_rfl) (fun _ _ _ h => h) (Or.inl ⟨by rfl, fun w hSw => by (obtain _ := hSw; go_simp)⟩) (by assumption) ?_
  try simp only [Act.put, List.setIfInBounds_toArray, List.set_cons_zero, List.set_cons_succ]
  refine wpAnyH_take (i := 6) (oi := { dst := some 13, op := Op.binOp BinOp.add 3 (Operand.tmp 11) (Operand.tmp 12) 3, type := 3, pos := "graft.go:115", after := #[{ on := 4, ground := Ground.data }, { on := 5, ground := Ground.data }], guard := none }) (v := .int .i64 (k : Int)) rfl (by kernel_rfl) (by kernel_rfl) (by kernel_rfl) (fun _ _ _ h => h) (Or.inl ⟨by rfl, fun w hSw => by (obtain _ := hSw; go_simp)⟩) (by assumption) ?_
  try simp only [Act.put, List.setIfInBounds_toArray, List.set_cons_zero, List.set_cons_succ]
  refine wpAnyH_take (i := 7) (oi := { dst := some 14, op := Op.slice 24 (Operand.tmp 10) (some (Operand.tmp 13)) none none, type := 24, pos := "graft.go:115", after := #[{ on := 3, ground := Ground.data }, { on := 6, ground := Ground.data }], guard := none }) (v := .slice ad (n - k) (c - k)) rfl (by kernel_rfl) (by kernel_rfl) (by kernel_rfl) (fun _ _ _ h => h) (Or.inl ⟨by rfl, fun w _ => by (have := hlow w; go_simp)⟩) (by assumption) ?_
  try simp only [Act.put, List.setIfInBounds_toArray, List.set_cons_zero, List.set_cons_succ]
  refine wpAnyH_ready (rs := [8]) (by kernel_rfl) (by simp) ?_
  refine AllReadyH.cons (o := { dst := some 15, op := Op.buildSlice 106 2 #[(0, Operand.tmp 9), (1, Operand.tmp 14)], type := 106, pos := "graft.go:115", after := #[{ on := 2, ground := Ground.data }, { on := 7, ground := Ground.data }], guard := none }) rfl (fun K hK => ?_) AllReadyH.nil
  go_simp
  refine hK.out _ _ trivial (fun _ => ?_)
  clear hK K
  try simp only [Act.put, List.setIfInBounds_toArray, List.set_cons_zero, List.set_cons_succ]
  refine wpAnyH_ready (rs := [9]) (by kernel_rfl) (by simp) ?_
  refine AllReadyH.cons (o := { dst := some 16, op := Op.call { callee := Callee.value (Operand.func 54), args := #[Operand.tmp 15], argTypes := #[106] }, type := 24, pos := "graft.go:115", after := #[{ on := 8, ground := Ground.data }], guard := none }) rfl (fun K hK => ?_) AllReadyH.nil
  go_simp
  go_at_call 54
  rw [← hV]
  refine (HCC.out).mono ?_
  rintro e W1 ⟨ao1, c1, rfl, own1, s1⟩
  try go_wp2_with fail
  refine hK.out _ _ (trivial) (fun hHeld => ?_)
  clear hK K
  try simp only [Act.put, List.setIfInBounds_toArray, List.set_cons_zero, List.set_cons_succ]
  refine wpAnyH_take (i := 10) (oi := { dst := some 6, op := Op.assign (Operand.tmp 16), type := 24, pos := "graft.go:115", after := #[{ on := 9, ground := Ground.data }, { on := 9, ground := Ground.chain }, { on := 0, ground := Ground.phase }, { on := 1, ground := Ground.phase }, { on := 2, ground := Ground.phase }, { on := 3, ground := Ground.phase }, { on := 4, ground := Ground.phase }, { on := 5, ground := Ground.phase }, { on := 6, ground := Ground.phase }, { on := 7, ground := Ground.phase }, { on := 8, ground := Ground.phase }, { on := 9, ground := Ground.phase }], guard := none }) (v := .slice ao1 (n - m) c1) rfl (by kernel_rfl) (by kernel_rfl) (by kernel_rfl) (fun _ _ _ h => h) (Or.inl ⟨by rfl, fun w hSw => by (obtain _ := hSw; go_simp)⟩) (by assumption) ?_
  try simp only [Act.put, List.setIfInBounds_toArray, List.set_cons_zero, List.set_cons_succ]
  refine wpAnyH_done (by kernel_rfl) ?_ _
  go_wp2_with fail
  go_ret
  exact ⟨_, _, rfl, own_base own1 HVS.out, sV.trans s1⟩
set_option maxRecDepth 100000 in
set_option maxHeartbeats 1000000 in
theorem withPairs {ao bo : Option Addr} {n c i tn tc : Nat} {cells things : List Value} (w : World) (h : PartOk w 2 ⟨ao, n, c, cells⟩) (h3 : ∀ a, ao = some a → ∃ b o, a = ⟨b, o, none⟩) (ht : PartOk w 2 ⟨bo, tn, tc, things⟩) (hn : i ≤ n) (hc : n ≤ c) (hn2 : n + tn ≤ 1048576) :
    Calls Try.prog 30 #[.slice ao n c, .int .i64 (i : Int), .slice bo tn tc] w fun e w' => ∃ ao' c', e = .returned (.slice ao' (n + tn) c') ∧ w'.ownsRow w.heap.size 48 2 (.slice ao' (n + tn) c') (n + tn) (cells.take (i * 2) ++ (things ++ cells.drop (i * 2))) ∧ Same w w' := by
  obtain ⟨ad, hlow, q1, q2⟩ := low_pairs hn hc h.none
  have hhigh := high_pairs (ao := ao) hn hc
  obtain ⟨V, hV⟩ : ∃ V, V = (w.alloc (.cells #[.slice ao i c, .slice bo tn tc, .slice ad (n - i) (c - i)] 24)).drew := ⟨_, rfl⟩
  have sV : Same w V := by rw [hV]; exact Fr.drew ((Fr.refl _ w).alloc _)
  have HCC : Hid (Calls Try.prog 54 #[.slice (some ⟨w.heap.size, 0, none⟩) 3 3] V fun e w' => ∃ ao' c', e = .returned (.slice ao' (n + tn) c') ∧ w'.ownsRow V.heap.size 48 2 (.slice ao' (n + tn) c') (n + tn) (cells.take (i * 2) ++ (things ++ cells.drop (i * 2))) ∧ Same V w') := by
    have := concatPairs (gb := w.heap.size) (cc := 3) (L := [⟨ao, i, c, cells.take (i * 2)⟩, ⟨bo, tn, tc, things⟩, ⟨ad, n - i, c - i, cells.drop (i * 2)⟩]) V (fun j x hx => ?_) (fun x hx => ?_) (by simp) (by simp [partsN]; omega)
    · rw [show partsN [⟨ao, i, c, cells.take (i * 2)⟩, ⟨bo, tn, tc, things⟩, ⟨ad, n - i, c - i, cells.drop (i * 2)⟩] = n + tn from by simp [partsN]; omega, show partsC [⟨ao, i, c, cells.take (i * 2)⟩, ⟨bo, tn, tc, things⟩, ⟨ad, n - i, c - i, cells.drop (i * 2)⟩] = cells.take (i * 2) ++ (things ++ cells.drop (i * 2)) from by simp [partsC]] at this
      exact this
    · have hr : V.heap[w.heap.size]? = some (.cells #[.slice ao i c, .slice bo tn tc, .slice ad (n - i) (c - i)] 24 (0, 0)) := by rw [hV]; exact heap_alloc_new w _
      rw [cell_of_row _ _ _ _ _ _ hr]
      rcases j with _ | _ | _ | j
      · obtain rfl : _ = x := by simpa using hx
        rfl
      · obtain rfl : _ = x := by simpa using hx
        rfl
      · obtain rfl : _ = x := by simpa using hx
        rfl
      · simp at hx
    · rcases List.mem_cons.1 hx with rfl | hx
      · exact (part_high h (by omega)).same sV
      · rcases List.mem_cons.1 hx with rfl | hx
        · exact ht.same sV
        · rcases List.mem_cons.1 hx with rfl | hx
          · exact (part_low h hn hc q1 q2 h3).same sV
          · cases hx
  have HVS : Hid (w.heap.size ≤ V.heap.size) := sV.size
  clear h h3 q1 q2 ht
  go_enter Try.func30, Try.ntmps30
  go_wp2_with fail
  refine wp_region_held_drew (S := fun _ => True) (by kernel_rfl) (trivial) (fun hHeld => ?_)
  refine wpAnyH_take (i := 0) (oi := { dst := some 7, op := Op.move (Operand.tmp 0), type := 24, pos := "graft.go:112", after := #[], guard := none }) (v := .slice ao n c) rfl (by kernel_rfl) (by kernel_rfl) (by kernel_rfl) (fun _ _ _ h => h) (Or.inl ⟨by rfl, fun w hSw => by (obtain _ := hSw; go_simp)⟩) (by assumption) ?_
  try simp only [Act.put, List.setIfInBounds_toArray, List.set_cons_zero, List.set_cons_succ]
  refine wpAnyH_take (i := 1) (oi := { dst := some 8, op := Op.move (Operand.tmp 1), type := 3, pos := "graft.go:112", after := #[], guard := none }) (v := .int .i64 (i : Int)) rfl (by kernel_rfl) (by kernel_rfl) (by kernel_rfl) (fun _ _ _ h => h) (Or.inl ⟨by rfl, fun w hSw => by (obtain _ := hSw; go_simp)⟩) (by assumption) ?_
  try simp only [Act.put, List.setIfInBounds_toArray, List.set_cons_zero, List.set_cons_succ]
  refine wpAnyH_take (i := 2) (oi := { dst := some 9, op := Op.slice 24 (Operand.tmp 7) none (some (Operand.tmp 8)) none, type := 24, pos := "graft.go:112", after := #[{ on := 0, ground := Ground.data }, { on := 1, ground := Ground.data }], guard := none }) (v := .slice ao i c) rfl (by kernel_rfl) (by kernel_rfl) (by kernel_rfl) (fun _ _ _ h => h) (Or.inl ⟨by rfl, fun w _ => by (have := hhigh w; go_simp)⟩) (by assumption) ?_
  try simp only [Act.put, List.setIfInBounds_toArray, List.set_cons_zero, List.set_cons_succ]
  refine wpAnyH_take (i := 3) (oi := { dst := some 10, op := Op.move (Operand.tmp 2), type := 24, pos := "graft.go:112", after := #[], guard := none }) (v := .slice bo tn tc) rfl (by kernel_rfl) (by kernel_rfl) (by kernel_rfl) (fun _ _ _ h => h) (Or.inl ⟨by rfl, fun w hSw => by (obtain _ := hSw; go_simp)⟩) (by assumption) ?_
  try simp only [Act.put, List.setIfInBounds_toArray, List.set_cons_zero, List.set_cons_succ]
  refine wpAnyH_take (i := 4) (oi := { dst := some 11, op := Op.move (Operand.tmp 0), type := 24, pos := "graft.go:112", after := #[], guard := none }) (v := .slice ao n c) rfl (by kernel_rfl) (by kernel_rfl) (by kernel_rfl) (fun _ _ _ h => h) (Or.inl ⟨by rfl, fun w hSw => by (obtain _ := hSw; go_simp)⟩) (by assumption) ?_
  try simp only [Act.put, List.setIfInBounds_toArray, List.set_cons_zero, List.set_cons_succ]
  refine wpAnyH_take (i := 5) (oi := { dst := some 12, op := Op.move (Operand.tmp 1), type := 3, pos := "graft.go:112", after := #[], guard := none }) (v := .int .i64 (i : Int)) rfl (by kernel_rfl) (by kernel_rfl) (by kernel_rfl) (fun _ _ _ h => h) (Or.inl ⟨by rfl, fun w hSw => by (obtain _ := hSw; go_simp)⟩) (by assumption) ?_
  try simp only [Act.put, List.setIfInBounds_toArray, List.set_cons_zero, List.set_cons_succ]
  refine wpAnyH_take (i := 6) (oi := { dst := some 13, op := Op.slice 24 (Operand.tmp 11) (some (Operand.tmp 12)) none none, type := 24, pos := "graft.go:112", after := #[{ on := 4, ground := Ground.data }, { on := 5, ground := Ground.data }], guard := none }) (v := .slice ad (n - i) (c - i)) rfl (by kernel_rfl) (by kernel_rfl) (by kernel_rfl) (fun _ _ _ h => h) (Or.inl ⟨by rfl, fun w _ => by (have := hlow w; go_simp)⟩) (by assumption) ?_
  try simp only [Act.put, List.setIfInBounds_toArray, List.set_cons_zero, List.set_cons_succ]
  refine wpAnyH_ready (rs := [7]) (by kernel_rfl) (by simp) ?_
  refine AllReadyH.cons (o := { dst := some 14, op := Op.buildSlice 106 3 #[(0, Operand.tmp 9), (1, Operand.tmp 10), (2, Operand.tmp 13)], type := 106, pos := "graft.go:112", after := #[{ on := 2, ground := Ground.data }, { on := 3, ground := Ground.data }, { on := 6, ground := Ground.data }], guard := none }) rfl (fun K hK => ?_) AllReadyH.nil
  go_simp
  refine hK.out _ _ trivial (fun _ => ?_)
  clear hK K
  try simp only [Act.put, List.setIfInBounds_toArray, List.set_cons_zero, List.set_cons_succ]
  refine wpAnyH_ready (rs := [8]) (by kernel_rfl) (by simp) ?_
  refine AllReadyH.cons (o := { dst := some 15, op := Op.call { callee := Callee.value (Operand.func 54), args := #[Operand.tmp 14], argTypes := #[106] }, type := 24, pos := "graft.go:112", after := #[{ on := 7, ground := Ground.data }], guard := none }) rfl (fun K hK => ?_) AllReadyH.nil
  go_simp
  go_at_call 54
  rw [← hV]
  refine (HCC.out).mono ?_
  rintro e W1 ⟨ao1, c1, rfl, own1, s1⟩
  try go_wp2_with fail
  refine hK.out _ _ (trivial) (fun hHeld => ?_)
  clear hK K
  try simp only [Act.put, List.setIfInBounds_toArray, List.set_cons_zero, List.set_cons_succ]
  refine wpAnyH_take (i := 9) (oi := { dst := some 6, op := Op.assign (Operand.tmp 15), type := 24, pos := "graft.go:112", after := #[{ on := 8, ground := Ground.data }, { on := 8, ground := Ground.chain }, { on := 0, ground := Ground.phase }, { on := 1, ground := Ground.phase }, { on := 2, ground := Ground.phase }, { on := 3, ground := Ground.phase }, { on := 4, ground := Ground.phase }, { on := 5, ground := Ground.phase }, { on := 6, ground := Ground.phase }, { on := 7, ground := Ground.phase }, { on := 8, ground := Ground.phase }], guard := none }) (v := .slice ao1 (n + tn) c1) rfl (by kernel_rfl) (by kernel_rfl) (by kernel_rfl) (fun _ _ _ h => h) (Or.inl ⟨by rfl, fun w hSw => by (obtain _ := hSw; go_simp)⟩) (by assumption) ?_
  try simp only [Act.put, List.setIfInBounds_toArray, List.set_cons_zero, List.set_cons_succ]
  refine wpAnyH_done (by kernel_rfl) ?_ _
  go_wp2_with fail
  go_ret
  exact ⟨_, _, rfl, own_base own1 HVS.out, sV.trans s1⟩
end Go.Proofs.Ytmgkdnejjemfeaa
