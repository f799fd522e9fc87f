/- The document's Size. -/
import Derived.Test.YtmgkdnejjemfeaaFZ
import Derived.Test.YtmgkdnejjemfeaaB3
namespace Go.Proofs.Ytmgkdnejjemfeaa
open Go.RowKit

theorem textB_full (s : ByteArray) : (textB s).length = (freeB s.size).length + s.size := by
  unfold textB
  rw [List.length_append, bytes_length]
theorem pairsB_take_len (ps : List (ByteArray × ByteArray)) (k : Nat) (x : ByteArray × ByteArray) (h : ps[k]? = some x) :
    (pairsB (ps.take (k + 1))).length = (pairsB (ps.take k)).length + ((freeB x.1.size).length + x.1.size) + ((freeB x.2.size).length + x.2.size) := by
  rw [pairsB_take_succ ps k x h, List.length_append]
  unfold pairB
  rw [List.length_append, textB_full, textB_full]
  omega
def sepsN (ss : List ByteArray) : Nat := (ss.map (fun s => (freeB s.size).length + s.size)).sum
theorem sepsN_take (ss : List ByteArray) (k : Nat) (x : ByteArray) (h : ss[k]? = some x) : sepsN (ss.take (k + 1)) = sepsN (ss.take k) + ((freeB x.size).length + x.size) := by
  rw [List.take_add_one, h]
  simp [sepsN]
theorem sepsN_le (ss : List ByteArray) (k : Nat) : sepsN (ss.take k) ≤ sepsN ss := by
  have : ss = ss.take k ++ ss.drop k := (List.take_append_drop k ss).symm
  have e : sepsN ss = sepsN (ss.take k) + sepsN (ss.drop k) := by
    conv => lhs; rw [this]
    unfold sepsN
    rw [List.map_append, List.sum_append]
  omega
theorem kidB_len4 {q : Int} (hq : 1 ≤ q) (hq2 : q ≤ 32) (k : Kid) (h : KidOk k) : (kidB true q k).length = 4 + q.toNat := by
  unfold kidB sumB
  rw [if_pos rfl, List.length_append, List.length_take, h.d]
  have h4 : (fixB 4 k.page).length = 4 := fixB_length _ _
  unfold widthN
  omega
theorem kidsB_len4 {q : Int} (hq : 1 ≤ q) (hq2 : q ≤ 32) : ∀ (b : Bool) (ss : List ByteArray) (ks : List Kid), (∀ x ∈ ks, KidOk x) → (if b = true then ss.length + 1 = ks.length else ss.length = ks.length) → (kidsB true q b ss ks).length = ks.length * (4 + q.toNat) + sepsN ss
  | true, ss, [], _, h => by simp at h
  | false, ss, [], _, h => by
      simp at h
      subst h
      simp [kidsB, sepsN]
  | true, ss, k :: ks, hk, h => by
      rw [kidsB, List.length_append, kidB_len4 hq hq2 k (hk k (by simp)), kidsB_len4 hq hq2 false ss ks (fun x hx => hk x (by simp [hx])) (by simpa using h)]
      rw [List.length_cons, Nat.add_mul]
      omega
  | false, [], k :: ks, _, h => by simp at h
  | false, s :: ss, k :: ks, hk, h => by
      rw [kidsB, List.length_append, List.length_append, textB_full, kidB_len4 hq hq2 k (hk k (by simp)), kidsB_len4 hq hq2 false ss ks (fun x hx => hk x (by simp [hx])) (by simpa using h)]
      rw [List.length_cons, Nat.add_mul]
      simp only [sepsN, List.map_cons, List.sum_cons]
      omega

set_option maxRecDepth 100000 in
set_option maxHeartbeats 2000000 in
theorem dsize_leaf {p q : Int} {r : Nr} {N : Nd} {F : Nat} (w : World) (h : NdAt w r N) (hlen : F + (pairsB N.ps).length ≤ 50000000000) (hF0 : Hid (F = 1 + (freeB N.ps.length).length)) (hn : N.ps.length ≤ 1048576)
    (HE : Hid (∀ W, Same w W → Calls Try.prog 16 #[frameV p q, ndV r N] W fun e w' => e = .returned (.int .i64 0) ∧ Same W w'))
    (HL : Hid (∀ W, Calls Try.prog 17 #[ndV r N] W fun e w' => e = .returned (.bool true) ∧ Same W w'))
    (HX : Hid (∀ (n : Nat) W, n < 18446744073709551616 → Calls Try.prog 36 #[.int .u64 (n : Int)] W fun e w' => e = .returned (.string ⟨(freeB n).toArray⟩) ∧ Same W w')) :
    Calls Try.prog 19 #[frameV p q, ndV r N] w fun e w' => e = .returned (.int .i64 ((F + (pairsB N.ps).length : Nat) : Int)) ∧ Same w w' := by
  obtain ⟨V, hV⟩ : ∃ V, V = (w.alloc (.cells #[.int .i64 p, .int .i64 q] 23)).alloc (.cells #[.slice r.pa N.ps.length r.cp, .slice r.sa N.ss.length r.cs, .slice r.ka N.ks.length r.ck] 28) := ⟨_, rfl⟩
  have t1 : Same w V := by rw [hV]; exact ((Fr.refl _ w).alloc _).alloc _
  have a0 : V.cell? ⟨w.heap.size, 0, none⟩ = some (.int .i64 p) := by rw [hV]; simp
  have a1 : V.cell? ⟨w.heap.size, 1, none⟩ = some (.int .i64 q) := by rw [hV]; simp
  have n0 : V.cell? ⟨w.heap.size + 1, 0, none⟩ = some (.slice r.pa N.ps.length r.cp) := by rw [hV]; simp
  have n1 : V.cell? ⟨w.heap.size + 1, 1, none⟩ = some (.slice r.sa N.ss.length r.cs) := by rw [hV]; simp
  have n2 : V.cell? ⟨w.heap.size + 1, 2, none⟩ = some (.slice r.ka N.ks.length r.ck) := by rw [hV]; simp
  have HP : Hid (PRow V r.pa r.pb r.po N.ps) := h.hp.same t1
  have HC : Hid (∀ W, Same V W → W.cell? ⟨w.heap.size + 1, 0, none⟩ = some (.slice r.pa N.ps.length r.cp) ∧ W.cell? ⟨w.heap.size + 1, 1, none⟩ = some (.slice r.sa N.ss.length r.cs) ∧ W.cell? ⟨w.heap.size + 1, 2, none⟩ = some (.slice r.ka N.ks.length r.ck) ∧ W.cell? ⟨w.heap.size, 0, none⟩ = some (.int .i64 p) ∧ W.cell? ⟨w.heap.size, 1, none⟩ = some (.int .i64 q)) := fun W s => ⟨s.keep n0, s.keep n1, s.keep n2, s.keep a0, s.keep a1⟩
  clear h
  go_enter Try.func19, Try.ntmps19
  go_wp2_with fail
  rw [← hV]
  clear hV
  refine (HE.out _ t1).mono ?_
  rintro e W1 ⟨rfl, s1⟩
  clear n0 n1 n2 a0 a1
  obtain ⟨n0, n1, n2, a0, a1⟩ := HC.out _ s1
  go_wp2_with fail
  refine (HL.out _).mono ?_
  rintro e W2 ⟨rfl, s2⟩
  have s2 := s1.trans s2
  clear n0 n1 n2 a0 a1
  obtain ⟨n0, n1, n2, a0, a1⟩ := HC.out _ s2
  go_wp2_with fail
  refine (HX.out N.ps.length _ (by omega)).mono ?_
  rintro e W3 ⟨rfl, s3⟩
  have s3 := s2.trans s3
  clear n0 n1 n2 a0 a1
  obtain ⟨n0, n1, n2, a0, a1⟩ := HC.out _ s3
  have hFl : (freeB N.ps.length).length ≤ 10 := freeB_length _
  go_wp2_with fail
  have e0 : (1 + ((freeB N.ps.length).length : Int)) = (F : Int) := by rw [hF0.out]; omega
  rw [e0]
  clear hFl e0
  go_loopg [5, 6] N.ps.length (fun g kv iv wr => ∃ (k : Nat), kv = .int .i64 ((F + (pairsB (N.ps.take k)).length : Nat) : Int) ∧ iv = .int .i64 (k : Int) ∧ k ≤ N.ps.length ∧ g = N.ps.length - k ∧ Same V wr)
  case atStart => exact ⟨0, by simp [pairsB], rfl, by omega, rfl, s3⟩
  case round =>
    clear n0 n1 n2 a0 a1
    obtain ⟨k, rfl, rfl, hk, hg, sr⟩ := hrel
    obtain ⟨n0, n1, n2, a0, a1⟩ := HC.out _ sr
    by_cases hgo : k < N.ps.length
    · obtain ⟨x, hx⟩ : ∃ x, N.ps[k]? = some x := ⟨_, List.getElem?_eq_getElem hgo⟩
      obtain ⟨x0, x1⟩ := x
      obtain ⟨c0, c1⟩ := (HP.out.same sr).cells k _ hx
      obtain ⟨hpa, _⟩ := (HP.out.same sr).place (by intro e; rw [e] at hx; simp at hx)
      rw [hpa] at n0
      have hstep := pairsB_take_len N.ps k (x0, x1) hx
      have hle := pairsB_take_le N.ps (k + 1)
      have i1 : (k : Int) < (N.ps.length : Int) := by omega
      have i0 : (0 : Int) ≤ (k : Int) := by omega
      simp only at hstep
      generalize hL1 : (pairsB (N.ps.take (k + 1))).length = L1 at *
      generalize hL0 : (pairsB (N.ps.take k)).length = L0 at *
      have HY0 : Hid (∀ W, Calls Try.prog 36 #[.int .u64 (x0.size : Int)] W fun e w' => e = .returned (.string ⟨(freeB x0.size).toArray⟩) ∧ Same W w') := fun W => HX.out x0.size W (by omega)
      have HY1 : Hid (∀ W, Calls Try.prog 36 #[.int .u64 (x1.size : Int)] W fun e w' => e = .returned (.string ⟨(freeB x1.size).toArray⟩) ∧ Same W w') := fun W => HX.out x1.size W (by omega)
      clear hx hpa
      go_wp2_with fail
      refine (HY0.out _).mono ?_
      rintro e Y1 ⟨rfl, y1⟩
      have y1 := sr.trans y1
      clear n0 n1 n2 a0 a1 c0 c1
      go_wp2_with fail
      refine (HY1.out _).mono ?_
      rintro e Y2 ⟨rfl, y2⟩
      have y2 := y1.trans y2
      go_wp2_with fail
      go_roundg (N.ps.length - (k + 1))
      case measure => omega
      case rel =>
        refine ⟨k + 1, ?_, by go_num, by omega, rfl, y2⟩
        rw [hL1]
        congr 1
        omega
    · obtain rfl : k = N.ps.length := by omega
      rw [List.take_length]
      go_wp2_with fail
      go_ret
      exact ⟨rfl, t1.trans sr⟩
set_option maxRecDepth 100000 in
set_option maxHeartbeats 2000000 in
theorem dsize_branch {p q : Int} {r : Nr} {N : Nd} {F M : Nat} (w : World) (h : NdAt w r N) (hlen : F + sepsN N.ss ≤ 50000000000) (hM : (N.ks.length : Int) * (4 + q) = (M : Int)) (hM2 : M ≤ 50000000000) (hq : 1 ≤ q) (hq2 : q ≤ 32) (hF0 : Hid (F = 1 + (freeB N.ks.length).length + M)) (hn : N.ss.length ≤ 1048576) (hnk : N.ks.length ≤ 1048576)
    (HE : Hid (∀ W, Same w W → Calls Try.prog 16 #[frameV p q, ndV r N] W fun e w' => e = .returned (.int .i64 0) ∧ Same W w'))
    (HL : Hid (∀ W, Calls Try.prog 17 #[ndV r N] W fun e w' => e = .returned (.bool false) ∧ Same W w'))
    (HX : Hid (∀ (n : Nat) W, n < 18446744073709551616 → Calls Try.prog 36 #[.int .u64 (n : Int)] W fun e w' => e = .returned (.string ⟨(freeB n).toArray⟩) ∧ Same W w')) :
    Calls Try.prog 19 #[frameV p q, ndV r N] w fun e w' => e = .returned (.int .i64 ((F + sepsN N.ss : Nat) : Int)) ∧ Same w w' := by
  obtain ⟨V, hV⟩ : ∃ V, V = (w.alloc (.cells #[.int .i64 p, .int .i64 q] 23)).alloc (.cells #[.slice r.pa N.ps.length r.cp, .slice r.sa N.ss.length r.cs, .slice r.ka N.ks.length r.ck] 28) := ⟨_, rfl⟩
  have t1 : Same w V := by rw [hV]; exact ((Fr.refl _ w).alloc _).alloc _
  have a0 : V.cell? ⟨w.heap.size, 0, none⟩ = some (.int .i64 p) := by rw [hV]; simp
  have a1 : V.cell? ⟨w.heap.size, 1, none⟩ = some (.int .i64 q) := by rw [hV]; simp
  have n0 : V.cell? ⟨w.heap.size + 1, 0, none⟩ = some (.slice r.pa N.ps.length r.cp) := by rw [hV]; simp
  have n1 : V.cell? ⟨w.heap.size + 1, 1, none⟩ = some (.slice r.sa N.ss.length r.cs) := by rw [hV]; simp
  have n2 : V.cell? ⟨w.heap.size + 1, 2, none⟩ = some (.slice r.ka N.ks.length r.ck) := by rw [hV]; simp
  have HP : Hid (TRow V r.sa r.sb r.so N.ss) := h.hs.same t1
  have HC : Hid (∀ W, Same V W → W.cell? ⟨w.heap.size + 1, 0, none⟩ = some (.slice r.pa N.ps.length r.cp) ∧ W.cell? ⟨w.heap.size + 1, 1, none⟩ = some (.slice r.sa N.ss.length r.cs) ∧ W.cell? ⟨w.heap.size + 1, 2, none⟩ = some (.slice r.ka N.ks.length r.ck) ∧ W.cell? ⟨w.heap.size, 0, none⟩ = some (.int .i64 p) ∧ W.cell? ⟨w.heap.size, 1, none⟩ = some (.int .i64 q)) := fun W s => ⟨s.keep n0, s.keep n1, s.keep n2, s.keep a0, s.keep a1⟩
  clear h
  go_enter Try.func19, Try.ntmps19
  go_wp2_with fail
  rw [← hV]
  clear hV
  refine (HE.out _ t1).mono ?_
  rintro e W1 ⟨rfl, s1⟩
  clear n0 n1 n2 a0 a1
  obtain ⟨n0, n1, n2, a0, a1⟩ := HC.out _ s1
  go_wp2_with fail
  refine (HL.out _).mono ?_
  rintro e W2 ⟨rfl, s2⟩
  have s2 := s1.trans s2
  clear n0 n1 n2 a0 a1
  obtain ⟨n0, n1, n2, a0, a1⟩ := HC.out _ s2
  go_wp2_with fail
  have HY0 : Hid (∀ W, Calls Try.prog 36 #[.int .u64 (N.ks.length : Int)] W fun e w' => e = .returned (.string ⟨(freeB N.ks.length).toArray⟩) ∧ Same W w') := fun W => HX.out N.ks.length W (by omega)
  have hFl : (freeB N.ks.length).length ≤ 10 := freeB_length _
  have hz1 : IntKind.i64.wrap ((N.ks.length : Int) * (4 + q)) = (M : Int) := by rw [IntKind.wrap_i64, hM]; omega
  have hz2 : RowKit.wrap64 ((N.ks.length : Int) * (4 + q)) = (M : Int) := by rw [hM]; unfold RowKit.wrap64; omega
  have d0 : Same V W2.drew := Fr.drew s2
  clear n0 n1 n2 a0 a1
  refine wp_region_held_drew (S := fun X => X.cell? ⟨w.heap.size + 1, 2, none⟩ = some (.slice r.ka N.ks.length r.ck) ∧ X.cell? ⟨w.heap.size, 1, none⟩ = some (.int .i64 q)) (by kernel_rfl) (⟨(HC.out _ d0).2.2.1, (HC.out _ d0).2.2.2.2⟩) (fun hHeld => ?_)
  refine wpAnyH_take (i := 0) (oi := { dst := some 62, op := Op.fieldAddr 28 (Operand.tmp 3) 2, type := 0, pos := "ref.go:120", after := #[], guard := none }) (v := .pointer (some ⟨w.heap.size + 1, 2, none⟩)) rfl (by kernel_rfl) (by kernel_rfl) (by kernel_rfl) (fun _ _ _ h => h) (Or.inl ⟨by rfl, fun w hSw => by (obtain ⟨z0, z1⟩ := hSw; go_simp)⟩) (by assumption) ?_
  try simp only [Act.put, List.setIfInBounds_toArray, List.set_cons_zero, List.set_cons_succ]
  refine wpAnyH_take (i := 1) (oi := { dst := some 63, op := Op.load 26 (Operand.tmp 62), type := 26, pos := "ref.go:120", after := #[{ on := 0, ground := Ground.data }], guard := none }) (v := .slice r.ka N.ks.length r.ck) rfl (by kernel_rfl) (by kernel_rfl) (by kernel_rfl) (fun _ _ _ h => h) (Or.inl ⟨by rfl, fun w hSw => by (obtain ⟨z0, z1⟩ := hSw; go_simp)⟩) (by assumption) ?_
  try simp only [Act.put, List.setIfInBounds_toArray, List.set_cons_zero, List.set_cons_succ]
  refine wpAnyH_take (i := 2) (oi := { dst := some 64, op := Op.call { callee := Callee.builtin Builtin.len, args := #[Operand.tmp 63], argTypes := #[26] }, type := 3, pos := "ref.go:120", after := #[{ on := 1, ground := Ground.data }], guard := none }) (v := .int .i64 (N.ks.length : Int)) rfl (by kernel_rfl) (by kernel_rfl) (by kernel_rfl) (fun _ _ _ h => h) (Or.inl ⟨by rfl, fun w hSw => by (obtain ⟨z0, z1⟩ := hSw; go_simp)⟩) (by assumption) ?_
  try simp only [Act.put, List.setIfInBounds_toArray, List.set_cons_zero, List.set_cons_succ]
  refine wpAnyH_take (i := 3) (oi := { dst := some 65, op := Op.convert 3 75 (Operand.tmp 64), type := 75, pos := "ref.go:120", after := #[{ on := 2, ground := Ground.data }], guard := none }) (v := .int .u64 (N.ks.length : Int)) rfl (by kernel_rfl) (by kernel_rfl) (by kernel_rfl) (fun _ _ _ h => h) (Or.inl ⟨by rfl, fun w hSw => by (obtain ⟨z0, z1⟩ := hSw; go_simp; rw [IntKind.wrap_u64]; omega)⟩) (by assumption) ?_
  try simp only [Act.put, List.setIfInBounds_toArray, List.set_cons_zero, List.set_cons_succ]
  refine wpAnyH_take (i := 7) (oi := { dst := some 69, op := Op.fieldAddr 28 (Operand.tmp 3) 2, type := 0, pos := "ref.go:120", after := #[], guard := none }) (v := .pointer (some ⟨w.heap.size + 1, 2, none⟩)) rfl (by kernel_rfl) (by kernel_rfl) (by kernel_rfl) (fun _ _ _ h => h) (Or.inl ⟨by rfl, fun w hSw => by (obtain ⟨z0, z1⟩ := hSw; go_simp)⟩) (by assumption) ?_
  try simp only [Act.put, List.setIfInBounds_toArray, List.set_cons_zero, List.set_cons_succ]
  refine wpAnyH_take (i := 8) (oi := { dst := some 70, op := Op.load 26 (Operand.tmp 69), type := 26, pos := "ref.go:120", after := #[{ on := 7, ground := Ground.data }], guard := none }) (v := .slice r.ka N.ks.length r.ck) rfl (by kernel_rfl) (by kernel_rfl) (by kernel_rfl) (fun _ _ _ h => h) (Or.inl ⟨by rfl, fun w hSw => by (obtain ⟨z0, z1⟩ := hSw; go_simp)⟩) (by assumption) ?_
  try simp only [Act.put, List.setIfInBounds_toArray, List.set_cons_zero, List.set_cons_succ]
  refine wpAnyH_take (i := 9) (oi := { dst := some 71, op := Op.call { callee := Callee.builtin Builtin.len, args := #[Operand.tmp 70], argTypes := #[26] }, type := 3, pos := "ref.go:120", after := #[{ on := 8, ground := Ground.data }], guard := none }) (v := .int .i64 (N.ks.length : Int)) rfl (by kernel_rfl) (by kernel_rfl) (by kernel_rfl) (fun _ _ _ h => h) (Or.inl ⟨by rfl, fun w hSw => by (obtain ⟨z0, z1⟩ := hSw; go_simp)⟩) (by assumption) ?_
  try simp only [Act.put, List.setIfInBounds_toArray, List.set_cons_zero, List.set_cons_succ]
  refine wpAnyH_take (i := 10) (oi := { dst := some 72, op := Op.fieldAddr 23 (Operand.tmp 2) 1, type := 0, pos := "ref.go:120", after := #[], guard := none }) (v := .pointer (some ⟨w.heap.size, 1, none⟩)) rfl (by kernel_rfl) (by kernel_rfl) (by kernel_rfl) (fun _ _ _ h => h) (Or.inl ⟨by rfl, fun w hSw => by (obtain ⟨z0, z1⟩ := hSw; go_simp)⟩) (by assumption) ?_
  try simp only [Act.put, List.setIfInBounds_toArray, List.set_cons_zero, List.set_cons_succ]
  refine wpAnyH_take (i := 11) (oi := { dst := some 73, op := Op.load 3 (Operand.tmp 72), type := 3, pos := "ref.go:120", after := #[{ on := 10, ground := Ground.data }], guard := none }) (v := .int .i64 q) rfl (by kernel_rfl) (by kernel_rfl) (by kernel_rfl) (fun _ _ _ h => h) (Or.inl ⟨by rfl, fun w hSw => by (obtain ⟨z0, z1⟩ := hSw; go_simp)⟩) (by assumption) ?_
  try simp only [Act.put, List.setIfInBounds_toArray, List.set_cons_zero, List.set_cons_succ]
  refine wpAnyH_take (i := 12) (oi := { dst := some 74, op := Op.binOp BinOp.add 3 (Operand.const (Value.int IntKind.i64 4)) (Operand.tmp 73) 3, type := 3, pos := "ref.go:120", after := #[{ on := 11, ground := Ground.data }], guard := none }) (v := .int .i64 (4 + q)) rfl (by kernel_rfl) (by kernel_rfl) (by kernel_rfl) (fun _ _ _ h => h) (Or.inl ⟨by rfl, fun w hSw => by (obtain ⟨z0, z1⟩ := hSw; go_simp; rw [IntKind.wrap_i64]; omega)⟩) (by assumption) ?_
  try simp only [Act.put, List.setIfInBounds_toArray, List.set_cons_zero, List.set_cons_succ]
  refine wpAnyH_take (i := 13) (oi := { dst := some 75, op := Op.binOp BinOp.mul 3 (Operand.tmp 71) (Operand.tmp 74) 3, type := 3, pos := "ref.go:120", after := #[{ on := 9, ground := Ground.data }, { on := 12, ground := Ground.data }], guard := none }) (v := .int .i64 (M : Int)) rfl (by kernel_rfl) (by kernel_rfl) (by kernel_rfl) (fun _ _ _ h => h) (Or.inl ⟨by rfl, fun w hSw => by (obtain ⟨z0, z1⟩ := hSw; go_simp; rw [IntKind.wrap_i64]; omega)⟩) (by assumption) ?_
  try simp only [Act.put, List.setIfInBounds_toArray, List.set_cons_zero, List.set_cons_succ]
  refine wpAnyH_ready (rs := [4]) (by kernel_rfl) (by simp) ?_
  refine AllReadyH.cons (o := { dst := some 66, op := Op.call { callee := Callee.value (Operand.func 36), args := #[Operand.tmp 65], argTypes := #[75] }, type := 9, pos := "ref.go:120", after := #[{ on := 3, ground := Ground.data }], guard := none }) rfl (fun K hK => ?_) AllReadyH.nil
  go_simp
  go_at_call 36
  refine (HY0.out _).mono ?_
  rintro e W3 ⟨rfl, q1⟩
  try go_wp2_with fail
  have u1 := Same.trans d0 q1
  refine hK.out _ _ (⟨(HC.out _ u1).2.2.1, (HC.out _ u1).2.2.2.2⟩) (fun hHeld => ?_)
  clear hK K
  try simp only [Act.put, List.setIfInBounds_toArray, List.set_cons_zero, List.set_cons_succ]
  refine wpAnyH_take (i := 5) (oi := { dst := some 67, op := Op.call { callee := Callee.builtin Builtin.len, args := #[Operand.tmp 66], argTypes := #[9] }, type := 3, pos := "ref.go:120", after := #[{ on := 4, ground := Ground.data }], guard := none }) (v := .int .i64 ((freeB N.ks.length).length : Int)) rfl (by kernel_rfl) (by kernel_rfl) (by kernel_rfl) (fun _ _ _ h => h) (Or.inl ⟨by rfl, fun w hSw => by (obtain ⟨z0, z1⟩ := hSw; go_simp)⟩) (by assumption) ?_
  try simp only [Act.put, List.setIfInBounds_toArray, List.set_cons_zero, List.set_cons_succ]
  refine wpAnyH_take (i := 6) (oi := { dst := some 68, op := Op.binOp BinOp.add 3 (Operand.const (Value.int IntKind.i64 1)) (Operand.tmp 67) 3, type := 3, pos := "ref.go:120", after := #[{ on := 5, ground := Ground.data }], guard := none }) (v := .int .i64 (1 + ((freeB N.ks.length).length : Int))) rfl (by kernel_rfl) (by kernel_rfl) (by kernel_rfl) (fun _ _ _ h => h) (Or.inl ⟨by rfl, fun w hSw => by (obtain ⟨z0, z1⟩ := hSw; go_simp; rw [IntKind.wrap_i64]; omega)⟩) (by assumption) ?_
  try simp only [Act.put, List.setIfInBounds_toArray, List.set_cons_zero, List.set_cons_succ]
  refine wpAnyH_take (i := 14) (oi := { dst := some 76, op := Op.binOp BinOp.add 3 (Operand.tmp 68) (Operand.tmp 75) 3, type := 3, pos := "ref.go:120", after := #[{ on := 6, ground := Ground.data }, { on := 13, ground := Ground.data }], guard := none }) (v := .int .i64 (1 + ((freeB N.ks.length).length : Int) + (M : Int))) rfl (by kernel_rfl) (by kernel_rfl) (by kernel_rfl) (fun _ _ _ h => h) (Or.inl ⟨by rfl, fun w hSw => by (obtain ⟨z0, z1⟩ := hSw; go_simp; rw [IntKind.wrap_i64]; omega)⟩) (by assumption) ?_
  try simp only [Act.put, List.setIfInBounds_toArray, List.set_cons_zero, List.set_cons_succ]
  refine wpAnyH_take (i := 15) (oi := { dst := some 9, op := Op.assign (Operand.tmp 76), type := 3, pos := "ref.go:120", after := #[{ on := 14, ground := Ground.data }, { on := 4, ground := Ground.chain }, { on := 0, ground := Ground.phase }, { on := 1, ground := Ground.phase }, { on := 2, ground := Ground.phase }, { on := 3, ground := Ground.phase }, { on := 4, ground := Ground.phase }, { on := 5, ground := Ground.phase }, { on := 6, ground := Ground.phase }, { on := 7, ground := Ground.phase }, { on := 8, ground := Ground.phase }, { on := 9, ground := Ground.phase }, { on := 10, ground := Ground.phase }, { on := 11, ground := Ground.phase }, { on := 12, ground := Ground.phase }, { on := 13, ground := Ground.phase }, { on := 14, ground := Ground.phase }], guard := none }) (v := .int .i64 (1 + ((freeB N.ks.length).length : Int) + (M : Int))) rfl (by kernel_rfl) (by kernel_rfl) (by kernel_rfl) (fun _ _ _ h => h) (Or.inl ⟨by rfl, fun w hSw => by (obtain ⟨z0, z1⟩ := hSw; go_simp)⟩) (by assumption) ?_
  try simp only [Act.put, List.setIfInBounds_toArray, List.set_cons_zero, List.set_cons_succ]
  refine wpAnyH_done (by kernel_rfl) ?_ _
  have s3 := u1
  obtain ⟨n0, n1, n2, a0, a1⟩ := HC.out _ s3
  go_wp2_with fail

  have e0 : (1 + ((freeB N.ks.length).length : Int) + (M : Int)) = (F : Int) := by rw [hF0.out]; omega
  rw [e0]
  clear hFl e0 hz1 hz2 hM hM2
  go_loopg [9, 10] N.ss.length (fun g kv iv wr => ∃ (k : Nat), kv = .int .i64 ((F + sepsN (N.ss.take k) : Nat) : Int) ∧ iv = .int .i64 (k : Int) ∧ k ≤ N.ss.length ∧ g = N.ss.length - k ∧ Same V wr)
  case atStart => exact ⟨0, by simp [sepsN], rfl, by omega, rfl, s3⟩
  case round =>
    clear n0 n1 n2 a0 a1
    obtain ⟨k, rfl, rfl, hk, hg, sr⟩ := hrel
    obtain ⟨n0, n1, n2, a0, a1⟩ := HC.out _ sr
    by_cases hgo : k < N.ss.length
    · obtain ⟨x0, hx⟩ : ∃ x, N.ss[k]? = some x := ⟨_, List.getElem?_eq_getElem hgo⟩
      have c0 := (HP.out.same sr).cells k _ hx
      obtain ⟨hpa, _⟩ := (HP.out.same sr).place (by intro e; rw [e] at hx; simp at hx)
      rw [hpa] at n1
      have hstep := sepsN_take N.ss k x0 hx
      have hle := sepsN_le N.ss (k + 1)
      have i1 : (k : Int) < (N.ss.length : Int) := by omega
      have i0 : (0 : Int) ≤ (k : Int) := by omega
      generalize hL1 : sepsN (N.ss.take (k + 1)) = L1 at *
      generalize hL0 : sepsN (N.ss.take k) = L0 at *
      have HY0 : Hid (∀ W, Calls Try.prog 36 #[.int .u64 (x0.size : Int)] W fun e w' => e = .returned (.string ⟨(freeB x0.size).toArray⟩) ∧ Same W w') := fun W => HX.out x0.size W (by omega)
      clear hx hpa
      go_wp2_with fail
      refine (HY0.out _).mono ?_
      rintro e Y1 ⟨rfl, y1⟩
      have y1 := sr.trans y1
      clear n0 n1 n2 a0 a1 c0
      go_wp2_with fail
      go_roundg (N.ss.length - (k + 1))
      case measure => omega
      case rel =>
        refine ⟨k + 1, ?_, by go_num, by omega, rfl, y1⟩
        rw [hL1]
        congr 1
        omega
    · obtain rfl : k = N.ss.length := by omega
      rw [List.take_length]
      go_wp2_with fail
      go_ret
      exact ⟨rfl, t1.trans sr⟩

set_option maxRecDepth 100000 in
theorem dsize_bad {p q : Int} {pa sa ka : Option Addr} {np cp ns cs nk ck : Nat} {E : Int} (w : World) (hE : (E != 0) = true)
    (HE : Hid (∀ W, Same w W → Calls Try.prog 16 #[frameV p q, nodeV pa np cp sa ns cs ka nk ck] W fun e w' => e = .returned (.int .i64 E) ∧ Same W w')) :
    Calls Try.prog 19 #[frameV p q, nodeV pa np cp sa ns cs ka nk ck] w fun e w' => e = .returned (.int .i64 0) ∧ Same w w' := by
  obtain ⟨V, hV⟩ : ∃ V, V = ((w.alloc (.cells #[.int .i64 p, .int .i64 q] 23)).alloc (.cells #[.slice pa np cp, .slice sa ns cs, .slice ka nk ck] 28)) := ⟨_, rfl⟩
  have sx : Same w V := by rw [hV]; exact ((Fr.refl _ w).alloc _).alloc _
  have c0 : V.cell? ⟨w.heap.size, 0, none⟩ = some (.int .i64 p) := by rw [hV]; simp
  have c1 : V.cell? ⟨w.heap.size, 1, none⟩ = some (.int .i64 q) := by rw [hV]; simp
  have n0 : V.cell? ⟨w.heap.size + 1, 0, none⟩ = some (.slice pa np cp) := by rw [hV]; simp
  have n1 : V.cell? ⟨w.heap.size + 1, 1, none⟩ = some (.slice sa ns cs) := by rw [hV]; simp
  have n2 : V.cell? ⟨w.heap.size + 1, 2, none⟩ = some (.slice ka nk ck) := by rw [hV]; simp
  go_enter Try.func19, Try.ntmps19
  go_wp2_with fail
  rw [← hV]
  clear hV
  refine (HE.out _ sx).mono ?_
  rintro e W1 ⟨rfl, s1⟩
  go_wp2_with fail
  go_ret
  exact ⟨rfl, sx.trans s1⟩

theorem dsize_calls {p q : Int} {r : Nr} {N : Nd} (w : World) (h : NdAt w r N) (hlen : (formN true q N).length ≤ 50000000000) (h1 : N.ps.length ≤ 1048576) (h2 : N.ss.length ≤ 1048576) (h3 : N.ks.length ≤ 1048576) :
    Calls Try.prog 19 #[frameV p q, ndV r N] w fun e w' => e = .returned (.int .i64 (sizeV p q N)) ∧ Same w w' := by
  have HE := fun W (s : Same w W) => dcheck_calls (p := p) (q := q) W (h.same s) h1 h2 h3
  have HX : Hid (∀ (n : Nat) W, n < 18446744073709551616 → Calls Try.prog 36 #[.int .u64 (n : Int)] W fun e w' => e = .returned (.string ⟨(freeB n).toArray⟩) ∧ Same W w') := fun n W hn => xfreeB_calls n W hn
  unfold sizeV
  by_cases hE : chkN p q N = 0
  · rw [if_pos hE]
    rw [hE] at HE
    obtain ⟨hf, hs⟩ := chk_zero hE
    by_cases hl : leafB N = true
    · have e1 : (formN true q N).length = (1 + (freeB N.ps.length).length) + (pairsB N.ps).length := by
        unfold formN
        rw [if_pos hl, List.length_cons, List.length_append]
        omega
      have hb := hlen
      rw [e1] at hb ⊢
      exact dsize_leaf w h hb rfl h1 HE (fun W => by have := dleaf_calls r.pa r.sa r.ka N.ps.length r.cp N.ss.length r.cs N.ks.length r.ck W; rw [show (decide (N.ss.length = 0) && decide (N.ks.length = 0)) = leafB N from rfl, hl] at this; exact this) HX
    · have hl : leafB N = false := by simpa using hl
      have hfq := frameP_cases hf
      have hss := shape_sep hs hl
      have hq0 : q = (q.toNat : Int) := by omega
      have e1 : (formN true q N).length = (1 + (freeB N.ks.length).length + N.ks.length * (4 + q.toNat)) + sepsN N.ss := by
        unfold formN
        rw [if_neg (by rw [hl]; simp), List.length_cons, List.length_append, kidsB_len4 (by omega) (by omega) true N.ss N.ks h.ok (by simpa using hss)]
        omega
      have hb := hlen
      rw [e1] at hb ⊢
      exact dsize_branch w h hb (by rw [hq0]; push_cast; rfl) (by omega) (by omega) (by omega) rfl h2 h3 HE (fun W => by have := dleaf_calls r.pa r.sa r.ka N.ps.length r.cp N.ss.length r.cs N.ks.length r.ck W; rw [show (decide (N.ss.length = 0) && decide (N.ks.length = 0)) = leafB N from rfl, hl] at this; exact this) HX
  · rw [if_neg hE]
    exact dsize_bad w (by rw [bne_iff_ne]; exact hE) HE
end Go.Proofs.Ytmgkdnejjemfeaa
