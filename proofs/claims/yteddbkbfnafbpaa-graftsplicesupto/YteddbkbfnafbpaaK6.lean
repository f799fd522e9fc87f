/- Between, and the document's. -/
import Derived.Test.YteddbkbfnafbpaaK0
import Derived.Deep.LoopGhost
import Derived.Deep.RegionHeld3
namespace Go.Proofs.Yteddbkbfnafbpaa
open Go.RowKit

/-- How many bytes two texts have in common. -/
def comP : List UInt8 → List UInt8 → Nat
  | a :: x, b :: y => if a = b then comP x y + 1 else 0
  | _, _ => 0
theorem com_less : ∀ {x y : List UInt8}, Op.bytesLess x y = true → comP x y ≤ x.length ∧ comP x y < y.length := by
  intro x
  induction x with
  | nil => intro y h; cases y with
    | nil => simp [Op.bytesLess] at h
    | cons b y => simp [comP]
  | cons a x ih =>
    intro y h
    cases y with
    | nil => simp [Op.bytesLess] at h
    | cons b y =>
      rw [comP]
      split
      · rename_i e
        subst e
        have h2 : Op.bytesLess x y = true := by simpa [Op.bytesLess] using h
        have := ih h2
        simp only [List.length_cons]; omega
      · simp
theorem com_go : ∀ {x y : List UInt8} {k : Nat}, k < comP x y → ∃ a, x[k]? = some a ∧ y[k]? = some a := by
  intro x
  induction x with
  | nil => intro y k h; cases y <;> simp [comP] at h
  | cons a x ih =>
    intro y k h
    cases y with
    | nil => simp [comP] at h
    | cons b y =>
      rw [comP] at h
      split at h
      · rename_i e
        subst e
        cases k with
        | zero => exact ⟨a, by simp, by simp⟩
        | succ k =>
          obtain ⟨c, h1, h2⟩ := ih (y := y) (k := k) (by omega)
          exact ⟨c, by simpa using h1, by simpa using h2⟩
      · omega
theorem com_stop : ∀ {x y : List UInt8}, comP x y < x.length → comP x y < y.length → ∃ a b, x[comP x y]? = some a ∧ y[comP x y]? = some b ∧ a ≠ b := by
  intro x
  induction x with
  | nil => intro y h; simp [comP] at h
  | cons a x ih =>
    intro y h h2
    cases y with
    | nil => simp [comP] at h2
    | cons b y =>
      rw [comP] at h h2 ⊢
      split
      · rename_i e
        rw [if_pos e] at h h2
        obtain ⟨c, d, q1, q2, q3⟩ := ih (y := y) (by simpa using h) (by simpa using h2)
        exact ⟨c, d, by simpa using q1, by simpa using q2, q3⟩
      · rename_i e
        exact ⟨a, b, by simp, by simp, e⟩
theorem bytes_length' (s : ByteArray) : s.data.toList.length = s.size := by rw [Array.length_toList]; rfl
theorem get_list {s : ByteArray} {k : Nat} {a : UInt8} (hk : k < s.size) (h : s.data.toList[k]? = some a) : s[k] = a := by
  have h2 : s.data[k]? = some a := by rw [← Array.getElem?_toList]; exact h
  have h3 : k < s.data.size := hk
  rw [Array.getElem?_eq_getElem h3] at h2
  exact Option.some.inj h2
set_option maxRecDepth 100000 in
set_option maxHeartbeats 1000000 in
theorem between_less {l r : ByteArray} (w : World) (h : Op.bytesLess l.toList r.toList = false) :
    Calls Try.prog 27 #[.string l, .string r] w fun e w' => e = .returned (.tuple #[.string ⟨#[]⟩, .int .i64 81]) ∧ w' = w := by
  go_enter Try.func27, Try.ntmps27
  go_wp2_with fail
  go_ret2
  exact ⟨rfl, rfl⟩
set_option maxRecDepth 100000 in
set_option maxHeartbeats 1000000 in
theorem between_core {l r : ByteArray} (w : World) (h : Op.bytesLess l.toList r.toList = true) (hl : comP l.data.toList r.data.toList + 1 ≤ 9223372036854775807) :
    Calls Try.prog 27 #[.string l, .string r] w fun e w' => e = .returned (.tuple #[.string (r.extract 0 (comP l.data.toList r.data.toList + 1)), .int .i64 0]) ∧ Same w w' := by
  have h' := h
  rw [ByteArray.toList_eq, ByteArray.toList_eq] at h'
  obtain ⟨c1, c2⟩ := com_less h'
  rw [bytes_length'] at c1 c2
  have HG : Hid (∀ k, k < comP l.data.toList r.data.toList → ∃ a, l.data.toList[k]? = some a ∧ r.data.toList[k]? = some a) := fun k hk => com_go hk
  have HT : Hid (comP l.data.toList r.data.toList < l.size → ∃ a b, l.data.toList[comP l.data.toList r.data.toList]? = some a ∧ r.data.toList[comP l.data.toList r.data.toList]? = some b ∧ a ≠ b) := fun hk => com_stop (by rw [bytes_length']; exact hk) (by rw [bytes_length']; exact c2)
  obtain ⟨C, hC⟩ : ∃ C, C = comP l.data.toList r.data.toList := ⟨_, rfl⟩
  rw [← hC] at HG HT c1 c2 hl ⊢
  clear hC h'
  go_enter Try.func27, Try.ntmps27
  go_wp2_with fail
  go_loopg [6] C (fun g iv wr => ∃ k : Nat, iv = .int .i64 (k : Int) ∧ k ≤ C ∧ g = C - k ∧ Same w wr)
  case atStart => exact ⟨0, rfl, by omega, rfl, Fr.refl _ w⟩
  case round =>
    obtain ⟨k, rfl, hk, hg, sr⟩ := hrel
    by_cases hgo : k < C
    · obtain ⟨a, ha, hb⟩ := HG.out k hgo
      have i1 : (k : Int) < (l.size : Int) := by omega
      have i2 : (k : Int) < (r.size : Int) := by omega
      have j1 : k < l.size := by omega
      have j2 : k < r.size := by omega
      have e1 : l[k] = a := get_list j1 ha
      have e2 : r[k] = a := get_list j2 hb
      have e3 : ((a.toNat : Int) == (a.toNat : Int)) = true := by simp
      clear ha hb HG HT
      go_wp2_with fail
      go_region_held3 (fun _ => True) (trivial) (fail)
      all_goals
        go_wp2_with fail
        go_roundg (C - (k + 1))
        case measure => omega
        case rel => exact ⟨k + 1, by go_num, by omega, rfl, Fr.drew sr⟩
    · obtain rfl : k = C := by omega
      by_cases hlt : k < l.size
      · obtain ⟨a, b, ha, hb, hab⟩ := HT.out hlt
        have i1 : (k : Int) < (l.size : Int) := by omega
        have i2 : (k : Int) < (r.size : Int) := by omega
        have e1 : l[k] = a := get_list hlt ha
        have e2 : r[k] = b := get_list c2 hb
        have e3 : ((a.toNat : Int) == (b.toNat : Int)) = false := by
          rw [Bool.eq_false_iff]
          intro h
          have h2 : a.toNat = b.toNat := by have := eq_of_beq h; omega
          exact hab (UInt8.toNat_inj.1 h2)
        clear ha hb HG HT
        go_wp2_with fail
        go_region_held3 (fun _ => True) (trivial) (fail)
        all_goals
          go_wp2_with fail
          go_ret2
          exact ⟨rfl, Fr.drew sr⟩
      · have i1 : ¬ (k : Int) < (l.size : Int) := by omega
        have i2 : decide ((k : Int) < (l.size : Int)) = false := decide_eq_false i1
        have i3 : ¬ k < l.size := hlt
        have i4 : l.size ≤ k := by omega
        clear HG HT i3 hlt
        go_wp2_with fail
        refine wp_region_held_drew (S := fun _ => True) (by kernel_rfl) (trivial) (fun hHeld => ?_)
        refine wpAnyH_take (i := 0) (oi := { dst := some 10, op := Op.move (Operand.tmp 6), type := 3, pos := "cut.go:27", after := #[], guard := none }) (v := .int .i64 (k : Int)) rfl (by kernel_rfl) (by kernel_rfl) (by kernel_rfl) (fun _ _ _ h => h) (Or.inl ⟨by rfl, fun w hSw => by (obtain _ := hSw; go_simp)⟩) (by assumption) ?_
        try simp only [Act.put, List.setIfInBounds_toArray, List.set_cons_zero, List.set_cons_succ]
        refine wpAnyH_take (i := 1) (oi := { dst := some 11, op := Op.move (Operand.tmp 0), type := 9, pos := "cut.go:27", after := #[], guard := none }) (v := .string l) rfl (by kernel_rfl) (by kernel_rfl) (by kernel_rfl) (fun _ _ _ h => h) (Or.inl ⟨by rfl, fun w hSw => by (obtain _ := hSw; go_simp)⟩) (by assumption) ?_
        try simp only [Act.put, List.setIfInBounds_toArray, List.set_cons_zero, List.set_cons_succ]
        refine wpAnyH_take (i := 2) (oi := { dst := some 12, op := Op.call { callee := Callee.builtin Builtin.len, args := #[Operand.tmp 11], argTypes := #[9] }, type := 3, pos := "cut.go:27", after := #[{ on := 1, ground := Ground.data }], guard := none }) (v := .int .i64 (l.size : Int)) rfl (by kernel_rfl) (by kernel_rfl) (by kernel_rfl) (fun _ _ _ h => h) (Or.inl ⟨by rfl, fun w hSw => by (obtain _ := hSw; go_simp)⟩) (by assumption) ?_
        try simp only [Act.put, List.setIfInBounds_toArray, List.set_cons_zero, List.set_cons_succ]
        refine wpAnyH_take (i := 3) (oi := { dst := some 13, op := Op.binOp BinOp.lss 3 (Operand.tmp 10) (Operand.tmp 12) 3, type := 4, pos := "cut.go:27", after := #[{ on := 0, ground := Ground.data }, { on := 2, ground := Ground.data }], guard := none }) (v := .bool false) rfl (by kernel_rfl) (by kernel_rfl) (by kernel_rfl) (fun _ _ _ h => h) (Or.inl ⟨by rfl, fun w hSw => by (obtain _ := hSw; go_simp)⟩) (by assumption) ?_
        try simp only [Act.put, List.setIfInBounds_toArray, List.set_cons_zero, List.set_cons_succ]
        refine wpAnyH_take (i := 4) (oi := { dst := some 14, op := Op.move (Operand.tmp 13), type := 4, pos := "cut.go:27", after := #[{ on := 3, ground := Ground.data }], guard := none }) (v := .bool false) rfl (by kernel_rfl) (by kernel_rfl) (by kernel_rfl) (fun _ _ _ h => h) (Or.inl ⟨by rfl, fun w hSw => by (obtain _ := hSw; go_simp)⟩) (by assumption) ?_
        try simp only [Act.put, List.setIfInBounds_toArray, List.set_cons_zero, List.set_cons_succ]
        refine wpAnyH_take (i := 5) (oi := { dst := some 15, op := Op.move (Operand.tmp 0), type := 9, pos := "cut.go:27", after := #[{ on := 4, ground := Ground.guard }], guard := some (4, true) }) (v := undef) rfl (by kernel_rfl) (by kernel_rfl) (by kernel_rfl) (fun _ _ _ h => h) (Or.inr ⟨by rfl, rfl⟩) (by assumption) ?_
        try simp only [Act.put, List.setIfInBounds_toArray, List.set_cons_zero, List.set_cons_succ]
        refine wpAnyH_take (i := 6) (oi := { dst := some 16, op := Op.move (Operand.tmp 6), type := 3, pos := "cut.go:27", after := #[{ on := 4, ground := Ground.guard }], guard := some (4, true) }) (v := undef) rfl (by kernel_rfl) (by kernel_rfl) (by kernel_rfl) (fun _ _ _ h => h) (Or.inr ⟨by rfl, rfl⟩) (by assumption) ?_
        try simp only [Act.put, List.setIfInBounds_toArray, List.set_cons_zero, List.set_cons_succ]
        refine wpAnyH_take (i := 7) (oi := { dst := some 17, op := Op.index 9 (Operand.tmp 15) (Operand.tmp 16), type := 5, pos := "cut.go:27", after := #[{ on := 5, ground := Ground.data }, { on := 6, ground := Ground.data }, { on := 4, ground := Ground.guard }], guard := some (4, true) }) (v := undef) rfl (by kernel_rfl) (by kernel_rfl) (by kernel_rfl) (fun _ _ _ h => h) (Or.inr ⟨by rfl, rfl⟩) (by assumption) ?_
        try simp only [Act.put, List.setIfInBounds_toArray, List.set_cons_zero, List.set_cons_succ]
        refine wpAnyH_take (i := 8) (oi := { dst := some 18, op := Op.move (Operand.tmp 1), type := 9, pos := "cut.go:27", after := #[{ on := 4, ground := Ground.guard }], guard := some (4, true) }) (v := undef) rfl (by kernel_rfl) (by kernel_rfl) (by kernel_rfl) (fun _ _ _ h => h) (Or.inr ⟨by rfl, rfl⟩) (by assumption) ?_
        try simp only [Act.put, List.setIfInBounds_toArray, List.set_cons_zero, List.set_cons_succ]
        refine wpAnyH_take (i := 9) (oi := { dst := some 19, op := Op.move (Operand.tmp 6), type := 3, pos := "cut.go:27", after := #[{ on := 4, ground := Ground.guard }], guard := some (4, true) }) (v := undef) rfl (by kernel_rfl) (by kernel_rfl) (by kernel_rfl) (fun _ _ _ h => h) (Or.inr ⟨by rfl, rfl⟩) (by assumption) ?_
        try simp only [Act.put, List.setIfInBounds_toArray, List.set_cons_zero, List.set_cons_succ]
        refine wpAnyH_take (i := 10) (oi := { dst := some 20, op := Op.index 9 (Operand.tmp 18) (Operand.tmp 19), type := 5, pos := "cut.go:27", after := #[{ on := 8, ground := Ground.data }, { on := 9, ground := Ground.data }, { on := 4, ground := Ground.guard }], guard := some (4, true) }) (v := undef) rfl (by kernel_rfl) (by kernel_rfl) (by kernel_rfl) (fun _ _ _ h => h) (Or.inr ⟨by rfl, rfl⟩) (by assumption) ?_
        try simp only [Act.put, List.setIfInBounds_toArray, List.set_cons_zero, List.set_cons_succ]
        refine wpAnyH_take (i := 11) (oi := { dst := some 21, op := Op.binOp BinOp.eql 5 (Operand.tmp 17) (Operand.tmp 20) 5, type := 4, pos := "cut.go:27", after := #[{ on := 7, ground := Ground.data }, { on := 10, ground := Ground.data }, { on := 4, ground := Ground.guard }], guard := some (4, true) }) (v := undef) rfl (by kernel_rfl) (by kernel_rfl) (by kernel_rfl) (fun _ _ _ h => h) (Or.inr ⟨by rfl, rfl⟩) (by assumption) ?_
        try simp only [Act.put, List.setIfInBounds_toArray, List.set_cons_zero, List.set_cons_succ]
        refine wpAnyH_take (i := 12) (oi := { dst := some 22, op := Op.pick (Operand.tmp 14) (Operand.tmp 21) (Operand.const (Value.bool false)), type := 4, pos := "cut.go:27", after := #[{ on := 4, ground := Ground.data }, { on := 11, ground := Ground.data }], guard := none }) (v := .bool false) rfl (by kernel_rfl) (by kernel_rfl) (by kernel_rfl) (fun _ _ _ h => h) (Or.inl ⟨by rfl, fun w hSw => by (obtain _ := hSw; go_simp)⟩) (by assumption) ?_
        try simp only [Act.put, List.setIfInBounds_toArray, List.set_cons_zero, List.set_cons_succ]
        refine wpAnyH_done (by kernel_rfl) ?_ _
        go_wp2_with fail
        go_ret2
        exact ⟨rfl, Fr.drew sr⟩
theorem between_more {l r : ByteArray} (w : World) (h : Op.bytesLess l.toList r.toList = true) (hl : l.size ≤ 4611686018427387904) :
    Calls Try.prog 27 #[.string l, .string r] w fun e w' => e = .returned (.tuple #[.string (r.extract 0 (comP l.data.toList r.data.toList + 1)), .int .i64 0]) ∧ Same w w' :=
  between_core w h (by
    have h' := h
    rw [ByteArray.toList_eq, ByteArray.toList_eq] at h'
    have := (com_less h').1
    rw [bytes_length'] at this; omega)
end Go.Proofs.Yteddbkbfnafbpaa
