/- Between, and the document's. -/
import Derived.Test.YtmgkdnejjemfeaaK0
import Derived.Deep.LoopGhost
import Derived.Deep.RegionHeld3
import Derived.Lib.Bytealg
import Derived.Test.YtmgkdnejjemfeaaK4
namespace Go.Proofs.Ytmgkdnejjemfeaa
open Go.RowKit

/-- How many bytes two texts have in common. -/
def comP : List UInt8 → List UInt8 → Nat
  | a :: x, b :: y => if a = b then comP x y + 1 else 0
  | _, _ => 0
theorem com_less : ∀ {x y : List UInt8}, Op.bytesLess x y = true → comP x y ≤ x.length ∧ comP x y < y.length := by
  intro x
  induction x with
  | nil => intro y h; cases y with
    | nil => simp [Op.bytesLess] at h
    | cons b y => simp [comP]
  | cons a x ih =>
    intro y h
    cases y with
    | nil => simp [Op.bytesLess] at h
    | cons b y =>
      rw [comP]
      split
      · rename_i e
        subst e
        have h2 : Op.bytesLess x y = true := by simpa [Op.bytesLess] using h
        have := ih h2
        simp only [List.length_cons]; omega
      · simp
theorem com_go : ∀ {x y : List UInt8} {k : Nat}, k < comP x y → ∃ a, x[k]? = some a ∧ y[k]? = some a := by
  intro x
  induction x with
  | nil => intro y k h; cases y <;> simp [comP] at h
  | cons a x ih =>
    intro y k h
    cases y with
    | nil => simp [comP] at h
    | cons b y =>
      rw [comP] at h
      split at h
      · rename_i e
        subst e
        cases k with
        | zero => exact ⟨a, by simp, by simp⟩
        | succ k =>
          obtain ⟨c, h1, h2⟩ := ih (y := y) (k := k) (by omega)
          exact ⟨c, by simpa using h1, by simpa using h2⟩
      · omega
theorem com_stop : ∀ {x y : List UInt8}, comP x y < x.length → comP x y < y.length → ∃ a b, x[comP x y]? = some a ∧ y[comP x y]? = some b ∧ a ≠ b := by
  intro x
  induction x with
  | nil => intro y h; simp [comP] at h
  | cons a x ih =>
    intro y h h2
    cases y with
    | nil => simp [comP] at h2
    | cons b y =>
      rw [comP] at h h2 ⊢
      split
      · rename_i e
        rw [if_pos e] at h h2
        obtain ⟨c, d, q1, q2, q3⟩ := ih (y := y) (by simpa using h) (by simpa using h2)
        exact ⟨c, d, by simpa using q1, by simpa using q2, q3⟩
      · rename_i e
        exact ⟨a, b, by simp, by simp, e⟩
theorem bytes_length' (s : ByteArray) : s.data.toList.length = s.size := by rw [Array.length_toList]; rfl
theorem get_list {s : ByteArray} {k : Nat} {a : UInt8} (hk : k < s.size) (h : s.data.toList[k]? = some a) : s[k] = a := by
  have h2 : s.data[k]? = some a := by rw [← Array.getElem?_toList]; exact h
  have h3 : k < s.data.size := hk
  rw [Array.getElem?_eq_getElem h3] at h2
  exact Option.some.inj h2
set_option maxRecDepth 100000 in
set_option maxHeartbeats 1000000 in
theorem between_core {l r : ByteArray} (w : World) (h : Op.bytesLess l.toList r.toList = true) (hl : comP l.data.toList r.data.toList + 1 ≤ 9223372036854775807) :
    Calls Try.prog 14 #[.string l, .string r] w fun e w' => e = .returned (.tuple #[.string (r.extract 0 (comP l.data.toList r.data.toList + 1)), .int .i64 0]) ∧ Same w w' := by
  have h' := h
  rw [ByteArray.toList_eq, ByteArray.toList_eq] at h'
  obtain ⟨c1, c2⟩ := com_less h'
  rw [bytes_length'] at c1 c2
  have HG : Hid (∀ k, k < comP l.data.toList r.data.toList → ∃ a, l.data.toList[k]? = some a ∧ r.data.toList[k]? = some a) := fun k hk => com_go hk
  have HT : Hid (comP l.data.toList r.data.toList < l.size → ∃ a b, l.data.toList[comP l.data.toList r.data.toList]? = some a ∧ r.data.toList[comP l.data.toList r.data.toList]? = some b ∧ a ≠ b) := fun hk => com_stop (by rw [bytes_length']; exact hk) (by rw [bytes_length']; exact c2)
  obtain ⟨C, hC⟩ : ∃ C, C = comP l.data.toList r.data.toList := ⟨_, rfl⟩
  rw [← hC] at HG HT c1 c2 hl ⊢
  clear hC h'
  go_enter Try.func14, Try.ntmps14
  go_wp2_with fail
  go_loopg [6] C (fun g iv wr => ∃ k : Nat, iv = .int .i64 (k : Int) ∧ k ≤ C ∧ g = C - k ∧ Same w wr)
  case atStart => exact ⟨0, rfl, by omega, rfl, Fr.refl _ w⟩
  case round =>
    obtain ⟨k, rfl, hk, hg, sr⟩ := hrel
    by_cases hgo : k < C
    · obtain ⟨a, ha, hb⟩ := HG.out k hgo
      have i1 : (k : Int) < (l.size : Int) := by omega
      have i2 : (k : Int) < (r.size : Int) := by omega
      have j1 : k < l.size := by omega
      have j2 : k < r.size := by omega
      have e1 : l[k] = a := get_list j1 ha
      have e2 : r[k] = a := get_list j2 hb
      have e3 : ((a.toNat : Int) == (a.toNat : Int)) = true := by simp
      clear ha hb HG HT
      go_wp2_with fail
      go_region_held3 (fun _ => True) (trivial) (fail)
      all_goals
        go_wp2_with fail
        go_roundg (C - (k + 1))
        case measure => omega
        case rel => exact ⟨k + 1, by go_num, by omega, rfl, Fr.drew sr⟩
    · obtain rfl : k = C := by omega
      by_cases hlt : k < l.size
      · obtain ⟨a, b, ha, hb, hab⟩ := HT.out hlt
        have i1 : (k : Int) < (l.size : Int) := by omega
        have i2 : (k : Int) < (r.size : Int) := by omega
        have e1 : l[k] = a := get_list hlt ha
        have e2 : r[k] = b := get_list c2 hb
        have e3 : ((a.toNat : Int) == (b.toNat : Int)) = false := by
          rw [Bool.eq_false_iff]
          intro h
          have h2 : a.toNat = b.toNat := by have := eq_of_beq h; omega
          exact hab (UInt8.toNat_inj.1 h2)
        clear ha hb HG HT
        go_wp2_with fail
        go_region_held3 (fun _ => True) (trivial) (fail)
        all_goals
          go_wp2_with fail
          go_ret2
          exact ⟨rfl, Fr.drew sr⟩
      · have i1 : ¬ (k : Int) < (l.size : Int) := by omega
        have i2 : decide ((k : Int) < (l.size : Int)) = false := decide_eq_false i1
        have i3 : ¬ k < l.size := hlt
        have i4 : l.size ≤ k := by omega
        clear HG HT i3 hlt
        go_wp2_with fail
        refine wp_region_held_drew (S := fun _ => True) (by kernel_rfl) (trivial) (fun hHeld => ?_)
        refine wpAnyH_take (i := 0) (oi := { dst := some 10, op := Op.move (Operand.tmp 6), type := 3, pos := "cut.go:27", after := #[], guard := none }) (v := .int .i64 (k : Int)) rfl (by kernel_rfl) (by kernel_rfl) (by kernel_rfl) (fun _ _ _ h => h) (Or.inl ⟨by rfl, fun w hSw => by (obtain _ := hSw; go_simp)⟩) (by assumption) ?_
        try simp only [Act.put, List.setIfInBounds_toArray, List.set_cons_zero, List.set_cons_succ]
        refine wpAnyH_take (i := 1) (oi := { dst := some 11, op := Op.move (Operand.tmp 0), type := 9, pos := "cut.go:27", after := #[], guard := none }) (v := .string l) rfl (by kernel_rfl) (by kernel_rfl) (by kernel_rfl) (fun _ _ _ h => h) (Or.inl ⟨by rfl, fun w hSw => by (obtain _ := hSw; go_simp)⟩) (by assumption) ?_
        try simp only [Act.put, List.setIfInBounds_toArray, List.set_cons_zero, List.set_cons_succ]
        refine wpAnyH_take (i := 2) (oi := { dst := some 12, op := Op.call { callee := Callee.builtin Builtin.len, args := #[Operand.tmp 11], argTypes := #[9] }, type := 3, pos := "cut.go:27", after := #[{ on := 1, ground := Ground.data }], guard := none }) (v := .int .i64 (l.size : Int)) rfl (by kernel_rfl) (by kernel_rfl) (by kernel_rfl) (fun _ _ _ h => h) (Or.inl ⟨by rfl, fun w hSw => by (obtain _ := hSw; go_simp)⟩) (by assumption) ?_
        try simp only [Act.put, List.setIfInBounds_toArray, List.set_cons_zero, List.set_cons_succ]
        refine wpAnyH_take (i := 3) (oi := { dst := some 13, op := Op.binOp BinOp.lss 3 (Operand.tmp 10) (Operand.tmp 12) 3, type := 4, pos := "cut.go:27", after := #[{ on := 0, ground := Ground.data }, { on := 2, ground := Ground.data }], guard := none }) (v := .bool false) rfl (by kernel_rfl) (by kernel_rfl) (by kernel_rfl) (fun _ _ _ h => h) (Or.inl ⟨by rfl, fun w hSw => by (obtain _ := hSw; go_simp)⟩) (by assumption) ?_
        try simp only [Act.put, List.setIfInBounds_toArray, List.set_cons_zero, List.set_cons_succ]
        refine wpAnyH_take (i := 4) (oi := { dst := some 14, op := Op.move (Operand.tmp 13), type := 4, pos := "cut.go:27", after := #[{ on := 3, ground := Ground.data }], guard := none }) (v := .bool false) rfl (by kernel_rfl) (by kernel_rfl) (by kernel_rfl) (fun _ _ _ h => h) (Or.inl ⟨by rfl, fun w hSw => by (obtain _ := hSw; go_simp)⟩) (by assumption) ?_
        try simp only [Act.put, List.setIfInBounds_toArray, List.set_cons_zero, List.set_cons_succ]
        refine wpAnyH_take (i := 5) (oi := { dst := some 15, op := Op.move (Operand.tmp 0), type := 9, pos := "cut.go:27", after := #[{ on := 4, ground := Ground.guard }], guard := some (4, true) }) (v := undef) rfl (by kernel_rfl) (by kernel_rfl) (by kernel_rfl) (fun _ _ _ h => h) (Or.inr ⟨by rfl, rfl⟩) (by assumption) ?_
        try simp only [Act.put, List.setIfInBounds_toArray, List.set_cons_zero, List.set_cons_succ]
        refine wpAnyH_take (i := 6) (oi := { dst := some 16, op := Op.move (Operand.tmp 6), type := 3, pos := "cut.go:27", after := #[{ on := 4, ground := Ground.guard }], guard := some (4, true) }) (v := undef) rfl (by kernel_rfl) (by kernel_rfl) (by kernel_rfl) (fun _ _ _ h => h) (Or.inr ⟨by rfl, rfl⟩) (by assumption) ?_
        try simp only [Act.put, List.setIfInBounds_toArray, List.set_cons_zero, List.set_cons_succ]
        refine wpAnyH_take (i := 7) (oi := { dst := some 17, op := Op.index 9 (Operand.tmp 15) (Operand.tmp 16), type := 5, pos := "cut.go:27", after := #[{ on := 5, ground := Ground.data }, { on := 6, ground := Ground.data }, { on := 4, ground := Ground.guard }], guard := some (4, true) }) (v := undef) rfl (by kernel_rfl) (by kernel_rfl) (by kernel_rfl) (fun _ _ _ h => h) (Or.inr ⟨by rfl, rfl⟩) (by assumption) ?_
        try simp only [Act.put, List.setIfInBounds_toArray, List.set_cons_zero, List.set_cons_succ]
        refine wpAnyH_take (i := 8) (oi := { dst := some 18, op := Op.move (Operand.tmp 1), type := 9, pos := "cut.go:27", after := #[{ on := 4, ground := Ground.guard }], guard := some (4, true) }) (v := undef) rfl (by kernel_rfl) (by kernel_rfl) (by kernel_rfl) (fun _ _ _ h => h) (Or.inr ⟨by rfl, rfl⟩) (by assumption) ?_
        try simp only [Act.put, List.setIfInBounds_toArray, List.set_cons_zero, List.set_cons_succ]
        refine wpAnyH_take (i := 9) (oi := { dst := some 19, op := Op.move (Operand.tmp 6), type := 3, pos := "cut.go:27", after := #[{ on := 4, ground := Ground.guard }], guard := some (4, true) }) (v := undef) rfl (by kernel_rfl) (by kernel_rfl) (by kernel_rfl) (fun _ _ _ h => h) (Or.inr ⟨by rfl, rfl⟩) (by assumption) ?_
        try simp only [Act.put, List.setIfInBounds_toArray, List.set_cons_zero, List.set_cons_succ]
        refine wpAnyH_take (i := 10) (oi := { dst := some 20, op := Op.index 9 (Operand.tmp 18) (Operand.tmp 19), type := 5, pos := "cut.go:27", after := #[{ on := 8, ground := Ground.data }, { on := 9, ground := Ground.data }, { on := 4, ground := Ground.guard }], guard := some (4, true) }) (v := undef) rfl (by kernel_rfl) (by kernel_rfl) (by kernel_rfl) (fun _ _ _ h => h) (Or.inr ⟨by rfl, rfl⟩) (by assumption) ?_
        try simp only [Act.put, List.setIfInBounds_toArray, List.set_cons_zero, List.set_cons_succ]
        refine wpAnyH_take (i := 11) (oi := { dst := some 21, op := Op.binOp BinOp.eql 5 (Operand.tmp 17) (Operand.tmp 20) 5, type := 4, pos := "cut.go:27", after := #[{ on := 7, ground := Ground.data }, { on := 10, ground := Ground.data }, { on := 4, ground := Ground.guard }], guard := some (4, true) }) (v := undef) rfl (by kernel_rfl) (by kernel_rfl) (by kernel_rfl) (fun _ _ _ h => h) (Or.inr ⟨by rfl, rfl⟩) (by assumption) ?_
        try simp only [Act.put, List.setIfInBounds_toArray, List.set_cons_zero, List.set_cons_succ]
        refine wpAnyH_take (i := 12) (oi := { dst := some 22, op := Op.pick (Operand.tmp 14) (Operand.tmp 21) (Operand.const (Value.bool false)), type := 4, pos := "cut.go:27", after := #[{ on := 4, ground := Ground.data }, { on := 11, ground := Ground.data }], guard := none }) (v := .bool false) rfl (by kernel_rfl) (by kernel_rfl) (by kernel_rfl) (fun _ _ _ h => h) (Or.inl ⟨by rfl, fun w hSw => by (obtain _ := hSw; go_simp)⟩) (by assumption) ?_
        try simp only [Act.put, List.setIfInBounds_toArray, List.set_cons_zero, List.set_cons_succ]
        refine wpAnyH_done (by kernel_rfl) ?_ _
        go_wp2_with fail
        go_ret2
        exact ⟨rfl, Fr.drew sr⟩
theorem between_more {l r : ByteArray} (w : World) (h : Op.bytesLess l.toList r.toList = true) (hl : l.size ≤ 4611686018427387904) :
    Calls Try.prog 14 #[.string l, .string r] w fun e w' => e = .returned (.tuple #[.string (r.extract 0 (comP l.data.toList r.data.toList + 1)), .int .i64 0]) ∧ Same w w' :=
  between_core w h (by
    have h' := h
    rw [ByteArray.toList_eq, ByteArray.toList_eq] at h'
    have := (com_less h').1
    rw [bytes_length'] at this; omega)
end Go.Proofs.Ytmgkdnejjemfeaa
namespace Go.Proofs.Ytmgkdnejjemfeaa
open Go.RowKit

theorem less_take : ∀ {x y : List UInt8} {i : Nat}, Op.bytesLess x y = true → i ≤ y.length → Op.bytesLess x (y.take i) = decide (comP x y < i) := by
  intro x
  induction x with
  | nil =>
    intro y i h hi
    cases y with
    | nil => simp [Op.bytesLess] at h
    | cons b y =>
      cases i with
      | zero => simp [Op.bytesLess, comP]
      | succ i => simp [Op.bytesLess, comP]
  | cons a x ih =>
    intro y i h hi
    cases y with
    | nil => simp [Op.bytesLess] at h
    | cons b y =>
      cases i with
      | zero => simp [Op.bytesLess]
      | succ i =>
        rw [List.take_succ_cons, comP]
        by_cases e : a = b
        · subst e
          have h2 : Op.bytesLess x y = true := by simpa [Op.bytesLess] using h
          have := ih h2 (show i ≤ y.length by simpa using hi)
          rw [if_pos rfl]
          simp only [Op.bytesLess, UInt8.lt_irrefl, decide_false, Bool.false_or, beq_self_eq_true, Bool.true_and]
          rw [this]
          simp
        · have h2 : a < b := by
            simp only [Op.bytesLess, Bool.or_eq_true, decide_eq_true_eq, Bool.and_eq_true, beq_iff_eq] at h
            rcases h with h | h
            · exact h
            · exact absurd h.1 e
          rw [if_neg e]
          simp [Op.bytesLess, h2]
theorem extract_list (s : ByteArray) (i n : Nat) : (s.extract i (i + n)).data.toList = (s.data.toList.drop i).take n := by
  rw [ByteArray.data_extract, Array.toList_extract, List.extract_eq_take_drop, Nat.add_sub_cancel_left]
theorem less_gt : ∀ (x y : List UInt8), (!Op.bytesLess x y && !(x == y)) = Op.bytesLess y x := by
  intro x
  induction x with
  | nil => intro y; cases y <;> simp [Op.bytesLess]
  | cons a x ih =>
    intro y
    cases y with
    | nil => simp [Op.bytesLess]
    | cons b y =>
      have := ih y
      by_cases e : a = b
      · subst e
        simp only [Op.bytesLess, UInt8.lt_irrefl, decide_false, Bool.false_or, beq_self_eq_true, Bool.true_and, List.cons_beq_cons]
        exact this
      · rcases UInt8.lt_or_lt_of_ne e with h | h
        · have h2 : ¬ b < a := UInt8.lt_asymm h
          simp [Op.bytesLess, h, h2, Ne.symm e]
        · have h2 : ¬ a < b := UInt8.lt_asymm h
          simp [Op.bytesLess, h, h2, e]
theorem ext_less (l r : ByteArray) (i : Nat) : (!Op.bytesLess (r.extract 0 i).toList l.toList && !(r.extract 0 i).toList == l.toList) = Op.bytesLess l.data.toList (r.data.toList.take i) := by
  rw [less_gt]
  have := extract_list r 0 i
  rw [Nat.zero_add, List.drop_zero] at this
  rw [ByteArray.toList_eq, ByteArray.toList_eq, this]
set_option maxRecDepth 100000 in
set_option maxHeartbeats 1000000 in
theorem rbetween_more {l r : ByteArray} (w : World) (h : Op.bytesLess l.toList r.toList = true) (hr : r.size ≤ 4611686018427387904) :
    Calls Try.prog 35 #[.string l, .string r] w fun e w' => e = .returned (.tuple #[.string (r.extract 0 (comP l.data.toList r.data.toList + 1)), .int .i64 0]) ∧ Same w w' := by
  rw [ByteArray.toList_eq, ByteArray.toList_eq] at h
  obtain ⟨_, c2⟩ := com_less h
  have HL : Hid (∀ i, i ≤ r.size → (!Op.bytesLess (r.extract 0 i).toList l.toList && !(r.extract 0 i).toList == l.toList) = decide (comP l.data.toList r.data.toList < i)) := fun i hi => by rw [ext_less]; exact less_take h (by rw [bytes_length']; exact hi)
  rw [bytes_length'] at c2
  obtain ⟨C, hC⟩ : ∃ C, C = comP l.data.toList r.data.toList := ⟨_, rfl⟩
  rw [← hC] at HL c2 ⊢
  clear hC h
  go_enter Try.func35, Try.ntmps35
  go_wp2_with fail
  go_loopg [6] (C + 2) (fun g iv wr => ∃ k : Nat, iv = .int .i64 (k : Int) ∧ k ≤ C + 1 ∧ g = C + 2 - k ∧ Same w wr)
  case atStart => exact ⟨0, rfl, by omega, rfl, Fr.refl _ w⟩
  case round =>
    obtain ⟨k, rfl, hk, hg, sr⟩ := hrel
    have i1 : (k : Int) ≤ (r.size : Int) := by omega
    have i0 : (0 : Int) ≤ (k : Int) := by omega
    have hb := HL.out k (by omega)
    by_cases hgo : C < k
    · obtain rfl : k = C + 1 := by omega
      rw [decide_eq_true hgo] at hb
      clear HL
      go_wp2_with fail
      go_ret2
      exact ⟨rfl, sr⟩
    · rw [decide_eq_false hgo] at hb
      clear HL
      go_wp2_with fail
      go_roundg (C + 2 - (k + 1))
      case measure => omega
      case rel => exact ⟨k + 1, by go_num, by omega, rfl, sr⟩
end Go.Proofs.Ytmgkdnejjemfeaa
namespace Go.Proofs.Ytmgkdnejjemfeaa
open Go.RowKit

set_option maxRecDepth 100000 in
set_option maxHeartbeats 1000000 in
theorem firstPairs {ao : Option Addr} {n c m : Nat} {cells : List Value} (w : World) (h : PartOk w 2 ⟨ao, n, c, cells⟩) (h3 : ∀ a, ao = some a → ∃ b o, a = ⟨b, o, none⟩) (hm : m ≤ n) (hc : n ≤ c) (hn2 : n ≤ 1048576) :
    Calls Try.prog 59 #[.slice ao n c, .int .i64 (m : Int)] w fun e w' => ∃ ao' c', e = .returned (.slice ao' m c') ∧ w'.ownsRow w.heap.size 48 2 (.slice ao' m c') m (cells.take (m * 2)) ∧ Same w w' := by
  obtain ⟨d, hd⟩ : ∃ d, n = m + d := ⟨n - m, by omega⟩
  have hl : cells.length = n * 2 := h.len
  have HW : Hid (∀ W, Same w W → Calls Try.prog 53 #[.slice ao n c, .int .i64 (m : Int), .int .i64 (d : Int)] W fun e w' => ∃ ao' c', e = .returned (.slice ao' m c') ∧ w'.ownsRow W.heap.size 48 2 (.slice ao' m c') m (cells.take (m * 2)) ∧ Same W w') := fun W s => by
    have := withoutPairs (i := m) (m := d) W (h.same s) h3 (by omega) hc hn2
    rw [show n - d = m from by omega, show (m + d) * 2 = cells.length from by omega, List.drop_length, List.append_nil] at this
    exact this
  have e1 : (n : Int) - (m : Int) = (d : Int) := by omega
  have e2 : RowKit.wrap64 ((n : Int) - (m : Int)) = (d : Int) := by unfold RowKit.wrap64; omega
  have e3 : IntKind.i64.wrap (d : Int) = (d : Int) := by rw [IntKind.wrap_i64]; omega
  clear h h3 hd hl
  go_enter Try.func59, Try.ntmps59
  go_wp2_with fail
  refine (HW.out _ (Fr.refl _ _)).mono ?_
  rintro e W1 ⟨ao1, c1, rfl, own1, s1⟩
  go_wp2_with fail
  go_ret
  exact ⟨_, _, rfl, own1, s1⟩
end Go.Proofs.Ytmgkdnejjemfeaa
