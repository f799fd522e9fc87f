/- free: the document's number; plain: both read alike. -/
import Derived.Test.YtajbifblbmlffaaIJ
namespace Go.Proofs.Ytajbifblbmlffaa
open Go.RowKit Go.Maps

/-- Four bytes of a text as a number. -/
def num4 (s : ByteArray) (i : Nat) : Nat := beN (s.extract i (i + 4)).data.toList
def docNs (s : ByteArray) : List Nat := (List.range ((s.size - 8) / 4)).map fun i => num4 s (8 + 4 * i)
def docOk (p q : Int) (s : ByteArray) : Bool := frameP p q && decide (8 ≤ s.size) && decide (s.size % 4 = 0) && decide (s.size ≤ 8 + 4 * entN p q) && ((bodyE p q (num4 s 0) (docNs s) == 0) && decide (bodyS p q (num4 s 0) (docNs s) = s))
theorem num4_lt (s : ByteArray) (i : Nat) : num4 s i < 4294967296 := by
  have h := beN_lt (s.extract i (i + 4)).data.toList
  rw [bytes_length, ByteArray.size_extract] at h
  have : 256 ^ (min (i + 4) s.size - i) ≤ 256 ^ 4 := Nat.pow_le_pow_right (by decide) (by omega)
  unfold num4
  omega
theorem raw_at {s : ByteArray} {p : Nat} (h : p + 4 ≤ s.size) : tkV s (p, 0) = num4 s p ∧ tkN s (p, 0) = (p + 4, 0) := by
  have e : ((4 : Int).toNat) = 4 := rfl
  unfold tkV tkN rRaw num4
  simp only [if_true, e]
  rw [if_neg (by omega)]
  exact ⟨rfl, rfl⟩
theorem it_at {s : ByteArray} : ∀ (k p : Nat), p + 4 * k ≤ s.size → itN s (p, 0) k = (p + 4 * k, 0)
  | 0, p, _ => rfl
  | k + 1, p, h => by
    have h1 := it_at (s := s) k p (by omega)
    have h2 := (raw_at (s := s) (p := p + 4 * k) (by omega)).2
    show tkN s (itN s (p, 0) k) = _
    rw [h1, h2]
    congr 1
theorem readK_at {s : ByteArray} {k p : Nat} (h : p + 4 * k ≤ s.size) : readK s (p, 0) k = (List.range k).map fun i => num4 s (p + 4 * i) := by
  unfold readK
  apply List.map_congr_left
  intro i hi
  have hi := List.mem_range.1 hi
  rw [it_at i p (by omega), (raw_at (by omega)).1]
theorem beN_fix4 {m : Nat} (h : m < 4294967296) : beN (fix4 m) = m := by
  have e0 : ((m : Int) / 256 ^ 3 % 256).toNat % 256 = m / 16777216 := by rw [show (256 : Int) ^ 3 = 16777216 from rfl]; omega
  have e1 : ((m : Int) / 256 ^ 2 % 256).toNat % 256 = m / 65536 % 256 := by rw [show (256 : Int) ^ 2 = 65536 from rfl]; omega
  have e2 : ((m : Int) / 256 ^ 1 % 256).toNat % 256 = m / 256 % 256 := by rw [show (256 : Int) ^ 1 = 256 from rfl]; omega
  have e3 : ((m : Int) / 256 ^ 0 % 256).toNat % 256 = m % 256 := by rw [show (256 : Int) ^ 0 = 1 from rfl]; omega
  have hu : ∀ k : Nat, (UInt8.ofNat k).toNat = k % 256 := fun k => by simp
  unfold fix4 beN
  simp only [fixB, List.foldl_cons, List.foldl_nil, hu, e0, e1, e2, e3]
  omega
theorem bodyL_len (nx : Nat) (ns : List Nat) : (bodyL nx ns).length = 8 + 4 * ns.length := by
  unfold bodyL
  simp only [List.length_append, fix4_len, flat4_len]
theorem ok_of_E {p q : Int} {nx : Nat} {ns : List Nat} (h : (bodyE p q nx ns == 0) = true) : bodyOk p q nx ns = true := by
  unfold bodyE at h
  cases hb : bodyOk p q nx ns with
  | true => rfl
  | false => rw [hb] at h; simp at h
theorem from_both {p q : Int} {s : ByteArray} : frOk p q s = docOk p q s ∧ (frOk p q s = true → frNx s = num4 s 0 ∧ frNs p q s = docNs s) := by
  have fwd : frOk p q s = true → docOk p q s = true ∧ frNx s = num4 s 0 ∧ frNs p q s = docNs s := by
    intro h
    unfold frOk at h
    simp only [Bool.and_eq_true, decide_eq_true_eq] at h
    obtain ⟨⟨hf, hE⟩, hS⟩ := h
    have hok := ok_of_E hE
    have hlen : s.size = 8 + 4 * (frNs p q s).length := by
      have : s = ⟨(bodyL (frNx s) (frNs p q s)).toArray⟩ := by
        have := hS
        unfold bodyS at this
        rw [hok] at this
        exact this.symm
      have h2 := congrArg ByteArray.size this
      rw [h2]
      show (bodyL (frNx s) (frNs p q s)).toArray.size = _
      rw [List.size_toArray, bodyL_len]
    have hk : (frNs p q s).length = frK p q s := readK_len _ _ _
    have hle : (frNs p q s).length ≤ entN p q := by
      rw [hk]; exact Nat.min_le_right _ _
    have h0 := raw_at (s := s) (p := 0) (by omega)
    have hi2 : itN s (0, 0) 2 = (8, 0) := it_at 2 0 (by omega)
    have hnx : frNx s = num4 s 0 := h0.1
    have hns : frNs p q s = docNs s := by
      unfold frNs docNs
      rw [hi2, readK_at (by rw [← hk]; omega), ← hk]
      congr 2
      omega
    refine ⟨?_, hnx, hns⟩
    unfold docOk
    rw [hnx, hns] at hE hS
    rw [hf, decide_eq_true (by omega : 8 ≤ s.size), decide_eq_true (by omega : s.size % 4 = 0), decide_eq_true (by omega : s.size ≤ 8 + 4 * entN p q), hE, decide_eq_true hS]
    rfl
  have bwd : docOk p q s = true → frOk p q s = true := by
    intro h
    unfold docOk at h
    simp only [Bool.and_eq_true, decide_eq_true_eq] at h
    obtain ⟨⟨⟨⟨hf, h8⟩, h4⟩, hmx⟩, hE, hS⟩ := h
    have hok := ok_of_E hE
    have hS2 : s = ⟨(bodyL (num4 s 0) (docNs s)).toArray⟩ := by
      have := hS
      unfold bodyS at this
      rw [hok] at this
      exact this.symm
    have hl : (docNs s).length = (s.size - 8) / 4 := by unfold docNs; simp
    have h0 := raw_at (s := s) (p := 0) (by omega)
    have hi2 : itN s (0, 0) 2 = (8, 0) := it_at 2 0 (by omega)
    have hc : tkV s (tkN s (0, 0)) = (docNs s).length := by
      rw [h0.2, (raw_at (s := s) (p := 0 + 4) (by omega)).1]
      have hx : num4 s (0 + 4) = beN (fix4 (docNs s).length) := by
        unfold num4
        congr 1
        rw [ByteArray.data_extract, Array.toList_extract]
        have : s.data.toList = bodyL (num4 s 0) (docNs s) := by
          have := congrArg (fun x : ByteArray => x.data.toList) hS2
          exact this
        rw [this]
        unfold bodyL
        simp only [List.extract_eq_take_drop]
        rw [List.append_assoc, List.drop_left' (fix4_len _), List.take_left' (by rw [fix4_len])]
      rw [hx, beN_fix4 (by rw [hl]; have := entN_cases p q; omega)]
    have hk : frK p q s = (docNs s).length := by
      unfold frK
      rw [hc]
      exact Nat.min_eq_left (by rw [hl]; omega)
    have hns : frNs p q s = docNs s := by
      unfold frNs
      rw [hi2, hk, readK_at (by rw [hl]; omega), hl]
      rfl
    unfold frOk
    rw [hns, show frNx s = num4 s 0 from h0.1, hf, hE, decide_eq_true hS]
    rfl
  constructor
  · cases h1 : frOk p q s with
    | true => rw [(fwd h1).1]
    | false =>
      cases h2 : docOk p q s with
      | false => rfl
      | true => rw [bwd h2] at h1; cases h1
  · exact fun h => (fwd h).2
set_option maxRecDepth 100000 in
set_option maxHeartbeats 1000000 in
theorem rnumber_calls (t : ByteArray) (ht : t.size = 4) (w : World) : Calls Try.prog 41 #[.string t] w fun e w' => e = .returned (.int .u32 (beN t.data.toList : Int)) ∧ Same w w' := by
  obtain ⟨⟨l⟩⟩ := t
  have hl : l.length = 4 := ht
  match l, hl with
  | [b0, b1, b2, b3], _ =>
    have HB : Hid (beN [b0, b1, b2, b3] = b0.toNat * 16777216 + b1.toNat * 65536 + b2.toNat * 256 + b3.toNat) := by
      show _ = _
      unfold beN
      simp only [List.foldl_cons, List.foldl_nil]
      omega
    have l0 := b0.toNat_lt
    have l1 := b1.toNat_lt
    have l2 := b2.toNat_lt
    have l3 := b3.toNat_lt
    have q0 : IntKind.u32.wrap (b0.toNat : Int) = (b0.toNat : Int) := by rw [IntKind.wrap_u32]; omega
    have q1 : IntKind.u32.wrap (b1.toNat : Int) = (b1.toNat : Int) := by rw [IntKind.wrap_u32]; omega
    have q2 : IntKind.u32.wrap (b2.toNat : Int) = (b2.toNat : Int) := by rw [IntKind.wrap_u32]; omega
    have q3 : IntKind.u32.wrap (b3.toNat : Int) = (b3.toNat : Int) := by rw [IntKind.wrap_u32]; omega
    have k0 : IntKind.u32.wrap ((b0.toNat : Int) * 16777216) = (b0.toNat : Int) * 16777216 := by rw [IntKind.wrap_u32]; omega
    have k1 : IntKind.u32.wrap ((b1.toNat : Int) * 65536) = (b1.toNat : Int) * 65536 := by rw [IntKind.wrap_u32]; omega
    have k2 : IntKind.u32.wrap ((b2.toNat : Int) * 256) = (b2.toNat : Int) * 256 := by rw [IntKind.wrap_u32]; omega
    have k3 : IntKind.u32.wrap ((b0.toNat : Int) * 16777216 + (b1.toNat : Int) * 65536) = (b0.toNat : Int) * 16777216 + (b1.toNat : Int) * 65536 := by rw [IntKind.wrap_u32]; omega
    have k4 : IntKind.u32.wrap ((b0.toNat : Int) * 16777216 + (b1.toNat : Int) * 65536 + (b2.toNat : Int) * 256) = (b0.toNat : Int) * 16777216 + (b1.toNat : Int) * 65536 + (b2.toNat : Int) * 256 := by rw [IntKind.wrap_u32]; omega
    have k5 : IntKind.u32.wrap ((b0.toNat : Int) * 16777216 + (b1.toNat : Int) * 65536 + (b2.toNat : Int) * 256 + (b3.toNat : Int)) = (b0.toNat : Int) * 16777216 + (b1.toNat : Int) * 65536 + (b2.toNat : Int) * 256 + (b3.toNat : Int) := by rw [IntKind.wrap_u32]; omega
    have l0 := b0.toNat_lt
    have l1 := b1.toNat_lt
    have l2 := b2.toNat_lt
    have l3 := b3.toNat_lt
    have q0 : IntKind.u32.wrap (b0.toNat : Int) = (b0.toNat : Int) := by rw [IntKind.wrap_u32]; omega
    have q1 : IntKind.u32.wrap (b1.toNat : Int) = (b1.toNat : Int) := by rw [IntKind.wrap_u32]; omega
    have q2 : IntKind.u32.wrap (b2.toNat : Int) = (b2.toNat : Int) := by rw [IntKind.wrap_u32]; omega
    have q3 : IntKind.u32.wrap (b3.toNat : Int) = (b3.toNat : Int) := by rw [IntKind.wrap_u32]; omega
    have k0 : IntKind.u32.wrap ((b0.toNat : Int) * 16777216) = (b0.toNat : Int) * 16777216 := by rw [IntKind.wrap_u32]; omega
    have k1 : IntKind.u32.wrap ((b1.toNat : Int) * 65536) = (b1.toNat : Int) * 65536 := by rw [IntKind.wrap_u32]; omega
    have k2 : IntKind.u32.wrap ((b2.toNat : Int) * 256) = (b2.toNat : Int) * 256 := by rw [IntKind.wrap_u32]; omega
    have k3 : IntKind.u32.wrap ((b0.toNat : Int) * 16777216 + (b1.toNat : Int) * 65536) = (b0.toNat : Int) * 16777216 + (b1.toNat : Int) * 65536 := by rw [IntKind.wrap_u32]; omega
    have k4 : IntKind.u32.wrap ((b0.toNat : Int) * 16777216 + (b1.toNat : Int) * 65536 + (b2.toNat : Int) * 256) = (b0.toNat : Int) * 16777216 + (b1.toNat : Int) * 65536 + (b2.toNat : Int) * 256 := by rw [IntKind.wrap_u32]; omega
    have k5 : IntKind.u32.wrap ((b0.toNat : Int) * 16777216 + (b1.toNat : Int) * 65536 + (b2.toNat : Int) * 256 + (b3.toNat : Int)) = (b0.toNat : Int) * 16777216 + (b1.toNat : Int) * 65536 + (b2.toNat : Int) * 256 + (b3.toNat : Int) := by rw [IntKind.wrap_u32]; omega
    go_enter Try.func41, Try.ntmps41
    go_wp2_with fail
    refine wp_region_held_drew (S := fun _ => True) (by kernel_rfl) (trivial) (fun hHeld => ?_)
    refine takeL (i := 0) (v := .string ⟨⟨[b0, b1, b2, b3]⟩⟩) rfl (by kernel_rfl) (by kernel_rfl) (by kernel_rfl) (fun _ _ _ h => h) (Or.inl ⟨by rfl, fun w hSw => by (go_simp; try first | rfl | exact k0 | exact k1 | exact k2 | exact q0 | exact q1 | exact q2 | exact q3)⟩) (by assumption) ?_
    try simp only [Act.put, List.setIfInBounds_toArray, List.set_cons_zero, List.set_cons_succ]
    refine takeL (i := 1) (v := .int .u8 (b0.toNat : Int)) rfl (by kernel_rfl) (by kernel_rfl) (by kernel_rfl) (fun _ _ _ h => h) (Or.inl ⟨by rfl, fun w hSw => by (go_simp; try first | rfl | exact k0 | exact k1 | exact k2 | exact q0 | exact q1 | exact q2 | exact q3)⟩) (by assumption) ?_
    try simp only [Act.put, List.setIfInBounds_toArray, List.set_cons_zero, List.set_cons_succ]
    refine takeL (i := 2) (v := .int .u32 ((b0.toNat : Int))) rfl (by kernel_rfl) (by kernel_rfl) (by kernel_rfl) (fun _ _ _ h => h) (Or.inl ⟨by rfl, fun w hSw => by (go_simp; try first | rfl | exact k0 | exact k1 | exact k2 | exact q0 | exact q1 | exact q2 | exact q3)⟩) (by assumption) ?_
    try simp only [Act.put, List.setIfInBounds_toArray, List.set_cons_zero, List.set_cons_succ]
    refine takeL (i := 3) (v := .int .u32 ((b0.toNat : Int) * 16777216)) rfl (by kernel_rfl) (by kernel_rfl) (by kernel_rfl) (fun _ _ _ h => h) (Or.inl ⟨by rfl, fun w hSw => by (go_simp; try first | rfl | exact k0 | exact k1 | exact k2 | exact q0 | exact q1 | exact q2 | exact q3)⟩) (by assumption) ?_
    try simp only [Act.put, List.setIfInBounds_toArray, List.set_cons_zero, List.set_cons_succ]
    refine takeL (i := 4) (v := .string ⟨⟨[b0, b1, b2, b3]⟩⟩) rfl (by kernel_rfl) (by kernel_rfl) (by kernel_rfl) (fun _ _ _ h => h) (Or.inl ⟨by rfl, fun w hSw => by (go_simp; try first | rfl | exact k0 | exact k1 | exact k2 | exact q0 | exact q1 | exact q2 | exact q3)⟩) (by assumption) ?_
    try simp only [Act.put, List.setIfInBounds_toArray, List.set_cons_zero, List.set_cons_succ]
    refine takeL (i := 5) (v := .int .u8 (b1.toNat : Int)) rfl (by kernel_rfl) (by kernel_rfl) (by kernel_rfl) (fun _ _ _ h => h) (Or.inl ⟨by rfl, fun w hSw => by (go_simp; try first | rfl | exact k0 | exact k1 | exact k2 | exact q0 | exact q1 | exact q2 | exact q3)⟩) (by assumption) ?_
    try simp only [Act.put, List.setIfInBounds_toArray, List.set_cons_zero, List.set_cons_succ]
    refine takeL (i := 6) (v := .int .u32 ((b1.toNat : Int))) rfl (by kernel_rfl) (by kernel_rfl) (by kernel_rfl) (fun _ _ _ h => h) (Or.inl ⟨by rfl, fun w hSw => by (go_simp; try first | rfl | exact k0 | exact k1 | exact k2 | exact q0 | exact q1 | exact q2 | exact q3)⟩) (by assumption) ?_
    try simp only [Act.put, List.setIfInBounds_toArray, List.set_cons_zero, List.set_cons_succ]
    refine takeL (i := 7) (v := .int .u32 ((b1.toNat : Int) * 65536)) rfl (by kernel_rfl) (by kernel_rfl) (by kernel_rfl) (fun _ _ _ h => h) (Or.inl ⟨by rfl, fun w hSw => by (go_simp; try first | rfl | exact k0 | exact k1 | exact k2 | exact q0 | exact q1 | exact q2 | exact q3)⟩) (by assumption) ?_
    try simp only [Act.put, List.setIfInBounds_toArray, List.set_cons_zero, List.set_cons_succ]
    refine takeL (i := 8) (v := .int .u32 ((b0.toNat : Int) * 16777216 + (b1.toNat : Int) * 65536)) rfl (by kernel_rfl) (by kernel_rfl) (by kernel_rfl) (fun _ _ _ h => h) (Or.inl ⟨by rfl, fun w hSw => by (go_simp; try first | rfl | exact k0 | exact k1 | exact k2 | exact q0 | exact q1 | exact q2 | exact q3)⟩) (by assumption) ?_
    try simp only [Act.put, List.setIfInBounds_toArray, List.set_cons_zero, List.set_cons_succ]
    refine takeL (i := 9) (v := .string ⟨⟨[b0, b1, b2, b3]⟩⟩) rfl (by kernel_rfl) (by kernel_rfl) (by kernel_rfl) (fun _ _ _ h => h) (Or.inl ⟨by rfl, fun w hSw => by (go_simp; try first | rfl | exact k0 | exact k1 | exact k2 | exact q0 | exact q1 | exact q2 | exact q3)⟩) (by assumption) ?_
    try simp only [Act.put, List.setIfInBounds_toArray, List.set_cons_zero, List.set_cons_succ]
    refine takeL (i := 10) (v := .int .u8 (b2.toNat : Int)) rfl (by kernel_rfl) (by kernel_rfl) (by kernel_rfl) (fun _ _ _ h => h) (Or.inl ⟨by rfl, fun w hSw => by (go_simp; try first | rfl | exact k0 | exact k1 | exact k2 | exact q0 | exact q1 | exact q2 | exact q3)⟩) (by assumption) ?_
    try simp only [Act.put, List.setIfInBounds_toArray, List.set_cons_zero, List.set_cons_succ]
    refine takeL (i := 11) (v := .int .u32 ((b2.toNat : Int))) rfl (by kernel_rfl) (by kernel_rfl) (by kernel_rfl) (fun _ _ _ h => h) (Or.inl ⟨by rfl, fun w hSw => by (go_simp; try first | rfl | exact k0 | exact k1 | exact k2 | exact q0 | exact q1 | exact q2 | exact q3)⟩) (by assumption) ?_
    try simp only [Act.put, List.setIfInBounds_toArray, List.set_cons_zero, List.set_cons_succ]
    refine takeL (i := 12) (v := .int .u32 ((b2.toNat : Int) * 256)) rfl (by kernel_rfl) (by kernel_rfl) (by kernel_rfl) (fun _ _ _ h => h) (Or.inl ⟨by rfl, fun w hSw => by (go_simp; try first | rfl | exact k0 | exact k1 | exact k2 | exact q0 | exact q1 | exact q2 | exact q3)⟩) (by assumption) ?_
    try simp only [Act.put, List.setIfInBounds_toArray, List.set_cons_zero, List.set_cons_succ]
    refine takeL (i := 13) (v := .int .u32 ((b0.toNat : Int) * 16777216 + (b1.toNat : Int) * 65536 + (b2.toNat : Int) * 256)) rfl (by kernel_rfl) (by kernel_rfl) (by kernel_rfl) (fun _ _ _ h => h) (Or.inl ⟨by rfl, fun w hSw => by (go_simp; try first | rfl | exact k0 | exact k1 | exact k2 | exact q0 | exact q1 | exact q2 | exact q3)⟩) (by assumption) ?_
    try simp only [Act.put, List.setIfInBounds_toArray, List.set_cons_zero, List.set_cons_succ]
    refine takeL (i := 14) (v := .string ⟨⟨[b0, b1, b2, b3]⟩⟩) rfl (by kernel_rfl) (by kernel_rfl) (by kernel_rfl) (fun _ _ _ h => h) (Or.inl ⟨by rfl, fun w hSw => by (go_simp; try first | rfl | exact k0 | exact k1 | exact k2 | exact q0 | exact q1 | exact q2 | exact q3)⟩) (by assumption) ?_
    try simp only [Act.put, List.setIfInBounds_toArray, List.set_cons_zero, List.set_cons_succ]
    refine takeL (i := 15) (v := .int .u8 (b3.toNat : Int)) rfl (by kernel_rfl) (by kernel_rfl) (by kernel_rfl) (fun _ _ _ h => h) (Or.inl ⟨by rfl, fun w hSw => by (go_simp; try first | rfl | exact k0 | exact k1 | exact k2 | exact q0 | exact q1 | exact q2 | exact q3)⟩) (by assumption) ?_
    try simp only [Act.put, List.setIfInBounds_toArray, List.set_cons_zero, List.set_cons_succ]
    refine takeL (i := 16) (v := .int .u32 ((b3.toNat : Int))) rfl (by kernel_rfl) (by kernel_rfl) (by kernel_rfl) (fun _ _ _ h => h) (Or.inl ⟨by rfl, fun w hSw => by (go_simp; try first | rfl | exact k0 | exact k1 | exact k2 | exact q0 | exact q1 | exact q2 | exact q3)⟩) (by assumption) ?_
    try simp only [Act.put, List.setIfInBounds_toArray, List.set_cons_zero, List.set_cons_succ]
    refine takeL (i := 17) (v := .int .u32 ((b0.toNat : Int) * 16777216 + (b1.toNat : Int) * 65536 + (b2.toNat : Int) * 256 + (b3.toNat : Int))) rfl (by kernel_rfl) (by kernel_rfl) (by kernel_rfl) (fun _ _ _ h => h) (Or.inl ⟨by rfl, fun w hSw => by (go_simp; try first | rfl | exact k0 | exact k1 | exact k2 | exact q0 | exact q1 | exact q2 | exact q3)⟩) (by assumption) ?_
    try simp only [Act.put, List.setIfInBounds_toArray, List.set_cons_zero, List.set_cons_succ]
    refine takeL (i := 18) (v := .int .u32 ((b0.toNat : Int) * 16777216 + (b1.toNat : Int) * 65536 + (b2.toNat : Int) * 256 + (b3.toNat : Int))) rfl (by kernel_rfl) (by kernel_rfl) (by kernel_rfl) (fun _ _ _ h => h) (Or.inl ⟨by rfl, fun w hSw => by (go_simp; try first | rfl | exact k0 | exact k1 | exact k2 | exact q0 | exact q1 | exact q2 | exact q3)⟩) (by assumption) ?_
    try simp only [Act.put, List.setIfInBounds_toArray, List.set_cons_zero, List.set_cons_succ]
    refine wpAnyH_done (by kernel_rfl) ?_ _
    go_wp2_with fail
    go_ret
    refine ⟨?_, (Fr.refl _ w).drew⟩
    show _ = Ending.returned (Value.int .u32 ((beN [b0, b1, b2, b3] : Nat) : Int))
    rw [HB.out]
    simp
end Go.Proofs.Ytajbifblbmlffaa
namespace Go.Proofs.Ytajbifblbmlffaa
open Go.RowKit Go.Maps

def RFromIs (p q : Int) (s : ByteArray) (w : World) (e : Ending) (w' : World) : Prop :=
  (docOk p q s = true ∧ ∃ ao c, e = .returned (.tuple #[.int .u32 (num4 s 0 : Int), .slice ao (docNs s).length c, .int .i64 0]) ∧ w'.ownsRow w.heap.size 28 1 (.slice ao (docNs s).length c) (docNs s).length (ncells (docNs s))) ∨
  (docOk p q s = false ∧ e = .returned (.tuple #[.int .u32 0, .slice none 0 0, .int .i64 (if frameP p q then 90 else 2)]))
def nums4 (s : ByteArray) (j : Nat) : List Nat := (List.range j).map fun i => num4 s (8 + 4 * i)
theorem nums4_succ (s : ByteArray) (j : Nat) : nums4 s (j + 1) = nums4 s j ++ [num4 s (8 + 4 * j)] := by simp [nums4, List.range_succ]
set_option maxRecDepth 100000 in
set_option maxHeartbeats 2000000 in
theorem rfrom_calls {p q : Int} (s : ByteArray) (hs : s.size ≤ 281474976710656) (w : World) :
    Calls Try.prog 24 #[frameV p q, .string s] w fun e w' => RFromIs p q s w e w' ∧ Same w w' := by
  have HM : Hid (∀ W, Calls Try.prog 21 #[.agg #[.int .i64 p, .int .i64 q]] W fun e w' => e = .returned (.bool (frameP p q)) ∧ Same W w') := rframe_calls p q
  have HE : Hid (∀ W, Calls Try.prog 40 #[.agg #[.int .i64 p, .int .i64 q]] W fun e w' => e = .returned (.int .i64 (entN p q : Int)) ∧ Same W w') := rentries_calls p q
  have HBd : Hid (∀ W pa pb po cp next ns, NRow W pa pb po ns → ns.length ≤ 4611686018427387904 → next < 4294967296 → Calls Try.prog 42 #[.agg #[.int .i64 p, .int .i64 q], .int .u32 ((next : Nat) : Int), .slice pa ns.length cp] W fun e w' => e = .returned (.tuple #[.string (bodyS p q next ns), .int .i64 (bodyE p q next ns)]) ∧ Same W w') := fun W pa pb po cp next ns h1 h2 h3 => rbody_calls W h1 h2 h3
  have HNu : Hid (∀ i W, i + 4 ≤ s.size → Calls Try.prog 41 #[.string (s.extract i (i + 4))] W fun e w' => e = .returned (.int .u32 (num4 s i : Int)) ∧ Same W w') := fun i W h => rnumber_calls _ (by rw [ByteArray.size_extract]; omega) W
  obtain ⟨V, hV⟩ : ∃ V, V = w.alloc (.cells #[.int .i64 p, .int .i64 q] 23) := ⟨_, rfl⟩
  have sx : Same w V := by rw [hV]; exact (Fr.refl _ w).alloc _
  have c0 : V.cell? ⟨w.heap.size, 0, none⟩ = some (.int .i64 p) := by rw [hV]; simp
  have c1 : V.cell? ⟨w.heap.size, 1, none⟩ = some (.int .i64 q) := by rw [hV]; simp
  have HC : Hid (∀ W, Same V W → W.cell? ⟨w.heap.size, 0, none⟩ = some (.int .i64 p) ∧ W.cell? ⟨w.heap.size, 1, none⟩ = some (.int .i64 q)) := fun W h => ⟨h.keep c0, h.keep c1⟩
  have HVZ : Hid (w.heap.size ≤ V.heap.size) := sx.size
  clear c0 c1
  cases hfp : frameP p q with
  | false =>
    rw [hfp] at HM
    have HNo : Hid (docOk p q s = false) := by show _ = _; unfold docOk; rw [hfp]; rfl
    go_enter Try.func24, Try.ntmps24
    go_wp2_with fail
    rw [← hV]
    clear hV
    refine (HM.out _).mono ?_
    rintro e W0 ⟨rfl, s0⟩
    go_wp2_with fail
    go_ret3
    exact ⟨.inr ⟨HNo.out, by rw [hfp]; rfl⟩, sx.trans s0⟩
  | true =>
    rw [hfp] at HM
    have hen : entN p q ≤ 2038 := by
      rcases entN_cases p q with ⟨_, h2⟩ | ⟨_, _, h3, _⟩ <;> omega
    have HFP : Hid (frameP p q = true) := hfp
    obtain ⟨en, hen2⟩ : ∃ en, en = entN p q := ⟨_, rfl⟩
    have HDoc : Hid (docOk p q s = (decide (8 ≤ s.size) && decide (s.size % 4 = 0) && decide (s.size ≤ 8 + 4 * en) && ((bodyE p q (num4 s 0) (docNs s) == 0) && decide (bodyS p q (num4 s 0) (docNs s) = s)))) := by show _ = _; unfold docOk; rw [hfp, hen2]; rfl
    rw [← hen2] at HE hen
    have HEN : Hid (en ≤ 2038) := hen
    clear hen hen2 hfp
    obtain ⟨z, hz⟩ : ∃ z, z = s.size := ⟨_, rfl⟩
    have HZ : Hid (z = s.size ∧ z ≤ 281474976710656) := ⟨hz, by omega⟩
    by_cases h8 : z < 8
    · have HNo : Hid (docOk p q s = false) := by show _ = _; rw [HDoc.out, decide_eq_false (by omega : ¬ 8 ≤ s.size)]; rfl
      have h8i : (s.size : Int) < 8 := by omega
      clear hs hz h8
      go_enter Try.func24, Try.ntmps24
      go_wp2_with fail
      rw [← hV]
      clear hV
      refine (HM.out _).mono ?_
      rintro e W0 ⟨rfl, s0⟩
      go_wp2_with fail
      go_ret3
      exact ⟨.inr ⟨HNo.out, by rw [HFP.out]; rfl⟩, sx.trans s0⟩
    · have h8i : decide ((s.size : Int) < 8) = false := decide_eq_false (by omega)
      by_cases h4 : z % 4 = 0
      · have h4i : (s.size : Int) % 4 = 0 := by omega
        have h4t : Int.tmod (s.size : Int) 4 = 0 := by rw [Int.tmod_eq_emod_of_nonneg (by omega)]; exact h4i
        have hw1 : RowKit.wrap64 (4 * (en : Int)) = 4 * (en : Int) := by have := HEN.out; unfold RowKit.wrap64; omega
        have hw2 : RowKit.wrap64 (8 + 4 * (en : Int)) = 8 + 4 * (en : Int) := by have := HEN.out; unfold RowKit.wrap64; omega
        obtain ⟨K, hK⟩ : ∃ K, K = (z - 8) / 4 := ⟨_, rfl⟩
        have HK : Hid (z = 8 + 4 * K ∧ docNs s = nums4 s K) := ⟨by omega, by unfold docNs nums4; rw [← hz, ← hK]⟩
        by_cases hmx : 8 + 4 * en < z
        · have HNo : Hid (docOk p q s = false) := by show _ = _; rw [HDoc.out, decide_eq_false (by omega : ¬ s.size ≤ 8 + 4 * en)]; simp
          have hmi : 8 + 4 * (en : Int) < (s.size : Int) := by omega
          clear hs hz h8 h4 hK hmx
          go_enter Try.func24, Try.ntmps24
          go_wp2_with fail
          rw [← hV]
          clear hV
          refine (HM.out _).mono ?_
          rintro e W0 ⟨rfl, s0⟩
          obtain ⟨c0, c1⟩ := HC.out _ s0
          go_wp2_with fail
          refine (HE.out _).mono ?_
          rintro e W1 ⟨rfl, s1⟩
          go_wp2_with fail
          go_ret3
          exact ⟨.inr ⟨HNo.out, by rw [HFP.out]; rfl⟩, sx.trans (s0.trans s1)⟩
        · have hmi : decide (8 + 4 * (en : Int) < (s.size : Int)) = false := decide_eq_false (by omega)
          have HDoc2 : Hid (docOk p q s = ((bodyE p q (num4 s 0) (docNs s) == 0) && decide (bodyS p q (num4 s 0) (docNs s) = s)) ∧ K ≤ en) := ⟨by rw [HDoc.out, decide_eq_true (by omega : 8 ≤ s.size), decide_eq_true (by omega : s.size % 4 = 0), decide_eq_true (by omega : s.size ≤ 8 + 4 * en)]; rfl, by omega⟩
          have HSX : Hid (Same w V) := sx
          clear hs hz h8 h4 hK hmx HDoc
          go_enter Try.func24, Try.ntmps24
          go_wp2_with fail
          rw [← hV]
          clear hV
          refine (HM.out _).mono ?_
          rintro e W0 ⟨rfl, s0⟩
          obtain ⟨c0, c1⟩ := HC.out _ s0
          go_wp2_with fail
          refine (HE.out _).mono ?_
          rintro e W1 ⟨rfl, s1⟩
          have HT1 : Hid (Same V W1) := s0.trans s1
          clear s0 s1 c0 c1 sx
          go_wp2_with fail
          clear hmi h8i h4i h4t hw1 hw2
          go_loopg [7, 8] K (fun g lv iv wr => ∃ (j m : Nat) (ao : Option Addr) (c : Nat), lv = .slice ao j c ∧ iv = .int .i64 (m : Int) ∧ j ≤ K ∧ g = K - j ∧ Hid (m = 8 + 4 * j) ∧ Hid (wr.ownsRow V.heap.size 28 1 (.slice ao j c) j (ncells (nums4 s j))) ∧ Hid (Same V wr))
          case atStart => exact ⟨0, 8, none, 0, rfl, rfl, by omega, rfl, rfl, own_nil, HT1⟩
          case round =>
            obtain ⟨j, m, ao, c, rfl, rfl, hj, hg, HMm, HO1, HS1⟩ := hrel
            by_cases hgo : j < K
            · have hgi : (m : Int) < (s.size : Int) := by have := HMm.out; have := HZ.out; have := HK.out.1; omega
              have hwm : RowKit.wrap64 ((m : Int) + 4) = (m : Int) + 4 := by have := HMm.out; have := HDoc2.out.2; have := HEN.out; unfold RowKit.wrap64; omega
              have hle : (m : Int) + 4 ≤ (s.size : Int) := by have := HMm.out; have := HZ.out; have := HK.out.1; omega
              have HLe : Hid (m + 4 ≤ s.size) := by have := hle; show _ ≤ _; omega
              go_wp2_with fail
              refine (HNu.out _ _ HLe.out).mono ?_
              rintro e X1 ⟨rfl, x1⟩
              obtain ⟨v, hv⟩ : ∃ v, v = num4 s m := ⟨_, rfl⟩
              rw [← hv]
              have HV : Hid (v = num4 s (8 + 4 * j)) := by show _ = _; rw [hv, HMm.out]
              have HOA : Hid ((X1.alloc (.cells #[.int .u32 (v : Int)] 28)).ownsRow V.heap.size 28 1 (.slice ao j c) j (ncells (nums4 s j))) := own_frameB HO1.out (Fr.alloc x1 _) (fun kk hk e => e)
              have HYA : Hid (Same V (X1.alloc (.cells #[.int .u32 (v : Int)] 28))) := Fr.alloc (HS1.out.trans x1) _
              have hjb : j + 1 ≤ 1099511627776 := by have := HDoc2.out.2; have := HEN.out; omega
              have hvb : V.heap.size ≤ (X1.alloc (.cells #[.int .u32 (v : Int)] 28)).heap.size := HYA.out.size
              clear hv x1 hle hgi
              go_wp2_with (at_builtin; go_must (refine wpList_partNums _ (by rfl) _ _ (by rfl) (by rfl) HOA.out (x := ⟨some ⟨X1.heap.size, 0, none⟩, 1, 1, [.int .u32 (v : Int)]⟩) (by rfl) (part_oneN _ _ (heap_alloc_new X1 _) rfl) hjb hvb ?_; intro ao2 c2 X2 o2 g2))
              have f2 : Fr (fun k => (Value.slice ao j c).ownBlock = some k) (X1.alloc (.cells #[.int .u32 (v : Int)] 28)) X2 := Fr.grown (Fr.refl _ _) g2 (fun k e _ => e)
              have HO2 : Hid (X2.ownsRow V.heap.size 28 1 (.slice ao2 (j + 1) c2) (j + 1) (ncells (nums4 s (j + 1)))) := by
                show World.ownsRow _ _ _ _ _ _ _
                rw [nums4_succ, ncells_app, ← HV.out]
                exact o2
              have HS2 : Hid (Same V X2) := Fr.trans HYA.out f2 (fun k hk e => by have := own_blk HOA.out k e; omega)
              have HM2 : Hid (m + 4 = 8 + 4 * (j + 1)) := by show _ = _; rw [HMm.out]; omega
              clear f2 o2 g2 hjb hvb
              go_wp2_with fail
              go_roundg (K - (j + 1))
              case measure => omega
              case rel => exact ⟨j + 1, m + 4, ao2, c2, rfl, by go_num, by omega, rfl, HM2, HO2, HS2⟩
            · obtain rfl : K = j := by omega
              have hgi : ¬ (m : Int) < (s.size : Int) := by have := HMm.out; have := HZ.out; have := HK.out.1; omega
              have h4s : (4 : Int) ≤ (s.size : Int) := by have := HZ.out; have := HK.out.1; omega
              have HLe : Hid (0 + 4 ≤ s.size) := by show _ ≤ _; omega
              have HNl : Hid (K = (docNs s).length) := by show _ = _; rw [HK.out.2]; simp [nums4]
              have HNu0 : Hid (∀ W, Calls Try.prog 41 #[.string (s.extract 0 4)] W fun e w' => e = .returned (.int .u32 (num4 s 0 : Int)) ∧ Same W w') := fun W => HNu.out 0 W HLe.out
              have HOD : Hid (wr.ownsRow V.heap.size 28 1 (.slice ao K c) K (ncells (docNs s))) := by rw [HK.out.2]; exact HO1
              obtain ⟨nx, hnx⟩ : ∃ nx, nx = num4 s 0 := ⟨_, rfl⟩
              have HNX : Hid (nx = num4 s 0 ∧ nx < 4294967296) := ⟨hnx, by rw [hnx]; exact num4_lt _ _⟩
              obtain ⟨bs, hbs⟩ : ∃ bs, bs = bodyS p q nx (docNs s) := ⟨_, rfl⟩
              obtain ⟨be, hbe⟩ : ∃ be, be = bodyE p q nx (docNs s) := ⟨_, rfl⟩
              have HOk : Hid (docOk p q s = ((be == 0) && decide (bs = s))) := by
                show _ = _
                rw [HDoc2.out.1, hbs, hbe, hnx]
              rw [← hnx] at HNu0
              obtain ⟨g0, hrow⟩ := own_nrow HOD.out HNl.out
              have HB1 : Hid (∀ W, Same wr W → Calls Try.prog 42 #[.agg #[.int .i64 p, .int .i64 q], .int .u32 (nx : Int), .slice ao K c] W fun e w' => e = .returned (.tuple #[.string bs, .int .i64 be]) ∧ Same W w') := fun W sw => by
                have := HBd.out W ao g0 0 c nx (docNs s) (hrow.same sw) (by rw [← HNl.out]; have := HDoc2.out.2; have := HEN.out; omega) HNX.out.2
                rw [← HNl.out, ← hbs, ← hbe] at this
                exact this
              obtain ⟨c0, c1⟩ := HC.out _ HS1.out
              have HKK : Hid (∀ W, Same V W → (W.cell? ⟨w.heap.size, 0, none⟩ = some (.int .i64 p) ∧ W.cell? ⟨w.heap.size, 1, none⟩ = some (.int .i64 q) ∧ Same V W)) := fun W h => ⟨(HC.out W h).1, (HC.out W h).2, h⟩
              clear hbs hbe hrow hnx
              go_wp2_with fail
              refine wp_region_held_drew (S := fun Y => Y.cell? ⟨w.heap.size, 0, none⟩ = some (.int .i64 p) ∧ Y.cell? ⟨w.heap.size, 1, none⟩ = some (.int .i64 q) ∧ Same V Y) (by kernel_rfl) (HKK.out _ (Fr.drew HS1.out)) (fun hHeld => ?_)
              refine takeL (i := 0) (v := .agg #[.int .i64 p, .int .i64 q]) rfl (by kernel_rfl) (by kernel_rfl) (by kernel_rfl) (fun _ _ _ h => h) (Or.inl ⟨by rfl, fun w hSw => by (obtain ⟨z0, z1, z2⟩ := hSw; go_simp)⟩) (by assumption) ?_
              try simp only [Act.put, List.setIfInBounds_toArray, List.set_cons_zero, List.set_cons_succ]
              refine takeL (i := 1) (v := .string s) rfl (by kernel_rfl) (by kernel_rfl) (by kernel_rfl) (fun _ _ _ h => h) (Or.inl ⟨by rfl, fun w hSw => by (obtain ⟨z0, z1, z2⟩ := hSw; go_simp)⟩) (by assumption) ?_
              try simp only [Act.put, List.setIfInBounds_toArray, List.set_cons_zero, List.set_cons_succ]
              refine takeL (i := 2) (v := .string (s.extract 0 4)) rfl (by kernel_rfl) (by kernel_rfl) (by kernel_rfl) (fun _ _ _ h => h) (Or.inl ⟨by rfl, fun w hSw => by (obtain ⟨z0, z1, z2⟩ := hSw; go_simp)⟩) (by assumption) ?_
              try simp only [Act.put, List.setIfInBounds_toArray, List.set_cons_zero, List.set_cons_succ]
              refine takeL (i := 4) (v := .slice ao K c) rfl (by kernel_rfl) (by kernel_rfl) (by kernel_rfl) (fun _ _ _ h => h) (Or.inl ⟨by rfl, fun w hSw => by (obtain ⟨z0, z1, z2⟩ := hSw; go_simp)⟩) (by assumption) ?_
              try simp only [Act.put, List.setIfInBounds_toArray, List.set_cons_zero, List.set_cons_succ]
              refine wpAnyH_ready (rs := [3]) (by kernel_rfl) (by simp) ?_
              refine AllReadyH.cons (o := { dst := some 51, op := Go.Op.call { callee := Go.Callee.value (Go.Operand.func 41), args := #[Go.Operand.tmp 50], argTypes := #[9] }, type := 28, pos := "ref.go:77", after := #[{ on := 2, ground := Go.Ground.data }], guard := none }) rfl (fun K hK => ?_) AllReadyH.nil
              go_simp
              go_at_call 41
              refine (HNu0.out _).mono ?_
              rintro e X1 ⟨rfl, x1⟩
              try go_wp2_with fail
              have x1 : Same wr X1 := Same.trans (Fr.drew (Fr.refl _ wr)) x1
              have y1 := HS1.out.trans x1
              refine hK.out _ _ (HKK.out _ y1) (fun hHeld => ?_)
              clear hK K
              try simp only [Act.put, List.setIfInBounds_toArray, List.set_cons_zero, List.set_cons_succ]
              refine wpAnyH_ready (rs := [5]) (by kernel_rfl) (by simp) ?_
              refine AllReadyH.cons (o := { dst := some 53, op := Go.Op.call { callee := Go.Callee.value (Go.Operand.func 42), args := #[Go.Operand.tmp 48, Go.Operand.tmp 51, Go.Operand.tmp 52], argTypes := #[23, 28, 51] }, type := 106, pos := "ref.go:77", after := #[{ on := 0, ground := Go.Ground.data }, { on := 3, ground := Go.Ground.data }, { on := 4, ground := Go.Ground.data }, { on := 3, ground := Go.Ground.chain }], guard := none }) rfl (fun K hK => ?_) AllReadyH.nil
              go_simp
              go_at_call 42
              refine (HB1.out _ x1).mono ?_
              rintro e X2 ⟨rfl, x2⟩
              try go_wp2_with fail
              have x2 : Same wr X2 := x1.trans x2
              have y2 := HS1.out.trans x2
              refine hK.out _ _ (HKK.out _ y2) (fun hHeld => ?_)
              clear hK K
              try simp only [Act.put, List.setIfInBounds_toArray, List.set_cons_zero, List.set_cons_succ]
              refine takeL (i := 6) (v := .tuple #[.string bs, .int .i64 be]) rfl (by kernel_rfl) (by kernel_rfl) (by kernel_rfl) (fun _ _ _ h => h) (Or.inl ⟨by rfl, fun w hSw => by (obtain ⟨z0, z1, z2⟩ := hSw; go_simp)⟩) (by assumption) ?_
              try simp only [Act.put, List.setIfInBounds_toArray, List.set_cons_zero, List.set_cons_succ]
              refine takeL (i := 7) (v := .string bs) rfl (by kernel_rfl) (by kernel_rfl) (by kernel_rfl) (fun _ _ _ h => h) (Or.inl ⟨by rfl, fun w hSw => by (obtain ⟨z0, z1, z2⟩ := hSw; go_simp)⟩) (by assumption) ?_
              try simp only [Act.put, List.setIfInBounds_toArray, List.set_cons_zero, List.set_cons_succ]
              refine takeL (i := 8) (v := .int .i64 be) rfl (by kernel_rfl) (by kernel_rfl) (by kernel_rfl) (fun _ _ _ h => h) (Or.inl ⟨by rfl, fun w hSw => by (obtain ⟨z0, z1, z2⟩ := hSw; go_simp)⟩) (by assumption) ?_
              try simp only [Act.put, List.setIfInBounds_toArray, List.set_cons_zero, List.set_cons_succ]
              refine takeL (i := 9) (v := .string bs) rfl (by kernel_rfl) (by kernel_rfl) (by kernel_rfl) (fun _ _ _ h => h) (Or.inl ⟨by rfl, fun w hSw => by (obtain ⟨z0, z1, z2⟩ := hSw; go_simp)⟩) (by assumption) ?_
              try simp only [Act.put, List.setIfInBounds_toArray, List.set_cons_zero, List.set_cons_succ]
              refine takeL (i := 10) (v := .int .i64 be) rfl (by kernel_rfl) (by kernel_rfl) (by kernel_rfl) (fun _ _ _ h => h) (Or.inl ⟨by rfl, fun w hSw => by (obtain ⟨z0, z1, z2⟩ := hSw; go_simp)⟩) (by assumption) ?_
              try simp only [Act.put, List.setIfInBounds_toArray, List.set_cons_zero, List.set_cons_succ]
              refine wpAnyH_done (by kernel_rfl) ?_ _
              have HS3 : Hid (Same w X2) := HSX.out.trans y2
              have HO3 : Hid (X2.ownsRow w.heap.size 28 1 (.slice ao K c) K (ncells (docNs s))) := own_base (own_frameB HOD.out x2 (fun kk hk e => e)) HVZ.out
              clear x1 x2 y1 y2 c0 c1
              by_cases hbe : be = 0
              · subst hbe
                by_cases hss : bs = s
                · subst hss
                  have hok : Hid (docOk p q bs = true) := by show _ = _; rw [HOk.out]; simp
                  go_wp2_with fail
                  refine (HNu0.out _).mono ?_
                  rintro e X3 ⟨rfl, x3⟩
                  have HS4 : Hid (Same w X3) := HS3.out.trans x3
                  have HO4 : Hid (X3.ownsRow w.heap.size 28 1 (.slice ao K c) K (ncells (docNs bs))) := own_frameB HO3.out x3 (fun kk hk e => e)
                  clear x3
                  go_wp2_with fail
                  go_ret3
                  exact ⟨.inl ⟨hok.out, ao, c, by rw [← HNX.out.1, ← HNl.out]; rfl, by rw [← HNl.out]; exact HO4.out⟩, HS4.out⟩
                · have hok : Hid (docOk p q s = false) := by show _ = _; rw [HOk.out]; simp [hss]
                  have hb2 := beq_toList hss
                  go_wp2_with fail
                  go_ret3
                  exact ⟨.inr ⟨hok.out, by rw [HFP.out]; rfl⟩, HS3.out⟩
              · have hok : Hid (docOk p q s = false) := by show _ = _; rw [HOk.out]; simp [hbe]
                go_wp2_with fail
                go_ret3
                exact ⟨.inr ⟨hok.out, by rw [HFP.out]; rfl⟩, HS3.out⟩
      · have HNo : Hid (docOk p q s = false) := by show _ = _; rw [HDoc.out, decide_eq_false (by omega : ¬ s.size % 4 = 0)]; simp
        have h4i : ¬ (s.size : Int) % 4 = 0 := by omega
        have h4t : Int.tmod (s.size : Int) 4 = (s.size : Int) % 4 := Int.tmod_eq_emod_of_nonneg (by omega)
        clear hs hz h8 h4
        go_enter Try.func24, Try.ntmps24
        go_wp2_with fail
        rw [← hV]
        clear hV
        refine (HM.out _).mono ?_
        rintro e W0 ⟨rfl, s0⟩
        go_wp2_with fail
        go_ret3
        exact ⟨.inr ⟨HNo.out, by rw [HFP.out]; rfl⟩, sx.trans s0⟩
end Go.Proofs.Ytajbifblbmlffaa
