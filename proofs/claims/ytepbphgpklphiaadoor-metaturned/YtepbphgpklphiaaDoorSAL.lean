/-
  The algebra of the CRC's registers, plainly: products, powers, what is joined, what is turned.
-/
import Derived.Test.YtepbphgpklphiaaDoorS3
namespace Go.Proofs.YtepbphgpklphiaaDoor

def topB (a : UInt32) : Bool := a.toBitVec.getLsbD 31
def timesG : Nat → UInt32 → UInt32 → UInt32
  | 0, _, _ => 0
  | n + 1, a, b => (if topB a then b else 0) ^^^ timesG n (a <<< 1) (crcS b)
theorem topB_and (a : UInt32) : (a &&& 2147483648 = 0) ↔ topB a = false := by
  have e : UInt32.toBitVec 2147483648 = 2147483648#32 := rfl
  have z : UInt32.toBitVec 0 = 0#32 := rfl
  rw [← UInt32.toBitVec_inj, UInt32.toBitVec_and, e, z]
  unfold topB
  have hb : ∀ i, i < 32 → (2147483648#32).getLsbD i = decide (i = 31) := by decide
  constructor
  · intro h
    have := congrArg (fun v : BitVec 32 => v.getLsbD 31) h
    simp only [BitVec.getLsbD_and, hb 31 (by decide)] at this
    simpa using this
  · intro h
    apply BitVec.eq_of_getLsbD_eq
    intro i hi
    rw [BitVec.getLsbD_and, hb i hi]
    by_cases h31 : i = 31
    · subst h31; rw [h]; rfl
    · rw [decide_eq_false h31]; simp
theorem topB_xor (x y : UInt32) : topB (x ^^^ y) = (topB x ^^ topB y) := by simp [topB]
theorem shl_xor (x y : UInt32) : (x ^^^ y) <<< 1 = (x <<< 1) ^^^ (y <<< 1) := by
  apply UInt32.toBitVec_inj.1
  simp [BitVec.shiftLeft_xor_distrib]
theorem crcS_zero : crcS 0 = 0 := by decide
theorem timesG_zero (n : Nat) : ∀ b, timesG n 0 b = 0 := by
  induction n with
  | zero => intro b; rfl
  | succ n ih =>
    intro b
    have t : topB 0 = false := by decide
    have s : (0 : UInt32) <<< 1 = 0 := by decide
    rw [timesG, t, s, ih]; simp
theorem timesF_eq (n : Nat) : ∀ a b p, timesF n a b p = p ^^^ timesG n a b := by
  induction n with
  | zero => intro a b p; simp [timesF, timesG]
  | succ n ih =>
    intro a b p
    rw [timesF, timesG]
    by_cases h : a = 0
    · subst h
      rw [if_pos rfl]
      have t : topB 0 = false := by decide
      have s : (0 : UInt32) <<< 1 = 0 := by decide
      rw [t, s, timesG_zero]; simp
    · rw [if_neg h, ih, ← UInt32.xor_assoc]
      congr 1
      cases ht : topB a with
      | false => rw [if_pos ((topB_and a).2 ht)]; simp
      | true =>
        rw [if_neg (fun e => by rw [(topB_and a).1 e] at ht; cases ht)]
        simp
theorem timesP_eq (a b : UInt32) : timesP a b = timesG 32 a b := by
  unfold timesP; rw [timesF_eq]; simp
theorem timesG_xorR (n : Nat) : ∀ a b c, timesG n a (b ^^^ c) = timesG n a b ^^^ timesG n a c := by
  induction n with
  | zero => intro a b c; simp [timesG]
  | succ n ih =>
    intro a b c
    rw [timesG, timesG, timesG, crcS_xor, ih, xor4]
    cases topB a <;> simp
theorem timesG_xorL (n : Nat) : ∀ a c b, timesG n (a ^^^ c) b = timesG n a b ^^^ timesG n c b := by
  induction n with
  | zero => intro a b c; simp [timesG]
  | succ n ih =>
    intro a c b
    rw [timesG, timesG, timesG, shl_xor, ih, topB_xor, xor4]
    cases topB a <;> cases topB c <;> simp
theorem timesG_crcS (n : Nat) : ∀ a b, timesG n a (crcS b) = crcS (timesG n a b) := by
  induction n with
  | zero => intro a b; simp [timesG, crcS_zero]
  | succ n ih =>
    intro a b
    rw [timesG, timesG, ih, crcS_xor]
    cases topB a <;> simp [crcS_zero]
theorem crcN_succ (n : Nat) (r : UInt32) : crcN (n + 1) r = crcN n (crcS r) := rfl
theorem crcN_add (m n : Nat) : ∀ r, crcN (m + n) r = crcN m (crcN n r) := by
  induction n with
  | zero => intro r; rfl
  | succ n ih => intro r; rw [← Nat.add_assoc, crcN_succ, ih]; rfl
theorem timesG_crcN (k : Nat) (n : Nat) (a : UInt32) : ∀ b, timesG n a (crcN k b) = crcN k (timesG n a b) := by
  induction k with
  | zero => intro b; rfl
  | succ k ih => intro b; rw [crcN_succ, ih, timesG_crcS]; rfl
/-- The powers' registers. -/
def pw (n : Nat) : UInt32 := UInt32.ofNat (2 ^ (n - 1))
theorem pw_bit : ∀ n : Fin 33, 0 < n.val → ∀ i : Fin 32, (pw n.val).toBitVec.getLsbD i.val = decide (i.val + 1 = n.val) := by decide +kernel
theorem pw_step : ∀ n : Fin 32, 0 < n.val → crcS (pw (n.val + 1)) = pw n.val := by decide +kernel
theorem shl1_bit (a : UInt32) (i : Nat) (hi : i < 32) : (a <<< 1).toBitVec.getLsbD i = (decide (0 < i) && a.toBitVec.getLsbD (i - 1)) := by
  have a1 : (UInt32.toBitVec 1 % 32).toNat = 1 := by decide
  simp only [UInt32.toBitVec_shiftLeft, BitVec.shiftLeft_eq', BitVec.getLsbD_shiftLeft, a1]
  cases i with
  | zero => simp
  | succ i => simp [hi]
theorem id_bits (n : Nat) (hn : n ≤ 32) : ∀ a i, i < 32 → (timesG n a (pw n)).toBitVec.getLsbD i = (decide (i < n) && a.toBitVec.getLsbD (i + (32 - n))) := by
  induction n with
  | zero => intro a i hi; simp [timesG]
  | succ n ih =>
    intro a i hi
    rw [timesG, UInt32.toBitVec_xor, BitVec.getLsbD_xor]
    have hd := pw_bit ⟨n + 1, by omega⟩ (by simp) ⟨i, hi⟩
    simp only at hd
    have h1 : ((if topB a = true then pw (n + 1) else 0) : UInt32).toBitVec.getLsbD i = (decide (i + 1 = n + 1) && topB a) := by
      cases topB a
      · simp
      · simp only [if_true, hd, Bool.and_true]
    rw [h1]
    by_cases h0 : n = 0
    · subst h0
      rw [timesG]
      by_cases hz : i = 0
      · subst hz; simp [topB]
      · simp [hz]
    · rw [pw_step ⟨n, by omega⟩ (by simp; omega), ih (by omega) (a <<< 1) i hi]
      by_cases hlt : i < n
      · have e1 : ¬ i + 1 = n + 1 := by omega
        rw [shl1_bit a _ (by omega)]
        have e2 : 0 < i + (32 - n) := by omega
        have e3 : i + (32 - n) - 1 = i + (32 - (n + 1)) := by omega
        have e4 : i < n + 1 := by omega
        rw [e3]
        simp only [e1, e2, e4, hlt, decide_true, decide_false, Bool.false_and, Bool.true_and, Bool.false_xor]
      · by_cases he : i = n
        · subst he
          have e3 : i + (32 - (i + 1)) = 31 := by omega
          rw [e3]
          simp [topB]
        · have e1 : ¬ i + 1 = n + 1 := by omega
          have e4 : ¬ i < n + 1 := by omega
          simp [e4, hlt]
          intro e; exact absurd e he
theorem times_one (a : UInt32) : timesG 32 a (pw 32) = a := by
  apply UInt32.toBitVec_inj.1
  apply BitVec.eq_of_getLsbD_eq
  intro i hi
  rw [id_bits 32 (by omega) a i hi]
  simp [hi]
/-- What is additive and goes with a step is a product. -/
theorem by_one (F : UInt32 → UInt32) (h0 : F 0 = 0) (hx : ∀ x y, F (x ^^^ y) = F x ^^^ F y) (hc : ∀ x, F (crcS x) = crcS (F x)) (a : UInt32) : F a = timesG 32 a (F (pw 32)) := by
  have key : ∀ n a x, F (timesG n a x) = timesG n a (F x) := by
    intro n
    induction n with
    | zero => intro a x; exact h0
    | succ n ih =>
      intro a x
      rw [timesG, hx, ih, timesG, hc]
      cases topB a
      · simp [h0]
      · simp
  have := key 32 a (pw 32)
  rw [times_one] at this
  exact this
theorem crcN_zero (n : Nat) : crcN n 0 = 0 := by
  induction n with
  | zero => rfl
  | succ n ih => rw [crcN_succ, crcS_zero, ih]
theorem crcN_crcS (n : Nat) (x : UInt32) : crcN n (crcS x) = crcS (crcN n x) := by rw [← crcN_succ, crcN_snoc]
theorem timesG_step (a b : UInt32) : timesG 32 (crcS a) b = crcS (timesG 32 a b) := by
  have h1 := by_one (fun b => timesG 32 (crcS a) b) (by have := timesG_xorR 32 (crcS a) 0 0; simpa using this) (fun x y => timesG_xorR 32 _ x y) (fun x => timesG_crcS 32 _ x) b
  have h2 := by_one (fun b => crcS (timesG 32 a b)) (by have := timesG_xorR 32 a 0 0; simp at this; simp [this, crcS_zero]) (fun x y => by simp only [timesG_xorR, crcS_xor]) (fun x => by simp only [timesG_crcS]) b
  simp only [times_one] at h1 h2
  rw [h1, h2]
theorem times_pow (i : Nat) : ∀ b, timesG 32 (crcN i (pw 32)) b = crcN i b := by
  have one : ∀ b, timesG 32 (pw 32) b = b := by
    intro b
    have h1 := by_one (fun b => timesG 32 (pw 32) b) (by decide +kernel) (fun x y => timesG_xorR 32 _ x y) (fun x => timesG_crcS 32 _ x) b
    simp only [times_one] at h1
    exact h1
  induction i with
  | zero => intro b; exact one b
  | succ i ih => intro b; rw [crcN_snoc, timesG_step, ih, crcN_snoc]
theorem pw32 : pw 32 = 2147483648 := by decide
theorem power_pow (f : Nat) : ∀ k n m, n < 2 ^ f → powerF f (crcN k 2147483648) n (crcN m 2147483648) = crcN (m + k * n) 2147483648 := by
  induction f with
  | zero =>
    intro k n m h
    have : n = 0 := by omega
    subst this; rfl
  | succ f ih =>
    intro k n m h
    rw [powerF]
    by_cases h0 : n = 0
    · subst h0; simp
    · rw [if_neg h0]
      have sq : timesP (crcN k 2147483648) (crcN k 2147483648) = crcN (k + k) 2147483648 := by
        rw [timesP_eq, crcN_add, ← pw32, times_pow]
      have hp : timesP (crcN m 2147483648) (crcN k 2147483648) = crcN (m + k) 2147483648 := by
        rw [timesP_eq, crcN_add, ← pw32, times_pow]
      have hn : n / 2 < 2 ^ f := by rw [Nat.pow_succ] at h; omega
      rw [sq, hp]
      have hdm := Nat.div_add_mod n 2
      by_cases h1 : n % 2 = 1
      · rw [if_pos h1, ih _ _ _ hn]
        congr 1
        have e : k * n = k * (2 * (n / 2) + 1) := by congr 1; omega
        rw [e, Nat.mul_add, Nat.add_mul, ← Nat.mul_assoc, Nat.mul_two, Nat.add_mul]
        omega
      · rw [if_neg h1, ih _ _ _ hn]
        congr 1
        have e : k * n = k * (2 * (n / 2)) := by congr 1; omega
        rw [e, Nat.add_mul, ← Nat.mul_assoc, Nat.mul_two, Nat.add_mul]
/-- To join is to let bytes 0 go by. -/
theorem joinP_eq (a b : UInt32) (n : Nat) (hn : n < 2 ^ 63) : joinP a b n = crcN (8 * n) a ^^^ b := by
  have h8 : (8388608 : UInt32) = crcN 8 2147483648 := by decide +kernel
  have h := power_pow 63 8 n 0 hn
  unfold joinP powerP
  rw [h8]
  have e0 : crcN 0 2147483648 = 2147483648 := rfl
  rw [e0] at h
  rw [h, timesP_eq, timesG_crcN, ← pw32, times_one]
  simp
theorem fold_xor (s : List UInt8) : ∀ r q, s.foldl byteS (r ^^^ q) = crcN (8 * s.length) r ^^^ s.foldl byteS q := by
  induction s with
  | nil => intro r q; rfl
  | cons b s ih =>
    intro r q
    rw [List.foldl_cons, List.foldl_cons, byteS_eq, UInt32.xor_assoc, crcN_xor, ← byteS_eq, ih, ← crcN_add]
    congr 2
theorem not_xor (a : UInt32) : ~~~ a = a ^^^ 4294967295 := by
  apply UInt32.toBitVec_inj.1
  have : UInt32.toBitVec 4294967295 = BitVec.allOnes 32 := by decide
  rw [UInt32.toBitVec_not, UInt32.toBitVec_xor, this, BitVec.xor_allOnes]
/-- The sum of bytes put together. -/
theorem more_join (a : UInt32) (y : List UInt8) (hy : y.length < 2 ^ 63) : moreP a y = joinP a (moreP 0 y) y.length := by
  rw [joinP_eq _ _ _ hy]
  unfold moreP
  have e : ~~~ a = a ^^^ ~~~ 0 := by rw [not_xor, not_xor]; simp
  rw [e, fold_xor, not_xor, not_xor (y.foldl _ _), UInt32.xor_assoc]
theorem more_app (a : UInt32) (x y : List UInt8) : moreP a (x ++ y) = moreP (moreP a x) y := by
  unfold moreP
  rw [List.foldl_append]; simp
/-- A register is turned by a step to none but by none. -/
theorem crcS_none (x : UInt32) (h : crcS x = 0) : x = 0 := by
  rw [crcS_eq] at h
  cases hl : lowB x with
  | true =>
    rw [hl] at h
    exfalso
    have hb := congrArg (fun v : UInt32 => v.toBitVec.getLsbD 31) h
    have a1 : (UInt32.toBitVec 1 % 32).toNat = 1 := by decide
    have p : (UInt32.toBitVec 3988292384).getLsbD 31 = true := by decide
    simp only [if_true, UInt32.toBitVec_xor, BitVec.getLsbD_xor, UInt32.toBitVec_shiftRight, BitVec.ushiftRight_eq', BitVec.getLsbD_ushiftRight, a1, p] at hb
    rw [BitVec.getLsbD_of_ge x.toBitVec (1 + 31) (by omega)] at hb
    simp at hb
  | false =>
    rw [hl] at h
    apply UInt32.toBitVec_inj.1
    apply BitVec.eq_of_getLsbD_eq
    intro i hi
    have a1 : (UInt32.toBitVec 1 % 32).toNat = 1 := by decide
    cases i with
    | zero => unfold lowB at hl; rw [hl]; simp
    | succ i =>
      have hb := congrArg (fun v : UInt32 => v.toBitVec.getLsbD i) h
      simp only [Bool.false_eq_true, if_false, UInt32.toBitVec_xor, BitVec.getLsbD_xor, UInt32.toBitVec_shiftRight, BitVec.ushiftRight_eq', BitVec.getLsbD_ushiftRight, a1] at hb
      rw [Nat.add_comm 1 i] at hb
      simpa using hb
theorem crcN_none (n : Nat) : ∀ x, crcN n x = 0 → x = 0 := by
  induction n with
  | zero => intro x h; exact h
  | succ n ih => intro x h; exact crcS_none x (ih _ h)
theorem low8 : ∀ i : Fin 256, crcN 8 ((UInt32.ofNat i.val) <<< 8) = UInt32.ofNat i.val := by decide +kernel
theorem low16 : ∀ i : Fin 256, crcN 8 ((UInt32.ofNat i.val) <<< 16) = (UInt32.ofNat i.val) <<< 8 := by decide +kernel
theorem low24 : ∀ i : Fin 256, crcN 8 ((UInt32.ofNat i.val) <<< 24) = (UInt32.ofNat i.val) <<< 16 := by decide +kernel
theorem u8_32 (m : UInt8) : m.toUInt32 = UInt32.ofNat m.toNat := by
  apply UInt32.toNat_inj.1
  have := m.toNat_lt
  rw [UInt8.toNat_toUInt32, UInt32.toNat_ofNat']
  omega
def mask4 (m0 m1 m2 m3 : UInt8) : UInt32 := m0.toUInt32 ^^^ ((m1.toUInt32 <<< 8) ^^^ ((m2.toUInt32 <<< 16) ^^^ (m3.toUInt32 <<< 24)))
theorem mask_fold (m0 m1 m2 m3 : UInt8) : crcN 8 (m3.toUInt32 ^^^ crcN 8 (m2.toUInt32 ^^^ crcN 8 (m1.toUInt32 ^^^ crcN 8 m0.toUInt32))) = crcN 32 (mask4 m0 m1 m2 m3) := by
  have a1 := low8 ⟨m1.toNat, m1.toNat_lt⟩
  have a2 := low16 ⟨m2.toNat, m2.toNat_lt⟩
  have b2 := low8 ⟨m2.toNat, m2.toNat_lt⟩
  have a3 := low24 ⟨m3.toNat, m3.toNat_lt⟩
  have b3 := low16 ⟨m3.toNat, m3.toNat_lt⟩
  have c3 := low8 ⟨m3.toNat, m3.toNat_lt⟩
  simp only [← u8_32] at a1 a2 b2 a3 b3 c3
  have e1 : crcN 8 (mask4 m0 m1 m2 m3) = (m1.toUInt32 ^^^ crcN 8 m0.toUInt32) ^^^ ((m2.toUInt32 <<< 8) ^^^ (m3.toUInt32 <<< 16)) := by
    unfold mask4
    rw [crcN_xor, crcN_xor, crcN_xor, a1, a2, a3, ← UInt32.xor_assoc, UInt32.xor_comm (crcN 8 m0.toUInt32)]
  have e2 : crcN 8 (crcN 8 (mask4 m0 m1 m2 m3)) = (m2.toUInt32 ^^^ crcN 8 (m1.toUInt32 ^^^ crcN 8 m0.toUInt32)) ^^^ (m3.toUInt32 <<< 8) := by
    rw [e1]
    generalize m1.toUInt32 ^^^ crcN 8 m0.toUInt32 = x
    rw [crcN_xor, crcN_xor 8 (_ <<< _), b2, b3, ← UInt32.xor_assoc, UInt32.xor_comm (crcN 8 x)]
  have e3 : crcN 8 (crcN 8 (crcN 8 (mask4 m0 m1 m2 m3))) = m3.toUInt32 ^^^ crcN 8 (m2.toUInt32 ^^^ crcN 8 (m1.toUInt32 ^^^ crcN 8 m0.toUInt32)) := by
    rw [e2]
    generalize m2.toUInt32 ^^^ crcN 8 (m1.toUInt32 ^^^ crcN 8 m0.toUInt32) = x
    rw [crcN_xor, c3, UInt32.xor_comm]
  have e4 : crcN 32 (mask4 m0 m1 m2 m3) = crcN 8 (crcN 8 (crcN 8 (crcN 8 (mask4 m0 m1 m2 m3)))) := rfl
  rw [e4, e3]
theorem four_xor (R : UInt32) (b0 b1 b2 b3 m0 m1 m2 m3 : UInt8) :
    [b0 ^^^ m0, b1 ^^^ m1, b2 ^^^ m2, b3 ^^^ m3].foldl byteS R = crcN 32 (mask4 m0 m1 m2 m3) ^^^ [b0, b1, b2, b3].foldl byteS R := by
  have hx : ∀ (x d : UInt32) (b m : UInt8), byteS (d ^^^ x) (b ^^^ m) = crcN 8 (m.toUInt32 ^^^ d) ^^^ byteS x b := by
    intro x d b m
    rw [byteS_eq, byteS_eq, ← crcN_xor]
    congr 1
    rw [UInt8.toUInt32_xor, UInt32.xor_comm d x, xor4, UInt32.xor_comm d, UInt32.xor_comm]
  simp only [List.foldl_cons, List.foldl_nil]
  have h0 := hx R 0 b0 m0
  rw [UInt32.zero_xor, UInt32.xor_zero] at h0
  rw [h0, hx, hx, hx, mask_fold]
theorem turned_ne (p q : List UInt8) (b0 b1 b2 b3 m0 m1 m2 m3 : UInt8) (hm : ¬ mask4 m0 m1 m2 m3 = 0) (a : UInt32) :
    ¬ moreP a (p ++ ([b0 ^^^ m0, b1 ^^^ m1, b2 ^^^ m2, b3 ^^^ m3] ++ q)) = moreP a (p ++ ([b0, b1, b2, b3] ++ q)) := by
  intro h
  unfold moreP at h
  rw [List.foldl_append, List.foldl_append, List.foldl_append, List.foldl_append, four_xor, fold_xor] at h
  have h2 := congrArg (fun v => ~~~ v) h
  simp only [UInt32.not_not] at h2
  have h3 : crcN (8 * q.length) (crcN 32 (mask4 m0 m1 m2 m3)) = 0 := by
    have := congrArg (fun v => v ^^^ List.foldl byteS ([b0, b1, b2, b3].foldl byteS (p.foldl byteS (~~~ a))) q) h2
    simp only [UInt32.xor_assoc, UInt32.xor_self, UInt32.xor_zero] at this
    exact this
  exact hm (crcN_none _ _ (crcN_none _ _ h3))
theorem mask_parts (m : UInt32) : mask4 m.toUInt8 (m >>> 8).toUInt8 (m >>> 16).toUInt8 (m >>> 24).toUInt8 = m := by
  apply UInt32.toBitVec_inj.1
  apply BitVec.eq_of_getLsbD_eq
  intro i hi
  unfold mask4
  have a8 : (UInt32.toBitVec 8 % 32).toNat = 8 := by decide
  have a16 : (UInt32.toBitVec 16 % 32).toNat = 16 := by decide
  have a24 : (UInt32.toBitVec 24 % 32).toNat = 24 := by decide
  simp only [UInt32.toBitVec_xor, BitVec.getLsbD_xor, UInt32.toBitVec_shiftLeft, UInt32.toBitVec_shiftRight, BitVec.shiftLeft_eq', BitVec.ushiftRight_eq', BitVec.getLsbD_shiftLeft, BitVec.getLsbD_ushiftRight, a8, a16, a24, UInt8.toBitVec_toUInt32, UInt32.toBitVec_toUInt8, BitVec.getLsbD_setWidth]
  by_cases h1 : i < 8
  · have h2 : i < 16 := by omega
    have h3 : i < 24 := by omega
    simp [h1, h2, h3, hi]
  · by_cases h2 : i < 16
    · have h3 : i < 24 := by omega
      have h4 : i - 8 < 8 := by omega
      have h5 : 8 + (i - 8) = i := by omega
      simp [h1, h2, h3, h4, h5, hi]; omega
    · by_cases h3 : i < 24
      · have h4 : i - 16 < 8 := by omega
        have h5 : 16 + (i - 16) = i := by omega
        have h6 : ¬ i - 8 < 8 := by omega
        simp [h1, h2, h3, h4, h5, h6, hi]; omega
      · have h4 : i - 24 < 8 := by omega
        have h5 : 24 + (i - 24) = i := by omega
        have h6 : ¬ i - 8 < 8 := by omega
        have h7 : ¬ i - 16 < 8 := by omega
        simp [h1, h2, h3, h4, h5, h6, h7, hi]; omega
end Go.Proofs.YtepbphgpklphiaaDoor
