/-
  Plain facts: each thing that was laid is read back, at whatever place it stands.
-/
import Derived.Test.YtcbbjicoedeioaaQ0
import Derived.Test.YtcbbjicoedeioaaWN
import Derived.Test.YtcbbjicoedeioaaWL
import Derived.Test.YtcbbjicoedeioaaWO
namespace Go.Proofs.Ytcbbjicoedeioaa
open Go.RowKit

/-- From the place p on the bytes are X, and r behind them. -/
def Stands (S : ByteArray) (p : Nat) (X r : List UInt8) : Prop := S.data.toList.drop p = X ++ r ∧ p ≤ S.size
theorem Stands.next {S : ByteArray} {p : Nat} {X Y r : List UInt8} (h : Stands S p (X ++ Y) r) : Stands S p X (Y ++ r) ∧ Stands S (p + X.length) Y r := by
  obtain ⟨h, hp⟩ := h
  rw [List.append_assoc] at h
  refine ⟨⟨h, hp⟩, ?_, ?_⟩
  · rw [← List.drop_drop, h, List.drop_left]
  · have := congrArg List.length h
    rw [List.length_drop, bytes_length, List.length_append] at this
    omega
theorem Stands.len {S : ByteArray} {p : Nat} {X r : List UInt8} (h : Stands S p X r) : S.size - p = X.length + r.length ∧ p + X.length ≤ S.size := by
  have := congrArg List.length h.1
  rw [List.length_drop, bytes_length, List.length_append] at this
  have := h.2
  omega

theorem rFree_at {S : ByteArray} {p n most : Nat} {r : List UInt8} (h : Stands S p (freeB n) r) (hn : n < 18446744073709551616) (hm : n ≤ most) : rFree S p 0 most = (n, p + (freeB n).length, 0) := by
  unfold rFree
  rw [if_pos rfl, h.1, free_back n r hn, if_pos rfl]
  simp only
  rw [if_neg (by omega)]
theorem rRaw_at {S : ByteArray} {p k : Nat} {X r : List UInt8} (h : Stands S p X r) (hk : X.length = k) : rRaw S p 0 (k : Int) = (⟨X.toArray⟩, p + k, 0) := by
  have hl := h.len
  unfold rRaw
  rw [if_pos rfl, Int.toNat_natCast, if_neg (by omega), Lib.extract_eq, h.1, show p + k - p = k from by omega]
  rw [← hk, List.take_left]
theorem rText_at {S : ByteArray} {p : Nat} {s : ByteArray} {most : Int} {r : List UInt8} (h : Stands S p (textB s) r) (hs : s.size < 18446744073709551616) (hm : (s.size : Int) ≤ most) : rText S p 0 most = (s, p + (textB s).length, 0) := by
  unfold textB at h
  obtain ⟨h1, h2⟩ := h.next
  have hl := h2.len
  have hb := bytes_length s
  unfold rText
  rw [rFree_at h1 hs (by omega)]
  simp only
  rw [if_neg (by omega), rRaw_at h2 hb]
  unfold textB
  rw [List.length_append, hb, ← Nat.add_assoc, Lib.mk_data]

theorem beF_acc (l : List UInt8) (a : Nat) : l.foldl (fun x b => x * 256 + b.toNat) a = a * 256 ^ l.length + beN l := by
  unfold beN
  induction l generalizing a with
  | nil => simp
  | cons c l ih =>
    simp only [List.foldl_cons, List.length_cons]
    rw [ih (a * 256 + c.toNat), ih (0 * 256 + c.toNat), Nat.pow_succ, Nat.add_mul, Nat.mul_comm (256 ^ l.length) 256, Nat.mul_assoc]
    simp only [Nat.zero_mul, Nat.zero_add]
    omega
theorem beN_cons (c : UInt8) (l : List UInt8) : beN (c :: l) = c.toNat * 256 ^ l.length + beN l := by
  have := beF_acc l c.toNat
  show (c :: l).foldl _ 0 = _
  simp only [List.foldl_cons, Nat.zero_mul, Nat.zero_add]
  exact this
theorem beN_fix (n x : Nat) : beN (fixB n (x : Int)) = x % 256 ^ n := by
  induction n with
  | zero => simp [fixB, beN, Nat.mod_one]
  | succ n ih =>
    have e : ((x : Int) / 256 ^ n % 256).toNat = x / 256 ^ n % 256 := by
      have h1 : ((256 ^ n : Nat) : Int) = 256 ^ n := Int.natCast_pow 256 n
      rw [← h1]
      omega
    have hc : (UInt8.ofNat (x / 256 ^ n % 256)).toNat = x / 256 ^ n % 256 := by simp
    rw [fixB, beN_cons, ih, fixB_length, e, hc, Nat.mod_pow_succ, Nat.mul_comm]
    omega

theorem rMany_at {α β : Type} {S : ByteArray} (rd : Nat → Nat → β × Nat × Nat) (enc : α → List UInt8) (f : α → β) (l : List α) (hrd : ∀ x ∈ l, ∀ p r, Stands S p (enc x) r → rd p 0 = (f x, p + (enc x).length, 0)) (p : Nat) (r : List UInt8) (h : Stands S p (laidAll enc l) r) (acc : List β) :
    rMany rd l.length p 0 acc = (acc ++ l.map f, p + (laidAll enc l).length, 0) := by
  induction l generalizing p acc with
  | nil => simp [rMany, laidAll]
  | cons x l ih =>
    have e : laidAll enc (x :: l) = enc x ++ laidAll enc l := by simp [laidAll]
    rw [e] at h
    obtain ⟨h1, h2⟩ := h.next
    rw [List.length_cons, rMany, if_pos rfl, hrd x (by simp) p _ h1]
    simp only
    rw [ih (fun y hy => hrd y (by simp [hy])) _ h2, e]
    simp only [List.map_cons, List.length_append, List.append_assoc, List.singleton_append, Prod.mk.injEq, and_true, true_and]
    omega
theorem laidAll_len {α : Type} (enc : α → List UInt8) (l : List α) (h : ∀ x ∈ l, 1 ≤ (enc x).length) : l.length ≤ (laidAll enc l).length := by
  induction l with
  | nil => simp
  | cons x l ih =>
    have e : laidAll enc (x :: l) = enc x ++ laidAll enc l := by simp [laidAll]
    have h1 := h x (by simp)
    have h2 := ih (fun y hy => h y (by simp [hy]))
    rw [e, List.length_append, List.length_cons]; omega
theorem freeB_pos (n : Nat) : 1 ≤ (freeB n).length := by unfold freeB; rw [freeF]; split <;> simp
theorem rListG_at {α β : Type} {S : ByteArray} (rd : Nat → Nat → β × Nat × Nat) (enc : α → List UInt8) (f : α → β) (l : List α) (hrd : ∀ x ∈ l, ∀ p r, Stands S p (enc x) r → rd p 0 = (f x, p + (enc x).length, 0)) (hpos : ∀ x ∈ l, 1 ≤ (enc x).length) (p most : Nat) (r : List UInt8)
    (h : Stands S p (freeB l.length ++ laidAll enc l) r) (hl : l.length < 18446744073709551616) (hm : l.length ≤ most) :
    rListG rd S p 0 most = (l.map f, p + (freeB l.length ++ laidAll enc l).length, 0) := by
  obtain ⟨h1, h2⟩ := h.next
  have hll := laidAll_len enc l hpos
  have h3 := h2.len
  have hc : rCount S p 0 most = (l.length, p + (freeB l.length).length, 0) := by
    unfold rCount
    rw [rFree_at h1 hl hm]
    simp only
    rw [if_neg (by omega)]
  unfold rListG
  rw [hc]
  simp only
  rw [rMany_at rd enc f l hrd _ _ h2 []]
  simp only [if_pos, List.nil_append, List.length_append, Nat.add_assoc]

theorem rdFree_at {S : ByteArray} (x : Nat) (hx : x < 18446744073709551616) (p : Nat) (r : List UInt8) (h : Stands S p (freeB x) r) : rdFree S p 0 = (x, p + (freeB x).length, 0) := rFree_at h hx (by omega)
theorem rdText_at {S : ByteArray} (x : ByteArray) (hx : x.size ≤ 1099511627776) (p : Nat) (r : List UInt8) (h : Stands S p (textB x) r) : rdText S p 0 = (x, p + (textB x).length, 0) := rText_at h (by omega) (by omega)
theorem rdByte_at {S : ByteArray} (c : UInt8) (p : Nat) (r : List UInt8) (h : Stands S p (byteB c) r) : rdByte S p 0 = (c.toNat, p + (byteB c).length, 0) := by
  unfold rdByte
  have e := rRaw_at (k := 1) h rfl
  rw [show ((1 : Nat) : Int) = 1 from rfl] at e
  rw [e]
  simp [byteB, beN]
theorem rdBytes_at {S : ByteArray} (x : ByteArray) (hx : x.size ≤ 1099511627776) (p : Nat) (r : List UInt8) (h : Stands S p (textB x) r) : rdBytes S p 0 = (x.data.toList.map (fun c => c.toNat), p + (textB x).length, 0) := by
  have e : textB x = freeB x.data.toList.length ++ laidAll byteB x.data.toList := by unfold textB; rw [laidAll_bytes, bytes_length]
  have hb := bytes_length x
  rw [e] at h ⊢
  exact rListG_at (rdByte S) byteB (fun c => c.toNat) x.data.toList (fun c _ p r h => rdByte_at c p r h) (fun c _ => by simp [byteB]) p 1099511627776 r h (by omega) (by omega)
end Go.Proofs.Ytcbbjicoedeioaa
