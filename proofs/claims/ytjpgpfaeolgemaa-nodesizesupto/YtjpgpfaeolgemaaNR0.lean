/- Plain: a node's bytes are read as that node. -/
import Derived.Test.YtjpgpfaeolgemaaQ0
import Derived.Test.YtjpgpfaeolgemaaWI
import Derived.Test.YtjpgpfaeolgemaaNO
namespace Go.Proofs.Ytjpgpfaeolgemaa
open Go.RowKit

/-- From the place p on the bytes are X, and r behind them. -/
def Stands (S : ByteArray) (p : Nat) (X r : List UInt8) : Prop := S.data.toList.drop p = X ++ r ∧ p ≤ S.size
theorem Stands.next {S : ByteArray} {p : Nat} {X Y r : List UInt8} (h : Stands S p (X ++ Y) r) : Stands S p X (Y ++ r) ∧ Stands S (p + X.length) Y r := by
  obtain ⟨h, hp⟩ := h
  rw [List.append_assoc] at h
  refine ⟨⟨h, hp⟩, ?_, ?_⟩
  · rw [← List.drop_drop, h, List.drop_left]
  · have := congrArg List.length h
    rw [List.length_drop, bytes_length, List.length_append] at this
    omega
theorem Stands.len {S : ByteArray} {p : Nat} {X r : List UInt8} (h : Stands S p X r) : S.size - p = X.length + r.length ∧ p + X.length ≤ S.size := by
  have := congrArg List.length h.1
  rw [List.length_drop, bytes_length, List.length_append] at this
  have := h.2
  omega

theorem rFree_at {S : ByteArray} {p n most : Nat} {r : List UInt8} (h : Stands S p (freeB n) r) (hn : n < 18446744073709551616) (hm : n ≤ most) : rFree S p 0 most = (n, p + (freeB n).length, 0) := by
  unfold rFree
  rw [if_pos rfl, h.1, free_back n r hn, if_pos rfl]
  simp only
  rw [if_neg (by omega)]
theorem rRaw_at {S : ByteArray} {p k : Nat} {X r : List UInt8} (h : Stands S p X r) (hk : X.length = k) : rRaw S p 0 (k : Int) = (⟨X.toArray⟩, p + k, 0) := by
  have hl := h.len
  unfold rRaw
  rw [if_pos rfl, Int.toNat_natCast, if_neg (by omega), Lib.extract_eq, h.1, show p + k - p = k from by omega]
  rw [← hk, List.take_left]
theorem rText_at {S : ByteArray} {p : Nat} {s : ByteArray} {most : Int} {r : List UInt8} (h : Stands S p (textB s) r) (hs : s.size < 18446744073709551616) (hm : (s.size : Int) ≤ most) : rText S p 0 most = (s, p + (textB s).length, 0) := by
  unfold textB at h
  obtain ⟨h1, h2⟩ := h.next
  have hl := h2.len
  have hb := bytes_length s
  unfold rText
  rw [rFree_at h1 hs (by omega)]
  simp only
  rw [if_neg (by omega), rRaw_at h2 hb]
  unfold textB
  rw [List.length_append, hb, ← Nat.add_assoc, Lib.mk_data]

theorem beF_acc (l : List UInt8) (a : Nat) : l.foldl (fun x b => x * 256 + b.toNat) a = a * 256 ^ l.length + beN l := by
  unfold beN
  induction l generalizing a with
  | nil => simp
  | cons c l ih =>
    simp only [List.foldl_cons, List.length_cons]
    rw [ih (a * 256 + c.toNat), ih (0 * 256 + c.toNat), Nat.pow_succ, Nat.add_mul, Nat.mul_comm (256 ^ l.length) 256, Nat.mul_assoc]
    simp only [Nat.zero_mul, Nat.zero_add]
    omega
theorem beN_cons (c : UInt8) (l : List UInt8) : beN (c :: l) = c.toNat * 256 ^ l.length + beN l := by
  have := beF_acc l c.toNat
  show (c :: l).foldl _ 0 = _
  simp only [List.foldl_cons, Nat.zero_mul, Nat.zero_add]
  exact this
theorem beN_fix (n x : Nat) : beN (fixB n (x : Int)) = x % 256 ^ n := by
  induction n with
  | zero => simp [fixB, beN, Nat.mod_one]
  | succ n ih =>
    have e : ((x : Int) / 256 ^ n % 256).toNat = x / 256 ^ n % 256 := by
      have h1 : ((256 ^ n : Nat) : Int) = 256 ^ n := Int.natCast_pow 256 n
      rw [← h1]
      omega
    have hc : (UInt8.ofNat (x / 256 ^ n % 256)).toNat = x / 256 ^ n % 256 := by simp
    rw [fixB, beN_cons, ih, fixB_length, e, hc, Nat.mod_pow_succ, Nat.mul_comm]
    omega

theorem rMany_at {α β : Type} {S : ByteArray} (rd : Nat → Nat → β × Nat × Nat) (enc : α → List UInt8) (f : α → β) (l : List α) (hrd : ∀ x ∈ l, ∀ p r, Stands S p (enc x) r → rd p 0 = (f x, p + (enc x).length, 0)) (p : Nat) (r : List UInt8) (h : Stands S p (laidAll enc l) r) (acc : List β) :
    rMany rd l.length p 0 acc = (acc ++ l.map f, p + (laidAll enc l).length, 0) := by
  induction l generalizing p acc with
  | nil => simp [rMany, laidAll]
  | cons x l ih =>
    have e : laidAll enc (x :: l) = enc x ++ laidAll enc l := by simp [laidAll]
    rw [e] at h
    obtain ⟨h1, h2⟩ := h.next
    rw [List.length_cons, rMany, if_pos rfl, hrd x (by simp) p _ h1]
    simp only
    rw [ih (fun y hy => hrd y (by simp [hy])) _ h2, e]
    simp only [List.map_cons, List.length_append, List.append_assoc, List.singleton_append, Prod.mk.injEq, and_true, true_and]
    omega
theorem laidAll_len {α : Type} (enc : α → List UInt8) (l : List α) (h : ∀ x ∈ l, 1 ≤ (enc x).length) : l.length ≤ (laidAll enc l).length := by
  induction l with
  | nil => simp
  | cons x l ih =>
    have e : laidAll enc (x :: l) = enc x ++ laidAll enc l := by simp [laidAll]
    have h1 := h x (by simp)
    have h2 := ih (fun y hy => h y (by simp [hy]))
    rw [e, List.length_append, List.length_cons]; omega
theorem freeB_pos (n : Nat) : 1 ≤ (freeB n).length := by unfold freeB; rw [freeF]; split <;> simp
theorem rListG_at {α β : Type} {S : ByteArray} (rd : Nat → Nat → β × Nat × Nat) (enc : α → List UInt8) (f : α → β) (l : List α) (hrd : ∀ x ∈ l, ∀ p r, Stands S p (enc x) r → rd p 0 = (f x, p + (enc x).length, 0)) (hpos : ∀ x ∈ l, 1 ≤ (enc x).length) (p most : Nat) (r : List UInt8)
    (h : Stands S p (freeB l.length ++ laidAll enc l) r) (hl : l.length < 18446744073709551616) (hm : l.length ≤ most) :
    rListG rd S p 0 most = (l.map f, p + (freeB l.length ++ laidAll enc l).length, 0) := by
  obtain ⟨h1, h2⟩ := h.next
  have hll := laidAll_len enc l hpos
  have h3 := h2.len
  have hc : rCount S p 0 most = (l.length, p + (freeB l.length).length, 0) := by
    unfold rCount
    rw [rFree_at h1 hl hm]
    simp only
    rw [if_neg (by omega)]
  unfold rListG
  rw [hc]
  simp only
  rw [rMany_at rd enc f l hrd _ _ h2 []]
  simp only [if_pos, List.nil_append, List.length_append, Nat.add_assoc]
theorem rises_small {mk : Int} : ∀ {l : List ByteArray} {ahead : ByteArray}, risesP mk ahead l = true → ∀ x ∈ l, (x.size : Int) ≤ mk := by
  intro l
  induction l with
  | nil => intro a h x hx; cases hx
  | cons k l ih =>
    intro a h x hx
    rw [risesP] at h
    split at h
    · cases h
    · split at h
      · cases h
      · rcases List.mem_cons.1 hx with rfl | hx
        · omega
        · exact ih h x hx
theorem rdPair_at {pg : Int} {S : ByteArray} {x : ByteArray × ByteArray} (h1 : (x.1.size : Int) ≤ pg / 16) (h2 : (x.2.size : Int) ≤ pg / 8) (hs : x.1.size < 18446744073709551616 ∧ x.2.size < 18446744073709551616) {p : Nat} {r : List UInt8} (h : Stands S p (pairB x) r) :
    rdPair pg S p 0 = (x, p + (pairB x).length, 0) := by
  unfold pairB at h ⊢
  obtain ⟨a, b⟩ := h.next
  have e1 := rText_at a hs.1 h1
  have e2 := rText_at b hs.2 h2
  unfold rdPair
  rw [e1]
  simp only
  rw [e2]
  simp only [List.length_append, Nat.add_assoc]
theorem kind_at {S : ByteArray} {c : UInt8} {l : List UInt8} (h : S.data.toList = c :: l) : rKind S = (c.toNat, 1, 0) := by
  have hs : Stands S 0 [c] l := ⟨by simpa using h, Nat.zero_le _⟩
  have e := rRaw_at (k := 1) hs rfl
  unfold rKind
  have e2 : rRaw S 0 0 1 = rRaw S 0 0 ((1 : Nat) : Int) := rfl
  rw [e2, e]
  simp [beN]
theorem rest_at {S : ByteArray} {c : UInt8} {l : List UInt8} (h : S.data.toList = c :: l) : Stands S 1 l [] := by
  refine ⟨by rw [h]; simp, ?_⟩
  have := congrArg List.length h
  rw [bytes_length, List.length_cons] at this
  omega
theorem leafB_nil {N : Nd} (h : leafB N = true) : N.ss = [] ∧ N.ks = [] := by
  unfold leafB at h
  simp only [Bool.and_eq_true, decide_eq_true_eq] at h
  exact ⟨List.eq_nil_of_length_eq_zero h.1, List.eq_nil_of_length_eq_zero h.2⟩
theorem pairB_pos (x : ByteArray × ByteArray) : 1 ≤ (pairB x).length := by
  unfold pairB textB; rw [List.length_append, List.length_append]
  have := freeB_pos x.1.size; omega
theorem pairsB_laid (l : List (ByteArray × ByteArray)) : pairsB l = laidAll pairB l := by unfold pairsB laidAll; rw [List.flatMap_def]
theorem leaf_back {p q : Int} {N : Nd} {t : Bool} (hp : p = 1024 ∨ p = 2048 ∨ p = 4096 ∨ p = 8192) (hl : leafB N = true) (hs : leafP p N = true) (hn : ((formN t q N).length : Int) ≤ p - 32) : (rKind ⟨(formN t q N).toArray⟩).1 = 1 ∧ rdLeaf p ⟨(formN t q N).toArray⟩ = N.ps := by
  have hF : formN t q N = 1 :: (freeB N.ps.length ++ pairsB N.ps) := by unfold formN; rw [if_pos hl]
  rw [hF] at hn ⊢
  generalize hS : (⟨(1 :: (freeB N.ps.length ++ pairsB N.ps)).toArray⟩ : ByteArray) = S
  have hD : S.data.toList = 1 :: (freeB N.ps.length ++ pairsB N.ps) := by rw [← hS]
  have hk := kind_at hD
  refine ⟨by rw [hk]; rfl, ?_⟩
  unfold rdLeaf
  rw [hk]
  simp only
  have hr := rest_at hD
  rw [pairsB_laid] at hr hn
  rw [List.length_cons, List.length_append] at hn
  have hll := laidAll_len pairB N.ps (fun x _ => pairB_pos x)
  unfold leafP at hs
  simp only [Bool.and_eq_true, Bool.not_eq_true'] at hs
  have hsm := rises_small hs.1
  have e := rListG_at (rdPair p S) pairB id N.ps (fun x hx pp r hst => by
      have k1 := hsm x.1 (List.mem_map.2 ⟨x, hx, rfl⟩)
      have k2 : (x.2.size : Int) ≤ p / 8 := by
        have := hs.2
        rw [List.any_eq_false] at this
        have := this x hx
        unfold longB at this
        simp only [decide_eq_true_eq] at this
        omega
      exact rdPair_at k1 k2 (by omega) hst) (fun x _ => pairB_pos x) 1 (p - 32).toNat [] hr (by omega) (by omega)
  rw [e]; simp
theorem widthN_of {q : Int} (h1 : 1 ≤ q) (h2 : q ≤ 32) : widthN q = q.toNat := by unfold widthN; omega
theorem sumB_length {q : Int} {k : Kid} (hk : KidOk k) : (sumB q k).length = widthN q := by
  unfold sumB; rw [List.length_take, hk.d]; unfold widthN; omega
theorem fits_pad {q : Int} {k : Kid} (hk : KidOk k) (h : fitsP q k.d = true) : padD ⟨(sumB q k).toArray⟩ = k.d := by
  unfold fitsP at h
  simp only [Bool.and_eq_true, decide_eq_true_eq] at h
  obtain ⟨⟨h1, h2⟩, h3⟩ := h
  have hw := widthN_of h1 h2
  have hl := sumB_length (q := q) hk
  unfold cutR at h3
  rw [if_pos ⟨h1, h2⟩] at h3
  unfold cutD at h3
  unfold padD
  have hz : (ByteArray.mk (sumB q k).toArray).size = q.toNat := by rw [size_arr, hl, hw]
  have e : (ByteArray.mk (sumB q k).toArray).data.toList = k.d.take q.toNat := by show (sumB q k).toArray.toList = _; rw [List.toList_toArray]; unfold sumB; rw [hw]
  rw [hz, e]
  exact h3
theorem rdSum_at {q : Int} {S : ByteArray} {k : Kid} (hk : KidOk k) (h : fitsP q k.d = true) {p : Nat} {r : List UInt8} (hs : Stands S p (sumB q k) r) : rdSum q S p 0 = (⟨0, k.d⟩, p + (sumB q k).length, 0) := by
  have hl := sumB_length (q := q) hk
  have e := rRaw_at hs hl
  unfold rdSum
  rw [e]
  simp only
  rw [fits_pad hk h, hl]
theorem rdKid_at {q : Int} {S : ByteArray} {k : Kid} (hk : KidOk k) (h : fitsP q k.d = true) {p : Nat} {r : List UInt8} (hs : Stands S p (kidB true q k) r) : rdKid q S p 0 = (k, p + (kidB true q k).length, 0) := by
  have hB : kidB true q k = fixB 4 k.page ++ sumB q k := by unfold kidB; rw [if_pos rfl]
  rw [hB] at hs ⊢
  obtain ⟨h1, h2⟩ := hs.next
  have hf4 : (fixB 4 (k.page : Int)).length = 4 := fixB_length _ _
  have e := rRaw_at (k := 4) h1 hf4
  have e2 : rRaw S p 0 4 = rRaw S p 0 ((4 : Nat) : Int) := rfl
  rw [hf4] at h2
  have e3 := rdSum_at hk h h2
  unfold rdKid
  rw [e2, e]
  simp only
  rw [e3]
  simp only [List.length_append, hf4, Nat.add_assoc]
  have := hk.page
  rw [beN_fix, Nat.mod_eq_of_lt (by omega)]
def bareK (k : Kid) : Kid := ⟨0, k.d⟩
def bareN (N : Nd) : Nd := ⟨N.ps, N.ss, N.ks.map bareK⟩
theorem rKids_at {S : ByteArray} {pages : Bool} {q : Int} (rd : Nat → Nat → Kid × Nat × Nat) (rt : Nat → Nat → ByteArray × Nat × Nat) (f : Kid → Kid) : ∀ (ks : List Kid) (ss : List ByteArray) (_ : ss.length = ks.length)
    (_ : ∀ x ∈ ks, ∀ p r, Stands S p (kidB pages q x) r → rd p 0 = (f x, p + (kidB pages q x).length, 0)) (_ : ∀ x ∈ ss, ∀ p r, Stands S p (textB x) r → rt p 0 = (x, p + (textB x).length, 0)) (p : Nat) (r : List UInt8) (_ : Stands S p (kidsB pages q false ss ks) r) (sl : List ByteArray) (acc : List Kid) (_ : acc.length ≠ 0),
    rKids rd rt ks.length p 0 sl acc = (sl ++ ss, acc ++ ks.map f, p + (kidsB pages q false ss ks).length, 0) := by
  intro ks
  induction ks with
  | nil =>
    intro ss hl _ _ p r _ sl acc _
    obtain rfl : ss = [] := List.eq_nil_of_length_eq_zero hl
    simp [rKids, kidsB]
  | cons k ks ih =>
    intro ss hl hrd hrt p r hs sl acc ha
    cases ss with
    | nil => simp at hl
    | cons s ss =>
      have e : kidsB pages q false (s :: ss) (k :: ks) = textB s ++ (kidB pages q k ++ kidsB pages q false ss ks) := by rw [kidsB, List.append_assoc]
      rw [e] at hs ⊢
      obtain ⟨h1, h2⟩ := hs.next
      obtain ⟨h3, h4⟩ := h2.next
      have e1 := hrt s (by simp) p _ h1
      have e2 := hrd k (by simp) _ _ h3
      rw [List.length_cons, rKids, if_pos rfl, if_neg ha, e1]
      simp only
      rw [e2]
      simp only
      rw [ih ss (by simpa using hl) (fun x hx => hrd x (by simp [hx])) (fun x hx => hrt x (by simp [hx])) _ _ h4 _ _ (by simp)]
      simp only [List.map_cons, List.length_append, List.append_assoc, List.singleton_append, Prod.mk.injEq, and_true, true_and]
      omega
theorem kidsB_ge {pages : Bool} {q : Int} (hq : 1 ≤ q) : ∀ (ks : List Kid) (b : Bool) (ss : List ByteArray), (∀ x ∈ ks, KidOk x) → ks.length ≤ (kidsB pages q b ss ks).length := by
  intro ks
  induction ks with
  | nil => intro b ss _; simp
  | cons k ks ih =>
    intro b ss hk
    have h1 := kidB_pos pages hq (hk k (by simp))
    have hk2 : ∀ x ∈ ks, KidOk x := fun x hx => hk x (by simp [hx])
    rw [List.length_cons]
    cases b with
    | true =>
      have h2 := ih false ss hk2
      rw [kidsB, List.length_append]; omega
    | false =>
      cases ss with
      | nil =>
        have h2 := ih false [] hk2
        rw [kidsB, List.length_append]; omega
      | cons s ss =>
        have h2 := ih false ss hk2
        rw [kidsB, List.length_append, List.length_append]; omega
theorem branch_back {p q : Int} {N : Nd} {pages : Bool} (rd : ByteArray → Nat → Nat → Kid × Nat × Nat) (f : Kid → Kid) (hp : p = 1024 ∨ p = 2048 ∨ p = 4096 ∨ p = 8192) (hq : 1 ≤ q) (hl : leafB N = false) (hs : branchP p q N = true) (hok : ∀ x ∈ N.ks, KidOk x)
    (hrd : ∀ S, ∀ x ∈ N.ks, ∀ p r, Stands S p (kidB pages q x) r → rd S p 0 = (f x, p + (kidB pages q x).length, 0)) (hn : ((formN pages q N).length : Int) ≤ p - 32) :
    (rKind ⟨(formN pages q N).toArray⟩).1 = 2 ∧ (rListK (rd ⟨(formN pages q N).toArray⟩) (fun a c => rText ⟨(formN pages q N).toArray⟩ a c (p / 16)) ⟨(formN pages q N).toArray⟩ (rKind ⟨(formN pages q N).toArray⟩).2.1 (rKind ⟨(formN pages q N).toArray⟩).2.2 (p - 32).toNat).1 = N.ss ∧ (rListK (rd ⟨(formN pages q N).toArray⟩) (fun a c => rText ⟨(formN pages q N).toArray⟩ a c (p / 16)) ⟨(formN pages q N).toArray⟩ (rKind ⟨(formN pages q N).toArray⟩).2.1 (rKind ⟨(formN pages q N).toArray⟩).2.2 (p - 32).toNat).2.1 = N.ks.map f := by
  have hF : formN pages q N = 2 :: (freeB N.ks.length ++ kidsB pages q true N.ss N.ks) := by unfold formN; rw [if_neg (by rw [hl]; simp)]
  rw [hF] at hn ⊢
  generalize hS : (⟨(2 :: (freeB N.ks.length ++ kidsB pages q true N.ss N.ks)).toArray⟩ : ByteArray) = S
  have hD : S.data.toList = 2 :: (freeB N.ks.length ++ kidsB pages q true N.ss N.ks) := by rw [← hS]
  have hk := kind_at hD
  rw [hk]
  refine ⟨rfl, ?_⟩
  simp only
  have hr := rest_at hD
  obtain ⟨h1, h2⟩ := hr.next
  rw [List.length_cons, List.length_append] at hn
  have hge := kidsB_ge (pages := pages) hq N.ks true N.ss hok
  have h3 := h2.len
  unfold branchP at hs
  simp only [Bool.and_eq_true, Bool.not_eq_true', Bool.or_eq_false_iff, decide_eq_false_iff_not] at hs
  obtain ⟨⟨⟨_, hk2⟩, hk3⟩, hr1, _⟩ := hs
  have hsm := rises_small hr1
  have hc : rCount S 1 0 (p - 32).toNat = (N.ks.length, 1 + (freeB N.ks.length).length, 0) := by
    unfold rCount
    rw [rFree_at h1 (by omega) (by omega)]
    simp only
    rw [if_neg (by omega)]
  have hrt : ∀ x ∈ N.ss, ∀ a r, Stands S a (textB x) r → rText S a 0 (p / 16) = (x, a + (textB x).length, 0) := fun x hx a r h => by
    have := hsm x hx
    exact rText_at h (by omega) this
  have hR : rKids (rd S) (fun a c => rText S a c (p / 16)) N.ks.length (1 + (freeB N.ks.length).length) 0 [] [] = (N.ss, N.ks.map f, 1 + (freeB N.ks.length).length + (kidsB pages q true N.ss N.ks).length, 0) := by
    obtain ⟨k, ks, hks⟩ : ∃ k ks, N.ks = k :: ks := by
      cases h : N.ks with
      | nil => rw [h] at hk2; simp at hk2
      | cons k ks => exact ⟨k, ks, rfl⟩
    rw [hks] at h2 hk3 ⊢
    have e : kidsB pages q true N.ss (k :: ks) = kidB pages q k ++ kidsB pages q false N.ss ks := by rw [kidsB]
    rw [e] at h2 ⊢
    obtain ⟨g1, g2⟩ := h2.next
    have e2 := hrd S k (by rw [hks]; simp) _ _ g1
    rw [List.length_cons] at e2 g2
    rw [List.length_cons, rKids, if_pos rfl, if_pos (show ([] : List Kid).length = 0 from rfl), e2]
    simp only
    rw [rKids_at (pages := pages) (q := q) (rd S) _ f ks N.ss (by simp at hk3; omega) (fun x hx => hrd S x (by rw [hks]; simp [hx])) hrt _ _ g2 [] _ (by simp)]
    simp only [List.map_cons, List.length_append, List.nil_append, List.singleton_append, Prod.mk.injEq, and_true, true_and]
    omega
  unfold rListK
  rw [hc]
  simp only
  rw [hR]
  exact ⟨rfl, by simp⟩
theorem loose_fits {q : Int} {ks : List Kid} (h : ks.any (looseB q) = false) : ∀ x ∈ ks, fitsP q x.d = true := fun x hx => by
  have := (List.any_eq_false.1 h) x hx
  unfold looseB at this
  simpa using this
theorem pack_back {p q : Int} {N : Nd} (hok : ∀ x ∈ N.ks, KidOk x) (h : packE p q N = 0) : rdNode_page p q (packS p q N) = N := by
  have hS : packS p q N = ⟨(formN true q N).toArray⟩ := by unfold packS; rw [if_pos h]
  rw [hS]
  have hc : chkN p q N = 0 := by unfold packE at h; split at h; assumption; exact h
  obtain ⟨hf, hs⟩ := chk_zero hc
  obtain ⟨hp, hq, _⟩ := frameP_cases hf
  have hn : ((formN true q N).length : Int) ≤ p - 32 := by
    unfold packE at h
    rw [if_pos hc] at h
    split at h
    · cases h
    · split at h
      · cases h
      · omega
  cases hl : leafB N with
  | true =>
    unfold shapeP at hs
    rw [if_pos hl] at hs
    obtain ⟨h1, h2⟩ := leaf_back (q := q) (t := true) hp hl hs hn
    unfold rdNode_page
    rw [if_pos h1, h2]
    obtain ⟨a, b⟩ := leafB_nil hl
    cases N; simp only at a b; subst a b; rfl
  | false =>
    unfold shapeP at hs
    rw [if_neg (by rw [hl]; simp)] at hs
    have hloose : N.ks.any (looseB q) = false := by
      unfold branchP at hs
      simp only [Bool.and_eq_true, Bool.not_eq_true'] at hs
      exact hs.2.2
    have hps : N.ps = [] := by
      unfold branchP at hs
      simp only [Bool.and_eq_true, Bool.not_eq_true', Bool.or_eq_false_iff, decide_eq_false_iff_not] at hs
      exact List.eq_nil_of_length_eq_zero (by omega)
    obtain ⟨h1, h2, h3⟩ := branch_back (pages := true) (fun S => rdKid q S) id hp hq hl hs hok (fun S x hx a r hst => rdKid_at (hok x hx) (loose_fits hloose x hx) hst) hn
    unfold rdNode_page rdBranch_page
    rw [if_neg (by rw [h1]; decide), if_pos h1, h2, h3, List.map_id]
    cases N; simp only at hps; subst hps; rfl
theorem form_len {q : Int} {N : Nd} (hl : leafB N = false) : (formN true q N).length = (formN false q N).length + 4 * N.ks.length := by
  have hg : ∀ (ks : List Kid) (b : Bool) (ss : List ByteArray), (kidsB true q b ss ks).length = (kidsB false q b ss ks).length + 4 * ks.length := by
    intro ks
    induction ks with
    | nil => intro b ss; cases b <;> simp [kidsB]
    | cons k ks ih =>
      intro b ss
      have e : (kidB true q k).length = (kidB false q k).length + 4 := by
        unfold kidB
        rw [if_pos rfl, if_neg (by decide), List.length_append, fixB_length, List.nil_append]; omega
      cases b with
      | true => have := ih false ss; rw [kidsB, kidsB, List.length_append, List.length_append, List.length_cons]; omega
      | false =>
        cases ss with
        | nil => have := ih false []; rw [kidsB, kidsB, List.length_append, List.length_append, List.length_cons]; omega
        | cons s ss => have := ih false ss; rw [kidsB, kidsB, List.length_append, List.length_append, List.length_append, List.length_append, List.length_cons]; omega
  have := hg N.ks true N.ss
  unfold formN
  rw [if_neg (by rw [hl]; simp), if_neg (by rw [hl]; simp), List.length_cons, List.length_cons, List.length_append, List.length_append]
  omega
theorem bare_leaf (N : Nd) : leafB (bareN N) = leafB N := by unfold leafB bareN; simp
theorem bare_chk (p q : Int) (N : Nd) : chkN p q (bareN N) = chkN p q N := by
  unfold chkN shapeP
  rw [bare_leaf]
  have e1 : leafP p (bareN N) = leafP p N := rfl
  have e2 : branchP p q (bareN N) = branchP p q N := by
    unfold branchP bareN
    simp only [List.length_map, List.any_map]
    rfl
  rw [e1, e2]
theorem bare_kids (q : Int) : ∀ (ks : List Kid) (b : Bool) (ss : List ByteArray), kidsB false q b ss (ks.map bareK) = kidsB false q b ss ks := by
  intro ks
  induction ks with
  | nil => intro b ss; rfl
  | cons k ks ih =>
    intro b ss
    have e : kidB false q (bareK k) = kidB false q k := rfl
    rw [List.map_cons]
    cases b with
    | true => rw [kidsB, kidsB, e, ih]
    | false =>
      cases ss with
      | nil => rw [kidsB, kidsB, e, ih]
      | cons s ss => rw [kidsB, kidsB, e, ih]
theorem bare_len (q : Int) : ∀ (ks : List Kid) (b : Bool) (ss : List ByteArray), (kidsB true q b ss (ks.map bareK)).length = (kidsB true q b ss ks).length := by
  intro ks
  induction ks with
  | nil => intro b ss; rfl
  | cons k ks ih =>
    intro b ss
    have e : (kidB true q (bareK k)).length = (kidB true q k).length := by
      unfold kidB
      rw [if_pos rfl, if_pos rfl, List.length_append, List.length_append, fixB_length, fixB_length]
      rfl
    rw [List.map_cons]
    cases b with
    | true => rw [kidsB, kidsB, List.length_append, List.length_append, e, ih]
    | false =>
      cases ss with
      | nil => rw [kidsB, kidsB, List.length_append, List.length_append, e, ih]
      | cons s ss => rw [kidsB, kidsB, List.length_append, List.length_append, List.length_append, List.length_append, e, ih]
theorem bare_form (q : Int) (N : Nd) : formN false q (bareN N) = formN false q N := by
  unfold formN
  rw [bare_leaf]
  have : (bareN N).ks.length = N.ks.length := by unfold bareN; simp
  rw [this]
  show (if leafB N = true then _ else 2 :: (freeB N.ks.length ++ kidsB false q true N.ss (N.ks.map bareK))) = _
  rw [bare_kids]
  rfl
theorem bare_formT (q : Int) (N : Nd) : (formN true q (bareN N)).length = (formN true q N).length := by
  unfold formN
  rw [bare_leaf]
  have : (bareN N).ks.length = N.ks.length := by unfold bareN; simp
  rw [this]
  split
  · rfl
  · rw [List.length_cons, List.length_cons, List.length_append, List.length_append]
    have := bare_len q N.ks true N.ss
    show (freeB N.ks.length).length + (kidsB true q true N.ss (N.ks.map bareK)).length + 1 = _
    omega
theorem bare_plain (p q : Int) (N : Nd) : plainE p q (bareN N) = plainE p q N ∧ plainS p q (bareN N) = plainS p q N := by
  have e : plainE p q (bareN N) = plainE p q N := by unfold plainE; rw [bare_chk, bare_formT]
  exact ⟨e, by unfold plainS; rw [e, bare_form]⟩
theorem plain_back {p q : Int} {N : Nd} (hok : ∀ x ∈ N.ks, KidOk x) (h : plainE p q N = 0) : rdNode_plain p q (plainS p q N) = bareN N := by
  have hS : plainS p q N = ⟨(formN false q N).toArray⟩ := by unfold plainS; rw [if_pos h]
  rw [hS]
  have hc : chkN p q N = 0 := by unfold plainE at h; split at h; assumption; exact h
  obtain ⟨hf, hs⟩ := chk_zero hc
  obtain ⟨hp, hq, _⟩ := frameP_cases hf
  have hn : ((formN true q N).length : Int) ≤ p - 32 := by
    unfold plainE at h
    rw [if_pos hc] at h
    split at h
    · cases h
    · omega
  cases hl : leafB N with
  | true =>
    have e : formN true q N = formN false q N := by unfold formN; rw [if_pos hl, if_pos hl]
    rw [e] at hn
    unfold shapeP at hs
    rw [if_pos hl] at hs
    obtain ⟨h1, h2⟩ := leaf_back (q := q) (t := false) hp hl hs hn
    unfold rdNode_plain
    rw [if_pos h1, h2]
    obtain ⟨a, b⟩ := leafB_nil hl
    cases N; simp only at a b; subst a b; rfl
  | false =>
    have e := form_len (q := q) hl
    unfold shapeP at hs
    rw [if_neg (by rw [hl]; simp)] at hs
    have hloose : N.ks.any (looseB q) = false := by
      unfold branchP at hs
      simp only [Bool.and_eq_true, Bool.not_eq_true'] at hs
      exact hs.2.2
    have hps : N.ps = [] := by
      unfold branchP at hs
      simp only [Bool.and_eq_true, Bool.not_eq_true', Bool.or_eq_false_iff, decide_eq_false_iff_not] at hs
      exact List.eq_nil_of_length_eq_zero (by omega)
    obtain ⟨h1, h2, h3⟩ := branch_back (pages := false) (fun S => rdSum q S) bareK hp hq hl hs hok (fun S x hx a r hst => rdSum_at (hok x hx) (loose_fits hloose x hx) hst) (by omega)
    unfold rdNode_plain rdBranch_plain
    rw [if_neg (by rw [h1]; decide), if_pos h1, h2, h3]
    cases N; simp only at hps; subst hps; rfl
theorem taken_pack {p q : Int} {N : Nd} (hok : ∀ x ∈ N.ks, KidOk x) (h : packE p q N = 0) : takenE_page p q (packS p q N) = 0 ∧ takenN_page p q (packS p q N) = N := by
  have hb := pack_back hok h
  have hf : frameP p q = true := (chk_zero (by unfold packE at h; split at h; assumption; exact h)).1
  have e1 : takenE_page p q (packS p q N) = 0 := by unfold takenE_page; rw [hb, if_pos hf, if_pos ⟨h, rfl⟩]
  exact ⟨e1, by unfold takenN_page; rw [if_pos e1, hb]⟩
theorem taken_plainB {p q : Int} {N : Nd} (hok : ∀ x ∈ N.ks, KidOk x) (h : plainE p q N = 0) : takenE_plain p q (plainS p q N) = 0 ∧ takenN_plain p q (plainS p q N) = bareN N := by
  have hb := plain_back hok h
  have hf : frameP p q = true := (chk_zero (by unfold plainE at h; split at h; assumption; exact h)).1
  have e1 : takenE_plain p q (plainS p q N) = 0 := by unfold takenE_plain; rw [hb, if_pos hf, if_pos ⟨(bare_plain p q N).1.trans h, (bare_plain p q N).2⟩]
  exact ⟨e1, by unfold takenN_plain; rw [if_pos e1, hb]⟩
end Go.Proofs.Ytjpgpfaeolgemaa
