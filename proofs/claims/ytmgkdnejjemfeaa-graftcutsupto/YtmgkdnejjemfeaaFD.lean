/- A node that came in is small: its forms are. -/
import Derived.Test.YtmgkdnejjemfeaaKV
import Derived.Test.YtmgkdnejjemfeaaFC
namespace Go.Proofs.Ytmgkdnejjemfeaa
open Go.RowKit

theorem sumB_len (q : Int) (k : Kid) (h : KidOk k) : (sumB q k).length ≤ 32 := by unfold sumB; rw [List.length_take, h.d]; omega
theorem kidB_len (pages : Bool) (q : Int) (k : Kid) (h : KidOk k) : (kidB pages q k).length ≤ 36 := by
  unfold kidB
  have := sumB_len q k h
  rw [List.length_append]
  split
  · rw [fixB_length]; omega
  · simp; omega

theorem textB_len10' (s : ByteArray) : (textB s).length ≤ 10 + s.size := by
  unfold textB; rw [List.length_append, bytes_length]
  have := freeB_length s.size
  omega
theorem pairsB_bulk (l : List (ByteArray × ByteArray)) : (pairsB l).length ≤ 20 * (l.map fun x => x.1.size + x.2.size + 1).sum := by
  induction l with
  | nil => simp [pairsB]
  | cons x l ih =>
    have h1 := textB_len10' x.1
    have h2 := textB_len10' x.2
    have e : pairsB (x :: l) = pairB x ++ pairsB l := by simp [pairsB]
    rw [e, List.length_append, List.map_cons, List.sum_cons]
    have e2 : (pairB x).length = (textB x.1).length + (textB x.2).length := by unfold pairB; rw [List.length_append]
    omega
theorem kidsB_bulk (pages : Bool) (q : Int) : ∀ (ks : List Kid) (b : Bool) (ss : List ByteArray), (∀ x ∈ ks, KidOk x) → (kidsB pages q b ss ks).length ≤ ks.length * 36 + 10 * (ss.map fun x => x.size + 1).sum := by
  intro ks
  induction ks with
  | nil => intro b ss _; cases b <;> simp [kidsB]
  | cons k ks ih =>
    intro b ss hk
    have h1 := kidB_len pages q k (hk k (by simp))
    have hk2 : ∀ x ∈ ks, KidOk x := fun x hx => hk x (by simp [hx])
    rw [List.length_cons, Nat.succ_mul]
    cases b with
    | true =>
      have h2 := ih false ss hk2
      rw [kidsB, List.length_append]; omega
    | false =>
      cases ss with
      | nil =>
        have h2 := ih false [] hk2
        rw [kidsB, List.length_append]; omega
      | cons s ss =>
        have h2 := ih false ss hk2
        have h3 := textB_len10' s
        rw [kidsB, List.length_append, List.length_append, List.map_cons, List.sum_cons]; omega
theorem sum_mono3 (l : List (ByteArray × ByteArray)) : (l.map fun x => x.1.size + x.2.size + 1).sum ≤ (l.map fun x => x.1.size + x.2.size + 3).sum := by
  induction l with
  | nil => simp
  | cons x l ih => rw [List.map_cons, List.map_cons, List.sum_cons, List.sum_cons]; omega
theorem NdSmall.form {N : Nd} (h : NdSmall N) (hk : ∀ x ∈ N.ks, KidOk x) (t : Bool) (q : Int) : (formN t q N).length ≤ 50000000000 := by
  have h1 := pairsB_bulk N.ps
  have h0 := sum_mono3 N.ps
  have h2 := kidsB_bulk t q N.ks true N.ss hk
  have h3 := freeB_length N.ps.length
  have h4 := freeB_length N.ks.length
  have := h.hp; have := h.hs; have := h.hk
  unfold formN; split
  · rw [List.length_cons, List.length_append]; omega
  · rw [List.length_cons, List.length_append]; omega
end Go.Proofs.Ytmgkdnejjemfeaa
