/- The document's Size. -/
import Derived.Test.YteddbkbfnafbpaaFZ
import Derived.Test.YteddbkbfnafbpaaB3
namespace Go.Proofs.Yteddbkbfnafbpaa
open Go.RowKit

theorem textB_full (s : ByteArray) : (textB s).length = (freeB s.size).length + s.size := by
  unfold textB
  rw [List.length_append, bytes_length]
theorem pairsB_take_len (ps : List (ByteArray × ByteArray)) (k : Nat) (x : ByteArray × ByteArray) (h : ps[k]? = some x) :
    (pairsB (ps.take (k + 1))).length = (pairsB (ps.take k)).length + ((freeB x.1.size).length + x.1.size) + ((freeB x.2.size).length + x.2.size) := by
  rw [pairsB_take_succ ps k x h, List.length_append]
  unfold pairB
  rw [List.length_append, textB_full, textB_full]
  omega
def sepsN (ss : List ByteArray) : Nat := (ss.map (fun s => (freeB s.size).length + s.size)).sum
theorem sepsN_take (ss : List ByteArray) (k : Nat) (x : ByteArray) (h : ss[k]? = some x) : sepsN (ss.take (k + 1)) = sepsN (ss.take k) + ((freeB x.size).length + x.size) := by
  rw [List.take_add_one, h]
  simp [sepsN]
theorem sepsN_le (ss : List ByteArray) (k : Nat) : sepsN (ss.take k) ≤ sepsN ss := by
  have : ss = ss.take k ++ ss.drop k := (List.take_append_drop k ss).symm
  have e : sepsN ss = sepsN (ss.take k) + sepsN (ss.drop k) := by
    conv => lhs; rw [this]
    unfold sepsN
    rw [List.map_append, List.sum_append]
  omega
theorem kidB_len4 {q : Int} (hq : 1 ≤ q) (hq2 : q ≤ 32) (k : Kid) (h : KidOk k) : (kidB true q k).length = 4 + q.toNat := by
  unfold kidB sumB
  rw [if_pos rfl, List.length_append, List.length_take, h.d]
  have h4 : (fixB 4 k.page).length = 4 := fixB_length _ _
  unfold widthN
  omega
theorem kidsB_len4 {q : Int} (hq : 1 ≤ q) (hq2 : q ≤ 32) : ∀ (b : Bool) (ss : List ByteArray) (ks : List Kid), (∀ x ∈ ks, KidOk x) → (if b = true then ss.length + 1 = ks.length else ss.length = ks.length) → (kidsB true q b ss ks).length = ks.length * (4 + q.toNat) + sepsN ss
  | true, ss, [], _, h => by simp at h
  | false, ss, [], _, h => by
      simp at h
      subst h
      simp [kidsB, sepsN]
  | true, ss, k :: ks, hk, h => by
      rw [kidsB, List.length_append, kidB_len4 hq hq2 k (hk k (by simp)), kidsB_len4 hq hq2 false ss ks (fun x hx => hk x (by simp [hx])) (by simpa using h)]
      rw [List.length_cons, Nat.add_mul]
      omega
  | false, [], k :: ks, _, h => by simp at h
  | false, s :: ss, k :: ks, hk, h => by
      rw [kidsB, List.length_append, List.length_append, textB_full, kidB_len4 hq hq2 k (hk k (by simp)), kidsB_len4 hq hq2 false ss ks (fun x hx => hk x (by simp [hx])) (by simpa using h)]
      rw [List.length_cons, Nat.add_mul]
      simp only [sepsN, List.map_cons, List.sum_cons]
      omega

end Go.Proofs.Yteddbkbfnafbpaa
