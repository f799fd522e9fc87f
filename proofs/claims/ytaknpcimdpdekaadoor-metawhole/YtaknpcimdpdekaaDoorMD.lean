/- Plain: what is encoded is told as that record. -/
import Derived.Test.YtaknpcimdpdekaaDoorM6
namespace Go.Proofs.YtaknpcimdpdekaaDoor
open Go.RowKit

theorem shP_log {p q : Int} (h : frameP p q = true) : shP (logP p) = p := by
  rcases (frameP_cases h).1 with rfl | rfl | rfl | rfl <;> kernel_rfl
/-- What stands in a record's bytes, place by place. -/
theorem rec_places {lg wd : Nat} {m : Rec} {s : ByteArray} {R : List UInt8} (hm : RecOk m) (hlg : lg < 256) (hwd : wd < 256) (hs : s.data.toList = recB lg wd m ++ R) :
    beAt s 4 1 = lg ∧ beAt s 5 1 = wd ∧ recAt s = m := by
  obtain ⟨v, rp, d, c, rv, li, pg⟩ := m
  obtain ⟨h1, h2, h3, h4, h5, h6, h7⟩ := hm
  simp only at h1 h2 h3 h4 h5 h6 h7
  have e : s.data.toList = recB lg wd ⟨v, rp, d, c, rv, li, pg⟩ ++ R := hs
  have hd : (s.extract 44 76).data.toList = d := by
    rw [show (76 : Nat) = 44 + 32 from rfl, extract_list, e]
    show (d ++ R).take 32 = d
    exact List.take_left' h3
  refine ⟨beAt_fix (by rw [e]; rfl) hlg, beAt_fix (by rw [e]; rfl) hwd, ?_⟩
  unfold recAt
  rw [hd, beAt_fix (i := 8) (n := 8) (x := v) (by rw [e]; rfl) h1, beAt_fix (i := 32) (n := 4) (x := rp) (by rw [e]; rfl) h2, beAt_fix (i := 16) (n := 8) (x := c) (by rw [e]; rfl) h4, beAt_fix (i := 24) (n := 8) (x := rv) (by rw [e]; rfl) h5, beAt_fix (i := 36) (n := 4) (x := li) (by rw [e]; rfl) h6, beAt_fix (i := 40) (n := 4) (x := pg) (by rw [e]; rfl) h7]

theorem mark_ne {lg wd : Nat} {m : Rec} {s : ByteArray} {R : List UInt8} (hs : s.data.toList = recB lg wd m ++ R) : ¬ s = noughtS s.size := by
  intro h
  have e := congrArg (fun x => x.data.toList) h
  simp only [noughtS_list] at e
  rw [hs] at e
  have h0 : (recB lg wd m ++ R)[0]? = some 104 := rfl
  rw [e] at h0
  rw [List.getElem?_replicate] at h0
  split at h0
  · simp at h0
  · cases h0

/-- A sector that holds a record's bytes and noughts is told as that record. -/
theorem slot_form {p q : Int} {m : Rec} {s : ByteArray} (hm : RecOk m) (h : mayM p q m = true) (hs : s = fillS (formS p q m) s.size) : slotK p q s = 1 ∧ slotR p q s = m := by
  obtain ⟨hf, _, _⟩ := mayM_parts h
  obtain ⟨hp4, hq1, hq2⟩ := frameP_cases hf
  have hl : s.data.toList = recB (logP p) q.toNat m ++ (fixB 4 (crcP [⟨(recB (logP p) q.toNat m).toArray⟩]).toNat ++ List.replicate (s.size - (formS p q m).size) 0) := by
    have := congrArg (fun x => x.data.toList) hs
    simp only [fillS_list, formS_list, formM] at this
    rw [this, List.append_assoc]
  have hlg : logP p < 256 := by rcases hp4 with rfl | rfl | rfl | rfl <;> decide
  obtain ⟨e1, e2, e3⟩ := rec_places hm hlg (by omega) hl
  have ep : pAt s = p := by unfold pAt; rw [e1]; exact shP_log hf
  have eq : qAt s = q := by unfold qAt; rw [e2]; omega
  have hL : laidM s = true := by
    unfold laidM
    rw [ep, eq, e3, h, Bool.true_and]
    exact decide_eq_true hs
  have hk : slotK p q s = 1 := by unfold slotK; rw [if_neg (mark_ne hl), hL, if_neg (by simp), if_pos ⟨ep, eq⟩]
  refine ⟨hk, ?_⟩
  unfold slotR
  rw [if_pos hk, e3]
theorem encS_size {p q : Int} {m : Rec} (hm : RecOk m) (h : mayM p q m = true) : ((encS p q m).size : Int) = p := by
  obtain ⟨hp4, _, _⟩ := frameP_cases (mayM_parts h).1
  unfold encS
  rw [if_pos h, fillS_size _ _ (by rw [formS_size p q m hm.d]; omega)]
  omega
theorem encS_sect {p q : Int} {m : Rec} (hm : RecOk m) (h : mayM p q m = true) : sectS p (encS p q m) = fillS (formS p q m) (p.toNat / 8) := by
  have hlo := sect_lo (mayM_parts h).1
  have hfs := formS_size p q m hm.d
  have hfl : (formS p q m).data.toList.length = 80 := by rw [bytes_length, hfs]
  apply bytes_ext
  unfold sectS encS
  rw [if_pos h, show p.toNat / 8 = 0 + p.toNat / 8 from by omega, extract_list, List.drop_zero, fillS_list, fillS_list, List.take_append, List.take_of_length_le (by omega), hfl, hfs, List.take_replicate]
  congr 2
  omega
theorem dec_enc {p q : Int} {m : Rec} (hm : RecOk m) (h : mayM p q m = true) : decB p q (encS p q m) = true ∧ decK p q (encS p q m) = 1 ∧ decR p q (encS p q m) = m := by
  have hb : decB p q (encS p q m) = true := by unfold decB; rw [(mayM_parts h).1, Bool.true_and]; exact decide_eq_true (encS_size hm h)
  have hs := encS_sect hm h
  have hlo := sect_lo (mayM_parts h).1
  have hz : (fillS (formS p q m) (p.toNat / 8)).size = p.toNat / 8 := fillS_size _ _ (by rw [formS_size p q m hm.d]; omega)
  obtain ⟨k1, k2⟩ := slot_form (s := sectS p (encS p q m)) hm h (by rw [hs, hz])
  refine ⟨hb, ?_, ?_⟩
  · unfold decK; rw [if_pos hb, k1]
  · unfold decR; rw [if_pos hb, k2]
end Go.Proofs.YtaknpcimdpdekaaDoor
