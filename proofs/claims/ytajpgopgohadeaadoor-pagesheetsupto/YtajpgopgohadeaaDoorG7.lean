/- Plain: a page's form is read as that page; what is read has one form. -/
import Derived.Test.YtajpgopgohadeaaDoorG6
import Derived.Test.YtajpgopgohadeaaDoorGF
namespace Go.Proofs.YtajpgopgohadeaaDoor
open Go.RowKit

theorem extract_list (s : ByteArray) (i n : Nat) : (s.extract i (i + n)).data.toList = (s.data.toList.drop i).take n := by
  rw [ByteArray.data_extract, Array.toList_extract, List.extract_eq_take_drop, Nat.add_sub_cancel_left]
theorem extract_end (s : ByteArray) (i : Nat) : (s.extract i s.size).data.toList = s.data.toList.drop i := by
  rw [ByteArray.data_extract, Array.toList_extract, List.extract_eq_take_drop, List.take_of_length_le]
  rw [List.length_drop, bytes_length]; omega
theorem bytes_ext {a b : ByteArray} (h : a.data.toList = b.data.toList) : a = b := by
  obtain ⟨⟨a⟩⟩ := a; obtain ⟨⟨b⟩⟩ := b
  simp only at h
  rw [h]
theorem beAt_list (s : ByteArray) (i n : Nat) : beAt s i n = beN ((s.data.toList.drop i).take n) := by unfold beAt; rw [extract_list]
theorem beAt_fix {s : ByteArray} {i n x : Nat} (h : (s.data.toList.drop i).take n = fixB n x) (hx : x < 256 ^ n) : beAt s i n = x := by
  rw [beAt_list, h, beN_fix, Nat.mod_eq_of_lt hx]

/-- What stands in a form, place by place. -/
theorem form_places {p : Int} {kd no vs : Nat} {b s : ByteArray} (hs : s.data.toList = formB p kd no vs b) (hkd : kd < 256) (hno : no < 4294967296) (hvs : vs < 18446744073709551616) (hb : b.size < 65536) :
    beAt s 5 1 = kd ∧ beAt s 6 2 = b.size ∧ beAt s 8 4 = no ∧ beAt s 16 8 = vs ∧ s.extract 0 28 = headS kd no vs b.size ∧ beAt s 28 4 = (crcP [headS kd no vs b.size, restP p b]).toNat ∧ s.extract 32 s.size = restP p b := by
  have e : s.data.toList = headB kd no vs b.size ++ (fixB 4 (crcP [headS kd no vs b.size, restP p b]).toNat ++ (restP p b).data.toList) := by rw [hs, formB, List.append_assoc]
  generalize hR : fixB 4 (crcP [headS kd no vs b.size, restP p b]).toNat ++ (restP p b).data.toList = R at e
  have d28 : s.data.toList.drop 28 = R := by rw [e]; exact List.drop_left' (headB_length kd no vs b.size)
  refine ⟨beAt_fix (by rw [e]; rfl) hkd, beAt_fix (by rw [e]; rfl) hb, beAt_fix (by rw [e]; rfl) hno, beAt_fix (by rw [e]; rfl) hvs, ?_, ?_, ?_⟩
  · apply bytes_ext
    rw [show (28 : Nat) = 0 + 28 from rfl, extract_list, List.drop_zero, e, headS, List.toList_toArray]
    exact List.take_left' (headB_length kd no vs b.size)
  · refine beAt_fix ?_ (crcP [headS kd no vs b.size, restP p b]).toBitVec.isLt
    rw [d28, ← hR]
    exact List.take_left' (fixB_length 4 _)
  · apply bytes_ext
    rw [extract_end, show (32 : Nat) = 28 + 4 from rfl, ← List.drop_drop, d28, ← hR]
    exact List.drop_left' (fixB_length 4 _)

theorem body_places {p : Int} {b s : ByteArray} (hp : (b.size : Int) ≤ p - 32) (hsz : (s.size : Int) = p) (hn : beAt s 6 2 = b.size) (hr : s.extract 32 s.size = restP p b) :
    bodyAt s = b ∧ (restAt s).data.toList = List.replicate (p.toNat - 32 - b.size) 0 := by
  have hr2 : s.data.toList.drop 32 = b.data.toList ++ List.replicate (p.toNat - 32 - b.size) 0 := by
    have := congrArg (fun x => x.data.toList) hr
    simp only [extract_end, restP, List.toList_toArray] at this
    exact this
  have e1 : rRaw s 32 0 (b.size : Int) = (s.extract 32 (32 + b.size), 32 + b.size, 0) := rRaw_ok s 32 b.size (by omega)
  have eb : s.extract 32 (32 + b.size) = b := by
    apply bytes_ext
    rw [extract_list, hr2]
    exact List.take_left' (bytes_length b)
  have e2 : (s.size : Int) - ((32 + b.size : Nat) : Int) = ((s.size - (32 + b.size) : Nat) : Int) := by omega
  have e3 := rRaw_ok s (32 + b.size) (s.size - (32 + b.size)) (by omega)
  refine ⟨?_, ?_⟩
  · unfold bodyAt; rw [hn, e1]; exact eb
  · unfold restAt
    rw [hn, e1]
    simp only
    rw [e2, e3]
    simp only
    rw [extract_list, ← List.drop_drop, hr2, List.drop_left' (bytes_length b), List.take_of_length_le]
    rw [List.length_replicate]; omega

/-- A page's form is read as that page. -/
theorem read_form {p q : Int} {kd no vs : Nat} {b s : ByteArray} (hE : chkE p q kd no vs b.size = 0) (hs : s.data.toList = formB p kd no vs b) :
    readE p q s = 0 ∧ readV p q s = pageV kd no vs b ∧ (s.size : Int) = p := by
  obtain ⟨hf, k1, k2, n1, n2, v1, v2, hb⟩ := chk_zero hE
  have hp := frame_lo hf
  have hsz : (s.size : Int) = p := by
    have := formB_length (kd := kd) (no := no) (vs := vs) hb (by omega)
    rw [← hs, bytes_length] at this
    omega
  obtain ⟨a1, a2, a3, a4, a5, a6, a7⟩ := form_places hs (by omega) (by omega) (by omega) (by omega)
  obtain ⟨b1, b2⟩ := body_places hb hsz a2 a7
  have hw : wholeB s = true := by unfold wholeB; rw [a5, a6, a7]; simp
  have hl : laidB s = true := by
    have e1 : (restAt s).size = p.toNat - 32 - b.size := by rw [← bytes_length, b2, List.length_replicate]
    unfold laidB
    rw [a1, a3, a4, a5, b1, b2, e1]
    simp
  have e : readE p q s = 0 := by
    unfold readE
    rw [hf, hsz, hw, hl, a1, a3, a4, b1, hE]
    simp
  refine ⟨e, ?_, hsz⟩
  unfold readV
  rw [if_pos e, a1, a3, a4, b1]

/-- Where a page is read, its form is what was read. -/
theorem form_read {p q : Int} {s : ByteArray} (h : readE p q s = 0) :
    ∃ kd no vs b, readV p q s = pageV kd no vs b ∧ chkE p q kd no vs b.size = 0 ∧ s.data.toList = formB p kd no vs b ∧ (s.size : Int) = p := by
  rcases read_cases p q s with ⟨_, hE, _⟩ | ⟨_, _, hE, _⟩ | ⟨_, _, _, hE, _⟩ | ⟨_, _, _, _, hE, _⟩ | ⟨_, _, _, _, _, hE, _⟩ | ⟨hf, hz, hw, hL, hc, hE, hV⟩
  · rw [hE] at h; exact absurd h (by decide)
  · rw [hE] at h; exact absurd h (by decide)
  · rw [hE] at h; exact absurd h (by decide)
  · rw [hE] at h; exact absurd h (by decide)
  · rw [hE] at h; exact absurd h (by decide)
  refine ⟨_, _, _, _, hV, hc, ?_, hz⟩
  obtain ⟨_, k1, k2, n1, n2, v1, v2, hb⟩ := chk_zero hc
  have hp := frame_lo hf
  unfold laidB at hL
  rw [Bool.and_eq_true, beq_iff_eq, beq_iff_eq] at hL
  obtain ⟨h1, h2⟩ := hL
  have hH : (s.extract 0 28).data.toList = headB (beAt s 5 1) (beAt s 8 4) (beAt s 16 8) (bodyAt s).size := by
    have := h1
    rw [ByteArray.toList_eq, ByteArray.toList_eq] at this
    rw [this, headS, List.toList_toArray]
  have hH2 : s.data.toList.take 28 = headB (beAt s 5 1) (beAt s 8 4) (beAt s 16 8) (bodyAt s).size := by
    rw [← hH, show (28 : Nat) = 0 + 28 from rfl, extract_list, List.drop_zero]
  -- the length that stands there is the body's
  have hn : beAt s 6 2 = (bodyAt s).size := by
    refine beAt_fix ?_ (by omega)
    have e : s.data.toList = s.data.toList.take 28 ++ s.data.toList.drop 28 := (List.take_append_drop _ _).symm
    rw [e, hH2]
    rfl
  have e1 : rRaw s 32 0 ((bodyAt s).size : Int) = (s.extract 32 (32 + (bodyAt s).size), 32 + (bodyAt s).size, 0) := rRaw_ok s 32 (bodyAt s).size (by omega)
  have eb : s.extract 32 (32 + (bodyAt s).size) = bodyAt s := by
    have : bodyAt s = (rRaw s 32 0 (beAt s 6 2)).1 := rfl
    rw [hn, e1] at this
    exact this.symm
  have e2 : (s.size : Int) - ((32 + (bodyAt s).size : Nat) : Int) = ((s.size - (32 + (bodyAt s).size) : Nat) : Int) := by omega
  have e3 := rRaw_ok s (32 + (bodyAt s).size) (s.size - (32 + (bodyAt s).size)) (by omega)
  have er : (restAt s).data.toList = s.data.toList.drop (32 + (bodyAt s).size) := by
    unfold restAt
    rw [hn, e1]
    simp only
    rw [e2, e3]
    simp only
    rw [extract_list, List.take_of_length_le]
    rw [List.length_drop, bytes_length]; omega
  have hz0 : (restAt s).data.toList = List.replicate (p.toNat - 32 - (bodyAt s).size) 0 := by
    have hl : (restAt s).data.toList.length = p.toNat - 32 - (bodyAt s).size := by
      rw [er, List.length_drop, bytes_length]; omega
    have hc0 : (restAt s).data.toList.count 0 = (restAt s).data.toList.length := by rw [bytes_length]; omega
    rw [List.count_eq_length] at hc0
    rw [← hl]
    exact List.eq_replicate_iff.2 ⟨rfl, fun b hb => (hc0 b hb).symm⟩
  have hrest : s.data.toList.drop 32 = (restP p (bodyAt s)).data.toList := by
    rw [restP, List.toList_toArray, ← hz0, er, ← List.drop_drop]
    have e4 : (bodyAt s).data.toList = (s.data.toList.drop 32).take (bodyAt s).size := by
      have := congrArg (fun x => x.data.toList) eb
      simp only [extract_list] at this
      exact this.symm
    rw [e4]
    exact (List.take_append_drop _ _).symm
  have hS0 : s.extract 0 28 = headS (beAt s 5 1) (beAt s 8 4) (beAt s 16 8) (bodyAt s).size := bytes_ext (by rw [hH, headS, List.toList_toArray])
  have hS1 : s.extract 32 s.size = restP p (bodyAt s) := bytes_ext (by rw [extract_end, hrest])
  have hcrc : beAt s 28 4 = (crcP [headS (beAt s 5 1) (beAt s 8 4) (beAt s 16 8) (bodyAt s).size, restP p (bodyAt s)]).toNat := by
    unfold wholeB at hw
    rw [hS0, hS1] at hw
    exact of_decide_eq_true hw
  have hmid : (s.data.toList.drop 28).take 4 = fixB 4 (crcP [headS (beAt s 5 1) (beAt s 8 4) (beAt s 16 8) (bodyAt s).size, restP p (bodyAt s)]).toNat := by
    rw [← hcrc, beAt_list]
    have hl4 : ((s.data.toList.drop 28).take 4).length = 4 := by rw [List.length_take, List.length_drop, bytes_length]; omega
    have := fix_beN ((s.data.toList.drop 28).take 4)
    rw [hl4] at this
    exact this.symm
  rw [formB, ← hH2, ← hmid, ← hrest, List.append_assoc, show (32 : Nat) = 28 + 4 from rfl, ← List.drop_drop, List.take_append_drop, List.take_append_drop]
end Go.Proofs.YtajpgopgohadeaaDoor
