/-
  Walks: Text of any parts.
-/
import Derived.Test.YtpkpklbambmbeaaDoorSF
namespace Go.Proofs.YtpkpklbambmbeaaDoor
open Go.RowKit

set_option maxRecDepth 100000 in
set_option maxHeartbeats 1000000 in
theorem text_calls (w : World) (tag : ByteArray) (ht : 1 ≤ tag.size ∧ tag.size ≤ 64) (ss : List ByteArray) (pa : Option Addr) (pb po pc : Nat) (hp : ss ≠ [] → pa = some ⟨pb, po, none⟩) (hps : ∀ j s, ss[j]? = some s → w.cell? ⟨pb, po + j, none⟩ = some (.string s)) (hl : (textP tag ss).length ≤ 70368744177664) (hsl : ss.length ≤ 70368744177664) :
    Calls Tryd.prog 20 #[.string tag, .slice pa ss.length pc] w fun e w' => e = .returned (.tuple #[.string ⟨(textP tag ss).toArray⟩, .int .i64 0]) ∧ Same w w' := by
  have HT : Hid (∀ W, Calls Tryd.prog 25 #[.int .i64 tag.size] W fun e w' => e = .returned (.bool true) ∧ w' = W) := by
    intro W
    have := isTag_calls W tag.size
    rw [decide_eq_true (by omega)] at this
    exact this
  obtain ⟨t0, ht0⟩ : ∃ t : UInt8, t = UInt8.ofNat tag.size := ⟨_, rfl⟩
  have hw0 : (tag.size : Int) % 256 = (t0.toNat : Int) := by rw [ht0, UInt8.toNat_ofNat']; omega
  have hw1 : IntKind.u8.wrap (tag.size : Int) = (t0.toNat : Int) := by rw [IntKind.wrap_u8]; exact hw0
  have HT0 : Hid (t0 = UInt8.ofNat tag.size) := ht0
  obtain ⟨i0, hi, hi0, hi1, hi2⟩ := info_parts Tryd.info5
  have HL : Hid ((textP tag ss).length ≤ 70368744177664) := hl
  clear ht0 hl
  go_enter Tryd.func20, Tryd.ntmps20
  go_wp2_with fail
  refine (HT.out _).mono ?_
  rintro e W1 ⟨rfl, hW1⟩
  rw [hW1]
  clear hW1
  have hown1 : Owns (w.alloc (.cells #[.int .u8 (t0.toNat : Int)] 5)) (.slice (some ⟨w.heap.size, 0, none⟩) ([t0] : List UInt8).length 1) [t0] := ⟨rfl, Or.inr ⟨w.heap.size, 1, #[.int .u8 (t0.toNat : Int)], rfl, Nat.zero_le _, heap_alloc_new w _, Nat.le_refl _, by decide, rfl, rfl⟩⟩
  go_wp2_with (at_builtin; go_must (refine wpList_append_str _ (by rfl) _ _ 58 9 (by rfl) 5 i0 Tryd.underlying58 Tryd.underlying9 hi hi0 hi1 hi2 _ _ _ (by rfl) hown1 tag (by rfl) (by show 1 + tag.size ≤ _; omega) ?_; intro ao2 c2 W2 hown2 hgrow2 hat2))
  have hl2 : (t0 :: tag.data.toList).length = 1 + tag.size := by rw [List.length_cons, bytes_length]; omega
  have o2 : Owns W2 (.slice ao2 (t0 :: tag.data.toList).length c2) (t0 :: tag.data.toList) := by
    show World.ownsRow _ _ _ _ _ _ _
    rw [hl2]
    exact hown2
  have b2 : BStep (.slice none 0 0) (.slice ao2 (t0 :: tag.data.toList).length c2) w W2 := by
    refine ⟨Fr.grown ((Fr.refl _ w).alloc _) hgrow2 (fun k hk hlt => by simp [Value.ownBlock] at hk; omega), ?_⟩
    rw [hl2]
    intro k hk
    right
    rcases hat2 k hk with h | h
    · simp [Value.ownBlock] at h; omega
    · simp at h; omega
  have HZ : Hid (textP tag (ss.take 0) = t0 :: tag.data.toList) := by
    show _ = _
    rw [List.take_zero, textP_none, HT0.out]
  rw [← HZ.out] at o2 b2 hl2
  clear hown1 hown2 hgrow2 hat2 HZ
  have HS : Hid (∀ j s, ss[j]? = some s → w.cell? ⟨pb, po + j, none⟩ = some (.string s)) := hps
  have HP : Hid (ss ≠ [] → pa = some ⟨pb, po, none⟩) := hp
  clear hps hp
  go_loopg [6, 21] ss.length (fun g v iv wr => ∃ (k : Nat) (ao : Option Addr) (c fl : Nat), v = .slice ao fl c ∧ fl = (textP tag (ss.take k)).length ∧ iv = .int .i64 k ∧ k ≤ ss.length ∧ g = ss.length - k ∧ Hid (Owns wr (.slice ao (textP tag (ss.take k)).length c) (textP tag (ss.take k)) ∧ BStep (.slice none 0 0) (.slice ao (textP tag (ss.take k)).length c) w wr))
  case atStart => exact ⟨0, ao2, c2, 1 + tag.size, rfl, hl2.symm, rfl, by omega, rfl, o2, b2⟩
  case round =>
    clear o2 b2 hl2
    obtain ⟨k, ao, c, fl, rfl, hfl, rfl, hk, rfl, HO⟩ := hrel
    obtain ⟨ho, hb⟩ := HO.out
    have sr : Same w wr := hb.1.mono (fun k _ e => by simp [Value.ownBlock] at e)
    by_cases hgo : k < ss.length
    · obtain ⟨s, hs⟩ : ∃ s, ss[k]? = some s := ⟨_, List.getElem?_eq_getElem hgo⟩
      have hne : ss ≠ [] := by intro e; rw [e] at hgo; simp at hgo
      obtain rfl := HP.out hne
      have hcs := sr.keep (HS.out k s hs)
      have hts : textP tag (ss.take (k + 1)) = textP tag (ss.take k) ++ by4 (UInt32.ofNat s.size) ++ s.data.toList := by
        rw [List.take_add_one, hs]
        exact textP_snoc tag _ s
      have hle := textP_take_le tag ss (k + 1)
      have hle2 := HL.out
      rw [hts, List.length_append, List.length_append, bytes_length, by4_length] at hle
      have HTS : Hid (textP tag (ss.take (k + 1)) = textP tag (ss.take k) ++ by4 (UInt32.ofNat s.size) ++ s.data.toList) := hts
      obtain ⟨F, hF⟩ : ∃ F, F = textP tag (ss.take k) := ⟨_, rfl⟩
      rw [← hF] at ho hb hle hfl HTS
      have ho' : wr.ownsRow 0 5 1 (.slice ao fl c) fl (bcells F) := by rw [hfl]; exact ho
      have HB : Hid (BStep (.slice none 0 0) (.slice ao F.length c) w wr ∧ fl = F.length) := ⟨hb, hfl⟩
      have hfb : fl + 4 + s.size ≤ 70368744177664 := by omega
      have hlo : (s.size : Int) % (4294967296 : Int) = ((UInt32.ofNat s.size).toNat : Int) := by rw [UInt32.toNat_ofNat']; omega
      have hlw : IntKind.u32.wrap (s.size : Int) = ((UInt32.ofNat s.size).toNat : Int) := by rw [IntKind.wrap_u32]; exact hlo
      have HF4 : Hid (∀ W, Calls Tryd.prog 29 #[.int .u32 (UInt32.ofNat s.size).toNat] W fun e w' => e = .returned (.slice (some ⟨W.heap.size, 0, none⟩) 4 4) ∧ w' = W.alloc (.cells (bcells (by4 (UInt32.ofNat s.size))).toArray 5)) := fun W => four_calls W _
      have l4 : (by4 (UInt32.ofNat s.size)).length = 4 := rfl
      generalize by4 (UInt32.ofNat s.size) = B4 at *
      generalize UInt32.ofNat s.size = y4 at *
      have HB1 : Hid (∀ (V : World) j u, (bcells B4)[j]? = some u → (V.alloc (.cells (bcells B4).toArray 5)).cell? ((⟨V.heap.size, 0, none⟩ : Addr).add j) = some u) := fun V => World.news_of_block (heap_alloc_new V _)
      have HN1 : Hid (∀ u ∈ bcells B4, u.oneCell' = true) := by intro v hv; simp only [bcells, List.mem_map] at hv; obtain ⟨c, _, rfl⟩ := hv; rfl
      have HL1 : Hid ((bcells B4).length = 4 * 1) := by show _ = _; rw [bcells_length, l4]
      have H4 : Hid (B4.length = 4) := l4
      clear hts hF HO ho hb hfl hle hle2 hs hne l4
      go_wp2_with fail
      refine (HF4.out _).mono ?_
      rintro e W3 ⟨rfl, hW3⟩
      rw [hW3]
      clear hW3
      go_wp2_with (at_builtin; first | (refine wpList_append_str _ (by rfl) _ _ 58 9 (by rfl) 5 i0 Tryd.underlying58 Tryd.underlying9 hi hi0 hi1 hi2 _ _ _ (by rfl) ho6 s (by rfl) (by omega) ?_; intro ao8 c8 W8 hown8 hgrow8 hat8) | (refine wpList_append_lies _ (by rfl) _ _ _ (by rfl) 0 5 i0 (.int .u8 0) 1 1 Tryd.underlying58 hi hi0 hi1 hi2 rfl (by decide) _ _ _ (by rfl) (ho'.alloc _) ⟨wr.heap.size, 0, none⟩ 4 4 (bcells B4) (by rfl) HL1.out (HB1.out wr) HN1.out (by decide) (by unfold maxLen; omega) (by omega) (Nat.zero_le _) (wr.heap.size + 1) (by simp) ?_; intro g6 cap6 W6 hown6 hgrow6 hat6 _; have ho6 : W6.ownsRow 0 5 1 (.slice (some ⟨g6, 0, none⟩) (fl + 4) cap6) (fl + 4) (bcells F ++ bcells B4) := hown6))
      obtain ⟨hb, hfl⟩ := HB.out
      have h4 := H4.out
      have hown6' : W6.ownsRow 0 5 1 (.slice (some ⟨g6, 0, none⟩) (F.length + 4) cap6) (F.length + 4) (bcells F ++ bcells B4) := by rw [← hfl]; exact ho6
      obtain ⟨o6, b6⟩ := push_new (ns := B4) h4.symm hb hown6' ((Fr.refl _ wr).alloc _) (by rw [← hfl]; exact hgrow6) (by rw [← hfl]; simpa using hat6)
      have hl6 : (F ++ B4).length = fl + 4 := by rw [List.length_append, h4, hfl]
      have hl8 : (F ++ B4 ++ s.data.toList).length = fl + 4 + s.size := by rw [List.length_append, bytes_length, hl6]
      have o8 : Owns W8 (.slice ao8 (F ++ B4 ++ s.data.toList).length c8) (F ++ B4 ++ s.data.toList) := by
        show World.ownsRow _ _ _ _ _ _ _
        rw [hl8, bcells_append, bcells_append]
        exact hown8
      have b8 : BStep (.slice none 0 0) (.slice ao8 (F ++ B4 ++ s.data.toList).length c8) w W8 := by
        refine b6.trans ⟨?_, ?_⟩
        · rw [hl6]; exact (Fr.refl _ W6).grown hgrow8 (fun k hk _ => hk.symm)
        · rw [hl6, hl8]; exact hat8
      rw [← HTS.out] at o8 b8
      go_roundg (ss.length - (k + 1))
      case measure => omega
      case rel => exact ⟨k + 1, ao8, c8, fl + 4 + s.size, rfl, by rw [HTS.out, hl8], by go_num, by omega, rfl, o8, b8⟩
    · obtain rfl : k = ss.length := by omega
      rw [List.take_length] at ho hfl
      have hcv := owns_string (P := Tryd.prog) ho 58 9 Tryd.underlying58 Tryd.underlying5 Tryd.underlying9
      rw [← hfl] at hcv
      clear ho hb HO hfl
      go_wp2_with fail
      go_ret2
      exact ⟨rfl, sr⟩

set_option maxRecDepth 100000 in
theorem text_bad (w : World) (tag : ByteArray) (ht : ¬ (1 ≤ tag.size ∧ tag.size ≤ 64)) (v : Value) :
    Calls Tryd.prog 20 #[.string tag, v] w fun e w' => e = .returned (.tuple #[.string ⟨#[]⟩, .int .i64 20]) ∧ w' = w := by
  have HT : Hid (Calls Tryd.prog 25 #[.int .i64 tag.size] w fun e w' => e = .returned (.bool false) ∧ w' = w) := by
    have := isTag_calls w tag.size
    rw [decide_eq_false (by omega)] at this
    exact this
  go_enter Tryd.func20, Tryd.ntmps20
  go_wp2_with fail
  refine HT.out.mono ?_
  rintro e W1 ⟨rfl, hW1⟩
  rw [hW1]
  clear hW1
  go_wp2_with fail
  go_ret2
  exact ⟨rfl, rfl⟩
end Go.Proofs.YtpkpklbambmbeaaDoor
