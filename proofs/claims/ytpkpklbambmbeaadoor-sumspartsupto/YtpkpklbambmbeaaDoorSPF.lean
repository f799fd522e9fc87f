/-
  Walks: the document's Parts.
-/
import Derived.Test.YtpkpklbambmbeaaDoorSPE
import Derived.Deep.QuietTactic
import Derived.BigQuiet
namespace Go.Proofs.YtpkpklbambmbeaaDoor
open Go.RowKit

theorem or4 (a b c d : Nat) (hb : b < 256) (hc : c < 256) (hd : d < 256) : (a * 16777216 ||| b * 65536 ||| c * 256 ||| d) = a * 16777216 + b * 65536 + c * 256 + d := by
  have e1 : a * 16777216 ||| b * 65536 = a * 16777216 + b * 65536 := by
    have := Nat.two_pow_add_eq_or_of_lt (i := 24) (b := b * 65536) (by omega) a
    rw [Nat.mul_comm a, ← this]
  have e2 : (a * 16777216 + b * 65536) ||| c * 256 = a * 16777216 + b * 65536 + c * 256 := by
    have := Nat.two_pow_add_eq_or_of_lt (i := 16) (b := c * 256) (by omega) (a * 256 + b)
    have e : 2 ^ 16 * (a * 256 + b) = a * 16777216 + b * 65536 := by omega
    rw [e] at this
    exact this.symm
  have e3 : (a * 16777216 + b * 65536 + c * 256) ||| d = a * 16777216 + b * 65536 + c * 256 + d := by
    have := Nat.two_pow_add_eq_or_of_lt (i := 8) (b := d) (by omega) (a * 65536 + b * 256 + c)
    have e : 2 ^ 8 * (a * 65536 + b * 256 + c) = a * 16777216 + b * 65536 + c * 256 := by omega
    rw [e] at this
    exact this.symm
  rw [e1, e2, e3]
theorem oN (x y : Nat) (hx : x < 4294967296) (hy : y < 4294967296) : bits .or .i64 (x : Int) (y : Int) = ((x ||| y : Nat) : Int) := by
  show IntKind.i64.wrap ((BitVec.ofInt 64 (x : Int) ||| BitVec.ofInt 64 (y : Int)).toNat : Int) = _
  rw [BitVec.ofInt_natCast, BitVec.ofInt_natCast, BitVec.toNat_or, BitVec.toNat_ofNat, BitVec.toNat_ofNat, Nat.mod_eq_of_lt (by omega), Nat.mod_eq_of_lt (by omega)]
  have : x ||| y < 2 ^ 32 := Nat.or_lt_two_pow (by simpa using hx) (by simpa using hy)
  rw [IntKind.wrap_i64]
  omega
/-- What the walk wants of four bytes that make a number. -/
theorem four_num (c0 c1 c2 c3 : UInt8) : ∃ x0 x1 x2 y1 y2 : Nat, (c0.toNat : Int) * 16777216 = (x0 : Int) ∧ (c1.toNat : Int) * 65536 = (x1 : Int) ∧ (c2.toNat : Int) * 256 = (x2 : Int) ∧
    IntKind.i64.wrap (x0 : Int) = (x0 : Int) ∧ IntKind.i64.wrap (x1 : Int) = (x1 : Int) ∧ IntKind.i64.wrap (x2 : Int) = (x2 : Int) ∧
    bits .or .i64 (x0 : Int) (x1 : Int) = (y1 : Int) ∧ bits .or .i64 (y1 : Int) (x2 : Int) = (y2 : Int) ∧ bits .or .i64 (y2 : Int) (c3.toNat : Int) = ((num4 [c0, c1, c2, c3] : Nat) : Int) ∧
    IntKind.i64.wrap (c0.toNat : Int) = (c0.toNat : Int) ∧ IntKind.i64.wrap (c1.toNat : Int) = (c1.toNat : Int) ∧ IntKind.i64.wrap (c2.toNat : Int) = (c2.toNat : Int) ∧ IntKind.i64.wrap (c3.toNat : Int) = (c3.toNat : Int) := by
  have h0 := u8_lt c0
  have h1 := u8_lt c1
  have h2 := u8_lt c2
  have h3 := u8_lt c3
  have hy1 : c0.toNat * 16777216 ||| c1.toNat * 65536 < 2 ^ 32 := Nat.or_lt_two_pow (by omega) (by omega)
  have hy2 : c0.toNat * 16777216 ||| c1.toNat * 65536 ||| c2.toNat * 256 < 2 ^ 32 := Nat.or_lt_two_pow hy1 (by omega)
  refine ⟨c0.toNat * 16777216, c1.toNat * 65536, c2.toNat * 256, c0.toNat * 16777216 ||| c1.toNat * 65536, c0.toNat * 16777216 ||| c1.toNat * 65536 ||| c2.toNat * 256, by omega, by omega, by omega, ?_, ?_, ?_, oN _ _ (by omega) (by omega), oN _ _ (by omega) (by omega), ?_, ?_, ?_, ?_, ?_⟩
  · rw [IntKind.wrap_i64]; omega
  · rw [IntKind.wrap_i64]; omega
  · rw [IntKind.wrap_i64]; omega
  · rw [oN _ _ (by omega) (by omega), or4 _ _ _ _ h1 h2 h3]; rfl
  · rw [IntKind.wrap_i64]; omega
  · rw [IntKind.wrap_i64]; omega
  · rw [IntKind.wrap_i64]; omega
  · rw [IntKind.wrap_i64]; omega
theorem num4_of {c0 c1 c2 c3 : UInt8} {n : Nat} (hn : n < 4294967296) (h : by4 (UInt32.ofNat n) = [c0, c1, c2, c3]) : num4 [c0, c1, c2, c3] = n := by
  have e1 := (by4_num4 c0 c1 c2 c3 []).trans h.symm
  have e2 := num4_lt [c0, c1, c2, c3]
  have e3 := by4_inj e1
  generalize num4 [c0, c1, c2, c3] = m at *
  have e4 := congrArg UInt32.toNat e3
  rw [UInt32.toNat_ofNat', UInt32.toNat_ofNat'] at e4
  omega
/-- Where the part k begins. -/
def posA (tag : ByteArray) (ss : List ByteArray) (k : Nat) : Nat := 1 + tag.size + ((ss.take k).flatMap partB).length
theorem posA_zero (tag : ByteArray) (ss : List ByteArray) : posA tag ss 0 = 1 + tag.size := rfl
theorem posA_succ (tag : ByteArray) (ss : List ByteArray) (k : Nat) (s : ByteArray) (h : ss[k]? = some s) : posA tag ss (k + 1) = posA tag ss k + 4 + s.size := by
  unfold posA
  rw [List.take_add_one, h]
  simp only [List.flatMap_append, List.length_append, Option.toList_some, List.flatMap_cons, List.flatMap_nil, List.append_nil, partB, by4_length, bytes_length]
  omega
theorem text_at (tag : ByteArray) (ss : List ByteArray) (R : List UInt8) (k : Nat) : ∃ a : List UInt8, a.length = posA tag ss k ∧ UInt8.ofNat tag.size :: tag.data.toList ++ (ss.flatMap partB ++ R) = a ++ ((ss.drop k).flatMap partB ++ R) := by
  refine ⟨UInt8.ofNat tag.size :: tag.data.toList ++ (ss.take k).flatMap partB, ?_, ?_⟩
  · unfold posA
    rw [List.length_append, List.length_cons, bytes_length]; omega
  · have : ss.flatMap partB = (ss.take k).flatMap partB ++ (ss.drop k).flatMap partB := by
      rw [← List.flatMap_append, List.take_append_drop]
    rw [this]
    simp [List.append_assoc]
theorem byte_at {T : ByteArray} {a b : List UInt8} (h : T.data.toList = a ++ b) (j : Nat) (c : UInt8) (hc : b[j]? = some c) (i : Nat) (hi : i = a.length + j) (hlt : i < T.size) : T[i]'hlt = c := by
  subst hi
  have e : T.data.toList[a.length + j]? = some c := by
    rw [h, List.getElem?_append_right (by omega)]
    rw [Nat.add_sub_cancel_left]
    exact hc
  obtain ⟨⟨l⟩⟩ := T
  have e2 : l[a.length + j]? = some c := e
  exact (List.getElem?_eq_some_iff.1 e2).2
def PartsAns (B : Nat) (tag : ByteArray) (ss : List ByteArray) (R : List UInt8) (e : Ending) (w' : World) : Prop :=
  (R = [] ∧ ∃ pa pb pc, e = .returned (.tuple #[.string tag, .slice pa ss.length pc, .int .i64 0]) ∧ SAt w' pa pb 0 ss ∧ (ss ≠ [] → B ≤ pb)) ∨ (R ≠ [] ∧ e = .returned (.tuple #[.string ⟨#[]⟩, .slice none 0 0, .int .i64 21]))

set_option maxRecDepth 100000 in
set_option maxHeartbeats 2000000 in
theorem rparts_calls (w : World) (T tag : ByteArray) (ht : 1 ≤ tag.size ∧ tag.size ≤ 64) (ss : List ByteArray) (R : List UInt8) (hT : T.data.toList = UInt8.ofNat tag.size :: tag.data.toList ++ (ss.flatMap partB ++ R)) (hz : ∀ s ∈ ss, s.size < 4294967296) (hR : R = [] ∨ badR R) (hl : T.size ≤ 70368744177664) (hsl : ss.length ≤ 4194304) :
    Calls Tryd.prog 8 #[.string T] w fun e w' => PartsAns w.heap.size tag ss R e w' ∧ Same w w' := by
  obtain ⟨i0, hi, hi0, hi1, hi2⟩ := info_parts Tryd.infoStr
  have hTsz : T.size = 1 + tag.size + (ss.flatMap partB).length + R.length := by
    have := congrArg List.length hT
    simp only [List.length_cons, List.length_append, bytes_length] at this
    omega
  obtain ⟨tb, htb0⟩ : ∃ b : UInt8, b = UInt8.ofNat tag.size := ⟨_, rfl⟩
  have htb : tb.toNat = tag.size := by rw [htb0, UInt8.toNat_ofNat']; omega
  have h0 : 0 < T.size := by omega
  have g0 : ∀ h, T[0]'h = tb := fun h => byte_at (a := []) (j := 0) hT tb (by rw [htb0]; rfl) 0 rfl h
  have ht1 : (1 : Int) ≤ tag.size := by omega
  have ht2 : (tag.size : Int) ≤ 64 := by omega
  have hl1 : ¬ (T.size : Int) < 1 := by omega
  have hl2 : ¬ (T.size : Int) < 1 + tag.size := by omega
  have hn1 : ¬ (tag.size : Int) < 1 := by omega
  have hn2 : ¬ (64 : Int) < tag.size := by omega
  have hw : IntKind.i64.wrap (tag.size : Int) = tag.size := by rw [IntKind.wrap_i64]; omega
  have hx : T.extract 1 (1 + tag.size) = tag := ext_mid (a := [UInt8.ofNat tag.size]) hT rfl rfl (by rw [bytes_length]; rfl)
  have hTn : 1 + tag.size ≤ T.size := by omega
  have HT : Hid (T.data.toList = UInt8.ofNat tag.size :: tag.data.toList ++ (ss.flatMap partB ++ R)) := hT
  have HSZ : Hid (T.size = 1 + tag.size + (ss.flatMap partB).length + R.length) := hTsz
  have HZ : Hid (∀ s ∈ ss, s.size < 4294967296) := hz
  have HRR : Hid (R = [] ∨ badR R) := hR
  clear hT hTsz htb0 hz hR ht
  go_enter Tryd.func8, Tryd.ntmps8
  go_wp2_with fail
  clear h0 g0 htb hl1 hl2 hn1 hn2 hw hx hTn
  go_loopg [6, 7] (ss.length + 1) (fun g av lv wr => ∃ (k p : Nat) (ao : Option Addr) (c : Nat), av = .int .i64 p ∧ lv = .slice ao k c ∧ Hid (p = posA tag ss k) ∧ k ≤ ss.length ∧ g = ss.length + 1 - k ∧ (k ≠ 0 → ∃ g', ao = some ⟨g', 0, none⟩) ∧ Hid (wr.ownsRow w.heap.size 9 1 (.slice ao k c) k (scells (ss.take k))) ∧ Same w wr)
  case atStart => exact ⟨0, 1 + tag.size, none, 0, by go_num, rfl, (posA_zero tag ss).symm, by omega, by omega, fun e => absurd rfl e, World.ownsRow_nil _ _ _ _, Fr.refl _ _⟩
  case round =>
    obtain ⟨k, p, ao, c, rfl, rfl, HP, hk, rfl, hao, hown, sr⟩ := hrel
    by_cases hgo : k < ss.length
    · obtain ⟨s, hs⟩ : ∃ s, ss[k]? = some s := ⟨_, List.getElem?_eq_getElem hgo⟩
      obtain ⟨pre, hpl, hpt⟩ := text_at tag ss R k
      rw [← HP.out] at hpl
      have hd : ss.drop k = s :: ss.drop (k + 1) := by
        rw [List.drop_eq_getElem_cons hgo]
        congr 1
        exact (List.getElem?_eq_some_iff.1 hs).2
      have hTT : T.data.toList = pre ++ (by4 (UInt32.ofNat s.size) ++ (s.data.toList ++ ((ss.drop (k + 1)).flatMap partB ++ R))) := by
        rw [HT.out, hpt, hd]
        simp [partB, List.append_assoc]
      have hs32 := HZ.out s (List.mem_of_getElem? hs)
      obtain ⟨r, hr⟩ : ∃ r, T.size = p + 4 + s.size + r := by
        refine ⟨((ss.drop (k + 1)).flatMap partB ++ R).length, ?_⟩
        have := congrArg List.length hTT
        rw [List.length_append, List.length_append, List.length_append, bytes_length, bytes_length, by4_length, hpl] at this
        omega
      obtain ⟨c0, c1, c2, c3, h4, _⟩ : ∃ c0 c1 c2 c3, by4 (UInt32.ofNat s.size) = [c0, c1, c2, c3] ∧ True := ⟨_, _, _, _, rfl, trivial⟩
      rw [h4] at hTT
      have hnum := num4_of hs32 h4
      obtain ⟨p1, hp1⟩ : ∃ q, q = p + 1 := ⟨_, rfl⟩
      obtain ⟨p2, hp2⟩ : ∃ q, q = p + 2 := ⟨_, rfl⟩
      obtain ⟨p3, hp3⟩ : ∃ q, q = p + 3 := ⟨_, rfl⟩
      obtain ⟨p4, hp4⟩ : ∃ q, q = p + 4 := ⟨_, rfl⟩
      have ga : ∀ h, T[p]'h = c0 := fun h => byte_at hTT 0 c0 rfl p (by omega) h
      have gb : ∀ h, T[p1]'h = c1 := fun h => byte_at hTT 1 c1 rfl p1 (by omega) h
      have gc : ∀ h, T[p2]'h = c2 := fun h => byte_at hTT 2 c2 rfl p2 (by omega) h
      have gd : ∀ h, T[p3]'h = c3 := fun h => byte_at hTT 3 c3 rfl p3 (by omega) h
      obtain ⟨x0, x1, x2, y1, y2, f0, f1, f2, f3, f4, f5, f6, f7, f8, f9, f10, f11, f12⟩ := four_num c0 c1 c2 c3
      rw [hnum] at f8
      have hex : T.extract p4 (p4 + s.size) = s := ext_mid (a := pre ++ [c0, c1, c2, c3]) (b := s.data.toList) (by rw [hTT, List.append_assoc]) rfl (by rw [List.length_append, hpl, hp4]; rfl) (by rw [List.length_append, hpl, bytes_length, hp4]; rfl)
      have j1 : (p : Int) + 1 = (p1 : Int) := by omega
      have j2 : (p : Int) + 2 = (p2 : Int) := by omega
      have j3 : (p : Int) + 3 = (p3 : Int) := by omega
      have j4 : (p : Int) + 4 = (p4 : Int) := by omega
      have l0 : p < T.size := by omega
      have l1 : p1 < T.size := by omega
      have l2 : p2 < T.size := by omega
      have l3 : p3 < T.size := by omega
      have l4 : ¬ (T.size : Int) - (p : Int) < 4 := by omega
      have l5 : ¬ (T.size : Int) - (p4 : Int) < (s.size : Int) := by omega
      have l6 : p4 + s.size ≤ T.size := by omega
      have HP2 : Hid (p4 + s.size = posA tag ss (k + 1)) := by
        show _ = _
        rw [posA_succ tag ss k s hs, ← HP.out, hp4]
      have HTK : Hid (ss.take (k + 1) = ss.take k ++ [s]) := by
        show _ = _
        rw [List.take_add_one, hs]; rfl
      have hone : ∀ u ∈ [Value.string s], u.oneCell' = true := by intro u hu; simp at hu; subst hu; rfl
      have hsz := sr.size
      clear hTT hpt hpl hd hs h4 hnum hp1 hp2 hp3 hp4 hr HT HSZ HZ HRR HP
      go_wp2_with fail
      go_quiet (fail)
      have hown4 : (wr.drewN nq).ownsRow w.heap.size 9 1 (.slice ao k c) k (scells (ss.take k)) := hown.out
      have sr4 : Same w (wr.drewN nq) := Fr.drewN sr nq
      generalize wr.drewN nq = W4 at *
      clear f0 f1 f2 f3 f4 f5 f6 f7 f8 f9 f10 f11 f12 ga gb gc gd j1 j2 j3 l0 l1 l2 l3
      have hsz4 := sr4.size
      go_wp2_with (at_builtin; go_must (refine wpList_append_lies _ (by rfl) _ _ _ (by rfl) w.heap.size 9 i0 (.string ⟨#[]⟩) 1 16 Tryd.underlying23 hi hi0 hi1 hi2 rfl (by decide) _ _ _ (by rfl) (hown4.alloc _) ⟨W4.heap.size, 0, none⟩ 1 1 [Value.string s] (by rfl) (by rfl) (World.news_of_block (cs := #[Value.string s]) (heap_alloc_new W4 _)) hone (by decide) (by unfold maxLen; omega) (by omega) (by simp; omega) (W4.heap.size + 1) (by simp) ?_; intro g5 cap5 W5 hown5 hgrow5 hat5 _))
      have O5 : W5.ownsRow w.heap.size 9 1 (.slice (some ⟨g5, 0, none⟩) (k + 1) cap5) (k + 1) (scells (ss.take (k + 1))) := by
        rw [HTK.out, scells_append]
        exact hown5
      have s5 : Same w W5 := by
        refine Fr.grown (Fr.alloc sr4 _) hgrow5 ?_
        intro k hk hlt
        have := (hown4.lt k hk).1
        omega
      go_roundg (ss.length + 1 - (k + 1))
      case measure => omega
      case rel => exact ⟨k + 1, p4 + s.size, some ⟨g5, 0, none⟩, cap5, by go_num, rfl, HP2.out, by omega, rfl, fun _ => ⟨g5, rfl⟩, O5, s5⟩
    · obtain rfl : k = ss.length := by omega
      obtain ⟨pre, hpl, hpt⟩ := text_at tag ss R ss.length
      rw [← HP.out] at hpl
      have hTT : T.data.toList = pre ++ R := by
        rw [HT.out, hpt, List.drop_length]; rfl
      have hTl : T.size = p + R.length := by
        have := congrArg List.length hTT
        rw [List.length_append, bytes_length, hpl] at this
        exact this
      by_cases hR0 : R = []
      · have hlt : ¬ (p : Int) < (T.size : Int) := by rw [hR0] at hTl; simp at hTl; omega
        have HEND : Hid (∃ pb, SAt wr ao pb 0 ss ∧ (ss ≠ [] → w.heap.size ≤ pb)) := by
          by_cases h0 : ss = []
          · subst h0
            exact ⟨0, ⟨fun e => absurd rfl e, fun j s hj => by simp at hj⟩, fun e => absurd rfl e⟩
          · obtain ⟨g', rfl⟩ := hao (by intro e; exact h0 (List.eq_nil_of_length_eq_zero e))
            have h5 := hown.out
            rw [List.take_length] at h5
            refine ⟨g', ⟨fun _ => ⟨rfl, (h5.lt g' rfl).2⟩, fun j s hj => ?_⟩, fun _ => (h5.lt g' rfl).1⟩
            have := h5.cells (g := g') rfl j (.string s) (by simp only [scells, List.getElem?_map, hj]; rfl)
            rw [Addr.add_mid] at this
            exact this
        have HR0 : Hid (R = []) := hR0
        clear hTT hTl hpt hpl hR0 HT HSZ HZ HRR HP hao hown
        go_wp2_with fail
        go_ret3
        obtain ⟨pb, hS, hB⟩ := HEND.out
        exact ⟨Or.inl ⟨HR0.out, ao, pb, c, rfl, hS, hB⟩, sr⟩
      · have hbad : badR R := by
          rcases HRR.out with h | h
          · exact absurd h hR0
          · exact h
        have hpos : 0 < R.length := by
          cases h : R with
          | nil => exact absurd h hR0
          | cons a l => simp
        have hlt : (p : Int) < (T.size : Int) := by omega
        have HR0 : Hid (R ≠ []) := hR0
        by_cases h4 : R.length < 4
        · have hsm : (T.size : Int) - (p : Int) < 4 := by omega
          clear hTT hTl hpt hpl hR0 HT HSZ HZ HRR HP hao hown hbad hpos h4
          go_wp2_with fail
          go_ret3
          exact ⟨Or.inr ⟨HR0.out, rfl⟩, sr⟩
        · obtain ⟨c0, c1, c2, c3, l, hRl⟩ : ∃ c0 c1 c2 c3 l, R = c0 :: c1 :: c2 :: c3 :: l := by
            match R, h4 with
            | a :: b :: c :: d :: l, _ => exact ⟨a, b, c, d, l, rfl⟩
            | [], h => exact absurd (by simp) h
            | [_], h => exact absurd (by simp) h
            | [_, _], h => exact absurd (by simp) h
            | [_, _, _], h => exact absurd (by simp) h
          have hbig : R.length - 4 < num4 [c0, c1, c2, c3] := by
            have e : num4 R = num4 [c0, c1, c2, c3] := by rw [hRl]; rfl
            have := hbad.2
            omega
          obtain ⟨n, hn⟩ : ∃ n, n = num4 [c0, c1, c2, c3] := ⟨_, rfl⟩
          obtain ⟨p1, hp1⟩ : ∃ q, q = p + 1 := ⟨_, rfl⟩
          obtain ⟨p2, hp2⟩ : ∃ q, q = p + 2 := ⟨_, rfl⟩
          obtain ⟨p3, hp3⟩ : ∃ q, q = p + 3 := ⟨_, rfl⟩
          obtain ⟨p4, hp4⟩ : ∃ q, q = p + 4 := ⟨_, rfl⟩
          rw [hRl] at hTT
          have ga : ∀ h, T[p]'h = c0 := fun h => byte_at hTT 0 c0 rfl p (by omega) h
          have gb : ∀ h, T[p1]'h = c1 := fun h => byte_at hTT 1 c1 rfl p1 (by omega) h
          have gc : ∀ h, T[p2]'h = c2 := fun h => byte_at hTT 2 c2 rfl p2 (by omega) h
          have gd : ∀ h, T[p3]'h = c3 := fun h => byte_at hTT 3 c3 rfl p3 (by omega) h
          obtain ⟨x0, x1, x2, y1, y2, f0, f1, f2, f3, f4, f5, f6, f7, f8, f9, f10, f11, f12⟩ := four_num c0 c1 c2 c3
          rw [← hn] at f8 hbig
          have j1 : (p : Int) + 1 = (p1 : Int) := by omega
          have j2 : (p : Int) + 2 = (p2 : Int) := by omega
          have j3 : (p : Int) + 3 = (p3 : Int) := by omega
          have j4 : (p : Int) + 4 = (p4 : Int) := by omega
          have l0 : p < T.size := by omega
          have l1 : p1 < T.size := by omega
          have l2 : p2 < T.size := by omega
          have l3 : p3 < T.size := by omega
          have l4 : ¬ (T.size : Int) - (p : Int) < 4 := by omega
          have l5 : (T.size : Int) - (p4 : Int) < (n : Int) := by omega
          clear hTT hTl hpt hpl hR0 HT HSZ HZ HRR HP hao hown hbad hpos h4 hRl hbig hn hp1 hp2 hp3 hp4
          go_wp2_with fail
          go_quiet (fail)
          have sr4 : Same w (wr.drewN nq) := Fr.drewN sr nq
          generalize wr.drewN nq = W4 at *
          clear f0 f1 f2 f3 f4 f5 f6 f7 f8 f9 f10 f11 f12 ga gb gc gd j1 j2 j3 l0 l1 l2 l3
          go_wp2_with fail
          go_ret3
          exact ⟨Or.inr ⟨HR0.out, rfl⟩, sr4⟩
end Go.Proofs.YtpkpklbambmbeaaDoor
