/-
  Walks: SumsTurned.
-/
import Derived.Test.YtmdapkdnfjnmbaaDoorSAT
import Derived.Deep.MidRow
namespace Go.Proofs.YtmdapkdnfjnmbaaDoor
open Go.RowKit

theorem str_row {P : Program} (w : World) (src dst e : TypeId) (s : ByteArray) (hs : P.underlying src = some .string) (hd : P.underlying dst = some (.slice e)) (he : P.underlying e = some (.int .u8)) :
    ∃ cs cap fr, (convert src dst (.string s)).run P w = .ok (.slice (some ⟨w.heap.size, 0, none⟩) s.size cap) (w.drew.alloc (.cells cs e fr)) ∧ fr = (cs.size, cs.size + 1) ∧ s.size ≤ cs.size ∧ ∀ k (h : k < s.size), cs[k]? = some (.int .u8 s[k].toNat) := by
  refine ⟨_, _, _, run_bytes_of_string w src dst e s hs hd he, rfl, ?_, ?_⟩
  · unfold bytesRow; simp
  · intro k h
    have h' : k < s.data.size := h
    unfold bytesRow
    rw [Array.getElem?_append_left (by simpa using h'), Array.getElem?_map, Array.getElem?_eq_getElem h']
    rfl
theorem of8 (x : UInt8) : BitVec.ofInt 8 (x.toNat : Int) = x.toBitVec := by
  rw [BitVec.ofInt_natCast]
  apply BitVec.eq_of_toNat_eq
  rw [BitVec.toNat_ofNat]
  exact Nat.mod_eq_of_lt x.toNat_lt
theorem wr8 (x : UInt8) : IntKind.u8.wrap (x.toBitVec.toNat : Int) = (x.toNat : Int) := by
  have := x.toNat_lt
  rw [IntKind.wrap_u8]
  show ((x.toNat : Int)) % 256 = _
  omega
theorem x8 (a b : UInt8) : bits .xor .u8 (a.toNat : Int) (b.toNat : Int) = ((a ^^^ b).toNat : Int) := by
  show IntKind.u8.wrap ((BitVec.ofInt 8 (a.toNat : Int) ^^^ BitVec.ofInt 8 (b.toNat : Int)).toNat : Int) = _
  rw [of8, of8]
  exact wr8 (a ^^^ b)
/-- A row of bytes that was made of a text, and turned since. -/
def RowB (W : World) (G : Nat) (L : List UInt8) : Prop :=
  ∃ cs : Array Value, W.heap[G]? = some (.cells cs 5 (cs.size, cs.size + 1)) ∧ L.length ≤ cs.size ∧ ∀ (j : Nat) (x : UInt8), L[j]? = some x → cs[j]? = some (Value.int .u8 x.toNat)
def mByte (mask : UInt32) (k : Nat) : UInt8 := (mask >>> UInt32.ofNat (8 * k)).toUInt8
def turnL (l : List UInt8) (mask : UInt32) (i : Nat) : Nat → List UInt8
  | 0 => l
  | k + 1 => (turnL l mask i k).set (i + k) ((turnL l mask i k).getD (i + k) 0 ^^^ mByte mask k)
theorem mByte_val (mask : UInt32) (k : Nat) (hk : k < 4) : (mask.toNat : Int) / 2 ^ (8 * k) % 256 = ((mByte mask k).toNat : Int) := by
  unfold mByte
  rw [UInt32.toNat_toUInt8, Int.natCast_emod, ← r32 mask (8 * k) (by omega)]
  simp
theorem turnL_length (l : List UInt8) (mask : UInt32) (i k : Nat) : (turnL l mask i k).length = l.length := by
  induction k with
  | zero => rfl
  | succ k ih => rw [turnL, List.length_set, ih]
theorem turnL_parts (l : List UInt8) (mask : UInt32) (i : Nat) (hi : i + 4 ≤ l.length) : ∃ b0 b1 b2 b3, l = l.take i ++ ([b0, b1, b2, b3] ++ l.drop (i + 4)) ∧
    turnL l mask i 4 = l.take i ++ ([b0 ^^^ mByte mask 0, b1 ^^^ mByte mask 1, b2 ^^^ mByte mask 2, b3 ^^^ mByte mask 3] ++ l.drop (i + 4)) := by
  obtain ⟨p, q, rfl, hp⟩ : ∃ p q, l = p ++ q ∧ p.length = i := ⟨l.take i, l.drop i, (List.take_append_drop i l).symm, by rw [List.length_take]; omega⟩
  match q, hi with
  | [], hi => simp at hi; omega
  | [_], hi => simp at hi; omega
  | [_, _], hi => simp at hi; omega
  | [_, _, _], hi => simp at hi; omega
  | b0 :: b1 :: b2 :: b3 :: t, hi =>
    subst hp
    refine ⟨b0, b1, b2, b3, ?_, ?_⟩
    · simp [List.take_left', List.drop_append]
    · simp [turnL, List.take_left', List.drop_append]
theorem mask4_bytes (mask : UInt32) : mask4 (mByte mask 0) (mByte mask 1) (mByte mask 2) (mByte mask 3) = mask := by
  have e0 : mByte mask 0 = mask.toUInt8 := by unfold mByte; simp
  have := mask_parts mask
  rw [← e0] at this
  exact this
theorem turnL_ne (l : List UInt8) (mask : UInt32) (i : Nat) (hi : i + 4 ≤ l.length) (hm : ¬ mask = 0) : ¬ moreP 0 (turnL l mask i 4) = moreP 0 l := by
  obtain ⟨b0, b1, b2, b3, h1, h2⟩ := turnL_parts l mask i hi
  have := turned_ne (l.take i) (l.drop (i + 4)) b0 b1 b2 b3 (mByte mask 0) (mByte mask 1) (mByte mask 2) (mByte mask 3) (by rw [mask4_bytes]; exact hm) 0
  rw [← h1, ← h2] at this
  exact this

set_option maxRecDepth 100000 in
set_option maxHeartbeats 400000 in
theorem sturn_long (w : World) (ht : TabAt w) (s : ByteArray) (at' : Int) (mask : UInt32) (hs : s.size ≤ 1048576) (h4 : 4 ≤ s.size) (hm : ¬ mask = 0) : Calls Tryd.prog 5 #[.string s, .int .i64 at', .int .u32 mask.toNat] w fun e w' => e = .returned (.bool true) ∧ Same w w' := by
  have hm0 : ¬ (mask.toNat : Int) = 0 := by
    intro e
    apply hm
    apply UInt32.toNat_inj.1
    have : mask.toNat = 0 := by omega
    rw [this]; rfl
  have hc : (decide ((s.size : Int) < 4) || (mask.toNat : Int) == 0) = false := by
    rw [Bool.or_eq_false_iff]
    exact ⟨decide_eq_false (by omega), by simpa using hm0⟩
  obtain ⟨m, hmm⟩ : ∃ m, at'.tmod ((s.size : Int) - 3) = m := ⟨_, rfl⟩
  have hb1 : m < (s.size : Int) - 3 := by rw [← hmm]; exact Int.tmod_lt_of_pos _ (by omega)
  have hb2 : -((s.size : Int) - 3) < m := by
    have := Int.lt_tmod_of_pos at' (b := (s.size : Int) - 3) (by omega)
    rw [hmm] at this; exact this
  have HT : Hid (TabAt w) := ht
  obtain ⟨cs, cap, fr, hcv, hfr, hsz, hcell⟩ := str_row (P := Tryd.prog) w 9 31 5 s Tryd.underlying9 Tryd.underlying31 Tryd.underlying5
  have HC : Hid (∀ k (h : k < s.size), cs[k]? = some (.int .u8 s[k].toNat)) := hcell
  clear hcell ht
  go_enter Tryd.func5, Tryd.ntmps5
  go_wp2_with fail
  · obtain ⟨i, hi⟩ : ∃ i : Nat, m + (s.size : Int) - 3 = i := ⟨(m + (s.size : Int) - 3).toNat, by omega⟩
    have hi4 : i + 4 ≤ s.size := by omega
    rw [hi]
    clear hi
    have R0 : RowB (w.alloc (.cells cs 5 (cs.size, cs.size + 1))).drew w.heap.size s.data.toList := by
      refine ⟨cs, heap_alloc_new w _, by rw [bytes_length]; exact hsz, ?_⟩
      intro j x hx
      have hj : j < s.size := by have := (List.getElem?_eq_some_iff.1 hx).1; rw [bytes_length] at this; exact this
      rw [HC.out j hj]
      have : s.data.toList[j]? = some s[j] := by rw [List.getElem?_eq_getElem (by rw [bytes_length]; exact hj)]; rfl
      rw [this] at hx
      injection hx with hx
      rw [hx]
    have s0 : Same w (w.alloc (.cells cs 5 (cs.size, cs.size + 1))).drew := ((Fr.refl _ w).alloc _).drew
    generalize (w.alloc (.cells cs 5 (cs.size, cs.size + 1))).drew = W0 at *
    clear hcv HC
    go_loopg [9] 4 (fun g iv wr => ∃ k : Nat, iv = .int .i64 k ∧ k ≤ 4 ∧ g = 4 - k ∧ Hid (RowB wr w.heap.size (turnL s.data.toList mask i k)) ∧ Same w wr)
    case atStart => exact ⟨0, rfl, by omega, rfl, R0, s0⟩
    case round =>
      obtain ⟨k, rfl, hk, rfl, HR, sr⟩ := hrel
      by_cases hgo : k < 4
      · obtain ⟨cs1, hh, hl1, hc1⟩ := HR.out
        obtain ⟨x, hx⟩ : ∃ x, (turnL s.data.toList mask i k)[i + k]? = some x := ⟨_, List.getElem?_eq_getElem (by rw [turnL_length, bytes_length]; omega)⟩
        have hcx := hc1 _ _ hx
        have hcell : wr.cell? ⟨w.heap.size, i + k, none⟩ = some (.int .u8 x.toNat) := by rw [cell_of_row _ _ _ _ _ _ hh]; exact hcx
        obtain ⟨y, hy⟩ : ∃ y, y = x ^^^ mByte mask k := ⟨_, rfl⟩
        have e1 := mByte_val mask k hgo
        have e2 : bits .xor .u8 (x.toNat : Int) ((mByte mask k).toNat : Int) = (y.toNat : Int) := by rw [hy]; exact x8 x _
        have hfz : wr.frozen? ⟨w.heap.size, i + k, none⟩ = false := by
          have : ¬ cs1.size ≤ i + k := by rw [turnL_length, bytes_length] at hl1; omega
          simp [World.frozen?, hh, this]
        have R1 : RowB (wr.setCell ⟨w.heap.size, i + k, none⟩ (.int .u8 y.toNat)) w.heap.size (turnL s.data.toList mask i (k + 1)) := by
          refine ⟨cs1.setIfInBounds (i + k) (.int .u8 y.toNat), ?_, ?_, ?_⟩
          · rw [World.setCell]; simp [Array.getElem?_modify, hh]
          · rw [turnL_length] at *; simpa using hl1
          · intro j z hz
            rw [turnL, List.getElem?_set] at hz
            rw [Array.getElem?_setIfInBounds]
            have hlt : i + k < cs1.size := by rw [turnL_length, bytes_length] at hl1; omega
            by_cases hjk : i + k = j
            · subst hjk
              rw [if_pos rfl] at hz
              have : (turnL s.data.toList mask i k).getD (i + k) 0 = x := by rw [List.getD_eq_getElem?_getD, hx]; rfl
              rw [this, ← hy, if_pos (by rw [turnL_length, bytes_length]; omega)] at hz
              injection hz with hz
              subst hz
              simp [hlt]
            · rw [if_neg hjk] at hz
              simp [hjk, hc1 j z hz]
        have s1 : Same w (wr.setCell ⟨w.heap.size, i + k, none⟩ (.int .u8 y.toNat)) := sr.setCell (p := ⟨w.heap.size, i + k, none⟩) (fun h => by simp only at h; omega) _
        have HR1 : Hid (RowB (wr.setCell ⟨w.heap.size, i + k, none⟩ (.int .u8 y.toNat)) w.heap.size (turnL s.data.toList mask i (k + 1))) := R1
        clear R1 HR hx hy hc1 hl1 hcx hh
        go_wp2_with fail
        go_roundg (4 - (k + 1))
        case measure => omega
        case rel => exact ⟨k + 1, by go_num, by omega, rfl, HR1, s1⟩
      · obtain rfl : k = 4 := by omega
        obtain ⟨cs1, hh, hl1, hc1⟩ := HR.out
        have hln : (turnL s.data.toList mask i 4).length = s.size := by rw [turnL_length, bytes_length]
        have hcv := run_convert_bytes_back (P := Tryd.prog) wr 31 9 5 ⟨w.heap.size, 0, none⟩ cap (turnL s.data.toList mask i 4) Tryd.underlying31 Tryd.underlying5 Tryd.underlying9 (by
          intro j hj
          rw [Addr.add_mid, Nat.zero_add, cell_of_row _ _ _ _ _ _ hh]
          exact hc1 j _ (List.getElem?_eq_getElem hj))
        rw [hln] at hcv
        have hne := turnL_ne s.data.toList mask i (by rw [bytes_length]; omega) hm
        obtain ⟨T, hT⟩ : ∃ T : ByteArray, T = ⟨(turnL s.data.toList mask i 4).toArray⟩ := ⟨_, rfl⟩
        have hTs : T.size = s.size := by rw [hT]; exact hln
        have hTl : T.data.toList = turnL s.data.toList mask i 4 := by rw [hT]
        rw [← hTl] at hne
        rw [← hT] at hcv
        have HCT : Hid (∀ W b, TabAt W → W.cell? ⟨b, 0, none⟩ = some (.string T) → Calls Tryd.prog 9 #[.slice (some ⟨b, 0, none⟩) 1 1] W fun e w' => e = .returned (.int .u32 (moreP 0 T.data.toList).toNat) ∧ w' = W) := fun W b h1 h2 => crc_one W b _ (by omega) h1 h2
        have HCs : Hid (∀ W b, TabAt W → W.cell? ⟨b, 0, none⟩ = some (.string s) → Calls Tryd.prog 9 #[.slice (some ⟨b, 0, none⟩) 1 1] W fun e w' => e = .returned (.int .u32 (moreP 0 s.data.toList).toNat) ∧ w' = W) := fun W b h1 h2 => crc_one W b _ (by omega) h1 h2
        generalize moreP 0 T.data.toList = cT at *
        generalize moreP 0 s.data.toList = cS at *
        have hne' : ((cT.toNat : Int) != (cS.toNat : Int)) = true := by
          rw [bne_iff_ne]
          intro e
          apply hne
          apply UInt32.toNat_inj.1
          omega
        clear hT hTs hTl hln hh hl1 hc1 HR hne
        go_wp2_with fail
        have sa : Same wr (wr.alloc (.cells #[.string T] 9)) := (Fr.refl _ wr).alloc _
        refine (HCT.out _ _ (HT.out.same (sr.trans sa)) (by simp)).mono ?_
        rintro e W2 ⟨rfl, hW2⟩
        have s2 : Same w W2 := by rw [hW2]; exact sr.trans sa
        clear hW2 sa
        go_wp2_with fail
        have sa : Same W2 (W2.alloc (.cells #[.string s] 9)) := (Fr.refl _ W2).alloc _
        refine (HCs.out _ _ (HT.out.same (s2.trans sa)) (by simp)).mono ?_
        rintro e W3 ⟨rfl, hW3⟩
        have s3 : Same w W3 := by rw [hW3]; exact s2.trans sa
        clear hW3 sa
        go_wp2_with fail
        refine (awake_calls W3 (HT.out.same s3)).mono ?_
        rintro e W4 ⟨rfl, s4⟩
        go_wp2_with fail
        go_ret
        exact ⟨rfl, s3.trans s4⟩
  · obtain ⟨i, hi⟩ : ∃ i : Nat, m = i := ⟨m.toNat, by omega⟩
    have hi4 : i + 4 ≤ s.size := by omega
    subst hi
    have R0 : RowB (w.alloc (.cells cs 5 (cs.size, cs.size + 1))).drew w.heap.size s.data.toList := by
      refine ⟨cs, heap_alloc_new w _, by rw [bytes_length]; exact hsz, ?_⟩
      intro j x hx
      have hj : j < s.size := by have := (List.getElem?_eq_some_iff.1 hx).1; rw [bytes_length] at this; exact this
      rw [HC.out j hj]
      have : s.data.toList[j]? = some s[j] := by rw [List.getElem?_eq_getElem (by rw [bytes_length]; exact hj)]; rfl
      rw [this] at hx
      injection hx with hx
      rw [hx]
    have s0 : Same w (w.alloc (.cells cs 5 (cs.size, cs.size + 1))).drew := ((Fr.refl _ w).alloc _).drew
    generalize (w.alloc (.cells cs 5 (cs.size, cs.size + 1))).drew = W0 at *
    clear hcv HC
    go_loopg [9] 4 (fun g iv wr => ∃ k : Nat, iv = .int .i64 k ∧ k ≤ 4 ∧ g = 4 - k ∧ Hid (RowB wr w.heap.size (turnL s.data.toList mask i k)) ∧ Same w wr)
    case atStart => exact ⟨0, rfl, by omega, rfl, R0, s0⟩
    case round =>
      obtain ⟨k, rfl, hk, rfl, HR, sr⟩ := hrel
      by_cases hgo : k < 4
      · obtain ⟨cs1, hh, hl1, hc1⟩ := HR.out
        obtain ⟨x, hx⟩ : ∃ x, (turnL s.data.toList mask i k)[i + k]? = some x := ⟨_, List.getElem?_eq_getElem (by rw [turnL_length, bytes_length]; omega)⟩
        have hcx := hc1 _ _ hx
        have hcell : wr.cell? ⟨w.heap.size, i + k, none⟩ = some (.int .u8 x.toNat) := by rw [cell_of_row _ _ _ _ _ _ hh]; exact hcx
        obtain ⟨y, hy⟩ : ∃ y, y = x ^^^ mByte mask k := ⟨_, rfl⟩
        have e1 := mByte_val mask k hgo
        have e2 : bits .xor .u8 (x.toNat : Int) ((mByte mask k).toNat : Int) = (y.toNat : Int) := by rw [hy]; exact x8 x _
        have hfz : wr.frozen? ⟨w.heap.size, i + k, none⟩ = false := by
          have : ¬ cs1.size ≤ i + k := by rw [turnL_length, bytes_length] at hl1; omega
          simp [World.frozen?, hh, this]
        have R1 : RowB (wr.setCell ⟨w.heap.size, i + k, none⟩ (.int .u8 y.toNat)) w.heap.size (turnL s.data.toList mask i (k + 1)) := by
          refine ⟨cs1.setIfInBounds (i + k) (.int .u8 y.toNat), ?_, ?_, ?_⟩
          · rw [World.setCell]; simp [Array.getElem?_modify, hh]
          · rw [turnL_length] at *; simpa using hl1
          · intro j z hz
            rw [turnL, List.getElem?_set] at hz
            rw [Array.getElem?_setIfInBounds]
            have hlt : i + k < cs1.size := by rw [turnL_length, bytes_length] at hl1; omega
            by_cases hjk : i + k = j
            · subst hjk
              rw [if_pos rfl] at hz
              have : (turnL s.data.toList mask i k).getD (i + k) 0 = x := by rw [List.getD_eq_getElem?_getD, hx]; rfl
              rw [this, ← hy, if_pos (by rw [turnL_length, bytes_length]; omega)] at hz
              injection hz with hz
              subst hz
              simp [hlt]
            · rw [if_neg hjk] at hz
              simp [hjk, hc1 j z hz]
        have s1 : Same w (wr.setCell ⟨w.heap.size, i + k, none⟩ (.int .u8 y.toNat)) := sr.setCell (p := ⟨w.heap.size, i + k, none⟩) (fun h => by simp only at h; omega) _
        have HR1 : Hid (RowB (wr.setCell ⟨w.heap.size, i + k, none⟩ (.int .u8 y.toNat)) w.heap.size (turnL s.data.toList mask i (k + 1))) := R1
        clear R1 HR hx hy hc1 hl1 hcx hh
        go_wp2_with fail
        go_roundg (4 - (k + 1))
        case measure => omega
        case rel => exact ⟨k + 1, by go_num, by omega, rfl, HR1, s1⟩
      · obtain rfl : k = 4 := by omega
        obtain ⟨cs1, hh, hl1, hc1⟩ := HR.out
        have hln : (turnL s.data.toList mask i 4).length = s.size := by rw [turnL_length, bytes_length]
        have hcv := run_convert_bytes_back (P := Tryd.prog) wr 31 9 5 ⟨w.heap.size, 0, none⟩ cap (turnL s.data.toList mask i 4) Tryd.underlying31 Tryd.underlying5 Tryd.underlying9 (by
          intro j hj
          rw [Addr.add_mid, Nat.zero_add, cell_of_row _ _ _ _ _ _ hh]
          exact hc1 j _ (List.getElem?_eq_getElem hj))
        rw [hln] at hcv
        have hne := turnL_ne s.data.toList mask i (by rw [bytes_length]; omega) hm
        obtain ⟨T, hT⟩ : ∃ T : ByteArray, T = ⟨(turnL s.data.toList mask i 4).toArray⟩ := ⟨_, rfl⟩
        have hTs : T.size = s.size := by rw [hT]; exact hln
        have hTl : T.data.toList = turnL s.data.toList mask i 4 := by rw [hT]
        rw [← hTl] at hne
        rw [← hT] at hcv
        have HCT : Hid (∀ W b, TabAt W → W.cell? ⟨b, 0, none⟩ = some (.string T) → Calls Tryd.prog 9 #[.slice (some ⟨b, 0, none⟩) 1 1] W fun e w' => e = .returned (.int .u32 (moreP 0 T.data.toList).toNat) ∧ w' = W) := fun W b h1 h2 => crc_one W b _ (by omega) h1 h2
        have HCs : Hid (∀ W b, TabAt W → W.cell? ⟨b, 0, none⟩ = some (.string s) → Calls Tryd.prog 9 #[.slice (some ⟨b, 0, none⟩) 1 1] W fun e w' => e = .returned (.int .u32 (moreP 0 s.data.toList).toNat) ∧ w' = W) := fun W b h1 h2 => crc_one W b _ (by omega) h1 h2
        generalize moreP 0 T.data.toList = cT at *
        generalize moreP 0 s.data.toList = cS at *
        have hne' : ((cT.toNat : Int) != (cS.toNat : Int)) = true := by
          rw [bne_iff_ne]
          intro e
          apply hne
          apply UInt32.toNat_inj.1
          omega
        clear hT hTs hTl hln hh hl1 hc1 HR hne
        go_wp2_with fail
        have sa : Same wr (wr.alloc (.cells #[.string T] 9)) := (Fr.refl _ wr).alloc _
        refine (HCT.out _ _ (HT.out.same (sr.trans sa)) (by simp)).mono ?_
        rintro e W2 ⟨rfl, hW2⟩
        have s2 : Same w W2 := by rw [hW2]; exact sr.trans sa
        clear hW2 sa
        go_wp2_with fail
        have sa : Same W2 (W2.alloc (.cells #[.string s] 9)) := (Fr.refl _ W2).alloc _
        refine (HCs.out _ _ (HT.out.same (s2.trans sa)) (by simp)).mono ?_
        rintro e W3 ⟨rfl, hW3⟩
        have s3 : Same w W3 := by rw [hW3]; exact s2.trans sa
        clear hW3 sa
        go_wp2_with fail
        refine (awake_calls W3 (HT.out.same s3)).mono ?_
        rintro e W4 ⟨rfl, s4⟩
        go_wp2_with fail
        go_ret
        exact ⟨rfl, s3.trans s4⟩

set_option maxRecDepth 100000 in
theorem sturn_short (w : World) (ht : TabAt w) (s : ByteArray) (at' : Int) (mask : UInt32) (h : s.size < 4 ∨ mask = 0) : Calls Tryd.prog 5 #[.string s, .int .i64 at', .int .u32 mask.toNat] w fun e w' => e = .returned (.bool true) ∧ Same w w' := by
  have HA : Hid (Calls Tryd.prog 8 #[] w fun e w' => e = .returned (.bool true) ∧ Same w w') := awake_calls w ht
  clear ht
  by_cases h4 : s.size < 4
  · have hd : decide ((s.size : Int) < 4) = true := decide_eq_true (by omega)
    clear h
    go_enter Tryd.func5, Tryd.ntmps5
    go_wp2_with fail
    refine HA.out.mono ?_
    rintro e W1 ⟨rfl, s1⟩
    go_wp2_with fail
    go_ret
    exact ⟨rfl, s1⟩
  · obtain rfl : mask = 0 := h.resolve_left h4
    have hd : decide ((s.size : Int) < 4) = false := decide_eq_false (by omega)
    have z : ((0 : UInt32).toNat : Int) = 0 := rfl
    clear h
    go_enter Tryd.func5, Tryd.ntmps5
    go_wp2_with fail
    refine HA.out.mono ?_
    rintro e W1 ⟨rfl, s1⟩
    go_wp2_with fail
    go_ret
    exact ⟨rfl, s1⟩
theorem sturn_walk (w : World) (ht : TabAt w) (s : ByteArray) (at' : Int) (mask : UInt32) (hs : s.size ≤ 1048576) : Calls Tryd.prog 5 #[.string s, .int .i64 at', .int .u32 mask.toNat] w fun e w' => e = .returned (.bool true) ∧ Same w w' := by
  by_cases h : s.size < 4 ∨ mask = 0
  · exact sturn_short w ht s at' mask h
  · exact sturn_long w ht s at' mask hs (by omega) (fun e => h (Or.inr e))
end Go.Proofs.YtmdapkdnfjnmbaaDoor
