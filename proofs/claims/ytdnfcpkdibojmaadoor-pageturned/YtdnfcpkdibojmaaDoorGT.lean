/- Walks: PageTurned. -/
import Derived.Test.YtdnfcpkdibojmaaDoorGT1
namespace Go.Proofs.YtdnfcpkdibojmaaDoor
open Go.RowKit

abbrev turnV (p q : Int) (kd no vs : Nat) (b : ByteArray) (at' : Int) (mask : Nat) : Value := .agg #[.int .i64 p, .int .i64 q, .int .u8 kd, .int .u32 no, .int .u64 vs, .string b, .int .i64 at', .int .u32 mask]

set_option maxRecDepth 100000 in
set_option maxHeartbeats 2000000 in
theorem pturn_bad (w : World) (ht : TabAt w) (p q : Int) (kd no vs : Nat) (b : ByteArray) (at' : Int) (mask : Nat) (hE : ¬ chkE p q kd no vs b.size = 0) :
    Calls Tryd.prog 8 #[turnV p q kd no vs b at' mask] w fun e w' => e = .returned (.bool true) ∧ Same w w' := by
  have HA : Hid (∀ W, Same w W → Calls Tryd.prog 9 #[] W fun e w' => e = .returned (.bool true) ∧ Same W w') := fun W h => awake_calls W (ht.same h)
  have HW : Hid (∀ W, Calls Tryd.prog 12 #[frameV p q, pageV kd no vs b] W fun e w' => e = .returned (.tuple #[.string ⟨#[]⟩, .int .i64 (chkE p q kd no vs b.size)]) ∧ Same W w') := fun W => write_bad rfl hE W
  generalize chkE p q kd no vs b.size = E at *
  have sx : Same w (w.alloc (.cells #[.int .i64 p, .int .i64 q, .int .u8 kd, .int .u32 no, .int .u64 vs, .string b, .int .i64 at', .int .u32 mask] 41)) := (Fr.refl _ w).alloc _
  clear ht
  go_enter Tryd.func8, Tryd.ntmps8
  go_wp2_with fail
  refine (HW.out _).mono ?_
  rintro e W1 ⟨rfl, s1⟩
  go_wp2_with fail
  refine (HA.out _ (sx.trans s1)).mono ?_
  rintro e W2 ⟨rfl, s2⟩
  go_wp2_with fail
  go_ret
  exact ⟨rfl, (sx.trans s1).trans s2⟩

set_option maxRecDepth 100000 in
set_option maxHeartbeats 2000000 in
theorem pturn_good (w : World) (ht : TabAt w) (p q : Int) (kd no vs : Nat) (b : ByteArray) (at' : Int) (mask : UInt32) (hE : chkE p q kd no vs b.size = 0) :
    Calls Tryd.prog 8 #[turnV p q kd no vs b at' mask.toNat] w fun e w' => e = .returned (.bool true) ∧ Same w w' := by
  have HA : Hid (∀ W, Same w W → Calls Tryd.prog 9 #[] W fun e w' => e = .returned (.bool true) ∧ Same W w') := fun W h => awake_calls W (ht.same h)
  obtain ⟨s, hs⟩ : ∃ s : ByteArray, s = ⟨(formB p kd no vs b).toArray⟩ := ⟨_, rfl⟩
  have hsl : s.data.toList = formB p kd no vs b := by rw [hs]
  obtain ⟨hR0, hV0, hz⟩ := read_form hE hsl
  have HW : Hid (∀ W, Same w W → Calls Tryd.prog 12 #[frameV p q, pageV kd no vs b] W fun e w' => e = .returned (.tuple #[.string s, .int .i64 0]) ∧ Same W w') := fun W h => by rw [hs]; exact write_good hE W (ht.same h)
  have hp := frame_lo (chk_zero hE).1
  have HRD : Hid (∀ (t : ByteArray) W, Same w W → Calls Tryd.prog 14 #[frameV p q, .string t] W fun e w' => e = .returned (.tuple #[readV p q t, .int .i64 (readE p q t)]) ∧ Same W w') := fun t W h => read_calls p q t W (ht.same h)
  -- what Read answers of what was turned
  have HT : Hid (∀ (t : ByteArray) (i : Nat), i + 4 ≤ s.size → t.data.toList = turnK s.data.toList mask i 4 → (t = s ∧ readE p q t = 0 ∧ readV p q t = pageV kd no vs b) ∨ (¬ t = s ∧ readE p q t = 52 ∧ readV p q t = noPage)) := by
    intro t i hi h
    by_cases hts : t = s
    · exact Or.inl ⟨hts, by rw [hts]; exact hR0, by rw [hts]; exact hV0⟩
    · have hw : wholeB s = true := by
        rcases read_cases p q s with ⟨_, hE, _⟩ | ⟨_, _, hE, _⟩ | ⟨_, _, _, hE, _⟩ | ⟨_, _, hw, _⟩ | ⟨_, _, hw, _⟩ | ⟨_, _, hw, _⟩
        · rw [hE] at hR0; exact absurd hR0 (by decide)
        · rw [hE] at hR0; exact absurd hR0 (by decide)
        · rw [hE] at hR0; exact absurd hR0 (by decide)
        · exact hw
        · exact hw
        · exact hw
      have hwt := turned_whole s t mask i (by omega) hi hw h hts
      have hlt : (t.size : Int) = p := by rw [← bytes_length, h, turnK_length, bytes_length]; exact hz
      have e52 : readE p q t = 52 := by
        unfold readE
        rw [(chk_zero hE).1, hlt, hwt]
        simp
      exact Or.inr ⟨hts, e52, by unfold readV; rw [e52]; rfl⟩
  obtain ⟨V, hV⟩ : ∃ V, V = w.alloc (.cells #[.int .i64 p, .int .i64 q, .int .u8 kd, .int .u32 no, .int .u64 vs, .string b, .int .i64 at', .int .u32 mask.toNat] 41) := ⟨_, rfl⟩
  have sx : Same w V := by rw [hV]; exact (Fr.refl _ w).alloc _
  have HS : Hid (∀ W, Same V W → W.cell? ⟨w.heap.size, 0, none⟩ = some (.int .i64 p) ∧ W.cell? ⟨w.heap.size, 1, none⟩ = some (.int .i64 q) ∧ W.cell? ⟨w.heap.size, 2, none⟩ = some (.int .u8 kd) ∧ W.cell? ⟨w.heap.size, 3, none⟩ = some (.int .u32 no) ∧ W.cell? ⟨w.heap.size, 4, none⟩ = some (.int .u64 vs) ∧ W.cell? ⟨w.heap.size, 5, none⟩ = some (.string b) ∧ W.cell? ⟨w.heap.size, 6, none⟩ = some (.int .i64 at') ∧ W.cell? ⟨w.heap.size, 7, none⟩ = some (.int .u32 mask.toNat)) := by
    intro W h
    refine ⟨h.keep ?_, h.keep ?_, h.keep ?_, h.keep ?_, h.keep ?_, h.keep ?_, h.keep ?_, h.keep ?_⟩ <;> (rw [hV]; simp)
  obtain ⟨m, hmm⟩ : ∃ m, at'.tmod ((s.size : Int) - 3) = m := ⟨_, rfl⟩
  have hb1 : m < (s.size : Int) - 3 := by rw [← hmm]; exact Int.tmod_lt_of_pos _ (by omega)
  have hb2 : -((s.size : Int) - 3) < m := by
    have := Int.lt_tmod_of_pos at' (b := (s.size : Int) - 3) (by omega)
    rw [hmm] at this; exact this
  have hs8 : s.size ≤ 8192 := by omega
  have hs1 : 1024 ≤ s.size := by omega
  clear ht hE hs hsl hR0 hV0 hz hp
  go_enter Tryd.func8, Tryd.ntmps8
  go_wp2_with fail
  rw [← hV]
  clear hV
  refine (HW.out _ sx).mono ?_
  rintro e W1 ⟨rfl, s1⟩
  obtain ⟨c0, c1, c2, c3, c4, c5, c6, c7⟩ := HS.out W1 s1
  obtain ⟨cs, cap, fr, hcv, hfr, hsz, hcell⟩ := str_row (P := Tryd.prog) W1 9 42 5 s Tryd.underlying9 Tryd.underlying42 Tryd.underlying5
  have HC : Hid (∀ k (h : k < s.size), cs[k]? = some (.int .u8 s[k].toNat)) := hcell
  have g4 : ¬ (s.size : Int) < 4 := by omega
  clear hcell
  go_wp2_with fail
  · have hng : m < 0 := by assumption
    rw [show decide (m < 0) = true from decide_eq_true hng]
    obtain ⟨i, hi⟩ : ∃ i : Nat, m + (s.size : Int) - 3 = i := ⟨(m + (s.size : Int) - 3).toNat, by omega⟩
    rw [hi]
    have hi4 : i + 4 ≤ s.size := by omega
    clear hi
    have R0 : RowB (W1.alloc (.cells cs 5 (cs.size, cs.size + 1))).drew W1.heap.size s.data.toList := by
      refine ⟨cs, heap_alloc_new W1 _, by rw [bytes_length]; exact hsz, ?_⟩
      intro j x hx
      have hj : j < s.size := by have := (List.getElem?_eq_some_iff.1 hx).1; rw [bytes_length] at this; exact this
      rw [HC.out j hj]
      have : s.data.toList[j]? = some s[j] := by rw [List.getElem?_eq_getElem (by rw [bytes_length]; exact hj)]; rfl
      rw [this] at hx
      injection hx with hx
      rw [hx]
    have s0 : Same V (W1.alloc (.cells cs 5 (cs.size, cs.size + 1))).drew := (s1.alloc _).drew
    generalize (W1.alloc (.cells cs 5 (cs.size, cs.size + 1))).drew = W0 at *
    have hG : V.heap.size ≤ W1.heap.size := s1.size
    obtain ⟨G, hGG⟩ : ∃ G, G = W1.heap.size := ⟨_, rfl⟩
    rw [← hGG] at R0 hG ⊢
    have HI : Hid (i + 4 ≤ s.size) := hi4
    clear hcv HC hGG c0 c1 c2 c3 c4 c5 c6 c7 hb1 hb2 hmm g4 hng
    go_loopg [7] 4 (fun g iv wr => ∃ k : Nat, iv = .int .i64 k ∧ k ≤ 4 ∧ g = 4 - k ∧ Hid (RowB wr G (turnK s.data.toList mask i k)) ∧ Same V wr)
    case atStart => exact ⟨0, rfl, by omega, rfl, R0, s0⟩
    case round =>
      obtain ⟨k, rfl, hk, rfl, HR, sr⟩ := hrel
      obtain ⟨c0, c1, c2, c3, c4, c5, c6, c7⟩ := HS.out wr sr
      by_cases hgo : k < 4
      · have hgi : (k : Int) < 4 := by omega
        obtain ⟨n, hn⟩ : ∃ n, n = i + k := ⟨_, rfl⟩
        have hni : (i : Int) + (k : Int) = (n : Int) := by omega
        have HP1 := part_calls n
        have HP0 := part_calls i
        by_cases hpq : partN n = partN i
        · have hpe : ((partN n : Int) == (partN i : Int)) = true := by rw [hpq]; simp
          obtain ⟨cs1, hh, hl1, hc1⟩ := HR.out
          obtain ⟨x, hx⟩ : ∃ x, (turnK s.data.toList mask i k)[n]? = some x := ⟨_, List.getElem?_eq_getElem (by rw [turnK_length, bytes_length]; omega)⟩
          have hcx := hc1 _ _ hx
          have hcell : wr.cell? ⟨G, n, none⟩ = some (.int .u8 x.toNat) := by rw [cell_of_row _ _ _ _ _ _ hh]; exact hcx
          obtain ⟨y, hy⟩ : ∃ y, y = x ^^^ mByte mask k := ⟨_, rfl⟩
          have e1 := mByte_val mask k hgo
          have e2 : bits .xor .u8 (x.toNat : Int) ((mByte mask k).toNat : Int) = (y.toNat : Int) := by rw [hy]; exact x8 x _
          have hfz : wr.frozen? ⟨G, n, none⟩ = false := by
            have : ¬ cs1.size ≤ n := by rw [turnK_length, bytes_length] at hl1; omega
            simp [World.frozen?, hh, this]
          have HR1 : Hid (RowB (wr.setCell ⟨G, n, none⟩ (.int .u8 y.toNat)) G (turnK s.data.toList mask i (k + 1))) := by
            refine ⟨cs1.setIfInBounds n (.int .u8 y.toNat), ?_, ?_, ?_⟩
            · rw [World.setCell]; simp [Array.getElem?_modify, hh]
            · rw [turnK_length] at *; simpa using hl1
            · intro j z hz
              rw [turnK, tset, ← hn, List.getElem?_set] at hz
              rw [Array.getElem?_setIfInBounds]
              have hlt : n < cs1.size := by rw [turnK_length, bytes_length] at hl1; omega
              by_cases hjk : n = j
              · subst hjk
                rw [if_pos rfl] at hz
                have ed : (turnK s.data.toList mask i k).getD n 0 = x := by rw [List.getD_eq_getElem?_getD, hx]; rfl
                have ee : effE mask i k = mByte mask k := by unfold effE; rw [← hn, if_pos hpq]
                rw [ed, ee, ← hy, if_pos (by rw [turnK_length, bytes_length]; omega)] at hz
                injection hz with hz
                subst hz
                simp [hlt]
              · rw [if_neg hjk] at hz
                simp [hjk, hc1 j z hz]
          have s2 : Same V (wr.setCell ⟨G, n, none⟩ (.int .u8 y.toNat)) := sr.setCell (p := ⟨G, n, none⟩) (fun h => by simp only at h; omega) _
          have a0 : (0 : Int) ≤ (n : Int) := by omega
          have a1 : (n : Int) < (s.size : Int) := by omega
          clear HR hx hy hc1 hl1 hcx hh hn
          go_wp2_with fail
          refine (HP1 _).mono ?_
          rintro e W2 ⟨rfl, rfl⟩
          go_wp2_with fail
          refine (HP0 _).mono ?_
          rintro e W2 ⟨rfl, rfl⟩
          go_wp2_with fail
          go_region
          all_goals
            go_wp2_with fail
            go_roundg (4 - (k + 1))
            case measure => omega
            case rel => exact ⟨k + 1, by go_num, by omega, rfl, HR1, Fr.drew s2⟩
        · have hpe : ((partN n : Int) == (partN i : Int)) = false := by
            rw [beq_eq_false_iff_ne]; intro e; exact hpq (by omega)
          have HR1 : Hid (RowB wr G (turnK s.data.toList mask i (k + 1))) := by
            have ee : effE mask i k = 0 := by unfold effE; rw [← hn, if_neg hpq]
            show RowB _ _ _
            rw [turnK, ee, tset_zero]
            exact HR.out
          clear HR hn
          go_wp2_with fail
          refine (HP1 _).mono ?_
          rintro e W2 ⟨rfl, rfl⟩
          go_wp2_with fail
          refine (HP0 _).mono ?_
          rintro e W2 ⟨rfl, rfl⟩
          go_wp2_with fail
          go_roundg (4 - (k + 1))
          case measure => omega
          case rel => exact ⟨k + 1, by go_num, by omega, rfl, HR1, sr⟩
      · obtain rfl : k = 4 := by omega
        have hgi : ¬ (((4 : Nat) : Int) < 4) := by omega
        have hln : (turnK s.data.toList mask i 4).length = s.size := by rw [turnK_length, bytes_length]
        obtain ⟨T, hT⟩ : ∃ T : ByteArray, T = ⟨(turnK s.data.toList mask i 4).toArray⟩ := ⟨_, rfl⟩
        have HCV : Hid (∀ W, Same wr W → (convert 42 9 (.slice (some ⟨G, 0, none⟩) s.size cap)).run Tryd.prog W = .ok (.string T) W) := by
          intro W hW
          obtain ⟨cs1, hh, hl1, hc1⟩ := HR.out
          have hh' : W.heap[G]? = some (.cells cs1 5 (cs1.size, cs1.size + 1)) := (hW.block G (lt_of_heap hh) (fun f => f)).trans hh
          have hcv := run_convert_bytes_back (P := Tryd.prog) W 42 9 5 ⟨G, 0, none⟩ cap (turnK s.data.toList mask i 4) Tryd.underlying42 Tryd.underlying5 Tryd.underlying9 (by
            intro j hj
            rw [Addr.add_mid, Nat.zero_add, cell_of_row _ _ _ _ _ _ hh']
            exact hc1 j _ (List.getElem?_eq_getElem hj))
          rw [hln, ← hT] at hcv
          exact hcv
        have hTt := HT.out T i HI.out (by rw [hT])
        have HRT := fun W (h : Same w W) => HRD.out T W h
        have v1 := HCV.out wr (Fr.refl _ _)
        clear hT hln HT HRD
        have hd : Same w wr := sx.trans sr
        rcases hTt with ⟨hts, hE, hVV⟩ | ⟨hts, hE, hVV⟩
        · rw [hE, hVV] at HRT
          have HRT2 : Hid (∀ W, Same w W → Calls Tryd.prog 14 #[frameV p q, .string T] W fun e w' => e = .returned (.tuple #[pageV kd no vs b, .int .i64 0]) ∧ Same W w') := HRT
          have hte : (T.toList == s.toList) = true := by rw [hts]; simp
          clear HRT hE hVV hts
          go_wp2_with fail
          refine (HRT2.out _ hd).mono ?_
          rintro e W3 ⟨rfl, s3⟩
          have s4 : Same wr (W3.alloc (.cells #[.int .u8 kd, .int .u32 no, .int .u64 vs, .string b] 29)) := s3.alloc _
          have v2 := HCV.out _ s4
          obtain ⟨d0, d1, d2, d3, d4, d5, d6, d7⟩ := HS.out _ (sr.trans s4)
          have t4 := hd.trans s4
          clear c0 c1 c2 c3 c4 c5 c6 c7
          go_wp2_with fail
          refine (HA.out _ t4).mono ?_
          rintro e W5 ⟨rfl, s5⟩
          go_wp2_with fail
          go_ret
          exact ⟨rfl, t4.trans s5⟩
        · rw [hE, hVV] at HRT
          have HRT2 : Hid (∀ W, Same w W → Calls Tryd.prog 14 #[frameV p q, .string T] W fun e w' => e = .returned (.tuple #[noPage, .int .i64 52]) ∧ Same W w') := HRT
          have hte : (T.toList == s.toList) = false := by
            rw [beq_eq_false_iff_ne, ByteArray.toList_eq, ByteArray.toList_eq]
            intro h
            exact hts (bytes_ext h)
          clear HRT hE hVV hts
          go_wp2_with fail
          refine (HRT2.out _ hd).mono ?_
          rintro e W3 ⟨rfl, s3⟩
          have s4 : Same wr (W3.alloc (.cells #[.int .u8 0, .int .u32 0, .int .u64 0, .string ⟨#[]⟩] 29)) := s3.alloc _
          have v2 := HCV.out _ s4
          have t4 := hd.trans s4
          clear c0 c1 c2 c3 c4 c5 c6 c7
          go_wp2_with fail
          refine (HA.out _ t4).mono ?_
          rintro e W5 ⟨rfl, s5⟩
          go_wp2_with fail
          go_ret
          exact ⟨rfl, t4.trans s5⟩
  · have hng : ¬ m < 0 := by first | assumption | omega
    rw [show decide (m < 0) = false from decide_eq_false hng]
    obtain ⟨i, hi⟩ : ∃ i : Nat, m = i := ⟨m.toNat, by omega⟩
    subst hi
    have hi4 : i + 4 ≤ s.size := by omega
    have R0 : RowB (W1.alloc (.cells cs 5 (cs.size, cs.size + 1))).drew W1.heap.size s.data.toList := by
      refine ⟨cs, heap_alloc_new W1 _, by rw [bytes_length]; exact hsz, ?_⟩
      intro j x hx
      have hj : j < s.size := by have := (List.getElem?_eq_some_iff.1 hx).1; rw [bytes_length] at this; exact this
      rw [HC.out j hj]
      have : s.data.toList[j]? = some s[j] := by rw [List.getElem?_eq_getElem (by rw [bytes_length]; exact hj)]; rfl
      rw [this] at hx
      injection hx with hx
      rw [hx]
    have s0 : Same V (W1.alloc (.cells cs 5 (cs.size, cs.size + 1))).drew := (s1.alloc _).drew
    generalize (W1.alloc (.cells cs 5 (cs.size, cs.size + 1))).drew = W0 at *
    have hG : V.heap.size ≤ W1.heap.size := s1.size
    obtain ⟨G, hGG⟩ : ∃ G, G = W1.heap.size := ⟨_, rfl⟩
    rw [← hGG] at R0 hG ⊢
    have HI : Hid (i + 4 ≤ s.size) := hi4
    clear hcv HC hGG c0 c1 c2 c3 c4 c5 c6 c7 hb1 hb2 hmm g4 hng
    go_loopg [7] 4 (fun g iv wr => ∃ k : Nat, iv = .int .i64 k ∧ k ≤ 4 ∧ g = 4 - k ∧ Hid (RowB wr G (turnK s.data.toList mask i k)) ∧ Same V wr)
    case atStart => exact ⟨0, rfl, by omega, rfl, R0, s0⟩
    case round =>
      obtain ⟨k, rfl, hk, rfl, HR, sr⟩ := hrel
      obtain ⟨c0, c1, c2, c3, c4, c5, c6, c7⟩ := HS.out wr sr
      by_cases hgo : k < 4
      · have hgi : (k : Int) < 4 := by omega
        obtain ⟨n, hn⟩ : ∃ n, n = i + k := ⟨_, rfl⟩
        have hni : (i : Int) + (k : Int) = (n : Int) := by omega
        have HP1 := part_calls n
        have HP0 := part_calls i
        by_cases hpq : partN n = partN i
        · have hpe : ((partN n : Int) == (partN i : Int)) = true := by rw [hpq]; simp
          obtain ⟨cs1, hh, hl1, hc1⟩ := HR.out
          obtain ⟨x, hx⟩ : ∃ x, (turnK s.data.toList mask i k)[n]? = some x := ⟨_, List.getElem?_eq_getElem (by rw [turnK_length, bytes_length]; omega)⟩
          have hcx := hc1 _ _ hx
          have hcell : wr.cell? ⟨G, n, none⟩ = some (.int .u8 x.toNat) := by rw [cell_of_row _ _ _ _ _ _ hh]; exact hcx
          obtain ⟨y, hy⟩ : ∃ y, y = x ^^^ mByte mask k := ⟨_, rfl⟩
          have e1 := mByte_val mask k hgo
          have e2 : bits .xor .u8 (x.toNat : Int) ((mByte mask k).toNat : Int) = (y.toNat : Int) := by rw [hy]; exact x8 x _
          have hfz : wr.frozen? ⟨G, n, none⟩ = false := by
            have : ¬ cs1.size ≤ n := by rw [turnK_length, bytes_length] at hl1; omega
            simp [World.frozen?, hh, this]
          have HR1 : Hid (RowB (wr.setCell ⟨G, n, none⟩ (.int .u8 y.toNat)) G (turnK s.data.toList mask i (k + 1))) := by
            refine ⟨cs1.setIfInBounds n (.int .u8 y.toNat), ?_, ?_, ?_⟩
            · rw [World.setCell]; simp [Array.getElem?_modify, hh]
            · rw [turnK_length] at *; simpa using hl1
            · intro j z hz
              rw [turnK, tset, ← hn, List.getElem?_set] at hz
              rw [Array.getElem?_setIfInBounds]
              have hlt : n < cs1.size := by rw [turnK_length, bytes_length] at hl1; omega
              by_cases hjk : n = j
              · subst hjk
                rw [if_pos rfl] at hz
                have ed : (turnK s.data.toList mask i k).getD n 0 = x := by rw [List.getD_eq_getElem?_getD, hx]; rfl
                have ee : effE mask i k = mByte mask k := by unfold effE; rw [← hn, if_pos hpq]
                rw [ed, ee, ← hy, if_pos (by rw [turnK_length, bytes_length]; omega)] at hz
                injection hz with hz
                subst hz
                simp [hlt]
              · rw [if_neg hjk] at hz
                simp [hjk, hc1 j z hz]
          have s2 : Same V (wr.setCell ⟨G, n, none⟩ (.int .u8 y.toNat)) := sr.setCell (p := ⟨G, n, none⟩) (fun h => by simp only at h; omega) _
          have a0 : (0 : Int) ≤ (n : Int) := by omega
          have a1 : (n : Int) < (s.size : Int) := by omega
          clear HR hx hy hc1 hl1 hcx hh hn
          go_wp2_with fail
          refine (HP1 _).mono ?_
          rintro e W2 ⟨rfl, rfl⟩
          go_wp2_with fail
          refine (HP0 _).mono ?_
          rintro e W2 ⟨rfl, rfl⟩
          go_wp2_with fail
          go_region
          all_goals
            go_wp2_with fail
            go_roundg (4 - (k + 1))
            case measure => omega
            case rel => exact ⟨k + 1, by go_num, by omega, rfl, HR1, Fr.drew s2⟩
        · have hpe : ((partN n : Int) == (partN i : Int)) = false := by
            rw [beq_eq_false_iff_ne]; intro e; exact hpq (by omega)
          have HR1 : Hid (RowB wr G (turnK s.data.toList mask i (k + 1))) := by
            have ee : effE mask i k = 0 := by unfold effE; rw [← hn, if_neg hpq]
            show RowB _ _ _
            rw [turnK, ee, tset_zero]
            exact HR.out
          clear HR hn
          go_wp2_with fail
          refine (HP1 _).mono ?_
          rintro e W2 ⟨rfl, rfl⟩
          go_wp2_with fail
          refine (HP0 _).mono ?_
          rintro e W2 ⟨rfl, rfl⟩
          go_wp2_with fail
          go_roundg (4 - (k + 1))
          case measure => omega
          case rel => exact ⟨k + 1, by go_num, by omega, rfl, HR1, sr⟩
      · obtain rfl : k = 4 := by omega
        have hgi : ¬ (((4 : Nat) : Int) < 4) := by omega
        have hln : (turnK s.data.toList mask i 4).length = s.size := by rw [turnK_length, bytes_length]
        obtain ⟨T, hT⟩ : ∃ T : ByteArray, T = ⟨(turnK s.data.toList mask i 4).toArray⟩ := ⟨_, rfl⟩
        have HCV : Hid (∀ W, Same wr W → (convert 42 9 (.slice (some ⟨G, 0, none⟩) s.size cap)).run Tryd.prog W = .ok (.string T) W) := by
          intro W hW
          obtain ⟨cs1, hh, hl1, hc1⟩ := HR.out
          have hh' : W.heap[G]? = some (.cells cs1 5 (cs1.size, cs1.size + 1)) := (hW.block G (lt_of_heap hh) (fun f => f)).trans hh
          have hcv := run_convert_bytes_back (P := Tryd.prog) W 42 9 5 ⟨G, 0, none⟩ cap (turnK s.data.toList mask i 4) Tryd.underlying42 Tryd.underlying5 Tryd.underlying9 (by
            intro j hj
            rw [Addr.add_mid, Nat.zero_add, cell_of_row _ _ _ _ _ _ hh']
            exact hc1 j _ (List.getElem?_eq_getElem hj))
          rw [hln, ← hT] at hcv
          exact hcv
        have hTt := HT.out T i HI.out (by rw [hT])
        have HRT := fun W (h : Same w W) => HRD.out T W h
        have v1 := HCV.out wr (Fr.refl _ _)
        clear hT hln HT HRD
        have hd : Same w wr := sx.trans sr
        rcases hTt with ⟨hts, hE, hVV⟩ | ⟨hts, hE, hVV⟩
        · rw [hE, hVV] at HRT
          have HRT2 : Hid (∀ W, Same w W → Calls Tryd.prog 14 #[frameV p q, .string T] W fun e w' => e = .returned (.tuple #[pageV kd no vs b, .int .i64 0]) ∧ Same W w') := HRT
          have hte : (T.toList == s.toList) = true := by rw [hts]; simp
          clear HRT hE hVV hts
          go_wp2_with fail
          refine (HRT2.out _ hd).mono ?_
          rintro e W3 ⟨rfl, s3⟩
          have s4 : Same wr (W3.alloc (.cells #[.int .u8 kd, .int .u32 no, .int .u64 vs, .string b] 29)) := s3.alloc _
          have v2 := HCV.out _ s4
          obtain ⟨d0, d1, d2, d3, d4, d5, d6, d7⟩ := HS.out _ (sr.trans s4)
          have t4 := hd.trans s4
          clear c0 c1 c2 c3 c4 c5 c6 c7
          go_wp2_with fail
          refine (HA.out _ t4).mono ?_
          rintro e W5 ⟨rfl, s5⟩
          go_wp2_with fail
          go_ret
          exact ⟨rfl, t4.trans s5⟩
        · rw [hE, hVV] at HRT
          have HRT2 : Hid (∀ W, Same w W → Calls Tryd.prog 14 #[frameV p q, .string T] W fun e w' => e = .returned (.tuple #[noPage, .int .i64 52]) ∧ Same W w') := HRT
          have hte : (T.toList == s.toList) = false := by
            rw [beq_eq_false_iff_ne, ByteArray.toList_eq, ByteArray.toList_eq]
            intro h
            exact hts (bytes_ext h)
          clear HRT hE hVV hts
          go_wp2_with fail
          refine (HRT2.out _ hd).mono ?_
          rintro e W3 ⟨rfl, s3⟩
          have s4 : Same wr (W3.alloc (.cells #[.int .u8 0, .int .u32 0, .int .u64 0, .string ⟨#[]⟩] 29)) := s3.alloc _
          have v2 := HCV.out _ s4
          have t4 := hd.trans s4
          clear c0 c1 c2 c3 c4 c5 c6 c7
          go_wp2_with fail
          refine (HA.out _ t4).mono ?_
          rintro e W5 ⟨rfl, s5⟩
          go_wp2_with fail
          go_ret
          exact ⟨rfl, t4.trans s5⟩

theorem pturn_walk (w : World) (ht : TabAt w) (p q : Int) (kd no vs : Nat) (b : ByteArray) (at' : Int) (mask : Nat) (hm : mask < 4294967296) :
    Calls Tryd.prog 8 #[turnV p q kd no vs b at' mask] w fun e w' => e = .returned (.bool true) ∧ Same w w' := by
  by_cases hE : chkE p q kd no vs b.size = 0
  · have := pturn_good w ht p q kd no vs b at' (UInt32.ofNat mask) hE
    have e : (UInt32.ofNat mask).toNat = mask := by
      rw [UInt32.toNat_ofNat']; exact Nat.mod_eq_of_lt hm
    rw [e] at this
    exact this
  · exact pturn_bad w ht p q kd no vs b at' mask hE
end Go.Proofs.YtdnfcpkdibojmaaDoor
