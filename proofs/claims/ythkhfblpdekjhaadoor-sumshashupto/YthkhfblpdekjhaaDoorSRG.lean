/-
  Walks: the document's By, Sum.
-/
import Derived.Test.YthkhfblpdekjhaaDoorSRD
import Derived.Test.YthkhfblpdekjhaaDoorSRF
import Derived.Test.YthkhfblpdekjhaaDoorSG
import Derived.Test.YthkhfblpdekjhaaDoorSRI
namespace Go.Proofs.YthkhfblpdekjhaaDoor
open Go.RowKit

theorem mixAll_next (q : W8) (B : List UInt8) (k m : Nat) (hB : B.length = 64 * m) (hk : k < m) : mixAll q (B.drop (64 * k)) = mixAll (mixB q ((B.drop (64 * k)).take 64)) (B.drop (64 * (k + 1))) := by
  have hl : 64 ≤ (B.drop (64 * k)).length := by rw [List.length_drop]; omega
  rw [mixAll, dif_pos hl, List.drop_drop]
  congr 2
theorem mixAll_done (q : W8) (B : List UInt8) (m : Nat) (hB : B.length = 64 * m) : mixAll q (B.drop (64 * m)) = q := by
  have hl : ¬ 64 ≤ (B.drop (64 * m)).length := by rw [List.length_drop]; omega
  rw [mixAll, dif_neg hl]
def w8L (q : W8) : List UInt32 := [q.a, q.b, q.c, q.d, q.e, q.f, q.g, q.h]
theorem w8_byte (q : W8) (i : Nat) (hi : i < 32) : q.bytes[i]? = some (((w8L q).getD (i / 4) 0) >>> UInt32.ofNat (24 - 8 * (i % 4))).toUInt8 := by
  match i, hi with
  | 0, _ => rfl
  | 1, _ => rfl
  | 2, _ => rfl
  | 3, _ => simp [W8.bytes, by4, w8L]
  | 4, _ => rfl
  | 5, _ => rfl
  | 6, _ => rfl
  | 7, _ => simp [W8.bytes, by4, w8L]
  | 8, _ => rfl
  | 9, _ => rfl
  | 10, _ => rfl
  | 11, _ => simp [W8.bytes, by4, w8L]
  | 12, _ => rfl
  | 13, _ => rfl
  | 14, _ => rfl
  | 15, _ => simp [W8.bytes, by4, w8L]
  | 16, _ => rfl
  | 17, _ => rfl
  | 18, _ => rfl
  | 19, _ => simp [W8.bytes, by4, w8L]
  | 20, _ => rfl
  | 21, _ => rfl
  | 22, _ => rfl
  | 23, _ => simp [W8.bytes, by4, w8L]
  | 24, _ => rfl
  | 25, _ => rfl
  | 26, _ => rfl
  | 27, _ => simp [W8.bytes, by4, w8L]
  | 28, _ => rfl
  | 29, _ => rfl
  | 30, _ => rfl
  | 31, _ => simp [W8.bytes, by4, w8L]
  | n + 32, h => omega
theorem set_take (l : List UInt8) (i : Nat) (hl : l.length = 32) (hi : i < 32) (x : UInt8) (hx : l[i]? = some x) : (l.take i ++ List.replicate (32 - i) 0).set i x = l.take (i + 1) ++ List.replicate (32 - (i + 1)) 0 := by
  have h1 : (l.take i).length = i := by rw [List.length_take]; omega
  rw [List.set_append_right _ _ (by omega), h1, Nat.sub_self, List.take_add_one, hx]
  obtain ⟨n, hn⟩ : ∃ n, 32 - i = n + 1 := ⟨31 - i, by omega⟩
  have hn2 : 32 - (i + 1) = n := by omega
  rw [hn, hn2]
  simp [List.replicate_succ]
theorem w8_bytes_len (q : W8) : q.bytes.length = 32 := rfl

set_option maxRecDepth 100000 in
set_option maxHeartbeats 2000000 in
theorem by_calls (w : World) (hg hc kg kc : Nat) (s : ByteArray) (hs : s.size ≤ 1099511627776) (hH : UAt w hg 0 (w8L hTab)) (hK : UAt w kg 0 kTab) :
    Calls Tryd.prog 35 #[.agg #[.slice (some ⟨hg, 0, none⟩) 8 hc, .slice (some ⟨kg, 0, none⟩) 64 kc], .string s] w fun e w' => e = .returned (.agg (bcells (sha s.data.toList)).toArray) ∧ Same w w' := by
  have HH : Hid (UAt w hg 0 (w8L hTab)) := hH
  have HK : Hid (UAt w kg 0 kTab) := hK
  have HP : Hid (∀ W, Calls Tryd.prog 48 #[.string s] W fun e w' => ∃ g n cap, e = .returned (.slice (some ⟨g, 0, none⟩) n cap) ∧ BRow w' W.heap.size g n cap (s.data.toList ++ padN s.size) ∧ Same W w') := fun W => padded_calls W s hs
  clear hH hK
  go_enter Tryd.func35, Tryd.ntmps35
  go_wp2_with fail
  obtain ⟨W0, hW0⟩ : ∃ W0, W0 = (w.alloc (.cells #[.slice (some ⟨hg, 0, none⟩) 8 hc, .slice (some ⟨kg, 0, none⟩) 64 kc] 69)).alloc (.cells (bcells (List.replicate 32 0)).toArray 36) := ⟨_, rfl⟩
  have hz : (bcells (List.replicate 32 0)).toArray = #[.int .u8 0, .int .u8 0, .int .u8 0, .int .u8 0, .int .u8 0, .int .u8 0, .int .u8 0, .int .u8 0, .int .u8 0, .int .u8 0, .int .u8 0, .int .u8 0, .int .u8 0, .int .u8 0, .int .u8 0, .int .u8 0, .int .u8 0, .int .u8 0, .int .u8 0, .int .u8 0, .int .u8 0, .int .u8 0, .int .u8 0, .int .u8 0, .int .u8 0, .int .u8 0, .int .u8 0, .int .u8 0, .int .u8 0, .int .u8 0, .int .u8 0, .int .u8 0] := rfl
  rw [← hz, ← hW0]
  have s0 : Same w W0 := by rw [hW0]; exact ((Fr.refl _ w).alloc _).alloc _
  have r0 : W0.cell? ⟨w.heap.size, 0, none⟩ = some (.slice (some ⟨hg, 0, none⟩) 8 hc) := by rw [hW0]; simp
  have r1 : W0.cell? ⟨w.heap.size, 1, none⟩ = some (.slice (some ⟨kg, 0, none⟩) 64 kc) := by rw [hW0]; simp
  have rz : W0.heap[w.heap.size + 1]? = some (.cells (bcells (List.replicate 32 0)).toArray 36 (0, 0)) := by
    rw [hW0]
    have e : (w.alloc (.cells #[.slice (some ⟨hg, 0, none⟩) 8 hc, .slice (some ⟨kg, 0, none⟩) 64 kc] 69)).heap.size = w.heap.size + 1 := by simp
    rw [← e]
    exact heap_alloc_new _ _
  clear hW0 hz
  refine (HP.out W0).mono ?_
  rintro e W1 ⟨gb, nb, cb, rfl, hb, s1⟩
  have c0 := s1.keep r0
  have c1 := s1.keep r1
  have HZ : Hid (W1.heap[w.heap.size + 1]? = some (.cells (bcells (List.replicate 32 0)).toArray 36 (0, 0))) := by
    show _ = _
    rw [s1.block _ (lt_of_heap rz) (fun f => f)]; exact rz
  have HBR : Hid (BRow W1 W0.heap.size gb nb cb (s.data.toList ++ padN s.size)) := hb
  have s01 : Same w W1 := s0.trans s1
  clear r0 r1 rz hb s1 s0
  obtain ⟨B, hBd⟩ : ∃ B, B = s.data.toList ++ padN s.size := ⟨_, rfl⟩
  rw [← hBd] at HBR
  obtain ⟨m, hm⟩ : ∃ m, B.length = 64 * m := by
    refine ⟨B.length / 64, ?_⟩
    have hl : B.length = s.size + (1 + padL s.size + 8) := by rw [hBd, padN_eq, List.length_append, bytes_length]; simp; omega
    unfold padL at hl
    omega
  have hnb : nb = 64 * m := by rw [HBR.out.2.1, hm]
  have hcb : nb ≤ cb := by obtain ⟨_, _, _, _, _, _, h, _⟩ := HBR.out; exact h
  have hmb : m ≤ 1099511627776 := by
    have hl : B.length = s.size + (1 + padL s.size + 8) := by rw [hBd, padN_eq, List.length_append, bytes_length]; simp; omega
    unfold padL at hl
    omega
  have HB8 : Hid (BAt8 W1 gb 0 B) := fun j x hx => by rw [Nat.zero_add]; exact HBR.out.cell j x hx
  have HBd : Hid (B = s.data.toList ++ padN s.size ∧ B.length = 64 * m) := ⟨hBd, hm⟩
  have HMM : Hid (mixAll hTab (B.drop (64 * 0)) = mixAll hTab B) := rfl
  have UH0 : Hid (UAt W1 hg 0 (w8L hTab)) := HH.out.same s01
  have UK1 : Hid (UAt W1 kg 0 kTab) := HK.out.same s01
  have HNB : Hid (nb = 64 * m) := hnb
  clear hBd hm HBR HP hnb
  go_wp2_with fail
  go_loopg [6, 7] m (fun gg v iv wq => ∃ (k qg qc p : Nat) (q : W8), v = .slice (some ⟨qg, 0, none⟩) 8 qc ∧ iv = .int .i64 p ∧ p = 64 * k ∧ k ≤ m ∧ gg = m - k ∧ Hid (UAt wq qg 0 (w8L q)) ∧ Hid (mixAll q (B.drop (64 * k)) = mixAll hTab B) ∧ Same W1 wq)
  case atStart => exact ⟨0, hg, hc, 0, hTab, rfl, rfl, rfl, by omega, rfl, UH0, HMM, Fr.refl _ _⟩
  case round =>
    clear UH0 HMM
    obtain ⟨k, qg, qc, p, q, rfl, rfl, hp, hk, rfl, HU, HM, sr⟩ := hrel
    by_cases hgo : k < m
    · have d1 := sr.keep c1
      have hnb := HNB.out
      have hBl := HBd.out.2
      have hTk : ((B.drop (64 * k)).take 64).length = 64 := by rw [List.length_take, List.length_drop]; omega
      have HBK : Hid (∀ W bc, Same wr W → Calls Tryd.prog 49 #[.slice (some ⟨qg, 0, none⟩) 8 qc, .slice (some ⟨kg, 0, none⟩) 64 kc, .slice (some ⟨gb, p, none⟩) 64 bc] W fun e w' => ∃ g cap, e = .returned (.slice (some ⟨g, 0, none⟩) 8 cap) ∧ UAt w' g 0 (w8L (mixB q ((B.drop (64 * k)).take 64))) ∧ Same W w') := by
        intro W bc sW
        refine block_calls W qg 0 qc kg kc gb p bc q _ hTk (HU.out.same sW) ((UK1.out.same sr).same sW) ?_
        intro j x hx
        have hj : j < 64 := by have := (List.getElem?_eq_some_iff.1 hx).1; rw [hTk] at this; exact this
        have := ((HB8.out.same sr).same sW) (64 * k + j) x (by rw [List.getElem?_take, if_pos hj, List.getElem?_drop] at hx; exact hx)
        rw [Nat.zero_add, ← hp] at this
        exact this
      have HM' : Hid (mixAll (mixB q ((B.drop (64 * k)).take 64)) (B.drop (64 * (k + 1))) = mixAll hTab B) := by
        show _ = _
        rw [← mixAll_next q B k m hBl hgo]
        exact HM.out
      obtain ⟨p64, hp64⟩ : ∃ p64, p64 = p + 64 := ⟨_, rfl⟩
      have iw : IntKind.i64.wrap ((p : Int) + 64) = (p64 : Int) := by rw [IntKind.wrap_i64]; omega
      have b1 : (p : Int) < (nb : Int) := by omega
      have b1n : p < nb := by omega
      have b2 : (p : Int) ≤ (p64 : Int) := by omega
      have b3 : (p64 : Int) ≤ (cb : Int) := by omega
      have b4 : p64 - p = 64 := by omega
      have b5 : (p64 : Int) - (p : Int) = 64 := by omega
      have b6 : p ≤ p64 := by omega
      have b7 : p64 ≤ cb := by omega
      have b8 : ¬ cb = p := by omega
      have b9 : (0 : Int) ≤ (p : Int) := by omega
      have b10 : (0 : Int) ≤ (p64 : Int) := by omega
      have HPK : Hid (p = 64 * k ∧ p64 = p + 64 ∧ nb = 64 * m) := ⟨hp, hp64, hnb⟩
      clear HU HM hTk hBl hp hp64 hnb b4 b5 b6 b7
      have b4 : p64 - p = 64 := by have := HPK.out.2.1; omega
      go_wp2_with fail
      go_region_held3 (fun w' => w'.cell? ⟨w.heap.size, 1, none⟩ = some (.slice (some ⟨kg, 0, none⟩) 64 kc)) (first | go_keep | exact d2) (first | (go_at_call 49; refine (HBK.out _ _ ((Fr.refl _ wr).drew)).mono ?_; rintro e W2 ⟨g2, cap2, rfl, U2, s2⟩; have d2 := s2.keep (Same.keep ((Fr.refl _ wr).drew) d1)))
      have s3 : Same W1 W2 := Same.trans (sr.drew) s2
      have HU2 : Hid (UAt W2 g2 0 (w8L (mixB q ((B.drop (64 * k)).take 64)))) := U2
      clear U2 s2 d2 d1 HBK
      go_wp2_with fail
      go_roundg (m - (k + 1))
      case measure => omega
      case rel => exact ⟨k + 1, g2, cap2, p64, _, rfl, by first | rfl | (have := HPK.out.2.1; simp; omega), by have := HPK.out; omega, by omega, rfl, HU2, HM', s3⟩
    · obtain rfl : k = m := by omega
      have hpn : p = nb := by rw [HNB.out, hp]
      subst hpn
      clear hp hk hgo
      have hq : q = mixAll hTab B := by rw [← mixAll_done q B k HBd.out.2]; exact HM.out
      have HQ : Hid (q.bytes = sha s.data.toList) := by
        show _ = _
        rw [hq, HBd.out.1]
        unfold sha
        rw [bytes_length]
      have d0 : Hid (wr.heap[w.heap.size + 1]? = some (.cells (bcells (List.replicate 32 0)).toArray 36 (0, 0))) := by
        show _ = _
        rw [sr.block _ (lt_of_heap HZ.out) (fun f => f)]; exact HZ.out
      have s02 : Same w wr := s01.trans sr
      have hlt2 : w.heap.size + 1 < wr.heap.size := lt_of_heap d0.out
      clear hq HM HZ sr s01 HB8 UK1 HBd HNB c0 c1
      go_wp2_with fail
      obtain ⟨D, hD⟩ : ∃ D, D = wr.heap.size := ⟨_, rfl⟩
      obtain ⟨W3, hW3⟩ : ∃ W3, W3 = wr.alloc (.cells (bcells (List.replicate 32 0)).toArray 36) := ⟨_, rfl⟩
      have hz : (bcells (List.replicate 32 0)).toArray = #[.int .u8 0, .int .u8 0, .int .u8 0, .int .u8 0, .int .u8 0, .int .u8 0, .int .u8 0, .int .u8 0, .int .u8 0, .int .u8 0, .int .u8 0, .int .u8 0, .int .u8 0, .int .u8 0, .int .u8 0, .int .u8 0, .int .u8 0, .int .u8 0, .int .u8 0, .int .u8 0, .int .u8 0, .int .u8 0, .int .u8 0, .int .u8 0, .int .u8 0, .int .u8 0, .int .u8 0, .int .u8 0, .int .u8 0, .int .u8 0, .int .u8 0, .int .u8 0] := rfl
      rw [← hz, ← hW3, ← hD]
      have s3 : Same w W3 := by rw [hW3]; exact s02.alloc _
      have R3 : Hid (W3.heap[D]? = some (.cells (bcells (q.bytes.take 0 ++ List.replicate (32 - 0) 0)).toArray 36 (0, 0))) := by
        show _ = _
        rw [hW3, hD]; exact heap_alloc_new wr _
      have Z3 : Hid (W3.heap[w.heap.size + 1]? = some (.cells (bcells (List.replicate 32 0)).toArray 36 (0, 0))) := by
        show _ = _
        rw [hW3, heap_alloc_old wr _ hlt2]; exact d0.out
      have U3 : Hid (UAt W3 qg 0 (w8L q)) := by
        rw [hW3]; exact HU.out.same ((Fr.refl _ wr).alloc _)
      have hDq : Hid (w.heap.size + 1 < D ∧ qg < D) := by
        refine ⟨by omega, ?_⟩
        rw [hD]
        exact World.block_lt_of_cell? wr _ (HU.out 0 _ rfl)
      clear hW3 hz hD s02 d0 HU hlt2
      go_loopg [9] 32 (fun gg iv wq => ∃ i : Nat, iv = .int .i64 i ∧ i ≤ 32 ∧ gg = 32 - i ∧ Hid (wq.heap[D]? = some (.cells (bcells (q.bytes.take i ++ List.replicate (32 - i) 0)).toArray 36 (0, 0))) ∧ Hid (wq.heap[w.heap.size + 1]? = some (.cells (bcells (List.replicate 32 0)).toArray 36 (0, 0))) ∧ Hid (UAt wq qg 0 (w8L q)) ∧ Same w wq)
      case atStart => exact ⟨0, rfl, by omega, rfl, R3, Z3, U3, s3⟩
      case round =>
        clear R3 Z3 U3 s3
        obtain ⟨i, rfl, hi, rfl, R3, Z3, U3, s3⟩ := hrel
        by_cases hgo : i < 32
        · obtain ⟨a, ha⟩ : ∃ a, a = i / 4 := ⟨_, rfl⟩
          obtain ⟨r, hr⟩ : ∃ r, r = i % 4 := ⟨_, rfl⟩
          obtain ⟨sh, hsh⟩ : ∃ z, z = 24 - 8 * r := ⟨_, rfl⟩
          have e1 : (i : Int) / 4 = (a : Int) := by omega
          have e2 : (i : Int) % 4 = (r : Int) := by omega
          have e3 : 24 - 8 * (r : Int) = (sh : Int) := by omega
          have a8 : a < 8 := by omega
          have sh32 : sh < 32 := by omega
          have cx := U3.out.get a (by show a < 8; exact a8)
          rw [Nat.zero_add] at cx
          have hbyte := w8_byte q i hgo
          rw [← ha, ← hr, ← hsh] at hbyte
          obtain ⟨x, hx⟩ : ∃ x, x = (w8L q).getD a 0 := ⟨_, rfl⟩
          rw [← hx] at cx hbyte
          obtain ⟨b, hb⟩ : ∃ b, b = (x >>> UInt32.ofNat sh).toUInt8 := ⟨_, rfl⟩
          rw [← hb] at hbyte
          have e4 : (x.toNat : Int) / 2 ^ sh % 256 = (b.toNat : Int) := by
            rw [hb, UInt32.toNat_toUInt8, Int.natCast_emod, ← r32 x sh sh32]
            simp
          have kd : wr.cell? ⟨D, i, none⟩ = some (.int .u8 (((q.bytes.take i ++ List.replicate (32 - i) 0).getD i 0).toNat : Int)) := by
            rw [cell_of_row _ _ _ _ _ _ R3.out]
            have hl : (q.bytes.take i ++ List.replicate (32 - i) 0).length = 32 := by rw [List.length_append, List.length_take, w8_bytes_len, List.length_replicate]; omega
            rw [List.getElem?_toArray, bcells, List.getElem?_map, List.getD_eq_getElem?_getD, List.getElem?_eq_getElem (by rw [hl]; exact hgo)]
            rfl
          have kf := frozen_of_row wr D i _ _ R3.out
          have HN : Hid ((wr.setCell ⟨D, i, none⟩ (.int .u8 b.toNat)).heap[D]? = some (.cells (bcells (q.bytes.take (i + 1) ++ List.replicate (32 - (i + 1)) 0)).toArray 36 (0, 0))) := by
            show _ = _
            rw [brow_set R3.out, set_take _ i (w8_bytes_len q) hgo b hbyte]
          have HZ' : Hid ((wr.setCell ⟨D, i, none⟩ (.int .u8 b.toNat)).heap[w.heap.size + 1]? = some (.cells (bcells (List.replicate 32 0)).toArray 36 (0, 0))) := by
            show _ = _
            exact (Below.heap_setCell wr ⟨D, i, none⟩ (.int .u8 b.toNat) (w.heap.size + 1) (by have := hDq.out.1; simp; omega)).trans Z3.out
          have HU' : Hid (UAt (wr.setCell ⟨D, i, none⟩ (.int .u8 b.toNat)) qg 0 (w8L q)) := by
            intro j y hy
            rw [World.cell?_of_block (w := wr) (Below.heap_setCell wr ⟨D, i, none⟩ (.int .u8 b.toNat) qg (by have := hDq.out.2; simp; omega))]
            exact U3.out j y hy
          have s4 : Same w (wr.setCell ⟨D, i, none⟩ (.int .u8 b.toNat)) := s3.setCell (p := ⟨D, i, none⟩) (fun h => by have := hDq.out.1; simp only at h; omega) _
          have r4 : (r : Int) < 4 := by omega
          clear ha hr hsh hx hb hbyte R3 Z3 U3
          generalize (q.bytes.take i ++ List.replicate (32 - i) 0).getD i 0 = old at *
          go_wp2_with fail
          go_roundg (32 - (i + 1))
          case measure => omega
          case rel => exact ⟨i + 1, by go_num, by omega, rfl, HN, HZ', HU', s4⟩
        · obtain rfl : i = 32 := by omega
          have R4 := R3.out
          have ht : q.bytes.take 32 ++ List.replicate (32 - 32) 0 = sha s.data.toList := by
            rw [← HQ.out, List.take_of_length_le (by rw [w8_bytes_len]; omega)]
            simp
          rw [ht] at R4
          obtain ⟨X, hX⟩ : ∃ X, X = (bcells (sha s.data.toList)).toArray := ⟨_, rfl⟩
          obtain ⟨Z, hZ⟩ : ∃ Z, Z = (bcells (List.replicate 32 0)).toArray := ⟨_, rfl⟩
          have Z4 := Z3.out
          rw [← hX] at R4
          have HXh : Hid (X = (bcells (sha s.data.toList)).toArray) := hX
          rw [← hZ] at Z4
          have hXs : X.size = 32 := by rw [hX, ← HQ.out]; rfl
          have hZs : Z.size = 32 := by rw [hZ]; rfl
          have hXsz : (Tryd.prog.info? 36).map (·.size) = some X.size := by rw [Tryd.ainfoD, hXs]
          have hXone := bcells_one (sha s.data.toList)
          rw [← hX] at hXone
          have HRES : Hid (∀ (tmps : Array Value) (W : World), W.heap[w.heap.size + 1]? = some (.cells X 36 (0, 0)) → tmps.getD 4 undef = .pointer (some ⟨w.heap.size + 1, 0, none⟩) → (results Tryd.f35 tmps).run Tryd.prog W = .ok (.agg X) W) := fun tmps W h hp => results_cell_row (p := 4) (ty := 36) (by kernel_rfl) tmps _ (w.heap.size + 1) 36 _ (0, 0) _ hp h Tryd.underlying36 rfl hXsz
          clear hX hZ ht R3 Z3 U3 HQ
          go_wp2_with (first | (refine wpList_load_row (by rfl) 36 _ (by rfl) D (by rfl) 36 X (0, 0) _ R4 Tryd.underlying36 rfl hXsz ?_) | (refine wpList_store_whole (by rfl) 36 _ _ (by rfl) (w.heap.size + 1) X Z 36 (by rfl) (by rfl) Z4 (by rw [hXs, hZs]) hXsz hXone ?_; intro W5 r5 f5))
          exact bodyPost_ret (HRES.out _ _ r5 rfl) rfl ⟨by rw [HXh.out], Fr.trans s3 f5 (fun i hi e => by omega)⟩

set_option maxRecDepth 100000 in
theorem rsum_calls (w : World) (s : ByteArray) (hs : s.size ≤ 1099511627776) : Calls Tryd.prog 15 #[.string s] w fun e w' => e = .returned (.agg (bcells (sha s.data.toList)).toArray) ∧ Same w w' := by
  obtain ⟨X, hX⟩ : ∃ X, X = (bcells (sha s.data.toList)).toArray := ⟨_, rfl⟩
  have HB : Hid (∀ W hg hc kg kc, UAt W hg 0 (w8L hTab) → UAt W kg 0 kTab → Calls Tryd.prog 35 #[.agg #[.slice (some ⟨hg, 0, none⟩) 8 hc, .slice (some ⟨kg, 0, none⟩) 64 kc], .string s] W fun e w' => e = .returned (.agg X) ∧ Same W w') := by
    rw [hX]; exact fun W hg hc kg kc h1 h2 => by_calls W hg hc kg kc s hs h1 h2
  rw [← hX]
  have hXs : X.size = 32 := by rw [hX]; rfl
  have hXsz : (Tryd.prog.info? 36).map (·.size) = some X.size := by rw [Tryd.ainfoD, hXs]
  have hXone := bcells_one (sha s.data.toList)
  rw [← hX] at hXone
  have HRES : Hid (∀ (tmps : Array Value) (W : World), W.heap[w.heap.size]? = some (.cells X 36 (0, 0)) → tmps.getD 2 undef = .pointer (some ⟨w.heap.size, 0, none⟩) → (results Tryd.f15 tmps).run Tryd.prog W = .ok (.agg X) W) := fun tmps W h hp => results_cell_row (p := 2) (ty := 36) (by kernel_rfl) tmps _ w.heap.size 36 _ (0, 0) _ hp h Tryd.underlying36 rfl hXsz
  clear hX
  go_enter Tryd.func15, Tryd.ntmps15
  go_wp2_with fail
  refine (table_calls _).mono ?_
  rintro e W1 ⟨hg, hc, kg, kc, rfl, uh, uk, s1⟩
  obtain ⟨Z, r1, hZ⟩ : ∃ Z : Array Value, W1.heap[w.heap.size]? = some (.cells Z 36 (0, 0)) ∧ Z.size = 32 := ⟨_, (s1.block _ (by simp) (fun f => f)).trans (heap_alloc_new w _), rfl⟩
  have s01 : Same w W1 := Fr.trans ((Fr.refl _ w).alloc _) s1 (fun _ _ f => f)
  have HBY := HB.out W1 hg hc kg kc uh uk
  clear s1 uh uk
  go_wp2_with fail
  refine HBY.mono ?_
  rintro e W2 ⟨rfl, s2⟩
  have r2 : W2.heap[w.heap.size]? = some (.cells Z 36 (0, 0)) := by rw [s2.block _ (lt_of_heap r1) (fun f => f)]; exact r1
  have s02 := s01.trans s2
  clear r1 s2 s01
  go_wp2_with (first | (refine wpList_store_whole (by rfl) 36 _ _ (by rfl) w.heap.size X Z 36 (by rfl) (by rfl) r2 (by rw [hXs, hZ]) hXsz hXone ?_; intro W5 r5 f5))
  exact bodyPost_ret (HRES.out _ _ r5 rfl) rfl ⟨rfl, Fr.trans s02 f5 (fun i hi e => by omega)⟩
end Go.Proofs.YthkhfblpdekjhaaDoor
