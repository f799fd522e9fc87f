/- A Reader that a call has made; whole. -/
import Derived.Test.YtajpgopgohadeaaDoorG3
import Derived.Test.YtajpgopgohadeaaDoorWA
namespace Go.Proofs.YtajpgopgohadeaaDoor
open Go.RowKit

/-- A Reader at b that was made since w: of s, at the place p, without a fault. -/
def RSt (w W : World) (b : Nat) (s : ByteArray) (p : Nat) : Prop := RdAt W b s p 0 ∧ w.heap.size ≤ b ∧ Same w W
theorem RSt.step {w W W' : World} {b : Nat} {s : ByteArray} {p p' : Nat} (h : RSt w W b s p) (h' : RdAt W' b s p' 0) (st : RdStep b W W') : RSt w W' b s p' :=
  ⟨h', h.2.1, Fr.trans h.2.2 st (fun i hi e => by have := h.2.1; omega)⟩
theorem rst_open (w : World) (s : ByteArray) (hs : s.size ≤ 281474976710656) : RSt w (w.alloc (.cells #[.bool true, .string s, .int .i64 0, .int .i64 0] 121)) w.heap.size s 0 :=
  ⟨⟨heap_alloc_new w _, Nat.zero_le _, hs⟩, Nat.le_refl _, (Fr.refl _ w).alloc _⟩
theorem rRaw_ok (s : ByteArray) (p n : Nat) (h : p + n ≤ s.size) : rRaw s p 0 (n : Int) = (s.extract p (p + n), p + n, 0) := by
  unfold rRaw
  rw [if_pos rfl, Int.toNat_natCast, if_neg (by omega)]
/-- The number that some bytes of s are. -/
def beAt (s : ByteArray) (p n : Nat) : Nat := beN (s.extract p (p + n)).data.toList
theorem extract_len (s : ByteArray) (p n : Nat) (h : p + n ≤ s.size) : (s.extract p (p + n)).data.toList.length = n := by
  rw [bytes_length, ByteArray.size_extract]; omega
theorem beAt_lt (s : ByteArray) (p n : Nat) (h : p + n ≤ s.size) : beAt s p n < 256 ^ n := by
  have := beN_lt (s.extract p (p + n)).data.toList
  rw [extract_len s p n h] at this
  exact this
theorem rst_raw {w W : World} {b : Nat} {s : ByteArray} {p : Nat} (n : Nat) (hn : n ≤ 1000000) (hp : p + n ≤ s.size) (h : RSt w W b s p) :
    Calls Tryd.prog 49 #[.pointer (some ⟨b, 0, none⟩), .int .i64 n] W fun e w' => e = .returned (.string (s.extract p (p + n))) ∧ RSt w w' b s (p + n) := by
  have hr := rraw_calls h.1 (n : Int) (by omega)
  rw [rRaw_ok s p n hp] at hr
  exact hr.mono fun e w' ⟨he, h', st⟩ => ⟨he, h.step h' st⟩
theorem rst_u16 {w W : World} {b : Nat} {s : ByteArray} {p : Nat} (hp : p + 2 ≤ s.size) (h : RSt w W b s p) :
    Calls Tryd.prog 51 #[.pointer (some ⟨b, 0, none⟩)] W fun e w' => e = .returned (.int .u16 (beAt s p 2)) ∧ RSt w w' b s (p + 2) := by
  have hr := take_u16 h.1
  have e := rRaw_ok s p 2 hp
  rw [show (((2 : Nat)) : Int) = 2 from rfl] at e
  rw [e] at hr
  have hl := beAt_lt s p 2 hp
  have hw : IntKind.u16.wrap (beN (s.extract p (p + 2)).data.toList : Nat) = (beAt s p 2 : Int) := by
    have : beN (s.extract p (p + 2)).data.toList = beAt s p 2 := rfl
    rw [this, IntKind.wrap_u16]
    omega
  simp only [hw] at hr
  exact hr.mono fun e w' ⟨he, h', st⟩ => ⟨he, h.step h' st⟩
theorem rst_u32 {w W : World} {b : Nat} {s : ByteArray} {p : Nat} (hp : p + 4 ≤ s.size) (h : RSt w W b s p) :
    Calls Tryd.prog 47 #[.pointer (some ⟨b, 0, none⟩)] W fun e w' => e = .returned (.int .u32 (beAt s p 4)) ∧ RSt w w' b s (p + 4) := by
  have hr := take_u32 h.1
  have e := rRaw_ok s p 4 hp
  rw [show (((4 : Nat)) : Int) = 4 from rfl] at e
  rw [e] at hr
  have hl := beAt_lt s p 4 hp
  have hw : IntKind.u32.wrap (beN (s.extract p (p + 4)).data.toList : Nat) = (beAt s p 4 : Int) := by
    have : beN (s.extract p (p + 4)).data.toList = beAt s p 4 := rfl
    rw [this, IntKind.wrap_u32]
    omega
  simp only [hw] at hr
  exact hr.mono fun e w' ⟨he, h', st⟩ => ⟨he, h.step h' st⟩
theorem rst_u64 {w W : World} {b : Nat} {s : ByteArray} {p : Nat} (hp : p + 8 ≤ s.size) (h : RSt w W b s p) :
    Calls Tryd.prog 52 #[.pointer (some ⟨b, 0, none⟩)] W fun e w' => e = .returned (.int .u64 (beAt s p 8)) ∧ RSt w w' b s (p + 8) := by
  have hr := take_u64 h.1
  have e := rRaw_ok s p 8 hp
  rw [show (((8 : Nat)) : Int) = 8 from rfl] at e
  rw [e] at hr
  have hl := beAt_lt s p 8 hp
  have hw : IntKind.u64.wrap (beN (s.extract p (p + 8)).data.toList : Nat) = (beAt s p 8 : Int) := by
    have : beN (s.extract p (p + 8)).data.toList = beAt s p 8 := rfl
    rw [this, IntKind.wrap_u64]
    omega
  simp only [hw] at hr
  exact hr.mono fun e w' ⟨he, h', st⟩ => ⟨he, h.step h' st⟩
theorem rst_pkind {w W : World} {b : Nat} {s : ByteArray} {p : Nat} (hp : p + 1 ≤ s.size) (h : RSt w W b s p) :
    Calls Tryd.prog 50 #[.pointer (some ⟨b, 0, none⟩)] W fun e w' => e = .returned (.int .u8 (beAt s p 1)) ∧ RSt w w' b s (p + 1) := by
  have hr := take_pkind h.1
  have e := rRaw_ok s p 1 hp
  rw [show (((1 : Nat)) : Int) = 1 from rfl] at e
  rw [e] at hr
  have hl := beAt_lt s p 1 hp
  have hw : IntKind.u8.wrap (beN (s.extract p (p + 1)).data.toList : Nat) = (beAt s p 1 : Int) := by
    have : beN (s.extract p (p + 1)).data.toList = beAt s p 1 := rfl
    rw [this, IntKind.wrap_u8]
    omega
  simp only [hw] at hr
  exact hr.mono fun e w' ⟨he, h', st⟩ => ⟨he, h.step h' st⟩

/-- Whether the sum that stands in s is that of all else. -/
def wholeB (s : ByteArray) : Bool := decide (beAt s 28 4 = (crcP [s.extract 0 28, s.extract 32 s.size]).toNat)
set_option maxRecDepth 100000 in
set_option maxHeartbeats 2000000 in
theorem whole_calls (s : ByteArray) (hs : 32 ≤ s.size) (hl : s.size ≤ 1000000) (w : World) (ht : TabAt w) :
    Calls Tryd.prog 31 #[.string s] w fun e w' => e = .returned (.bool (wholeB s)) ∧ Same w w' := by
  have a1 : (28 : Int) ≤ (s.size : Int) := by omega
  have a2 : (32 : Int) ≤ (s.size : Int) := by omega
  obtain ⟨t, htt⟩ : ∃ t, t = s.extract 28 s.size := ⟨_, rfl⟩
  have hts : t.size = s.size - 28 := by rw [htt, ByteArray.size_extract]; omega
  have heq : beAt t 0 4 = beAt s 28 4 := by
    have e : t.extract 0 4 = s.extract 28 32 := by
      rw [htt]
      apply ByteArray.ext
      simp only [ByteArray.data_extract, Array.extract_extract]
      congr 1
      omega
    unfold beAt
    rw [show 0 + 4 = 4 from rfl, e]
  obtain ⟨H, hH⟩ : ∃ H, H = s.extract 0 28 := ⟨_, rfl⟩
  obtain ⟨R, hR⟩ : ∃ R, R = s.extract 32 s.size := ⟨_, rfl⟩
  have hHs : H.size = 28 := by rw [hH, ByteArray.size_extract]; omega
  have hRs : R.size = s.size - 32 := by rw [hR, ByteArray.size_extract]; omega
  have HW : Hid (wholeB s = decide (beAt s 28 4 = (crcP [H, R]).toNat)) := by show _ = _; rw [hH, hR]; rfl
  obtain ⟨C, hC⟩ : ∃ C : UInt32, C = crcP [H, R] := ⟨_, rfl⟩
  have HCR : Hid (∀ (W : World) (ab : Nat), TabAt W → W.cell? ⟨ab, 0, none⟩ = some (.string H) → W.cell? ⟨ab, 1, none⟩ = some (.string R) → Calls Tryd.prog 28 #[.slice (some ⟨ab, 0, none⟩) 2 2] W fun e w' => e = .returned (.int .u32 C.toNat) ∧ w' = W) := by
    intro W ab hT h1 h2
    rw [hC]
    exact crc_calls W hT [H, R] (some ⟨ab, 0, none⟩) ab 0 2 (fun _ => rfl) (by
      intro i x hx
      match i, hx with
      | 0, hx => simp at hx; subst hx; simpa using h1
      | 1, hx => simp at hx; subst hx; simpa using h2
      | i + 2, hx => simp at hx) (by intro s hs; simp at hs; rcases hs with rfl | rfl <;> omega) (by simp)
  rw [← hC] at HW
  obtain ⟨N, hN⟩ : ∃ N, N = beAt s 28 4 := ⟨_, rfl⟩
  rw [← hN] at HW heq
  have HO : Hid (∀ W : World, RSt W (W.alloc (.cells #[.bool true, .string t, .int .i64 0, .int .i64 0] 121)) W.heap.size t 0) := fun W => rst_open W t (by omega)
  have HT4 : Hid (∀ (W V : World) (b : Nat), RSt V W b t 0 → Calls Tryd.prog 47 #[.pointer (some ⟨b, 0, none⟩)] W fun e w' => e = .returned (.int .u32 N) ∧ RSt V w' b t (0 + 4)) := fun W V b h => by
    have := rst_u32 (by omega) h
    rw [heq] at this
    exact this
  have HT : Hid (TabAt w) := ht
  rw [HW.out]
  have hfin : ∀ (x y : Nat), ((x : Int) == (y : Int)) = decide (x = y) := by intro x y; rw [Bool.eq_iff_iff, beq_iff_eq, decide_eq_true_eq]; omega
  have hfinN := hfin N C.toNat
  generalize decide (N = C.toNat) = BB at *
  clear ht hC hN hHs hRs hts heq hs hl HW hfin
  go_enter Tryd.func31, Tryd.ntmps31
  go_wp2_with fail
  rw [← htt]
  refine (open_calls w t).mono ?_
  rintro e W1 ⟨rfl, hW1⟩
  have K1 : RSt w W1 w.heap.size t 0 := by rw [hW1]; exact HO.out w
  clear hW1
  go_wp2_with fail
  refine (HT4.out _ _ _ K1).mono ?_
  rintro e W2 ⟨rfl, K2⟩
  have s2 := K2.2.2
  clear K1 K2 HT4 HO htt
  go_wp2_with fail
  have hsx : ∀ o : Obj, Same w (W2.alloc o).drew := fun o => Fr.drew (Fr.alloc s2 o)
  go_region_held3 (fun _ => True) (trivial) (first | (go_at_call 28; refine (HCR.out _ _ (HT.out.same (hsx _)) (by rw [hH]; simp) (by rw [hR]; simp)).mono ?_; rintro e W3 ⟨rfl, hW3⟩))
  go_wp2_with fail
  go_ret
  exact ⟨rfl, hsx _⟩
end Go.Proofs.YtajpgopgohadeaaDoor
