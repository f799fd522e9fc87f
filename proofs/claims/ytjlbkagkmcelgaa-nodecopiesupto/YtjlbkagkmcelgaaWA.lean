/-
  Walks: Take.
-/
import Derived.Test.YtjlbkagkmcelgaaW9
import Derived.Test.YtjlbkagkmcelgaaS0
namespace Go.Proofs.Ytjlbkagkmcelgaa
open Go.RowKit

/-- The number whose bytes stand there, the highest first. -/
def beN (l : List UInt8) : Nat := l.foldl (fun x b => x * 256 + b.toNat) 0
theorem beN_snoc (l : List UInt8) (c : UInt8) : beN (l ++ [c]) = beN l * 256 + c.toNat := by simp [beN]
theorem beF_lt (l : List UInt8) (a : Nat) : l.foldl (fun x b => x * 256 + b.toNat) a < (a + 1) * 256 ^ l.length := by
  induction l generalizing a with
  | nil => simp
  | cons c l ih =>
    have h1 := ih (a * 256 + c.toNat)
    have h2 := c.toNat_lt
    have h3 : (a * 256 + c.toNat + 1) * 256 ^ l.length ≤ ((a + 1) * 256) * 256 ^ l.length := Nat.mul_le_mul_right _ (by omega)
    simp only [List.foldl_cons, List.length_cons]
    rw [Nat.pow_succ, Nat.mul_comm (256 ^ l.length) 256, ← Nat.mul_assoc]
    omega
theorem beN_lt (l : List UInt8) : beN l < 256 ^ l.length := by have := beF_lt l 0; unfold beN; simpa using this
theorem take_snoc (s : ByteArray) (k : Nat) (h : k < s.size) : s.data.toList.take (k + 1) = s.data.toList.take k ++ [s[k]] := by
  rw [List.take_succ_eq_append_getElem (by rw [bytes_length]; exact h)]; rfl
theorem or_byte (x c : Nat) (hx : x * 256 < 18446744073709551616) (hc : c < 256) : bits .or .u64 ((x : Int) * 256) (c : Int) = ((x * 256 + c : Nat) : Int) := by
  rw [show ((x : Int) * 256) = ((x * 256 : Nat) : Int) from by omega, u64_or_nat _ _ hx (by omega)]
  rw [show x * 256 = 2 ^ 8 * x from by omega, Nat.two_pow_add_eq_or_of_lt hc]

theorem str_bytes {P : Program} (w : World) (src dst e : TypeId) (s : ByteArray) (hs : P.underlying src = some .string) (hd : P.underlying dst = some (.slice e)) (he : P.underlying e = some (.int .u8)) :
    ∃ cs cap fr, (convert src dst (.string s)).run P w = .ok (.slice (some ⟨w.heap.size, 0, none⟩) s.size cap) (w.drew.alloc (.cells cs e fr)) ∧ ∀ k (h : k < s.size), (w.drew.alloc (.cells cs e fr)).cell? ⟨w.heap.size, k, none⟩ = some (.int .u8 s[k].toNat) := by
  refine ⟨_, _, _, run_bytes_of_string w src dst e s hs hd he, ?_⟩
  intro k h
  have hb := heap_alloc_new w.drew (.cells (bytesRow s (grownCap w s.size 0 e)) e ((bytesRow s (grownCap w s.size 0 e)).size, (bytesRow s (grownCap w s.size 0 e)).size + 1))
  show World.cell? _ ⟨w.drew.heap.size, k, none⟩ = _
  rw [cell_of_row _ _ _ _ _ _ hb]
  have h' : k < s.data.size := h
  unfold bytesRow
  rw [Array.getElem?_append_left (by simpa using h'), Array.getElem?_map, Array.getElem?_eq_getElem h']
  rfl

theorem rRaw_size (s : ByteArray) (p c : Nat) (n : Int) : (rRaw s p c n).1.size ≤ n.toNat := by
  unfold rRaw; split
  · split
    · simp [ByteArray.size]
    · simp; omega
  · simp [ByteArray.size]

set_option maxRecDepth 100000 in
set_option maxHeartbeats 1000000 in
theorem take_u8 {w : World} {b : Nat} {s : ByteArray} {p c : Nat} (h : RdAt w b s p c) :
    Calls Try.prog 71 #[.pointer (some ⟨b, 0, none⟩)] w fun e w' => e = .returned (.int .u8 (IntKind.u8.wrap (beN (rRaw s p c 1).1.data.toList))) ∧ RdAt w' b s (rRaw s p c 1).2.1 (rRaw s p c 1).2.2 ∧ RdStep b w w' := by
  have HR0 := rraw_calls h 1 (by decide)
  have hsz : (rRaw s p c 1).1.size ≤ 1 := rRaw_size s p c 1
  obtain ⟨t, p', c', hr⟩ : ∃ t p' c', rRaw s p c 1 = (t, p', c') := ⟨_, _, _, rfl⟩
  rw [hr] at HR0 hsz
  rw [hr]
  have HR : Hid (Calls Try.prog 81 #[.pointer (some ⟨b, 0, none⟩), .int .i64 1] w fun e w' => e = .returned (.string t) ∧ RdAt w' b s p' c' ∧ RdStep b w w') := HR0
  clear HR0 hr
  simp only at hsz
  go_enter Try.func71, Try.ntmps71
  go_wp2_with (go_at_call 65; refine (size_u8 _).mono ?_; rintro e w' ⟨rfl, rfl⟩)
  refine HR.out.mono ?_
  rintro e w1 ⟨rfl, h1, st1⟩
  obtain ⟨cs, cap, fr, hcv, hcell⟩ := str_bytes (P := Try.prog) w1 9 44 5 t Try.underlying9 Try.underlying44 Try.underlying5
  have HX : Hid (∀ k (h : k < t.size), (w1.alloc (.cells cs 5 fr)).cell? ⟨w1.heap.size, k, none⟩ = some (.int .u8 t[k].toNat)) := hcell
  clear hcell
  go_wp2_with fail
  go_loop [3, 11] (fun xv iv => ∃ k : Nat, k ≤ t.size ∧ iv = .int .i64 k ∧ xv = .int .u64 (beN (t.data.toList.take k))) (fun _ iv => t.size - (intOf iv).toNat)
  case atStart => exact ⟨0, by omega, rfl, rfl⟩
  case round =>
    obtain ⟨k, hk, rfl, rfl⟩ := hrel
    by_cases hlt : k < t.size
    · have hcx := HX.out k hlt
      have hx1 := beN_lt (t.data.toList.take k)
      have hx2 : 256 ^ (t.data.toList.take k).length ≤ 256 ^ 7 := Nat.pow_le_pow_right (by decide) (by rw [List.length_take]; omega)
      have HS := beN_snoc (t.data.toList.take k) t[k]
      rw [← take_snoc t k hlt] at HS
      obtain ⟨x, hx⟩ : ∃ x, x = beN (t.data.toList.take k) := ⟨_, rfl⟩
      rw [← hx] at hx1 HS ⊢
      have hx3 : x * 256 < 18446744073709551616 := by omega
      have htk : t[k].toNat < 256 := t[k].toNat_lt
      have hor := or_byte x t[k].toNat hx3 htk
      have HS' : Hid (beN (t.data.toList.take (k + 1)) = x * 256 + t[k].toNat) := HS
      clear HS hx hx1 hx2
      go_wp2
      go_round
      case rel => exact ⟨k + 1, by omega, by go_num, by rw [HS'.out]; go_num⟩
      case measure => simp [intOf]; omega
    · have hke : k = t.size := by omega
      have hx1 := beN_lt (t.data.toList.take k)
      have hx2 : 256 ^ (t.data.toList.take k).length ≤ 256 ^ 1 := Nat.pow_le_pow_right (by decide) (by rw [List.length_take]; omega)
      have hte : t.data.toList.take k = t.data.toList := by rw [List.take_of_length_le]; rw [bytes_length]; omega
      rw [hte] at hx1 hx2 ⊢
      obtain ⟨x, hx⟩ : ∃ x, x = beN t.data.toList := ⟨_, rfl⟩
      rw [← hx] at hx1 ⊢
      have hx3 : x < 256 ^ 1 := by omega
      have HE : Hid (x = beN t.data.toList) := hx
      clear hx hx1 hx2 hte
      go_wp2
      go_ret
      refine ⟨?_, h1.same ((Fr.refl _ w1).drew.alloc _), st1.trans ((Fr.refl _ w1).drew.alloc _)⟩
      refine ret_int ?_
      have e := HE.out
      subst e
      first
        | rfl
        | (rw [IntKind.wrap_u8]; omega)
        | (rw [IntKind.wrap_u16]; omega)
        | (rw [IntKind.wrap_u32]; omega)
        | (rw [IntKind.wrap_u64]; omega)
        | (unfold wrap32; rw [IntKind.wrap_i32])
        | (unfold wrap64; rw [IntKind.wrap_i64])
set_option maxRecDepth 100000 in
set_option maxHeartbeats 1000000 in
theorem take_u32 {w : World} {b : Nat} {s : ByteArray} {p c : Nat} (h : RdAt w b s p c) :
    Calls Try.prog 63 #[.pointer (some ⟨b, 0, none⟩)] w fun e w' => e = .returned (.int .u32 (IntKind.u32.wrap (beN (rRaw s p c 4).1.data.toList))) ∧ RdAt w' b s (rRaw s p c 4).2.1 (rRaw s p c 4).2.2 ∧ RdStep b w w' := by
  have HR0 := rraw_calls h 4 (by decide)
  have hsz : (rRaw s p c 4).1.size ≤ 4 := rRaw_size s p c 4
  obtain ⟨t, p', c', hr⟩ : ∃ t p' c', rRaw s p c 4 = (t, p', c') := ⟨_, _, _, rfl⟩
  rw [hr] at HR0 hsz
  rw [hr]
  have HR : Hid (Calls Try.prog 81 #[.pointer (some ⟨b, 0, none⟩), .int .i64 4] w fun e w' => e = .returned (.string t) ∧ RdAt w' b s p' c' ∧ RdStep b w w') := HR0
  clear HR0 hr
  simp only at hsz
  go_enter Try.func63, Try.ntmps63
  go_wp2_with (go_at_call 80; refine (size_u32 _).mono ?_; rintro e w' ⟨rfl, rfl⟩)
  refine HR.out.mono ?_
  rintro e w1 ⟨rfl, h1, st1⟩
  obtain ⟨cs, cap, fr, hcv, hcell⟩ := str_bytes (P := Try.prog) w1 9 44 5 t Try.underlying9 Try.underlying44 Try.underlying5
  have HX : Hid (∀ k (h : k < t.size), (w1.alloc (.cells cs 5 fr)).cell? ⟨w1.heap.size, k, none⟩ = some (.int .u8 t[k].toNat)) := hcell
  clear hcell
  go_wp2_with fail
  go_loop [3, 11] (fun xv iv => ∃ k : Nat, k ≤ t.size ∧ iv = .int .i64 k ∧ xv = .int .u64 (beN (t.data.toList.take k))) (fun _ iv => t.size - (intOf iv).toNat)
  case atStart => exact ⟨0, by omega, rfl, rfl⟩
  case round =>
    obtain ⟨k, hk, rfl, rfl⟩ := hrel
    by_cases hlt : k < t.size
    · have hcx := HX.out k hlt
      have hx1 := beN_lt (t.data.toList.take k)
      have hx2 : 256 ^ (t.data.toList.take k).length ≤ 256 ^ 7 := Nat.pow_le_pow_right (by decide) (by rw [List.length_take]; omega)
      have HS := beN_snoc (t.data.toList.take k) t[k]
      rw [← take_snoc t k hlt] at HS
      obtain ⟨x, hx⟩ : ∃ x, x = beN (t.data.toList.take k) := ⟨_, rfl⟩
      rw [← hx] at hx1 HS ⊢
      have hx3 : x * 256 < 18446744073709551616 := by omega
      have htk : t[k].toNat < 256 := t[k].toNat_lt
      have hor := or_byte x t[k].toNat hx3 htk
      have HS' : Hid (beN (t.data.toList.take (k + 1)) = x * 256 + t[k].toNat) := HS
      clear HS hx hx1 hx2
      go_wp2
      go_round
      case rel => exact ⟨k + 1, by omega, by go_num, by rw [HS'.out]; go_num⟩
      case measure => simp [intOf]; omega
    · have hke : k = t.size := by omega
      have hx1 := beN_lt (t.data.toList.take k)
      have hx2 : 256 ^ (t.data.toList.take k).length ≤ 256 ^ 4 := Nat.pow_le_pow_right (by decide) (by rw [List.length_take]; omega)
      have hte : t.data.toList.take k = t.data.toList := by rw [List.take_of_length_le]; rw [bytes_length]; omega
      rw [hte] at hx1 hx2 ⊢
      obtain ⟨x, hx⟩ : ∃ x, x = beN t.data.toList := ⟨_, rfl⟩
      rw [← hx] at hx1 ⊢
      have hx3 : x < 256 ^ 4 := by omega
      have HE : Hid (x = beN t.data.toList) := hx
      clear hx hx1 hx2 hte
      go_wp2
      go_ret
      refine ⟨?_, h1.same ((Fr.refl _ w1).drew.alloc _), st1.trans ((Fr.refl _ w1).drew.alloc _)⟩
      refine ret_int ?_
      have e := HE.out
      subst e
      first
        | rfl
        | (rw [IntKind.wrap_u8]; omega)
        | (rw [IntKind.wrap_u16]; omega)
        | (rw [IntKind.wrap_u32]; omega)
        | (rw [IntKind.wrap_u64]; omega)
        | (unfold wrap32; rw [IntKind.wrap_i32])
        | (unfold wrap64; rw [IntKind.wrap_i64])
end Go.Proofs.Ytjlbkagkmcelgaa
