/- The document's CRC, number, noughts. -/
import Derived.Test.YtajpgopgohadeaaDoorSHC
import Derived.Test.YtajpgopgohadeaaDoorG7
import Derived.Test.YtajpgopgohadeaaDoorSAL
import Derived.Deep.RegionLaw
import Derived.Deep.DrawnRows
import Derived.Laws.OwnMore
namespace Go.Proofs.YtajpgopgohadeaaDoor
open Go.RowKit

set_option maxRecDepth 100000 in
theorem rcrc_calls (w : World) (s : ByteArray) (hs : s.size ≤ 281474976710656) : Calls Tryd.prog 56 #[.string s] w fun e w' => e = .returned (.int .u32 (moreP 0 s.data.toList).toNat) ∧ w' = w := by
  have HM : Hid (Calls Tryd.prog 74 #[.int .u32 0, .string s] w fun e w' => e = .returned (.int .u32 (moreP 0 s.data.toList).toNat) ∧ w' = w) := rmore_calls w 0 s hs
  go_enter Tryd.func56, Tryd.ntmps56
  go_wp2_with fail
  refine HM.out.mono ?_
  rintro e W1 ⟨rfl, hW1⟩
  rw [hW1]
  clear hW1
  go_wp2_with fail
  go_ret
  exact ⟨rfl, rfl⟩

theorem crc_both (a b : ByteArray) : crcP [a, b] = moreP 0 (a ++ b).data.toList := by
  simp only [crcP, List.foldl_cons, List.foldl_nil]
  rw [← more_app]
  congr 1
theorem own_mono0 {w : World} {B n : Nat} {e : TypeId} {v : Value} {xs : List Value} (h : w.ownsRow B e 1 v n xs) : w.ownsRow 0 e 1 v n xs :=
  ⟨h.1, h.2.imp id (fun ⟨g, c, cur, a, _, r⟩ => ⟨g, c, cur, a, Nat.zero_le _, r⟩)⟩
theorem fixB_snoc (x : Int) : ∀ n : Nat, fixB (n + 1) x = fixB 1 (x / 256 ^ n) ++ fixB n x := by
  intro n
  simp [fixB]

set_option maxRecDepth 100000 in
set_option maxHeartbeats 1000000 in
theorem number_calls (n many : Nat) (hm : many ≤ 8) (w : World) :
    Calls Tryd.prog 76 #[.int .u64 n, .int .i64 many] w fun e w' => e = .returned (.string ⟨(fixB many n).toArray⟩) ∧ Same w w' := by
  obtain ⟨i0, hi, hz0, hz1, hz2⟩ := info_parts Tryd.info5
  have HMW : Hid (many ≤ 8) := hm
  have hw1 : IntKind.i64.wrap ((many : Int) - 1) = (many : Int) - 1 := by rw [IntKind.wrap_i64]; omega
  go_enter Tryd.func76, Tryd.ntmps76
  go_wp2_with fail
  go_loopg [5, 6] many (fun g bv iv wr => ∃ (k : Nat) (ao : Option Addr) (c : Nat) (L : List UInt8), bv = .slice ao L.length c ∧ iv = .int .i64 ((k : Int) - 1) ∧ k ≤ many ∧ g = k ∧ Hid (L.length = many - k ∧ L ++ fixB k n = fixB many n) ∧ Hid (wr.ownsRow w.heap.size 5 1 (.slice ao L.length c) L.length (bcells L)) ∧ Same w wr)
  case atStart => exact ⟨many, none, 0, [], rfl, rfl, by omega, rfl, ⟨by simp, rfl⟩, World.ownsRow_nil _ _ _ _, Fr.refl _ _⟩
  case round =>
    obtain ⟨k, ao, c, L, rfl, rfl, hk, hg, HL, hown, sr⟩ := hrel
    by_cases hpos : 0 < k
    · obtain ⟨k, rfl⟩ : ∃ k', k = k' + 1 := ⟨k - 1, by omega⟩
      obtain ⟨x, hx⟩ : ∃ x : UInt8, x = UInt8.ofNat (n / 256 ^ k % 256) := ⟨_, rfl⟩
      have hxv : (n : Int) / 2 ^ (8 * k) % 256 = (x.toNat : Int) := by
        rw [hx, show (2 : Int) ^ (8 * k) = 256 ^ k from by rw [Int.pow_mul]; rfl]
        have h1 : ((256 ^ k : Nat) : Int) = 256 ^ k := Int.natCast_pow 256 k
        rw [← h1]
        simp
      have hfx : fixB (k + 1) (n : Int) = x :: fixB k (n : Int) := by rw [hx]; exact fixB_low' k n
      have HN : Hid ((L ++ [x]).length = many - k ∧ (L ++ [x]) ++ fixB k n = fixB many n) := by
        refine ⟨?_, ?_⟩
        · have := HL.out.1; rw [List.length_append, this]; simp; omega
        · have := HL.out.2; rw [hfx] at this; simpa using this
      have hown' := hown.out
      obtain ⟨q, hq⟩ : ∃ q, q = L.length := ⟨_, rfl⟩
      have hql : q ≤ 8 := by rw [hq, HL.out.1]; omega
      rw [← hq] at hown' ⊢
      have HQ : Hid (q = L.length) := hq
      have hone : ∀ u ∈ [Value.int .u8 x.toNat], u.oneCell' = true := by intro u hu; simp at hu; subst hu; rfl
      have hsz := sr.size
      have hki : (k : Int) + 1 - 1 = (k : Int) := by omega
      clear hx hfx hq HL hw1
      rw [show ((((k + 1 : Nat) : Int)) - 1) = (k : Int) from by omega]
      go_wp2_with (at_builtin; go_must (refine wpList_append_lies _ (by rfl) _ _ _ (by rfl) w.heap.size 5 i0 (.int .u8 0) 1 1 Tryd.underlying92 hi hz0 hz1 hz2 rfl (by decide) _ _ _ (by rfl) (hown'.alloc _) ⟨wr.heap.size, 0, none⟩ 1 1 [Value.int .u8 x.toNat] (by rfl) (by rfl) (World.news_of_block (cs := #[Value.int .u8 x.toNat]) (heap_alloc_new wr _)) hone (by decide) (by unfold maxLen; omega) (by omega) (by simp; omega) (wr.heap.size + 1) (by simp) ?_; intro g5 cap5 W5 hown5 hgrow5 hat5 _))
      have O5 : Hid (W5.ownsRow w.heap.size 5 1 (.slice (some ⟨g5, 0, none⟩) (L ++ [x]).length cap5) (L ++ [x]).length (bcells (L ++ [x]))) := by
        have e : (L ++ [x]).length = q + 1 := by rw [List.length_append, HQ.out]; rfl
        show World.ownsRow _ _ _ _ _ _ _
        rw [e, bcells_append]
        exact hown5
      have s5 : Same w W5 := by
        refine Fr.grown (sr.alloc _) hgrow5 ?_
        intro k hk hlt
        have := (hown'.lt k hk).1
        omega
      go_roundg k
      case measure => omega
      case rel => exact ⟨k, some ⟨g5, 0, none⟩, cap5, L ++ [x], by rw [List.length_append, HQ.out]; rfl, by go_num, by omega, rfl, HN, O5, s5⟩
    · obtain rfl : k = 0 := by omega
      have hfull : Hid (L = fixB many n) := by have := HL.out.2; show _ = _; simpa [fixB] using this
      have hcv := owns_string (P := Tryd.prog) (w := wr) (v := .slice ao L.length c) (bs := L) (own_mono0 hown.out) 92 9 Tryd.underlying92 Tryd.underlying5 Tryd.underlying9
      clear HL hown hw1
      go_wp2_with fail
      go_ret
      exact ⟨by rw [← hfull.out]; rfl, sr⟩

theorem made_zero (n : Nat) : (madeCells (Value.cells (.int .u8 0)) (n * 1)).toList = bcells (List.replicate n 0) := by
  apply List.ext_getElem?
  intro i
  by_cases h : i < n
  · simp [madeCells, bcells, h, Value.cells, Nat.mod_one]
  · simp [madeCells, bcells, h, Value.cells]
set_option maxRecDepth 100000 in
theorem noughts_calls (n : Nat) (hn : n ≤ 1000000) (w : World) :
    Calls Tryd.prog 77 #[.int .i64 n] w fun e w' => e = .returned (.string ⟨(List.replicate n 0).toArray⟩) ∧ Same w w' := by
  obtain ⟨i0, hi, hz0, hz1, hz2⟩ := info_parts Tryd.info5
  obtain ⟨W1, hmk, hown, hg⟩ := run_make_full (P := Tryd.prog) w 0 92 5 i0 (.int .u8 0) 1 Tryd.underlying92 hi hz0 hz1 .i64 .i64 n (by rw [hz2]; omega) (by unfold maxLen; omega) (Nat.zero_le _)
  rw [made_zero] at hown
  have hcv := owns_string (P := Tryd.prog) (w := W1) (v := .slice (some ⟨w.heap.size, 0, none⟩) n n) (bs := List.replicate n 0) (by show World.ownsRow _ _ _ _ _ _ _; rw [List.length_replicate]; exact hown) 92 9 Tryd.underlying92 Tryd.underlying5 Tryd.underlying9
  have s1 : Same w W1 := Fr.grown (Fr.refl _ w) hg (fun k hk => by cases hk)
  clear hown hg
  go_enter Tryd.func77, Tryd.ntmps77
  go_wp2_with fail
  go_ret
  exact ⟨rfl, s1⟩
end Go.Proofs.YtajpgopgohadeaaDoor
