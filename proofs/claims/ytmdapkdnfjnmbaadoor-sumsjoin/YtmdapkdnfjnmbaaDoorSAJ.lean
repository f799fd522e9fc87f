/-
  Registers by their bits, plainly; walks: the document's through, noughts, Join.
-/
import Derived.Test.YtmdapkdnfjnmbaaDoorSAL
import Derived.Test.YtmdapkdnfjnmbaaDoorSHB
import Derived.Deep.MidRow
namespace Go.Proofs.YtmdapkdnfjnmbaaDoor
open Go.RowKit

def thr (L : Nat → UInt32) (r : UInt32) : Nat → UInt32
  | 0 => 0
  | n + 1 => if (r >>> UInt32.ofNat n) &&& 1 = 1 then thr L r n ^^^ L n else thr L r n
def lowN (r : UInt32) (n : Nat) : UInt32 := UInt32.ofNat (r.toNat % 2 ^ n)
theorem lowN_bit (r : UInt32) (n i : Nat) (hi : i < 32) : (lowN r n).toBitVec.getLsbD i = (decide (i < n) && r.toBitVec.getLsbD i) := by
  unfold lowN
  rw [UInt32.toBitVec_ofNat', BitVec.getLsbD_ofNat, Nat.testBit_mod_two_pow]
  have : r.toNat.testBit i = r.toBitVec.getLsbD i := rfl
  rw [this]; simp [hi]
theorem one_bit : ∀ n : Fin 32, ∀ i : Fin 32, ((1 : UInt32) <<< UInt32.ofNat n.val).toBitVec.getLsbD i.val = decide (i.val = n.val) := by decide +kernel
theorem shr_bit : ∀ n : Fin 32, ((UInt32.ofNat n.val).toBitVec % 32).toNat = n.val := by decide +kernel
theorem shr_low (r : UInt32) (n : Nat) (hn : n < 32) : ((r >>> UInt32.ofNat n) &&& 1 = 1) ↔ r.toBitVec.getLsbD n = true := by
  rw [and1]
  have e : lowB (r >>> UInt32.ofNat n) = r.toBitVec.getLsbD n := by
    unfold lowB
    simp only [UInt32.toBitVec_shiftRight, BitVec.ushiftRight_eq', BitVec.getLsbD_ushiftRight, shr_bit ⟨n, hn⟩, Nat.add_zero]
  rw [e]
  cases r.toBitVec.getLsbD n <;> simp
theorem lowN_succ (r : UInt32) (n : Nat) (hn : n < 32) : lowN r (n + 1) = lowN r n ^^^ (if r.toBitVec.getLsbD n = true then (1 : UInt32) <<< UInt32.ofNat n else 0) := by
  apply UInt32.toBitVec_inj.1
  apply BitVec.eq_of_getLsbD_eq
  intro i hi
  rw [UInt32.toBitVec_xor, BitVec.getLsbD_xor, lowN_bit _ _ _ hi, lowN_bit _ _ _ hi]
  have h1 : ((if r.toBitVec.getLsbD n = true then (1 : UInt32) <<< UInt32.ofNat n else 0) : UInt32).toBitVec.getLsbD i = (r.toBitVec.getLsbD n && decide (i = n)) := by
    by_cases h : r.toBitVec.getLsbD n = true
    · rw [if_pos h, one_bit ⟨n, hn⟩ ⟨i, hi⟩, h]; simp
    · rw [if_neg h]; simp only [Bool.not_eq_true] at h; rw [h]; simp
  rw [h1]
  by_cases hin : i = n
  · subst hin; simp
  · by_cases hlt : i < n
    · have : i < n + 1 := by omega
      simp [hlt, this, hin]
    · have : ¬ i < n + 1 := by omega
      simp [hlt, this, hin]
theorem thr_low (F : UInt32 → UInt32) (h0 : F 0 = 0) (hx : ∀ x y, F (x ^^^ y) = F x ^^^ F y) (r : UInt32) (n : Nat) (hn : n ≤ 32) : thr (fun i => F ((1 : UInt32) <<< UInt32.ofNat i)) r n = F (lowN r n) := by
  induction n with
  | zero =>
    have : lowN r 0 = 0 := by unfold lowN; simp [Nat.mod_one]
    rw [this, h0]; rfl
  | succ n ih =>
    rw [thr, lowN_succ r n (by omega), hx, ih (by omega)]
    by_cases h : r.toBitVec.getLsbD n = true
    · rw [if_pos ((shr_low r n (by omega)).2 h), if_pos h]
    · rw [if_neg (fun e => h ((shr_low r n (by omega)).1 e)), if_neg h, h0]; simp
/-- What becomes of a register is what becomes of its bits. -/
theorem thr_all (m : Nat) (r : UInt32) : thr (fun i => crcN m ((1 : UInt32) <<< UInt32.ofNat i)) r 32 = crcN m r := by
  rw [thr_low (crcN m) (crcN_zero m) (crcN_xor m) r 32 (Nat.le_refl _)]
  congr 1
  apply UInt32.toBitVec_inj.1
  apply BitVec.eq_of_getLsbD_eq
  intro i hi
  rw [lowN_bit _ _ _ hi]; simp [hi]
theorem thr_congr {L M : Nat → UInt32} (r : UInt32) (n : Nat) (h : ∀ i, i < n → L i = M i) : thr L r n = thr M r n := by
  induction n with
  | zero => rfl
  | succ n ih => rw [thr, thr, ih (fun i hi => h i (by omega)), h n (by omega)]

set_option maxRecDepth 100000 in
set_option maxHeartbeats 400000 in
theorem through_calls (w : World) (g cap : Nat) (L : Nat → UInt32) (r : UInt32) (hL : ∀ i, i < 32 → w.cell? ⟨g, i, none⟩ = some (.int .u32 (L i).toNat)) :
    Calls Tryd.prog 13 #[.slice (some ⟨g, 0, none⟩) 32 cap, .int .u32 r.toNat] w fun e w' => e = .returned (.int .u32 (thr L r 32).toNat) ∧ w' = w := by
  have HL : Hid (∀ i, i < 32 → w.cell? ⟨g, i, none⟩ = some (.int .u32 (L i).toNat)) := hL
  clear hL
  go_enter Tryd.func13, Tryd.ntmps13
  go_wp2_with fail
  go_loopg [5, 6] 32 (fun gg vo vi wr => ∃ (k : Nat) (o : UInt32), k ≤ 32 ∧ vi = .int .i64 k ∧ vo = .int .u32 o.toNat ∧ Hid (o = thr L r k) ∧ gg = 32 - k ∧ wr = w)
  case atStart => exact ⟨0, 0, by omega, rfl, rfl, rfl, rfl, rfl⟩
  case round =>
    obtain ⟨k, o, hk, rfl, rfl, HO, rfl, rfl⟩ := hrel
    by_cases hgo : k < 32
    · have hc := HL.out k hgo
      obtain ⟨q, hq⟩ : ∃ q, q = r >>> UInt32.ofNat k := ⟨_, rfl⟩
      have e1 : (r.toNat : Int) / 2 ^ k = (q.toNat : Int) := by rw [hq, ← r32 r k hgo]; simp
      obtain ⟨b, hb⟩ : ∃ b, b = q &&& 1 := ⟨_, rfl⟩
      have e2 : bits .and .u32 (q.toNat : Int) (1 : Int) = (b.toNat : Int) := by rw [hb]; exact a32 q 1
      obtain ⟨v, hv⟩ : ∃ v, v = o ^^^ L k := ⟨_, rfl⟩
      have e3 : bits .xor .u32 (o.toNat : Int) ((L k).toNat : Int) = (v.toNat : Int) := by rw [hv]; exact x32 o (L k)
      have hT : thr L r (k + 1) = if b = 1 then v else o := by rw [thr, hv, hb, hq, HO.out]
      have HT : Hid (thr L r (k + 1) = if b = 1 then v else o) := hT
      clear hT hq hb hv HO
      by_cases h1 : b = 1
      · subst h1
        rw [if_pos rfl] at HT
        have e2' : bits .and .u32 (q.toNat : Int) (1 : Int) = (1 : Int) := e2
        clear e2
        go_wp2_with fail
        go_roundg (32 - (k + 1))
        case measure => omega
        case rel => exact ⟨k + 1, v, by omega, by go_num, rfl, HT.out.symm, rfl, rfl⟩
      · rw [if_neg h1] at HT
        have n1 : ¬ (b.toNat : Int) = 1 := by
          intro e
          apply h1
          apply UInt32.toNat_inj.1
          have : b.toNat = 1 := by omega
          rw [this]; rfl
        go_wp2_with fail
        go_roundg (32 - (k + 1))
        case measure => omega
        case rel => exact ⟨k + 1, o, by omega, by go_num, rfl, HT.out.symm, rfl, rfl⟩
    · obtain rfl : k = 32 := by omega
      go_wp2_with fail
      go_ret
      exact ⟨by rw [HO.out]; rfl, rfl⟩

def ucells (l : List UInt32) : List Value := l.map fun x => .int .u32 x.toNat
theorem ucells_append (a b : List UInt32) : ucells (a ++ b) = ucells a ++ ucells b := by simp [ucells]
theorem ucells_length (a : List UInt32) : (ucells a).length = a.length := by simp [ucells]
theorem Tryd.infoU32 : (Tryd.prog.info? 22).map (fun i => (i.zero, i.size, i.bytes)) = some (some (.int .u32 0), 1, 4) := by kernel_rfl
/-- What becomes of each bit by m steps. -/
def bitRow (m n : Nat) : List UInt32 := (List.range n).map fun i => crcN m ((1 : UInt32) <<< UInt32.ofNat i)
theorem bitRow_succ (m n : Nat) : bitRow m (n + 1) = bitRow m n ++ [crcN m ((1 : UInt32) <<< UInt32.ofNat n)] := by simp [bitRow, List.range_succ]
theorem shl_one : ∀ k : Fin 32, (2 : Int) ^ k.val % 4294967296 = (((1 : UInt32) <<< UInt32.ofNat k.val).toNat : Int) := by decide +kernel
theorem bitS_zero (r : UInt32) : bitS r 0 = crcS r := rfl
/-- A row of 32 registers, each what becomes of a bit by m steps. -/
def BitsAt (w w' : World) (m g cap : Nat) : Prop :=
  w'.ownsRow w.heap.size 22 1 (.slice (some ⟨g, 0, none⟩) 32 cap) 32 (ucells (bitRow m 32)) ∧ Same w w'
theorem BitsAt.through {w w' W : World} {m g cap : Nat} (h : BitsAt w w' m g cap) (s : Same w' W) (r : UInt32) :
    Calls Tryd.prog 13 #[.slice (some ⟨g, 0, none⟩) 32 cap, .int .u32 r.toNat] W fun e w' => e = .returned (.int .u32 (crcN m r).toNat) ∧ w' = W := by
  have := through_calls W g cap (fun i => crcN m ((1 : UInt32) <<< UInt32.ofNat i)) r (by
    intro i hi
    have := h.1.cells (g := g) rfl i (.int .u32 (crcN m ((1 : UInt32) <<< UInt32.ofNat i)).toNat) (by simp [ucells, bitRow, hi])
    rw [Addr.add_mid, Nat.zero_add] at this
    exact s.keep this)
  rw [thr_all] at this
  exact this
theorem own_low {e : TypeId} {w : World} {v : Value} {n B C : Nat} {xs : List Value} (h : w.ownsRow B e 1 v n xs) (hc : C ≤ B) : w.ownsRow C e 1 v n xs := by
  refine ⟨h.1, ?_⟩
  rcases h.2 with h | ⟨a1, a2, a3, a4, a5, a6⟩
  · exact Or.inl h
  · exact Or.inr ⟨a1, a2, a3, a4, Nat.le_trans hc a5, a6⟩

set_option maxRecDepth 100000 in
set_option maxHeartbeats 1000000 in
theorem noughts_calls (n : Nat) : ∀ (w : World), n ≤ 9223372036854775807 →
    Calls Tryd.prog 14 #[.int .i64 n] w fun e w' => ∃ g cap, e = .returned (.slice (some ⟨g, 0, none⟩) 32 cap) ∧ BitsAt w w' (8 * n) g cap := by
  induction n using Nat.strongRecOn with
  | _ n ih =>
  intro w hn
  have IH : Hid (∀ m < n, ∀ (w : World), m ≤ 9223372036854775807 → Calls Tryd.prog 14 #[.int .i64 m] w fun e w' => ∃ g cap, e = .returned (.slice (some ⟨g, 0, none⟩) 32 cap) ∧ BitsAt w w' (8 * m) g cap) := ih
  clear ih
  obtain ⟨i0, hi, hi0, hi1, hi2⟩ := info_parts Tryd.infoU32
  go_enter Tryd.func14, Tryd.ntmps14
  go_wp2_with fail
  obtain ⟨m1, hm1⟩ : ∃ m1 : Nat, m1 = if n = 0 then 0 else 8 := ⟨_, rfl⟩
  have HM1 : Hid (m1 = if n = 0 then 0 else 8) := hm1
  clear hm1
  go_loopg [3, 4] 32 (fun gg v iv wr => ∃ (k : Nat) (ao : Option Addr) (c : Nat), v = .slice ao k c ∧ iv = .int .i64 k ∧ k ≤ 32 ∧ gg = 32 - k ∧ (k ≠ 0 → ∃ g', ao = some ⟨g', 0, none⟩) ∧ Hid (wr.ownsRow w.heap.size 22 1 (.slice ao k c) k (ucells (bitRow m1 k))) ∧ Same w wr)
  case atStart => exact ⟨0, none, 0, rfl, rfl, by omega, rfl, fun e => absurd rfl e, World.ownsRow_nil _ _ _ _, Fr.refl _ _⟩
  case round =>
    obtain ⟨k, ao, c, rfl, rfl, hk, rfl, hao, hown, sr⟩ := hrel
    by_cases hgo : k < 32
    · obtain ⟨x0, hx0⟩ : ∃ x0, x0 = (1 : UInt32) <<< UInt32.ofNat k := ⟨_, rfl⟩
      have e0 : (2 : Int) ^ k % 4294967296 = (x0.toNat : Int) := by rw [hx0]; exact shl_one ⟨k, hgo⟩
      have HX0 : Hid (x0 = (1 : UInt32) <<< UInt32.ofNat k) := hx0
      clear hx0
      have ek : decide ((k : Int) < 32) = true := by simp; omega
      go_wp2_with fail
      rw [e0]
      clear e0 ek
      go_loopg [5, 6] 8 (fun gg v iv wq => ∃ (j : Nat) (x : UInt32), v = .int .u32 x.toNat ∧ iv = .int .i64 j ∧ j ≤ 8 ∧ gg = 8 - j ∧ (n = 0 → j = 0) ∧ Hid (x = crcN j x0) ∧ wq = wr)
      case atStart => exact ⟨0, x0, rfl, rfl, by omega, rfl, fun _ => rfl, rfl, rfl⟩
      case round =>
        obtain ⟨j, x, rfl, rfl, hj, rfl, hnj, HX, rfl⟩ := hrel
        by_cases hin : j < 8 ∧ 0 < n
        · obtain ⟨hj8, hn0⟩ := hin
          have HB : Hid (∀ W, Calls Tryd.prog 17 #[.int .u32 x.toNat, .int .u32 0] W fun e w' => e = .returned (.int .u32 (crcS x).toNat) ∧ w' = W) := fun W => bit_calls W x 0
          obtain ⟨y, hy⟩ : ∃ y, y = crcS x := ⟨_, rfl⟩
          rw [← hy] at HB
          have HY : Hid (y = crcN (j + 1) x0) := by
            show _ = _
            rw [hy, HX.out, crcN_snoc]
          clear hy HX
          go_wp2_with fail
          refine (HB.out _).mono ?_
          rintro e W1 ⟨rfl, hW1⟩
          rw [hW1]
          clear hW1
          go_wp2_with fail
          go_roundg (8 - (j + 1))
          case measure => omega
          case rel => exact ⟨j + 1, y, rfl, by go_num, by omega, rfl, fun e => by omega, HY, rfl⟩
        · have HJ : Hid (j = m1) := by
            show _ = _
            rw [HM1.out]
            by_cases h0 : n = 0
            · rw [if_pos h0, hnj h0]
            · rw [if_neg h0]; omega
          have hown' := hown.out
          have hsz := sr.size
          have hone : ∀ u ∈ [Value.int .u32 x.toNat], u.oneCell' = true := by intro u hu; simp at hu; subst hu; rfl
          have HXX : Hid (crcN m1 ((1 : UInt32) <<< UInt32.ofNat k) = x) := by
            show _ = _
            rw [← HX0.out, ← HJ.out, HX.out]
          rcases Nat.lt_or_ge j 8 with hj8 | hj8
          · have hn0 : n = 0 := by omega
            subst hn0
            obtain rfl := hnj rfl
            clear hnj hin
            go_wp2_with (at_builtin; go_must (refine wpList_append_lies _ (by rfl) _ _ _ (by rfl) w.heap.size 22 i0 (.int .u32 0) 1 4 Tryd.underlying37 hi hi0 hi1 hi2 rfl (by decide) _ _ _ (by rfl) (hown'.alloc _) ⟨wr.heap.size, 0, none⟩ 1 1 [Value.int .u32 x.toNat] (by rfl) (by rfl) (World.news_of_block (cs := #[Value.int .u32 x.toNat]) (heap_alloc_new wr _)) hone (by decide) (by unfold maxLen; omega) (by omega) (by simp; omega) (wr.heap.size + 1) (by simp) ?_; intro g5 cap5 W5 hown5 hgrow5 hat5 _))
            have O5 : W5.ownsRow w.heap.size 22 1 (.slice (some ⟨g5, 0, none⟩) (k + 1) cap5) (k + 1) (ucells (bitRow m1 (k + 1))) := by
              rw [bitRow_succ, ucells_append, HXX.out]
              exact hown5
            have s5 : Same w W5 := by
              refine Fr.grown (sr.alloc _) hgrow5 ?_
              intro b hb hlt
              have := (hown.out.lt b hb).1
              omega
            go_roundg (32 - (k + 1))
            case measure => omega
            case rel => exact ⟨k + 1, some ⟨g5, 0, none⟩, cap5, rfl, by go_num, by omega, rfl, fun _ => ⟨g5, rfl⟩, O5, s5⟩
          · obtain rfl : j = 8 := by omega
            clear hin
            go_wp2_with (at_builtin; go_must (refine wpList_append_lies _ (by rfl) _ _ _ (by rfl) w.heap.size 22 i0 (.int .u32 0) 1 4 Tryd.underlying37 hi hi0 hi1 hi2 rfl (by decide) _ _ _ (by rfl) (hown'.alloc _) ⟨wr.heap.size, 0, none⟩ 1 1 [Value.int .u32 x.toNat] (by rfl) (by rfl) (World.news_of_block (cs := #[Value.int .u32 x.toNat]) (heap_alloc_new wr _)) hone (by decide) (by unfold maxLen; omega) (by omega) (by simp; omega) (wr.heap.size + 1) (by simp) ?_; intro g5 cap5 W5 hown5 hgrow5 hat5 _))
            have O5 : W5.ownsRow w.heap.size 22 1 (.slice (some ⟨g5, 0, none⟩) (k + 1) cap5) (k + 1) (ucells (bitRow m1 (k + 1))) := by
              rw [bitRow_succ, ucells_append, HXX.out]
              exact hown5
            have s5 : Same w W5 := by
              refine Fr.grown (sr.alloc _) hgrow5 ?_
              intro b hb hlt
              have := (hown.out.lt b hb).1
              omega
            go_roundg (32 - (k + 1))
            case measure => omega
            case rel => exact ⟨k + 1, some ⟨g5, 0, none⟩, cap5, rfl, by go_num, by omega, rfl, fun _ => ⟨g5, rfl⟩, O5, s5⟩
    · obtain rfl : k = 32 := by omega
      obtain ⟨g', rfl⟩ := hao (by omega)
      have hN := HM1.out
      by_cases h1 : n ≤ 1
      · have HF : Hid (BitsAt w wr (8 * n) g' c) := by
          have e : 8 * n = m1 := by
            rw [hN]
            by_cases h0 : n = 0
            · rw [if_pos h0]; omega
            · rw [if_neg h0]; omega
          show BitsAt _ _ _ _ _
          rw [e]
          exact ⟨hown.out, sr⟩
        clear hown hao hN HM1
        go_wp2_with fail
        go_ret
        exact ⟨g', c, rfl, HF.out⟩
      · rw [if_neg (by omega)] at hN
        subst hN
        have HI : Hid (Calls Tryd.prog 14 #[.int .i64 ((n : Int) / 2)] wr fun e w' => ∃ g cap, e = .returned (.slice (some ⟨g, 0, none⟩) 32 cap) ∧ BitsAt wr w' (8 * (n / 2)) g cap) := by
          have := IH.out (n / 2) (by omega) wr (by omega)
          exact this
        have HLL : Hid (BitsAt w wr 8 g' c) := ⟨hown.out, sr⟩
        clear hown hao HM1 IH
        go_wp2_with fail
        refine HI.out.mono ?_
        rintro e W2 ⟨g2, cap2, rfl, hb2⟩
        have HH : Hid (∀ W, Same W2 W → ∀ r : UInt32, Calls Tryd.prog 13 #[.slice (some ⟨g2, 0, none⟩) 32 cap2, .int .u32 r.toNat] W fun e w' => e = .returned (.int .u32 (crcN (8 * (n / 2)) r).toNat) ∧ w' = W) := fun W s r => hb2.through s r
        have HL : Hid (∀ W, Same W2 W → ∀ r : UInt32, Calls Tryd.prog 13 #[.slice (some ⟨g', 0, none⟩) 32 c, .int .u32 r.toNat] W fun e w' => e = .returned (.int .u32 (crcN 8 r).toNat) ∧ w' = W) := fun W s r => HLL.out.through (hb2.2.trans s) r
        have s02 : Same w W2 := sr.trans hb2.2
        clear hb2 HLL HI sr
        go_wp2_with fail
        go_loopg [8, 9] 32 (fun gg v iv wr => ∃ (k : Nat) (ao : Option Addr) (c : Nat), v = .slice ao k c ∧ iv = .int .i64 k ∧ k ≤ 32 ∧ gg = 32 - k ∧ (k ≠ 0 → ∃ g', ao = some ⟨g', 0, none⟩) ∧ Hid (wr.ownsRow W2.heap.size 22 1 (.slice ao k c) k (ucells (bitRow (8 * n) k))) ∧ Same W2 wr)
        case atStart => exact ⟨0, none, 0, rfl, rfl, by omega, rfl, fun e => absurd rfl e, World.ownsRow_nil _ _ _ _, Fr.refl _ _⟩
        case round =>
          obtain ⟨k, ao, c', rfl, rfl, hk, rfl, hao, hown2, sr2⟩ := hrel
          by_cases hgo : k < 32
          · obtain ⟨x0, hx0⟩ : ∃ x0, x0 = (1 : UInt32) <<< UInt32.ofNat k := ⟨_, rfl⟩
            have e0 : (2 : Int) ^ k % 4294967296 = (x0.toNat : Int) := by rw [hx0]; exact shl_one ⟨k, hgo⟩
            have hown' := hown2.out
            have hsz := sr2.size
            obtain ⟨y1, hy1⟩ : ∃ y, y = crcN (8 * (n / 2)) x0 := ⟨_, rfl⟩
            obtain ⟨y2, hy2⟩ : ∃ y, y = crcN (8 * (n / 2)) y1 := ⟨_, rfl⟩
            have H1 := HH.out wr sr2 x0
            have H2 := HH.out wr sr2 y1
            rw [← hy1] at H1
            rw [← hy2] at H2
            have HX0 : Hid (x0 = (1 : UInt32) <<< UInt32.ofNat k ∧ y1 = crcN (8 * (n / 2)) x0 ∧ y2 = crcN (8 * (n / 2)) y1) := ⟨hx0, hy1, hy2⟩
            clear hx0 hy1 hy2
            by_cases hodd : n % 2 = 1
            · obtain ⟨x, hx⟩ : ∃ y, y = crcN 8 y2 := ⟨_, rfl⟩
              have H3 := HL.out wr sr2 y2
              rw [← hx] at H3
              have HXX : Hid (crcN (8 * n) ((1 : UInt32) <<< UInt32.ofNat k) = x) := by
                obtain ⟨a, b, c⟩ := HX0.out
                show _ = _
                rw [← a, hx, c, b, ← crcN_add, ← crcN_add]
                congr 1; omega
              clear hx HX0
              have hone : ∀ u ∈ [Value.int .u32 x.toNat], u.oneCell' = true := by intro u hu; simp at hu; subst hu; rfl
              go_wp2_with fail
              refine H1.mono ?_
              rintro e W3 ⟨rfl, hW3⟩
              rw [hW3]
              clear hW3
              go_wp2_with fail
              refine H2.mono ?_
              rintro e W3 ⟨rfl, hW3⟩
              rw [hW3]
              clear hW3
              go_wp2_with fail
              refine H3.mono ?_
              rintro e W3 ⟨rfl, hW3⟩
              rw [hW3]
              clear hW3
              go_wp2_with (at_builtin; go_must (refine wpList_append_lies _ (by rfl) _ _ _ (by rfl) W2.heap.size 22 i0 (.int .u32 0) 1 4 Tryd.underlying37 hi hi0 hi1 hi2 rfl (by decide) _ _ _ (by rfl) (hown'.alloc _) ⟨wr.heap.size, 0, none⟩ 1 1 [Value.int .u32 x.toNat] (by rfl) (by rfl) (World.news_of_block (cs := #[Value.int .u32 x.toNat]) (heap_alloc_new wr _)) hone (by decide) (by unfold maxLen; omega) (by omega) (by simp; omega) (wr.heap.size + 1) (by simp) ?_; intro g5 cap5 W5 hown5 hgrow5 hat5 _))
              have O5 : W5.ownsRow W2.heap.size 22 1 (.slice (some ⟨g5, 0, none⟩) (k + 1) cap5) (k + 1) (ucells (bitRow (8 * n) (k + 1))) := by
                rw [bitRow_succ, ucells_append, HXX.out]
                exact hown5
              have s5 : Same W2 W5 := by
                refine Fr.grown (sr2.alloc _) hgrow5 ?_
                intro b hb hlt
                have := (hown2.out.lt b hb).1
                omega
              go_roundg (32 - (k + 1))
              case measure => omega
              case rel => exact ⟨k + 1, some ⟨g5, 0, none⟩, cap5, rfl, by go_num, by omega, rfl, fun _ => ⟨g5, rfl⟩, O5, s5⟩

            · obtain ⟨x, hx⟩ : ∃ x, x = y2 := ⟨_, rfl⟩
              subst hx
              have HXX : Hid (crcN (8 * n) ((1 : UInt32) <<< UInt32.ofNat k) = x) := by
                obtain ⟨a, b, c⟩ := HX0.out
                show _ = _
                rw [← a, c, b, ← crcN_add]
                congr 1; omega
              clear HX0
              have hone : ∀ u ∈ [Value.int .u32 x.toNat], u.oneCell' = true := by intro u hu; simp at hu; subst hu; rfl
              go_wp2_with fail
              refine H1.mono ?_
              rintro e W3 ⟨rfl, hW3⟩
              rw [hW3]
              clear hW3
              go_wp2_with fail
              refine H2.mono ?_
              rintro e W3 ⟨rfl, hW3⟩
              rw [hW3]
              clear hW3
              go_wp2_with (at_builtin; go_must (refine wpList_append_lies _ (by rfl) _ _ _ (by rfl) W2.heap.size 22 i0 (.int .u32 0) 1 4 Tryd.underlying37 hi hi0 hi1 hi2 rfl (by decide) _ _ _ (by rfl) (hown'.alloc _) ⟨wr.heap.size, 0, none⟩ 1 1 [Value.int .u32 x.toNat] (by rfl) (by rfl) (World.news_of_block (cs := #[Value.int .u32 x.toNat]) (heap_alloc_new wr _)) hone (by decide) (by unfold maxLen; omega) (by omega) (by simp; omega) (wr.heap.size + 1) (by simp) ?_; intro g5 cap5 W5 hown5 hgrow5 hat5 _))
              have O5 : W5.ownsRow W2.heap.size 22 1 (.slice (some ⟨g5, 0, none⟩) (k + 1) cap5) (k + 1) (ucells (bitRow (8 * n) (k + 1))) := by
                rw [bitRow_succ, ucells_append, HXX.out]
                exact hown5
              have s5 : Same W2 W5 := by
                refine Fr.grown (sr2.alloc _) hgrow5 ?_
                intro b hb hlt
                have := (hown2.out.lt b hb).1
                omega
              go_roundg (32 - (k + 1))
              case measure => omega
              case rel => exact ⟨k + 1, some ⟨g5, 0, none⟩, cap5, rfl, by go_num, by omega, rfl, fun _ => ⟨g5, rfl⟩, O5, s5⟩

          · obtain rfl : k = 32 := by omega
            obtain ⟨g3, rfl⟩ := hao (by omega)
            have HF : Hid (BitsAt w wr (8 * n) g3 c') := ⟨own_low hown2.out s02.size, s02.trans sr2⟩
            clear hown2 hao
            go_wp2_with fail
            go_ret
            exact ⟨g3, c', rfl, HF.out⟩

set_option maxRecDepth 100000 in
theorem rjoin_calls (w : World) (a b : UInt32) (n : Nat) (hn : n ≤ 9223372036854775807) : Calls Tryd.prog 7 #[.int .u32 a.toNat, .int .u32 b.toNat, .int .i64 n] w fun e w' => e = .returned (.tuple #[.int .u32 (joinP a b n).toNat, .int .i64 0]) ∧ Same w w' := by
  rw [joinP_eq a b n (by omega)]
  have HN : Hid (Calls Tryd.prog 14 #[.int .i64 n] w fun e w' => ∃ g cap, e = .returned (.slice (some ⟨g, 0, none⟩) 32 cap) ∧ BitsAt w w' (8 * n) g cap) := noughts_calls n w hn
  obtain ⟨x, hx⟩ : ∃ x, x = crcN (8 * n) a := ⟨_, rfl⟩
  obtain ⟨y, hy⟩ : ∃ y, y = x ^^^ b := ⟨_, rfl⟩
  have ex : bits .xor .u32 (x.toNat : Int) (b.toNat : Int) = (y.toNat : Int) := by rw [hy]; exact x32 x b
  rw [← hx, ← hy]
  have HX : Hid (x = crcN (8 * n) a) := hx
  clear hx hy
  go_enter Tryd.func7, Tryd.ntmps7
  go_wp2_with fail
  refine HN.out.mono ?_
  rintro e W1 ⟨g, cap, rfl, hb⟩
  have H1 := hb.through (Fr.refl _ _) a
  rw [← HX.out] at H1
  have s1 := hb.2
  clear hb
  go_wp2_with fail
  refine H1.mono ?_
  rintro e W2 ⟨rfl, hW2⟩
  rw [hW2]
  clear hW2
  go_wp2_with fail
  go_ret2
  exact ⟨rfl, s1⟩
theorem rjoin_neg (w : World) (a b : UInt32) (n : Int) (hn : n < 0) : Calls Tryd.prog 7 #[.int .u32 a.toNat, .int .u32 b.toNat, .int .i64 n] w fun e w' => e = .returned (.tuple #[.int .u32 0, .int .i64 2]) ∧ w' = w := by
  go_enter Tryd.func7, Tryd.ntmps7
  go_wp2_with fail
  go_ret2
  exact ⟨rfl, rfl⟩
end Go.Proofs.YtmdapkdnfjnmbaaDoor
