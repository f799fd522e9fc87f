/-
  Walks: ending.
-/
import Derived.Test.YtnoicjpmfchhiaaDoorS9
namespace Go.Proofs.YtnoicjpmfchhiaaDoor
open Go.RowKit

/-- What append leaves of bytes that lie in new memory. -/
theorem push_new {w W W' : World} {ao : Option Addr} {c g cap N : Nat} {bs ns : List UInt8} (hN : N = ns.length) (bst : BStep (.slice none 0 0) (.slice ao bs.length c) w W) (hown : W'.ownsRow 0 5 1 (.slice (some ⟨g, 0, none⟩) (bs.length + N) cap) (bs.length + N) (bcells bs ++ bcells ns)) {V : World} (sV : Same W V) (hgrow : V.grownBy W' (Value.ownBlock (.slice ao bs.length c))) (hat : Value.ownBlock (.slice ao bs.length c) = some g ∨ g = V.heap.size) :
    Owns W' (.slice (some ⟨g, 0, none⟩) (bs ++ ns).length cap) (bs ++ ns) ∧ BStep (.slice none 0 0) (.slice (some ⟨g, 0, none⟩) (bs ++ ns).length cap) w W' := by
  obtain ⟨h1, h2⟩ := own_push_at sV rfl hN hown hgrow hat
  exact ⟨h1, bst.trans h2⟩

set_option maxRecDepth 100000 in
set_option maxHeartbeats 1000000 in
theorem ending_calls {w : World} {b : Nat} {m : List UInt8} (h : HashOf w b m) (hm : m.length ≤ 70368744177664) :
    Calls Tryd.prog 33 #[.pointer (some ⟨b, 0, none⟩)] w fun e w' => ∃ ao c, e = .returned (.slice ao (restB m ++ padN m.length).length c) ∧ Owns w' (.slice ao (restB m ++ padN m.length).length c) (restB m ++ padN m.length) ∧ BStep (.slice none 0 0) (.slice ao (restB m ++ padN m.length).length c) w w' := by
  obtain ⟨rest, hA, hrest⟩ := h
  have HW : Hid (Calls Tryd.prog 31 #[.pointer (some ⟨b, 0, none⟩)] w fun e w' => ∃ ao c, e = .returned (.slice ao (restB m).length c) ∧ Owns w' (.slice ao (restB m).length c) (restB m) ∧ BStep (.slice none 0 0) (.slice ao (restB m).length c) w w') := by
    have := waiting_calls hA (by omega)
    rw [hrest] at this
    exact this
  have c73 := hA.size
  have hrl := restB_length m
  obtain ⟨n, hn⟩ : ∃ n, n = m.length := ⟨_, rfl⟩
  rw [← hn] at hm c73 hrl ⊢
  obtain ⟨RB, hRB⟩ : ∃ R, R = restB m := ⟨_, rfl⟩
  rw [← hRB] at HW hrl ⊢
  obtain ⟨z, hz⟩ : ∃ z, z = (119 - n % 64) % 64 := ⟨_, rfl⟩
  have hz1 : z ≤ 63 := by omega
  have HZ : Hid (RB.length = n % 64 ∧ z = (119 - n % 64) % 64) := ⟨hrl, hz⟩
  have hrl64 : RB.length < 64 := by omega
  have HFIN : Hid (RB ++ padN n = RB ++ (128 :: List.replicate z 0) ++ by4 (UInt32.ofNat (n * 8 / 4294967296)) ++ by4 (UInt32.ofNat (n * 8))) := by
    show _ = _
    unfold padN
    rw [← hz]
    simp
  have HH : Hid (HashAt w b (mixAll hTab m) rest n) := by rw [hn]; exact hA
  have HF1 : Hid (∀ W, Calls Tryd.prog 23 #[.int .u32 (UInt32.ofNat (n * 8 / 4294967296)).toNat] W fun e w' => e = .returned (.slice (some ⟨W.heap.size, 0, none⟩) 4 4) ∧ w' = W.alloc (.cells (bcells (by4 (UInt32.ofNat (n * 8 / 4294967296)))).toArray 5)) := fun W => four_calls W _
  have HF2 : Hid (∀ W, Calls Tryd.prog 23 #[.int .u32 (UInt32.ofNat (n * 8)).toNat] W fun e w' => e = .returned (.slice (some ⟨W.heap.size, 0, none⟩) 4 4) ∧ w' = W.alloc (.cells (bcells (by4 (UInt32.ofNat (n * 8)))).toArray 5)) := fun W => four_calls W _
  have hlo : ((n : Int) * 8) % (4294967296 : Int) = ((UInt32.ofNat (n * 8)).toNat : Int) := by rw [UInt32.toNat_ofNat']; omega
  have hhi : ((n : Int) * 8) / (4294967296 : Int) = ((UInt32.ofNat (n * 8 / 4294967296)).toNat : Int) := by rw [UInt32.toNat_ofNat']; omega
  obtain ⟨y1, hy1⟩ : ∃ y, y = UInt32.ofNat (n * 8 / 4294967296) := ⟨_, rfl⟩
  obtain ⟨y2, hy2⟩ : ∃ y, y = UInt32.ofNat (n * 8) := ⟨_, rfl⟩
  rw [← hy1] at HF1 HFIN hhi
  rw [← hy2] at HF2 HFIN hlo
  have l4a : (by4 y1).length = 4 := rfl
  have l4b : (by4 y2).length = 4 := rfl
  generalize by4 y1 = B1 at *
  generalize by4 y2 = B2 at *
  have hblt := lt_of_heap hA.1
  clear hA hrest hn hRB hz hy1 hy2 hrl
  obtain ⟨i0, hi, hi0, hi1, hi2⟩ := info_parts Tryd.info5
  go_enter Tryd.func33, Tryd.ntmps33
  go_wp2_with fail
  refine HW.out.mono ?_
  rintro e W1 ⟨ao, c, rfl, hown, bst⟩
  go_wp2_with (at_builtin; go_must (refine wpList_append_lies _ (by rfl) _ _ _ (by rfl) 0 5 i0 (.int .u8 0) 1 1 Tryd.underlying52 hi hi0 hi1 hi2 rfl (by decide) _ _ _ (by rfl) (hown.alloc _) ⟨W1.heap.size, 0, none⟩ 1 1 _ (by rfl) (by rfl) (World.news_of_block (heap_alloc_new W1 _)) (by simp [Value.oneCell']) (by decide) (by unfold maxLen; omega) (by omega) (Nat.zero_le _) (W1.heap.size + 1) (by simp) ?_; intro g2 cap2 W2 hown2 hgrow2 hat2 _; obtain ⟨o2, b2⟩ := push_new (ns := [128]) rfl bst hown2 ((Fr.refl _ W1).alloc _) hgrow2 (by simpa using hat2); clear hown2 hgrow2 hat2 hown bst))
  have b2' : BStep (.slice none 0 0) (.slice (some ⟨g2, 0, none⟩) (RB.length + 1) cap2) w W2 := by
    have := b2
    rw [List.length_append] at this
    exact this
  have o2' : Owns W2 (.slice (some ⟨g2, 0, none⟩) (RB ++ 128 :: List.replicate 0 0).length cap2) (RB ++ 128 :: List.replicate 0 0) := o2
  clear o2 b2
  go_loopg [3] z (fun g v wr => ∃ (j g' cap nl : Nat), v = .slice (some ⟨g', 0, none⟩) nl cap ∧ nl = RB.length + 1 + j ∧ j ≤ z ∧ g = z - j ∧ Hid (Owns wr (.slice (some ⟨g', 0, none⟩) (RB ++ 128 :: List.replicate j 0).length cap) (RB ++ 128 :: List.replicate j 0) ∧ BStep (.slice none 0 0) (.slice (some ⟨g', 0, none⟩) (RB ++ 128 :: List.replicate j 0).length cap) w wr))
  case atStart => exact ⟨0, g2, cap2, RB.length + 1, rfl, rfl, by omega, rfl, o2', by rw [List.length_append]; exact b2'⟩
  case round =>
    clear o2' b2'
    obtain ⟨j, g', cap, nl, rfl, hnl, hj, rfl, HO⟩ := hrel
    obtain ⟨hz3, hz4⟩ := HZ.out
    have hll : (RB ++ 128 :: List.replicate j (0 : UInt8)).length = nl := by simp; omega
    obtain ⟨ho, hbst⟩ := HO.out
    by_cases hgo : j < z
    · have hmod : ¬ ((nl : Int) % 64 = 56) := by omega
      have HNL : Hid (nl = RB.length + 1 + j ∧ (RB ++ 128 :: List.replicate j (0 : UInt8)).length = nl) := ⟨hnl, hll⟩
      obtain ⟨L, hL⟩ : ∃ L : List UInt8, L = RB ++ 128 :: List.replicate j 0 := ⟨_, rfl⟩
      have hL2 : RB ++ 128 :: List.replicate (j + 1) (0 : UInt8) = L ++ [0] := by
        rw [hL, List.replicate_succ']; simp
      rw [← hL] at ho hbst hll HNL
      have HL : Hid (RB ++ 128 :: List.replicate (j + 1) (0 : UInt8) = L ++ [0]) := hL2
      have ho' : wr.ownsRow 0 5 1 (.slice (some ⟨g', 0, none⟩) nl cap) nl (bcells L) := by
        have h := ho
        unfold Owns at h
        rw [hll] at h
        exact h
      have hnlb : nl ≤ 1000 := by omega
      have HBS : Hid (BStep (.slice none 0 0) (.slice (some ⟨g', 0, none⟩) L.length cap) w wr) := hbst
      clear hL hL2 HO ho hbst hnl hll hz3 hz4
      go_wp2_with (at_builtin; go_must (refine wpList_append_lies _ (by rfl) _ _ _ (by rfl) 0 5 i0 (.int .u8 0) 1 1 Tryd.underlying52 hi hi0 hi1 hi2 rfl (by decide) _ _ _ (by rfl) (ho'.alloc _) ⟨wr.heap.size, 0, none⟩ 1 1 _ (by rfl) (by rfl) (World.news_of_block (heap_alloc_new wr _)) (by simp [Value.oneCell']) (by decide) (by unfold maxLen; omega) (by omega) (Nat.zero_le _) (wr.heap.size + 1) (by simp) ?_; intro g5 cap5 W5 hown5 hgrow5 hat5 _))
      have hln := HNL.out.2
      have hnl := HNL.out.1
      have hown5' : W5.ownsRow 0 5 1 (.slice (some ⟨g5, 0, none⟩) (L.length + 1) cap5) (L.length + 1) (bcells L ++ bcells [0]) := by rw [hln]; exact hown5
      have hgrow5' : (wr.alloc (.cells #[.int .u8 0] 5)).grownBy W5 (Value.ownBlock (.slice (some ⟨g', 0, none⟩) L.length cap)) := by rw [hln]; exact hgrow5
      obtain ⟨o5, b5⟩ := push_new (ns := [0]) rfl HBS.out hown5' ((Fr.refl _ wr).alloc _) hgrow5' (by rw [hln]; simpa using hat5)
      rw [← HL.out] at o5 b5
      go_roundg (z - (j + 1))
      case measure => omega
      case rel => exact ⟨j + 1, g5, cap5, nl + 1, rfl, by omega, by omega, rfl, o5, b5⟩
    · obtain rfl : j = z := by omega
      have hmod : (nl : Int) % 64 = 56 := by omega
      obtain ⟨L, hL⟩ : ∃ L : List UInt8, L = RB ++ 128 :: List.replicate j 0 := ⟨_, rfl⟩
      rw [← hL] at ho hbst hll HFIN
      have ho' : wr.ownsRow 0 5 1 (.slice (some ⟨g', 0, none⟩) nl cap) nl (bcells L) := by
        have h := ho
        unfold Owns at h
        rw [hll] at h
        exact h
      have hsw : Same w wr := hbst.1.mono (fun k _ e => by simp [Value.ownBlock] at e)
      have d73 := hsw.keep c73
      have hnlb : nl ≤ 1000 := by omega
      have HBS : Hid (BStep (.slice none 0 0) (.slice (some ⟨g', 0, none⟩) L.length cap) w wr) := hbst
      have HLL : Hid (L.length = nl) := hll
      have hmul : IntKind.u64.wrap ((n : Int) * 8) = ((n * 8 : Nat) : Int) := by rw [IntKind.wrap_u64]; omega
      clear hL HO ho hbst hnl hll hz3 hz4 HZ
      have hB1n : ∀ (V : World) j u, (bcells B1)[j]? = some u → (V.alloc (.cells (bcells B1).toArray 5)).cell? ((⟨V.heap.size, 0, none⟩ : Addr).add j) = some u := fun V => World.news_of_block (heap_alloc_new V _)
      have hB2n : ∀ (V : World) j u, (bcells B2)[j]? = some u → (V.alloc (.cells (bcells B2).toArray 5)).cell? ((⟨V.heap.size, 0, none⟩ : Addr).add j) = some u := fun V => World.news_of_block (heap_alloc_new V _)
      have n1 : ∀ u ∈ bcells B1, u.oneCell' = true := by intro v hv; simp only [bcells, List.mem_map] at hv; obtain ⟨c, _, rfl⟩ := hv; rfl
      have n2 : ∀ u ∈ bcells B2, u.oneCell' = true := by intro v hv; simp only [bcells, List.mem_map] at hv; obtain ⟨c, _, rfl⟩ := hv; rfl
      have L1 : (bcells B1).length = 4 * 1 := by rw [bcells_length]; omega
      have L2 : (bcells B2).length = 4 * 1 := by rw [bcells_length]; omega
      have HB1 : Hid (∀ (V : World) j u, (bcells B1)[j]? = some u → (V.alloc (.cells (bcells B1).toArray 5)).cell? ((⟨V.heap.size, 0, none⟩ : Addr).add j) = some u) := hB1n
      have HB2 : Hid (∀ (V : World) j u, (bcells B2)[j]? = some u → (V.alloc (.cells (bcells B2).toArray 5)).cell? ((⟨V.heap.size, 0, none⟩ : Addr).add j) = some u) := hB2n
      have HN1 : Hid (∀ u ∈ bcells B1, u.oneCell' = true) := n1
      have HN2 : Hid (∀ u ∈ bcells B2, u.oneCell' = true) := n2
      have HL1 : Hid ((bcells B1).length = 4 * 1) := L1
      have HL2 : Hid ((bcells B2).length = 4 * 1) := L2
      have H4A : Hid (B1.length = 4) := l4a
      have H4B : Hid (B2.length = 4) := l4b
      clear hB1n hB2n n1 n2 L1 L2 l4a l4b
      go_wp2_with fail
      refine (HF1.out _).mono ?_
      rintro e W5 ⟨rfl, hW5⟩
      rw [hW5]
      clear hW5
      go_wp2_with (at_builtin; go_must (refine wpList_append_lies _ (by rfl) _ _ _ (by rfl) 0 5 i0 (.int .u8 0) 1 1 Tryd.underlying52 hi hi0 hi1 hi2 rfl (by decide) _ _ _ (by rfl) (ho'.alloc _) ⟨wr.heap.size, 0, none⟩ 4 4 (bcells B1) (by rfl) HL1.out (HB1.out wr) HN1.out (by decide) (by unfold maxLen; omega) (by omega) (Nat.zero_le _) (wr.heap.size + 1) (by simp) ?_; intro g6 cap6 W6 hown6 hgrow6 hat6 _))
      have hln := HLL.out
      have hown6' : W6.ownsRow 0 5 1 (.slice (some ⟨g6, 0, none⟩) (L.length + 4) cap6) (L.length + 4) (bcells L ++ bcells B1) := by rw [hln]; exact hown6
      have hgrow6' : (wr.alloc (.cells (bcells B1).toArray 5)).grownBy W6 (Value.ownBlock (.slice (some ⟨g', 0, none⟩) L.length cap)) := by rw [hln]; exact hgrow6
      obtain ⟨o6, b6⟩ := push_new (ns := B1) H4A.out.symm HBS.out hown6' ((Fr.refl _ wr).alloc _) hgrow6' (by rw [hln]; simpa using hat6)
      have hl6 : (L ++ B1).length = nl + 4 := by rw [List.length_append, hln, H4A.out]
      have o6' : W6.ownsRow 0 5 1 (.slice (some ⟨g6, 0, none⟩) (nl + 4) cap6) (nl + 4) (bcells (L ++ B1)) := by
        have h := o6
        unfold Owns at h
        rw [hl6] at h
        exact h
      have HBS6 : Hid (BStep (.slice none 0 0) (.slice (some ⟨g6, 0, none⟩) (L ++ B1).length cap6) w W6) := b6
      have HL6 : Hid ((L ++ B1).length = nl + 4) := hl6
      clear hown6 hgrow6 hat6 hown6' hgrow6' o6 b6 hl6 hln ho'
      go_wp2_with fail
      refine (HF2.out _).mono ?_
      rintro e W7 ⟨rfl, hW7⟩
      rw [hW7]
      clear hW7
      go_wp2_with (at_builtin; go_must (refine wpList_append_lies _ (by rfl) _ _ _ (by rfl) 0 5 i0 (.int .u8 0) 1 1 Tryd.underlying52 hi hi0 hi1 hi2 rfl (by decide) _ _ _ (by rfl) (o6'.alloc _) ⟨W6.heap.size, 0, none⟩ 4 4 (bcells B2) (by rfl) HL2.out (HB2.out W6) HN2.out (by decide) (by unfold maxLen; omega) (by omega) (Nat.zero_le _) (W6.heap.size + 1) (by simp) ?_; intro g8 cap8 W8 hown8 hgrow8 hat8 _))
      go_ret
      have hln := HL6.out
      have hown8' : W8.ownsRow 0 5 1 (.slice (some ⟨g8, 0, none⟩) ((L ++ B1).length + 4) cap8) ((L ++ B1).length + 4) (bcells (L ++ B1) ++ bcells B2) := by rw [hln]; exact hown8
      have hgrow8' : (W6.alloc (.cells (bcells B2).toArray 5)).grownBy W8 (Value.ownBlock (.slice (some ⟨g6, 0, none⟩) (L ++ B1).length cap6)) := by rw [hln]; exact hgrow8
      obtain ⟨o8, b8⟩ := push_new (ns := B2) H4B.out.symm HBS6.out hown8' ((Fr.refl _ W6).alloc _) hgrow8' (by rw [hln]; simpa using hat8)
      have hfin : L ++ B1 ++ B2 = RB ++ padN n := HFIN.out.symm
      have hl8 : (L ++ B1 ++ B2).length = nl + 4 + 4 := by rw [List.length_append, hln, H4B.out]
      rw [← hfin]
      refine ⟨some ⟨g8, 0, none⟩, cap8, ?_, o8, b8⟩
      rw [hl8]
      rfl
end Go.Proofs.YtnoicjpmfchhiaaDoor
