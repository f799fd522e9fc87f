/-
  Walks: lent.
-/
import Derived.Test.YthkhfblpdekjhaaDoorSG
namespace Go.Proofs.YthkhfblpdekjhaaDoor
open Go.RowKit

def scells (ss : List ByteArray) : List Value := ss.map Value.string
theorem scells_append (a b : List ByteArray) : scells (a ++ b) = scells a ++ scells b := by simp [scells]
theorem scells_length (a : List ByteArray) : (scells a).length = a.length := by simp [scells]
def markS : ByteArray := ⟨#[109, 97, 114, 107]⟩
theorem Tryd.infoStr : (Tryd.prog.info? 9).map (fun i => (i.zero, i.size, i.bytes)) = some (some (.string ⟨#[]⟩), 1, 16) := by kernel_rfl
/-- Texts that a slice which came in, or was made, holds. -/
structure SAt (w : World) (pa : Option Addr) (pb po : Nat) (ss : List ByteArray) : Prop where
  place : ss ≠ [] → pa = some ⟨pb, po, none⟩ ∧ pb < w.heap.size
  cells : ∀ j s, ss[j]? = some s → w.cell? ⟨pb, po + j, none⟩ = some (.string s)
theorem SAt.same {w w' : World} {pa : Option Addr} {pb po : Nat} {ss : List ByteArray} (h : SAt w pa pb po ss) (s : Same w w') : SAt w' pa pb po ss :=
  ⟨fun e => ⟨(h.place e).1, Nat.lt_of_lt_of_le (h.place e).2 s.size⟩, fun j x hx => s.keep (h.cells j x hx)⟩

/-- What lent leaves: a row of the texts and five marks. -/
def Lent (w w' : World) (ss : List ByteArray) (g cap : Nat) : Prop :=
  w'.ownsRow 0 9 1 (.slice (some ⟨g, 0, none⟩) (ss.length + 5) cap) (ss.length + 5) (scells (ss ++ List.replicate 5 markS)) ∧ w.heap.size ≤ g ∧ Same w w'

set_option maxRecDepth 100000 in
set_option maxHeartbeats 1000000 in
theorem lent_calls {w : World} {pa : Option Addr} {pb po pc : Nat} {ss : List ByteArray} (h : SAt w pa pb po ss) (hl : ss.length ≤ 4194304) :
    Calls Tryd.prog 10 #[.slice pa ss.length pc] w fun e w' => ∃ g cap, e = .returned (.slice (some ⟨g, 0, none⟩) ss.length cap) ∧ Lent w w' ss g cap := by
  obtain ⟨i0, hi, hi0, hi1, hi2⟩ := info_parts Tryd.infoStr
  have HP : Hid (SAt w pa pb po ss) := h
  obtain ⟨n, hn⟩ : ∃ n, n = ss.length := ⟨_, rfl⟩
  rw [← hn] at hl ⊢
  have HN : Hid (n = ss.length) := hn
  by_cases h0 : n = 0
  · have hss : ss = [] := List.eq_nil_of_length_eq_zero (by omega)
    subst h0
    have hss' : Hid (ss = []) := hss
    clear hn hss h HP
    rcases pa with _ | pad
    all_goals
      go_enter Tryd.func10, Tryd.ntmps10
      go_wp2_with fail
      have O1 : Hid (w.ownsRow w.heap.size 9 1 (.slice none (0 + 0) 0) (0 + 0) (scells (ss ++ List.replicate 0 markS))) := by
        show World.ownsRow _ _ _ _ _ _ _
        rw [hss'.out]
        exact World.ownsRow_nil _ _ _ _
      go_loopg [3, 4] 5 (fun g v iv wr => ∃ (j : Nat) (ao : Option Addr) (c : Nat), v = .slice ao (0 + j) c ∧ iv = .int .i64 j ∧ j ≤ 5 ∧ g = 5 - j ∧ (j ≠ 0 → ∃ g', ao = some ⟨g', 0, none⟩) ∧ Hid (wr.ownsRow w.heap.size 9 1 (.slice ao (0 + j) c) (0 + j) (scells (ss ++ List.replicate j markS))) ∧ Same w wr)
      case atStart => exact ⟨0, none, 0, rfl, rfl, by omega, rfl, fun e => absurd rfl e, O1, Fr.refl _ _⟩
      case round =>
        obtain ⟨j, ao, c, rfl, rfl, hj, rfl, hao, hown, sr⟩ := hrel
        by_cases hgo : j < 5
        · have hown' := hown.out
          have hsz := sr.size
          have hone : ∀ u ∈ [Value.string markS], u.oneCell' = true := by intro u hu; simp at hu; subst hu; rfl
          have hmk : (#[Value.string ⟨#[109, 97, 114, 107]⟩] : Array Value) = #[Value.string markS] := rfl
          obtain ⟨nj, hnj⟩ : ∃ nj, nj = 0 + j := ⟨_, rfl⟩
          rw [← hnj] at hown' ⊢
          have HNJ : Hid (nj = 0 + j) := hnj
          have hnjb : nj ≤ 4194400 := by omega
          clear hnj
          go_wp2_with (at_builtin; go_must (refine wpList_append_lies _ (by rfl) _ _ _ (by rfl) w.heap.size 9 i0 (.string ⟨#[]⟩) 1 16 Tryd.underlying27 hi hi0 hi1 hi2 rfl (by decide) _ _ _ (by rfl) (hown'.alloc _) ⟨wr.heap.size, 0, none⟩ 1 1 [Value.string markS] (by rfl) (by rfl) (World.news_of_block (cs := #[Value.string markS]) (heap_alloc_new wr _)) hone (by decide) (by unfold maxLen; omega) (by omega) (by simp; omega) (wr.heap.size + 1) (by simp) ?_; intro g5 cap5 W5 hown5 hgrow5 hat5 _))
          have hnj := HNJ.out
          have O5 : W5.ownsRow w.heap.size 9 1 (.slice (some ⟨g5, 0, none⟩) (0 + (j + 1)) cap5) (0 + (j + 1)) (scells (ss ++ List.replicate (j + 1) markS)) := by
            rw [List.replicate_succ', ← List.append_assoc, scells_append, show 0 + (j + 1) = nj + 1 from by omega]
            exact hown5
          have s5 : Same w W5 := by
            refine Fr.grown (sr.alloc _) hgrow5 ?_
            intro k hk hlt
            rw [hnj] at hk
            have := (hown.out.lt k hk).1
            omega
          go_roundg (5 - (j + 1))
          case measure => omega
          case rel => exact ⟨j + 1, some ⟨g5, 0, none⟩, cap5, by rw [hnj]; rfl, by go_num, by omega, rfl, fun _ => ⟨g5, rfl⟩, O5, s5⟩
        · obtain rfl : j = 5 := by omega
          obtain ⟨g', rfl⟩ := hao (by omega)
          have hcap : 0 ≤ c := by
            rcases hown.out.2 with ⟨hv, _⟩ | ⟨g2, cap2, cur, hv, _, _, hnc, _⟩
            · cases hv
            · injection hv with e1 e2 e3
              omega
          have hgl := (hown.out.lt g' rfl).1
          have HF : Hid (Lent w wr ss g' c) := by
            have h5 := hown.out
            show Lent _ _ _ _ _
            unfold Lent
            rw [← HN.out]
            refine ⟨⟨h5.1, ?_⟩, hgl, sr⟩
            rcases h5.2 with h | ⟨a1, a2, a3, a4, a5, a6⟩
            · exact Or.inl h
            · exact Or.inr ⟨a1, a2, a3, a4, Nat.zero_le _, a6⟩
          clear hown hao
          go_wp2_with fail
          go_ret
          exact ⟨g', c, rfl, HF.out⟩
  · have hne : ss ≠ [] := by intro e; rw [e] at hn; simp at hn; omega
    obtain ⟨rfl, hlt⟩ := h.place hne
    have hnews : ∀ j u, (scells ss)[j]? = some u → w.cell? ((⟨pb, po, none⟩ : Addr).add j) = some u := by
      intro j u hu
      simp only [scells, List.getElem?_map, Option.map_eq_some_iff] at hu
      obtain ⟨x, hx, rfl⟩ := hu
      rw [Addr.add_mid]
      exact h.cells j x hx
    have hnl : (scells ss).length = n * 1 := by rw [scells_length, Nat.mul_one, hn]
    have hn1 : ∀ u ∈ scells ss, u.oneCell' = true := by intro v hv; simp only [scells, List.mem_map] at hv; obtain ⟨c, _, rfl⟩ := hv; rfl
    obtain ⟨SC, hSC⟩ : ∃ S, S = scells ss := ⟨_, rfl⟩
    rw [← hSC] at hnews hnl hn1
    have HSC : Hid (SC = scells ss) := hSC
    have HNW : Hid (∀ j u, SC[j]? = some u → w.cell? ((⟨pb, po, none⟩ : Addr).add j) = some u) := hnews
    clear hn hSC h hnews hne
    go_enter Tryd.func10, Tryd.ntmps10
    go_wp2_with (at_builtin; go_must (refine wpList_append_lies _ (by rfl) _ _ _ (by rfl) w.heap.size 9 i0 (.string ⟨#[]⟩) 1 16 Tryd.underlying27 hi hi0 hi1 hi2 rfl (by decide) _ _ _ (by rfl) (World.ownsRow_nil _ _ _ _) ⟨pb, po, none⟩ n pc SC (by rfl) hnl HNW.out hn1 (by omega) (by unfold maxLen; omega) (by omega) (Nat.le_refl _) w.heap.size rfl ?_; intro g1 cap1 W1 hown1 hgrow1 hat1 _))
    have s1 : Same w W1 := Fr.grown (Fr.refl _ w) hgrow1 (fun k hk _ => by simp [Value.ownBlock] at hk)
    have O1 : Hid (W1.ownsRow w.heap.size 9 1 (.slice (some ⟨g1, 0, none⟩) (n + 0) cap1) (n + 0) (scells (ss ++ List.replicate 0 markS))) := by
      show World.ownsRow _ _ _ _ _ _ _
      rw [List.replicate_zero, List.append_nil, ← HSC.out]
      have := hown1
      simpa using this
    clear hown1 hgrow1 hat1 hnl hn1 HNW HSC
    go_loopg [3, 4] 5 (fun g v iv wr => ∃ (j : Nat) (ao : Option Addr) (c : Nat), v = .slice ao (n + j) c ∧ iv = .int .i64 j ∧ j ≤ 5 ∧ g = 5 - j ∧ (j ≠ 0 → ∃ g', ao = some ⟨g', 0, none⟩) ∧ Hid (wr.ownsRow w.heap.size 9 1 (.slice ao (n + j) c) (n + j) (scells (ss ++ List.replicate j markS))) ∧ Same w wr)
    case atStart => exact ⟨0, some ⟨g1, 0, none⟩, cap1, rfl, rfl, by omega, rfl, fun e => absurd rfl e, O1, s1⟩
    case round =>
      obtain ⟨j, ao, c, rfl, rfl, hj, rfl, hao, hown, sr⟩ := hrel
      by_cases hgo : j < 5
      · have hown' := hown.out
        have hsz := sr.size
        have hone : ∀ u ∈ [Value.string markS], u.oneCell' = true := by intro u hu; simp at hu; subst hu; rfl
        have hmk : (#[Value.string ⟨#[109, 97, 114, 107]⟩] : Array Value) = #[Value.string markS] := rfl
        obtain ⟨nj, hnj⟩ : ∃ nj, nj = n + j := ⟨_, rfl⟩
        rw [← hnj] at hown' ⊢
        have HNJ : Hid (nj = n + j) := hnj
        have hnjb : nj ≤ 4194400 := by omega
        clear hnj
        go_wp2_with (at_builtin; go_must (refine wpList_append_lies _ (by rfl) _ _ _ (by rfl) w.heap.size 9 i0 (.string ⟨#[]⟩) 1 16 Tryd.underlying27 hi hi0 hi1 hi2 rfl (by decide) _ _ _ (by rfl) (hown'.alloc _) ⟨wr.heap.size, 0, none⟩ 1 1 [Value.string markS] (by rfl) (by rfl) (World.news_of_block (cs := #[Value.string markS]) (heap_alloc_new wr _)) hone (by decide) (by unfold maxLen; omega) (by omega) (by simp; omega) (wr.heap.size + 1) (by simp) ?_; intro g5 cap5 W5 hown5 hgrow5 hat5 _))
        have hnj := HNJ.out
        have O5 : W5.ownsRow w.heap.size 9 1 (.slice (some ⟨g5, 0, none⟩) (n + (j + 1)) cap5) (n + (j + 1)) (scells (ss ++ List.replicate (j + 1) markS)) := by
          rw [List.replicate_succ', ← List.append_assoc, scells_append, show n + (j + 1) = nj + 1 from by omega]
          exact hown5
        have s5 : Same w W5 := by
          refine Fr.grown (sr.alloc _) hgrow5 ?_
          intro k hk hlt
          rw [hnj] at hk
          have := (hown.out.lt k hk).1
          omega
        go_roundg (5 - (j + 1))
        case measure => omega
        case rel => exact ⟨j + 1, some ⟨g5, 0, none⟩, cap5, by rw [hnj]; rfl, by go_num, by omega, rfl, fun _ => ⟨g5, rfl⟩, O5, s5⟩
      · obtain rfl : j = 5 := by omega
        obtain ⟨g', rfl⟩ := hao (by omega)
        have hcap : n ≤ c := by
          rcases hown.out.2 with ⟨hv, _⟩ | ⟨g2, cap2, cur, hv, _, _, hnc, _⟩
          · cases hv
          · injection hv with e1 e2 e3
            omega
        have hgl := (hown.out.lt g' rfl).1
        have HF : Hid (Lent w wr ss g' c) := by
          have h5 := hown.out
          show Lent _ _ _ _ _
          unfold Lent
          rw [← HN.out]
          refine ⟨⟨h5.1, ?_⟩, hgl, sr⟩
          rcases h5.2 with h | ⟨a1, a2, a3, a4, a5, a6⟩
          · exact Or.inl h
          · exact Or.inr ⟨a1, a2, a3, a4, Nat.zero_le _, a6⟩
        clear hown hao
        go_wp2_with fail
        go_ret
        exact ⟨g', c, rfl, HF.out⟩
end Go.Proofs.YthkhfblpdekjhaaDoor
