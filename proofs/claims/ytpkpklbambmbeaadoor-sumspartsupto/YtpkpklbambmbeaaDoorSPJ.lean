/-
  Walks: SumsParts.
-/
import Derived.Test.YtpkpklbambmbeaaDoorSPI
import Derived.Test.YtpkpklbambmbeaaDoorSQ
namespace Go.Proofs.YtpkpklbambmbeaaDoor
open Go.RowKit

def overS : ByteArray := ⟨#[111, 118, 101, 114]⟩
def behindS : ByteArray := ⟨#[98, 101, 104, 105, 110, 100]⟩
theorem own_block (pa : Option Addr) (n c : Nat) : (Value.slice pa n c).ownBlock = pa.map (·.block) := by cases pa <;> rfl

/-- Where the loops stand: the list l is an owned row; of what W had only what lies from A up to Z may have turned. -/
def LSt (W : World) (A Z : Nat) (wr : World) (ao : Option Addr) (n c : Nat) (xs : List ByteArray) : Prop :=
  wr.ownsRow A 9 1 (.slice ao n c) n (scells xs) ∧ Fr (fun k => A ≤ k ∧ k < Z) W wr ∧ (∀ k, ao.map (·.block) = some k → k < W.heap.size → k < Z)
theorem LSt.put {W wr : World} {A Z g n c i : Nat} {xs : List ByteArray} (h : LSt W A Z wr (some ⟨g, 0, none⟩) n c xs) (x : ByteArray) : LSt W A Z (wr.setCell ⟨g, i, none⟩ (.string x)) (some ⟨g, 0, none⟩) n c (xs.set i x) := by
  obtain ⟨h1, h2, h3⟩ := h
  refine ⟨?_, ?_, h3⟩
  · have e : scells (xs.set i x) = (scells xs).set i (.string x) := by simp [scells, List.map_set]
    rw [e]
    exact own_set h1 _
  · exact h2.setCell (fun hb => ⟨(h1.lt g rfl).1, h3 g rfl hb⟩) _
theorem LSt.grown {W wr w5 : World} {A Z n c g5 c5 : Nat} {ao : Option Addr} {xs : List ByteArray} (o : Obj) (x : ByteArray) (h : LSt W A Z wr ao n c xs) (ho : w5.ownsRow A 9 1 (.slice (some ⟨g5, 0, none⟩) (n + 1) c5) (n + 1) (scells xs ++ [.string x])) (hg : (wr.alloc o).grownBy w5 (Value.slice ao n c).ownBlock) (hat : ∀ k, (Value.slice (some ⟨g5, 0, none⟩) (n + 1) c5).ownBlock = some k → (Value.slice ao n c).ownBlock = some k ∨ wr.heap.size ≤ k) :
    LSt W A Z w5 (some ⟨g5, 0, none⟩) (n + 1) c5 (xs ++ [x]) := by
  obtain ⟨h1, h2, h3⟩ := h
  refine ⟨by rw [scells_append]; exact ho, ?_, ?_⟩
  · refine Fr.grown (h2.alloc o) hg ?_
    intro k hk hlt
    rw [own_block] at hk
    exact ⟨(h1.lt k (by rw [own_block]; exact hk)).1, h3 k hk hlt⟩
  · intro k hk hlt
    rcases hat k hk with e | e
    · rw [own_block] at e
      exact h3 k e hlt
    · have := h2.size
      omega

set_option maxRecDepth 100000 in
set_option maxHeartbeats 2000000 in
theorem sparts_walk {w : World} (htab : TabAt w) (T : ByteArray) (hl : T.size ≤ 1048577) :
    Calls Tryd.prog 4 #[.string T] w fun e w' => e = .returned (.bool true) ∧ Same w w' := by
  obtain ⟨i0, hi, hi0, hi1, hi2⟩ := info_parts Tryd.infoStr
  obtain ⟨tg, ss, er, hsl, HP, HR⟩ := parts_any T hl
  have HSM : Hid (∀ (W : World) (pa qa : Option Addr) (pb pc qb qc : Nat), SAt W pa pb 0 ss → SAt W qa qb 0 ss → Calls Tryd.prog 9 #[.slice pa ss.length pc, .slice qa ss.length qc] W fun e w' => e = .returned (.bool true) ∧ Same W w') := by
    intro W pa qa pb pc qb qc h k
    have := same_calls (pc := pc) (qc := qc) h k hsl
    simpa using this
  have HA : Hid (∀ W, Same w W → Calls Tryd.prog 6 #[] W fun e w' => e = .returned (.bool true) ∧ Same W w') := fun W s => awake_calls W (htab.same s)
  have HPA : Hid (PartsIs T tg ss er) := HP
  have HRA : Hid (RPartsIs T tg ss er) := HR
  obtain ⟨n, hn⟩ : ∃ n, n = ss.length := ⟨_, rfl⟩
  have HN : Hid (n = ss.length) := hn
  have hP : ∀ W : World, Calls Tryd.prog 7 #[.string T] W fun e w' => ∃ pa pc, e = .returned (.tuple #[.string tg, .slice pa n pc, .int .i64 er]) ∧ Hid (w'.ownsRow W.heap.size 9 1 (.slice pa n pc) n (scells ss)) ∧ Same W w' := by
    intro W; rw [hn]; exact HP W
  have hRR : ∀ W : World, Calls Tryd.prog 8 #[.string T] W fun e w' => ∃ pa pb pc, e = .returned (.tuple #[.string tg, .slice pa n pc, .int .i64 er]) ∧ Hid (SAt w' pa pb 0 ss ∧ (ss ≠ [] → W.heap.size ≤ pb)) ∧ Same W w' := by
    intro W; rw [hn]; exact (HR W).mono fun e w' ⟨pa, pb, pc, h1, h2, h3, h4⟩ => ⟨pa, pb, pc, h1, ⟨h2, h3⟩, h4⟩
  have HQ : Hid (∀ (W : World) (pa qa : Option Addr) (pb pc qb qc : Nat), SAt W pa pb 0 ss → SAt W qa qb 0 ss → Calls Tryd.prog 9 #[.slice pa n pc, .slice qa n qc] W fun e w' => e = .returned (.bool true) ∧ Same W w') := by
    rw [hn]; exact HSM
  rw [← hn] at hsl
  clear HP HR HPA HRA HSM hn hl htab
  go_enter Tryd.func4, Tryd.ntmps4
  go_wp2_with fail
  refine (hP _).mono ?_
  rintro e W1 ⟨pa1, pc1, rfl, O1, s1⟩
  go_wp2_with fail
  refine (hP _).mono ?_
  rintro e W2 ⟨pa2, pc2, rfl, O2, s2⟩
  go_wp2_with fail
  refine (hRR _).mono ?_
  rintro e W3 ⟨pa3, pb3, pc3, rfl, S3, s3⟩
  have t3 : Same w W3 := (s1.trans s2).trans s3
  have hB1 : ∀ k, pa1.map (·.block) = some k → w.heap.size ≤ k ∧ k < W1.heap.size := fun k hk => by have := O1.out.lt k (by rw [own_block]; exact hk); exact this
  have hB2 : ∀ k, pa2.map (·.block) = some k → W1.heap.size ≤ k ∧ k < W2.heap.size := fun k hk => by have := O2.out.lt k (by rw [own_block]; exact hk); exact this
  have Q1 : Hid (W3.ownsRow w.heap.size 9 1 (.slice pa1 n pc1) n (scells ss)) := own_same (own_same O1.out s2) s3
  have Q2 : Hid (W3.ownsRow W1.heap.size 9 1 (.slice pa2 n pc2) n (scells ss)) := own_same O2.out s3
  have zs1 := s1.size
  have zs2 := s2.size
  have zs3 := s3.size
  have HZ : Hid (w.heap.size ≤ W1.heap.size ∧ W1.heap.size ≤ W2.heap.size ∧ W2.heap.size ≤ W3.heap.size) := ⟨zs1, zs2, zs3⟩
  have HB1 : Hid (∀ k, pa1.map (·.block) = some k → w.heap.size ≤ k ∧ k < W1.heap.size) := hB1
  have HB2 : Hid (∀ k, pa2.map (·.block) = some k → W1.heap.size ≤ k ∧ k < W2.heap.size) := hB2
  clear O1 O2 hB1 hB2 zs1 zs2 zs3 s1 s2 s3 hP hRR
  obtain ⟨pb1, A1, _⟩ : ∃ pb, SAt W3 pa1 pb 0 ss ∧ True := by have h := Q1.out; rw [HN.out] at h; obtain ⟨pb, h1, _⟩ := own_sat h; exact ⟨pb, h1, trivial⟩
  obtain ⟨pb2, A2, _⟩ : ∃ pb, SAt W3 pa2 pb 0 ss ∧ True := by have h := Q2.out; rw [HN.out] at h; obtain ⟨pb, h1, _⟩ := own_sat h; exact ⟨pb, h1, trivial⟩
  have HA1 : Hid (SAt W3 pa1 pb1 0 ss) := A1
  have HA2 : Hid (SAt W3 pa2 pb2 0 ss) := A2
  clear A1 A2
  go_wp2_with fail
  refine (HQ.out _ _ _ _ _ _ _ HA1.out S3.out.1).mono ?_
  rintro e W4 ⟨rfl, s4⟩
  go_wp2_with fail
  refine (HQ.out _ _ _ _ _ _ _ (HA2.out.same s4) (S3.out.1.same s4)).mono ?_
  rintro e W5 ⟨rfl, s5⟩
  have t5 : Same w W5 := (t3.trans s4).trans s5
  have L5 : Hid (LSt W5 w.heap.size W1.heap.size W5 pa1 n pc1 ss) := by
    refine ⟨own_same (own_same Q1.out s4) s5, Fr.refl _ _, fun k hk _ => (HB1.out k hk).2⟩
  have R2 : Hid (W5.ownsRow W1.heap.size 9 1 (.slice pa2 n pc2) n (scells ss)) := own_same (own_same Q2.out s4) s5
  have S5 : Hid (SAt W5 pa3 pb3 0 ss ∧ (ss ≠ [] → W2.heap.size ≤ pb3)) := ⟨(S3.out.1.same s4).same s5, S3.out.2⟩
  have HZ5 : Hid (w.heap.size ≤ W1.heap.size ∧ W1.heap.size ≤ W2.heap.size ∧ W2.heap.size ≤ W5.heap.size) := by have := HZ.out; have := s4.size; have := s5.size; exact ⟨by omega, by omega, by omega⟩
  clear Q1 Q2 HA1 HA2 S3 HZ s4 s5 t3
  go_wp2_with fail
  have hzz : Hid (ss.length = n) := HN.out.symm
  go_loopg [12] n (fun gg iv wr => ∃ (k : Nat) (xs : List ByteArray), iv = .int .i64 k ∧ k ≤ n ∧ gg = n - k ∧ xs.length = n ∧ Hid (LSt W5 w.heap.size W1.heap.size wr pa1 n pc1 xs))
  case atStart => exact ⟨0, ss, rfl, by omega, rfl, hzz.out, L5⟩
  case round =>
    obtain ⟨k, xs, rfl, hk, rfl, hxs, HL⟩ := hrel
    by_cases hgo : k < n
    · obtain ⟨x0, hx0⟩ : ∃ x, xs[k]? = some x := ⟨_, List.getElem?_eq_getElem (by omega)⟩
      obtain ⟨g1, rfl⟩ : ∃ g, pa1 = some ⟨g, 0, none⟩ := by
        rcases HL.out.1.2 with ⟨hv, h0⟩ | ⟨g, c, cur, hv, _⟩
        · omega
        · injection hv with e1; exact ⟨g, e1⟩
      have c1 := own_sat8 HL.out.1 k x0 hx0
      rw [Nat.zero_add] at c1
      have f1 : wr.frozen? ⟨g1, k, none⟩ = false := own_frozen HL.out.1
      have HL2 : Hid (LSt W5 w.heap.size W1.heap.size (wr.setCell ⟨g1, k, none⟩ (.string ⟨#[111, 118, 101, 114]⟩)) (some ⟨g1, 0, none⟩) n pc1 (xs.set k overS)) := LSt.put HL.out overS
      have hgi : (k : Int) < (n : Int) := by omega
      clear HL hx0
      go_wp2_with fail
      go_roundg (n - (k + 1))
      case measure => omega
      case rel => exact ⟨k + 1, xs.set k overS, by go_num, by omega, rfl, by rw [List.length_set]; exact hxs, HL2⟩
    · obtain rfl : n = k := by omega
      have hgi : ¬ (n : Int) < (n : Int) := by omega
      go_wp2_with fail
      go_loopg [4, 13] 5 (fun gg lv iv wr => ∃ (j : Nat) (ao : Option Addr) (c : Nat) (ys : List ByteArray), lv = .slice ao (n + j) c ∧ iv = .int .i64 j ∧ j ≤ 5 ∧ gg = 5 - j ∧ Hid (LSt W5 w.heap.size W1.heap.size wr ao (n + j) c ys))
      case atStart => exact ⟨0, pa1, pc1, xs, rfl, rfl, by omega, rfl, HL⟩
      case round =>
        obtain ⟨j, ao, c, ys, rfl, rfl, hj, rfl, HM⟩ := hrel
        by_cases hgo2 : j < 5
        · obtain ⟨nj, hnj⟩ : ∃ nj, nj = n + j := ⟨_, rfl⟩
          have hown' : wr.ownsRow w.heap.size 9 1 (.slice ao nj c) nj (scells ys) := by rw [hnj]; exact HM.out.1
          have hHM : Hid (LSt W5 w.heap.size W1.heap.size wr ao nj c ys) := by rw [hnj]; exact HM
          rw [← hnj]
          have HNJ : Hid (nj = n + j) := hnj
          have hnjb : nj ≤ 4194400 := by omega
          have hone : ∀ u ∈ [Value.string markS], u.oneCell' = true := by intro u hu; simp at hu; subst hu; rfl
          have hmk : (#[Value.string ⟨#[109, 97, 114, 107]⟩] : Array Value) = #[Value.string markS] := rfl
          have hsz : w.heap.size ≤ wr.heap.size := by have := HM.out.2.1.size; have := HZ5.out; omega
          have hgi2 : (j : Int) < 5 := by omega
          clear hnj HM
          go_wp2_with (at_builtin; go_must (refine wpList_append_lies _ (by rfl) _ _ _ (by rfl) w.heap.size 9 i0 (.string ⟨#[]⟩) 1 16 Tryd.underlying23 hi hi0 hi1 hi2 rfl (by decide) _ _ _ (by rfl) (hown'.alloc _) ⟨wr.heap.size, 0, none⟩ 1 1 [Value.string markS] (by rfl) (by rfl) (World.news_of_block (cs := #[Value.string markS]) (heap_alloc_new wr _)) hone (by decide) (by unfold maxLen; omega) (by omega) (by simp; omega) (wr.heap.size + 1) (by simp) ?_; intro g5 cap5 W6 hown5 hgrow5 hat5 _))
          have L6 : Hid (LSt W5 w.heap.size W1.heap.size W6 (some ⟨g5, 0, none⟩) (n + (j + 1)) cap5 (ys ++ [markS])) := by
            have hq : ∀ k, (Value.slice (some ⟨g5, 0, none⟩) (nj + 1) cap5).ownBlock = some k → (Value.slice ao nj c).ownBlock = some k ∨ wr.heap.size ≤ k := by
              intro k hk
              have hk' : g5 = k := by simpa [Value.ownBlock] using hk
              subst hk'
              exact hat5.imp (fun e => e) (fun e => by omega)
            have h := LSt.grown _ markS hHM.out hown5 hgrow5 hq
            rw [HNJ.out] at h
            exact h
          have hnj := HNJ.out
          go_roundg (5 - (j + 1))
          case measure => omega
          case rel => exact ⟨j + 1, some ⟨g5, 0, none⟩, cap5, ys ++ [markS], by rw [hnj]; rfl, by go_num, by omega, rfl, L6⟩
        · obtain rfl : j = 5 := by omega
          have hbh : (#[Value.string ⟨#[98, 101, 104, 105, 110, 100]⟩] : Array Value) = #[Value.string behindS] := rfl
          have F6 : Fr (fun k => w.heap.size ≤ k ∧ k < W1.heap.size) W5 wr := HM.out.2.1
          have R6 : wr.ownsRow W1.heap.size 9 1 (.slice pa2 n pc2) n (scells ss) := own_fr R2.out F6 (fun k hk hs => by rw [own_block] at hk; have := (HB2.out k hk).1; omega)
          have S6 : Hid (SAt wr pa3 pb3 0 ss) := S5.out.1.fr F6 (fun hne hs => by have := S5.out.2 hne; have := HZ5.out; omega)
          have hsz : W1.heap.size ≤ wr.heap.size := by have := F6.size; have := HZ5.out; omega
          have hgi2 : ¬ ((5 : Nat) : Int) < 5 := by omega
          have T6 : Hid (Fr (fun k => w.heap.size ≤ k) w wr) := Fr.trans (t5.mono (fun _ _ f => f.elim)) F6 (fun i hi hs => hs.1)
          clear HL HM F6 R2 L5
          go_wp2_with (at_builtin; go_must (refine wpList_append_both _ (by rfl) _ _ (by rfl) W1.heap.size n pc2 pa2 ss HN.out (by rfl) (R6.alloc _) ⟨wr.heap.size, 0, none⟩ 1 behindS (by rfl) (by simp [behindS]) (by omega) (by simp; omega) ?_; intro g7 cap7 W7 O7 G7 A7))
          have F7 : Fr (fun k => some k = pa2.map (·.block)) wr W7 := Fr.grown ((Fr.refl _ wr).alloc _) G7 (fun k hk _ => hk.symm)
          have S7 : SAt W7 pa3 pb3 0 ss := S6.out.fr F7 (fun hne hs => by have h1 := S5.out.2 hne; have h2 := HB2.out pb3 hs.symm; omega)
          obtain ⟨pb7, A7⟩ := A7
          have T7 : Same w W7 := (Fr.trans T6.out F7 (fun i hi hs => by have h2 := HB2.out i hs.symm; have := HZ5.out; omega)).mono (fun i hi hs => by omega)
          have C7 : SRow W7 g7 0 (ss ++ [behindS]) := own_sat8 O7
          have hcap : n + 1 ≤ cap7 := by
            rcases O7.2 with ⟨hv, _⟩ | ⟨g2, c2, cur, hv, _, _, hnc, _⟩
            · cases hv
            · injection hv with _ _ e3; omega
          have hg7 := (O7.lt g7 rfl).2
          have L7 : SAt W7 (some ⟨g7, 0, none⟩) g7 0 ss := ⟨fun _ => ⟨rfl, hg7⟩, fun j x hx => C7 j x (by rw [List.getElem?_append_left (List.getElem?_eq_some_iff.1 hx).1]; exact hx)⟩
          have c7 : W7.cell? ⟨g7, n, none⟩ = some (.string ⟨#[98, 101, 104, 105, 110, 100]⟩) := by
            have := C7 n behindS (by rw [HN.out]; simp)
            rw [Nat.zero_add] at this
            exact this
          have HS7 : Hid (SAt W7 pa3 pb3 0 ss) := S7
          have HA7 : Hid (SAt W7 pa2 pb7 0 ss) := A7
          have HL7 : Hid (SAt W7 (some ⟨g7, 0, none⟩) g7 0 ss) := L7
          clear S7 A7 L7 C7 O7 G7 F7 S6 R6 hg7
          go_wp2_with fail
          refine (HQ.out _ _ _ _ _ _ _ HA7.out HS7.out).mono ?_
          rintro e W8 ⟨rfl, s8⟩
          have c8 := s8.keep c7
          go_wp2_with fail
          refine (HQ.out _ _ _ _ _ _ _ (HL7.out.same s8) (HS7.out.same s8)).mono ?_
          rintro e W9 ⟨rfl, s9⟩
          have c9 := s9.keep c8
          clear c7 c8
          go_wp2_with fail
          refine (HA.out _ ((T7.trans s8).trans s9)).mono ?_
          rintro e W10 ⟨rfl, s10⟩
          go_wp2_with fail
          go_ret
          exact ⟨rfl, ((T7.trans s8).trans s9).trans s10⟩
theorem spart_walk (w : World) (htab : TabAt w) (T : ByteArray) (hl : T.size ≤ 1048577) : Calls Tryd.prog 4 #[.string T] w fun e w' => e = .returned (.bool true) ∧ Same w w' := sparts_walk htab T hl
end Go.Proofs.YtpkpklbambmbeaaDoor
