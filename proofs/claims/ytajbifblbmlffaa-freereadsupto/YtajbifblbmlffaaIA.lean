/- free: the document's Same where chains are alike. -/
import Derived.Test.YtajbifblbmlffaaEZ
namespace Go.Proofs.Ytajbifblbmlffaa
open Go.RowKit Go.Maps

/-- A batch, with no bound but that of memory. -/
structure BrOk (w : World) (x : Bt) : Prop where
  row : NRow w x.na x.nb x.no x.ns
  hl : x.ns.length ≤ 1099511627776
structure BrRow (w : World) (pa : Option Addr) (pb po : Nat) (L : List Bt) : Prop where
  place : L ≠ [] → pa = some ⟨pb, po, none⟩ ∧ pb < w.heap.size
  cells : ∀ (j : Nat) (x : Bt), L[j]? = some x → w.cell? ⟨pb, po + j * 2, none⟩ = some (.int .u32 (x.pg : Int)) ∧ w.cell? ⟨pb, po + j * 2 + 1, none⟩ = some (.slice x.na x.ns.length x.nc) ∧ BrOk w x
theorem BrOk.same {w w' : World} {x : Bt} (h : BrOk w x) (s : Same w w') : BrOk w' x := ⟨h.row.same s, h.hl⟩
theorem BrRow.same {w w' : World} {pa : Option Addr} {pb po : Nat} {L : List Bt} (h : BrRow w pa pb po L) (s : Same w w') : BrRow w' pa pb po L :=
  ⟨fun e => ⟨(h.place e).1, Nat.lt_of_lt_of_le (h.place e).2 s.size⟩, fun j x hx => by
    obtain ⟨h1, h2, h3⟩ := h.cells j x hx
    exact ⟨s.keep h1, s.keep h2, h3.same s⟩⟩
/-- What a batch says, wherever it lies. -/
def Bt.key (x : Bt) : Nat × List Nat := (x.pg, x.ns)
set_option maxRecDepth 100000 in
set_option maxHeartbeats 2000000 in
theorem sameB_true {pa pa2 : Option Addr} {pb po cp pb2 po2 cp2 : Nat} {L L2 : List Bt} (w : World) (h : BrRow w pa pb po L) (h2 : BrRow w pa2 pb2 po2 L2) (he : L.map Bt.key = L2.map Bt.key) (hn : L.length ≤ 1099511627776) :
    Calls Try.prog 8 #[.slice pa L.length cp, .slice pa2 L2.length cp2] w fun e w' => e = .returned (.bool true) ∧ Same w w' := by
  have HR : Hid (∀ W, Same w W → BrRow W pa pb po L ∧ BrRow W pa2 pb2 po2 L2) := fun W s => ⟨h.same s, h2.same s⟩
  have hl2 : L2.length = L.length := by have := congrArg List.length he; simpa using this.symm
  obtain ⟨n, hnn⟩ : ∃ n, n = L.length := ⟨_, rfl⟩
  rw [hl2, ← hnn]
  rw [← hnn] at hn
  have HN : Hid (n = L.length ∧ L.map Bt.key = L2.map Bt.key) := ⟨hnn, he⟩
  clear h h2 hnn he hl2
  go_enter Try.func8, Try.ntmps8
  go_wp2_with fail
  go_loopg [5] n (fun g iv wr => ∃ k : Nat, iv = .int .i64 (k : Int) ∧ k ≤ n ∧ g = n - k ∧ Hid (Same w wr))
  case atStart => exact ⟨0, rfl, by omega, rfl, Fr.refl _ w⟩
  case round =>
    obtain ⟨k, rfl, hk, hg, HS⟩ := hrel
    by_cases hgo : k < n
    · have hgi : (k : Int) < (n : Int) := by omega
      obtain ⟨x, hx⟩ : ∃ x, L[k]? = some x := ⟨_, List.getElem?_eq_getElem (by rw [← HN.out.1]; exact hgo)⟩
      obtain ⟨y, hy, hxy⟩ : ∃ y, L2[k]? = some y ∧ x.key = y.key := by
        have h1 : (L2.map Bt.key)[k]? = some x.key := by rw [← HN.out.2, List.getElem?_map, hx]; rfl
        rw [List.getElem?_map] at h1
        cases hy : L2[k]? with
        | none => rw [hy] at h1; cases h1
        | some y => rw [hy] at h1; exact ⟨y, rfl, (Option.some.inj h1).symm⟩
      have hpg : y.pg = x.pg := (congrArg Prod.fst hxy).symm
      have hns : y.ns = x.ns := (congrArg Prod.snd hxy).symm
      have hne : L ≠ [] := by intro e; rw [e] at hx; simp at hx
      have hne2 : L2 ≠ [] := by intro e; rw [e] at hy; simp at hy
      obtain ⟨ha, hb⟩ := HR.out _ HS.out
      obtain ⟨c1, c2, c3⟩ := ha.cells k x hx
      obtain ⟨d1, d2, d3⟩ := hb.cells k y hy
      rw [hpg] at d1
      rw [hns] at d2
      obtain ⟨hpa, _⟩ := ha.place hne
      obtain ⟨hpb, _⟩ := hb.place hne2
      subst hpa
      subst hpb
      have HSN : Hid (∀ W, Same wr W → Calls Try.prog 18 #[.slice x.na x.ns.length x.nc, .slice y.na x.ns.length y.nc] W fun e w' => e = .returned (.bool true) ∧ Same W w') := fun W s => by
        have r2 := (d3.row.same s)
        rw [hns] at r2
        exact sameNumbers_true W (c3.row.same s) r2 c3.hl
      have HDr : Hid (Same w wr.drew) := Fr.drew HS.out
      have HK9 : Hid (∀ W, Same wr W → (W.cell? ⟨pb, po + k * 2, none⟩ = some (.int .u32 (x.pg : Int)) ∧ W.cell? ⟨pb, po + k * 2 + 1, none⟩ = some (.slice x.na x.ns.length x.nc) ∧ W.cell? ⟨pb2, po2 + k * 2, none⟩ = some (.int .u32 (x.pg : Int)) ∧ W.cell? ⟨pb2, po2 + k * 2 + 1, none⟩ = some (.slice y.na x.ns.length y.nc) ∧ Same w W)) := fun W s => ⟨s.keep c1, s.keep c2, s.keep d1, s.keep d2, HS.out.trans s⟩
      obtain ⟨pg, hpg'⟩ : ∃ p, p = x.pg := ⟨_, rfl⟩
      obtain ⟨sn, hsn'⟩ : ∃ p, p = x.ns.length := ⟨_, rfl⟩
      obtain ⟨na1, hna1⟩ : ∃ p, p = x.na := ⟨_, rfl⟩
      obtain ⟨nc1, hnc1⟩ : ∃ p, p = x.nc := ⟨_, rfl⟩
      obtain ⟨na2, hna2⟩ : ∃ p, p = y.na := ⟨_, rfl⟩
      obtain ⟨nc2, hnc2⟩ : ∃ p, p = y.nc := ⟨_, rfl⟩
      rw [← hpg', ← hsn', ← hna1, ← hnc1, ← hna2, ← hnc2] at HK9
      rw [← hsn', ← hna1, ← hnc1, ← hna2, ← hnc2] at HSN
      obtain ⟨c1, c2, d1, d2, _⟩ := HK9.out wr (Fr.refl _ _)
      clear hpg hns hne hne2 ha hb c3 d3 hxy hx hy hpg' hsn' hna1 hnc1 hna2 hnc2
      go_wp2_with fail
      refine wp_region_held_drew (S := fun Y => Y.cell? ⟨pb, po + k * 2, none⟩ = some (.int .u32 (pg : Int)) ∧ Y.cell? ⟨pb, po + k * 2 + 1, none⟩ = some (.slice na1 sn nc1) ∧ Y.cell? ⟨pb2, po2 + k * 2, none⟩ = some (.int .u32 (pg : Int)) ∧ Y.cell? ⟨pb2, po2 + k * 2 + 1, none⟩ = some (.slice na2 sn nc2) ∧ Same w Y) (by kernel_rfl) (⟨c1, c2, d1, d2, HDr.out⟩) (fun hHeld => ?_)
      refine takeL (i := 0) (v := .slice (some ⟨pb, po, none⟩) n cp) rfl (by kernel_rfl) (by kernel_rfl) (by kernel_rfl) (fun _ _ _ h => h) (Or.inl ⟨by rfl, fun w hSw => by (obtain ⟨z0, z1, z2, z3, z4⟩ := hSw; go_simp)⟩) (by assumption) ?_
      try simp only [Act.put, List.setIfInBounds_toArray, List.set_cons_zero, List.set_cons_succ]
      refine takeL (i := 1) (v := .int .i64 (k : Int)) rfl (by kernel_rfl) (by kernel_rfl) (by kernel_rfl) (fun _ _ _ h => h) (Or.inl ⟨by rfl, fun w hSw => by (obtain ⟨z0, z1, z2, z3, z4⟩ := hSw; go_simp)⟩) (by assumption) ?_
      try simp only [Act.put, List.setIfInBounds_toArray, List.set_cons_zero, List.set_cons_succ]
      refine takeL (i := 2) (v := .pointer (some ⟨pb, po + k * 2, none⟩)) rfl (by kernel_rfl) (by kernel_rfl) (by kernel_rfl) (fun _ _ _ h => h) (Or.inl ⟨by rfl, fun w hSw => by (obtain ⟨z0, z1, z2, z3, z4⟩ := hSw; go_simp)⟩) (by assumption) ?_
      try simp only [Act.put, List.setIfInBounds_toArray, List.set_cons_zero, List.set_cons_succ]
      refine takeL (i := 3) (v := .pointer (some ⟨pb, po + k * 2, none⟩)) rfl (by kernel_rfl) (by kernel_rfl) (by kernel_rfl) (fun _ _ _ h => h) (Or.inl ⟨by rfl, fun w hSw => by (obtain ⟨z0, z1, z2, z3, z4⟩ := hSw; go_simp)⟩) (by assumption) ?_
      try simp only [Act.put, List.setIfInBounds_toArray, List.set_cons_zero, List.set_cons_succ]
      refine takeL (i := 4) (v := .int .u32 (pg : Int)) rfl (by kernel_rfl) (by kernel_rfl) (by kernel_rfl) (fun _ _ _ h => h) (Or.inl ⟨by rfl, fun w hSw => by (obtain ⟨z0, z1, z2, z3, z4⟩ := hSw; go_simp)⟩) (by assumption) ?_
      try simp only [Act.put, List.setIfInBounds_toArray, List.set_cons_zero, List.set_cons_succ]
      refine takeL (i := 5) (v := .slice (some ⟨pb2, po2, none⟩) n cp2) rfl (by kernel_rfl) (by kernel_rfl) (by kernel_rfl) (fun _ _ _ h => h) (Or.inl ⟨by rfl, fun w hSw => by (obtain ⟨z0, z1, z2, z3, z4⟩ := hSw; go_simp)⟩) (by assumption) ?_
      try simp only [Act.put, List.setIfInBounds_toArray, List.set_cons_zero, List.set_cons_succ]
      refine takeL (i := 6) (v := .int .i64 (k : Int)) rfl (by kernel_rfl) (by kernel_rfl) (by kernel_rfl) (fun _ _ _ h => h) (Or.inl ⟨by rfl, fun w hSw => by (obtain ⟨z0, z1, z2, z3, z4⟩ := hSw; go_simp)⟩) (by assumption) ?_
      try simp only [Act.put, List.setIfInBounds_toArray, List.set_cons_zero, List.set_cons_succ]
      refine takeL (i := 7) (v := .pointer (some ⟨pb2, po2 + k * 2, none⟩)) rfl (by kernel_rfl) (by kernel_rfl) (by kernel_rfl) (fun _ _ _ h => h) (Or.inl ⟨by rfl, fun w hSw => by (obtain ⟨z0, z1, z2, z3, z4⟩ := hSw; go_simp)⟩) (by assumption) ?_
      try simp only [Act.put, List.setIfInBounds_toArray, List.set_cons_zero, List.set_cons_succ]
      refine takeL (i := 8) (v := .pointer (some ⟨pb2, po2 + k * 2, none⟩)) rfl (by kernel_rfl) (by kernel_rfl) (by kernel_rfl) (fun _ _ _ h => h) (Or.inl ⟨by rfl, fun w hSw => by (obtain ⟨z0, z1, z2, z3, z4⟩ := hSw; go_simp)⟩) (by assumption) ?_
      try simp only [Act.put, List.setIfInBounds_toArray, List.set_cons_zero, List.set_cons_succ]
      refine takeL (i := 9) (v := .int .u32 (pg : Int)) rfl (by kernel_rfl) (by kernel_rfl) (by kernel_rfl) (fun _ _ _ h => h) (Or.inl ⟨by rfl, fun w hSw => by (obtain ⟨z0, z1, z2, z3, z4⟩ := hSw; go_simp)⟩) (by assumption) ?_
      try simp only [Act.put, List.setIfInBounds_toArray, List.set_cons_zero, List.set_cons_succ]
      refine takeL (i := 10) (v := .bool false) rfl (by kernel_rfl) (by kernel_rfl) (by kernel_rfl) (fun _ _ _ h => h) (Or.inl ⟨by rfl, fun w hSw => by (obtain ⟨z0, z1, z2, z3, z4⟩ := hSw; go_simp)⟩) (by assumption) ?_
      try simp only [Act.put, List.setIfInBounds_toArray, List.set_cons_zero, List.set_cons_succ]
      refine takeL (i := 11) (v := .bool false) rfl (by kernel_rfl) (by kernel_rfl) (by kernel_rfl) (fun _ _ _ h => h) (Or.inl ⟨by rfl, fun w hSw => by (obtain ⟨z0, z1, z2, z3, z4⟩ := hSw; go_simp)⟩) (by assumption) ?_
      try simp only [Act.put, List.setIfInBounds_toArray, List.set_cons_zero, List.set_cons_succ]
      refine takeL (i := 12) (v := .slice (some ⟨pb, po, none⟩) n cp) rfl (by kernel_rfl) (by kernel_rfl) (by kernel_rfl) (fun _ _ _ h => h) (Or.inl ⟨by rfl, fun w hSw => by (obtain ⟨z0, z1, z2, z3, z4⟩ := hSw; go_simp)⟩) (by assumption) ?_
      try simp only [Act.put, List.setIfInBounds_toArray, List.set_cons_zero, List.set_cons_succ]
      refine takeL (i := 13) (v := .int .i64 (k : Int)) rfl (by kernel_rfl) (by kernel_rfl) (by kernel_rfl) (fun _ _ _ h => h) (Or.inl ⟨by rfl, fun w hSw => by (obtain ⟨z0, z1, z2, z3, z4⟩ := hSw; go_simp)⟩) (by assumption) ?_
      try simp only [Act.put, List.setIfInBounds_toArray, List.set_cons_zero, List.set_cons_succ]
      refine takeL (i := 14) (v := .pointer (some ⟨pb, po + k * 2, none⟩)) rfl (by kernel_rfl) (by kernel_rfl) (by kernel_rfl) (fun _ _ _ h => h) (Or.inl ⟨by rfl, fun w hSw => by (obtain ⟨z0, z1, z2, z3, z4⟩ := hSw; go_simp)⟩) (by assumption) ?_
      try simp only [Act.put, List.setIfInBounds_toArray, List.set_cons_zero, List.set_cons_succ]
      refine takeL (i := 15) (v := .pointer (some ⟨pb, po + k * 2 + 1, none⟩)) rfl (by kernel_rfl) (by kernel_rfl) (by kernel_rfl) (fun _ _ _ h => h) (Or.inl ⟨by rfl, fun w hSw => by (obtain ⟨z0, z1, z2, z3, z4⟩ := hSw; go_simp)⟩) (by assumption) ?_
      try simp only [Act.put, List.setIfInBounds_toArray, List.set_cons_zero, List.set_cons_succ]
      refine takeL (i := 16) (v := .slice na1 sn nc1) rfl (by kernel_rfl) (by kernel_rfl) (by kernel_rfl) (fun _ _ _ h => h) (Or.inl ⟨by rfl, fun w hSw => by (obtain ⟨z0, z1, z2, z3, z4⟩ := hSw; go_simp)⟩) (by assumption) ?_
      try simp only [Act.put, List.setIfInBounds_toArray, List.set_cons_zero, List.set_cons_succ]
      refine takeL (i := 17) (v := .slice (some ⟨pb2, po2, none⟩) n cp2) rfl (by kernel_rfl) (by kernel_rfl) (by kernel_rfl) (fun _ _ _ h => h) (Or.inl ⟨by rfl, fun w hSw => by (obtain ⟨z0, z1, z2, z3, z4⟩ := hSw; go_simp)⟩) (by assumption) ?_
      try simp only [Act.put, List.setIfInBounds_toArray, List.set_cons_zero, List.set_cons_succ]
      refine takeL (i := 18) (v := .int .i64 (k : Int)) rfl (by kernel_rfl) (by kernel_rfl) (by kernel_rfl) (fun _ _ _ h => h) (Or.inl ⟨by rfl, fun w hSw => by (obtain ⟨z0, z1, z2, z3, z4⟩ := hSw; go_simp)⟩) (by assumption) ?_
      try simp only [Act.put, List.setIfInBounds_toArray, List.set_cons_zero, List.set_cons_succ]
      refine takeL (i := 19) (v := .pointer (some ⟨pb2, po2 + k * 2, none⟩)) rfl (by kernel_rfl) (by kernel_rfl) (by kernel_rfl) (fun _ _ _ h => h) (Or.inl ⟨by rfl, fun w hSw => by (obtain ⟨z0, z1, z2, z3, z4⟩ := hSw; go_simp)⟩) (by assumption) ?_
      try simp only [Act.put, List.setIfInBounds_toArray, List.set_cons_zero, List.set_cons_succ]
      refine takeL (i := 20) (v := .pointer (some ⟨pb2, po2 + k * 2 + 1, none⟩)) rfl (by kernel_rfl) (by kernel_rfl) (by kernel_rfl) (fun _ _ _ h => h) (Or.inl ⟨by rfl, fun w hSw => by (obtain ⟨z0, z1, z2, z3, z4⟩ := hSw; go_simp)⟩) (by assumption) ?_
      try simp only [Act.put, List.setIfInBounds_toArray, List.set_cons_zero, List.set_cons_succ]
      refine takeL (i := 21) (v := .slice na2 sn nc2) rfl (by kernel_rfl) (by kernel_rfl) (by kernel_rfl) (fun _ _ _ h => h) (Or.inl ⟨by rfl, fun w hSw => by (obtain ⟨z0, z1, z2, z3, z4⟩ := hSw; go_simp)⟩) (by assumption) ?_
      try simp only [Act.put, List.setIfInBounds_toArray, List.set_cons_zero, List.set_cons_succ]
      refine wpAnyH_ready (rs := [22]) (by kernel_rfl) (by simp) ?_
      refine AllReadyH.cons (o := { dst := some 39, op := Go.Op.call { callee := Go.Callee.value (Go.Operand.func 18), args := #[Go.Operand.tmp 33, Go.Operand.tmp 38], argTypes := #[51, 51] }, type := 4, pos := "ref.go:353", after := #[{ on := 16, ground := Go.Ground.data }, { on := 21, ground := Go.Ground.data }, { on := 11, ground := Go.Ground.chain }, { on := 11, ground := Go.Ground.guard }], guard := some (11, false) }) rfl (fun K hK => ?_) AllReadyH.nil
      go_simp
      go_at_call 18
      refine (HSN.out _ (Fr.drew (Fr.refl _ wr))).mono ?_
      rintro e W9 ⟨rfl, s9⟩
      try go_wp2_with fail
      have s9 : Same wr W9 := Same.trans (Fr.drew (Fr.refl _ wr)) s9
      refine hK.out _ _ (HK9.out _ s9) (fun hHeld => ?_)
      clear hK K
      try simp only [Act.put, List.setIfInBounds_toArray, List.set_cons_zero, List.set_cons_succ]
      refine takeL (i := 23) (v := .bool false) rfl (by kernel_rfl) (by kernel_rfl) (by kernel_rfl) (fun _ _ _ h => h) (Or.inl ⟨by rfl, fun w hSw => by (obtain ⟨z0, z1, z2, z3, z4⟩ := hSw; go_simp)⟩) (by assumption) ?_
      try simp only [Act.put, List.setIfInBounds_toArray, List.set_cons_zero, List.set_cons_succ]
      refine takeL (i := 24) (v := .bool false) rfl (by kernel_rfl) (by kernel_rfl) (by kernel_rfl) (fun _ _ _ h => h) (Or.inl ⟨by rfl, fun w hSw => by (obtain ⟨z0, z1, z2, z3, z4⟩ := hSw; go_simp)⟩) (by assumption) ?_
      try simp only [Act.put, List.setIfInBounds_toArray, List.set_cons_zero, List.set_cons_succ]
      refine wpAnyH_done (by kernel_rfl) ?_ _
      have HD : Hid (Same w W9) := HS.out.trans s9
      clear s9 c1 c2 d1 d2
      go_wp2_with fail
      go_roundg (n - (k + 1))
      case measure => omega
      case rel => exact ⟨k + 1, by go_num, by omega, rfl, HD⟩
    · have hgi : ¬ (k : Int) < (n : Int) := by omega
      go_wp2_with fail
      go_ret
      exact ⟨rfl, HS.out⟩
end Go.Proofs.Ytajbifblbmlffaa
