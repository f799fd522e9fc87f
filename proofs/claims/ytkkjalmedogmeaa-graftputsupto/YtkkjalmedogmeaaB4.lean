/- The document's without. -/
import Derived.Test.YtkkjalmedogmeaaK4
import Derived.Test.YtkkjalmedogmeaaKC
import Derived.Deep.LoopGhost
import Derived.Deep.AppendLies
namespace Go.Proofs.Ytkkjalmedogmeaa
open Go.RowKit

/-- A list of pairs that grows in a box of one's own. -/
structure GS (V W : World) (ob : Nat) (ao : Option Addr) (c : Nat) (M : List (ByteArray × ByteArray)) : Prop where
  ho : W.heap[ob]? = some (.cells #[.slice ao M.length c, .slice none 0 0, .slice none 0 0] 28 (0, 0))
  own : W.ownsRow V.heap.size 30 2 (.slice ao M.length c) M.length (pcells M)
  fr : Fr (fun k => k = ob) V W
  lt : ob < V.heap.size
theorem GS.alloc {V W : World} {ob : Nat} {ao : Option Addr} {c : Nat} {M : List (ByteArray × ByteArray)} (h : GS V W ob ao c M) (o : Obj) : GS V (W.alloc o) ob ao c M :=
  ⟨(Below.heap_alloc _ _ _ (lt_of_heap h.ho)).trans h.ho, h.own.alloc o, h.fr.alloc o, h.lt⟩
theorem GS.drew {V W : World} {ob : Nat} {ao : Option Addr} {c : Nat} {M : List (ByteArray × ByteArray)} (h : GS V W ob ao c M) : GS V W.drew ob ao c M := ⟨h.ho, h.own, h.fr.drew, h.lt⟩
theorem GS.box {V W : World} {ob : Nat} {ao : Option Addr} {c : Nat} {M : List (ByteArray × ByteArray)} (h : GS V W ob ao c M) : W.cell? ⟨ob, 0, none⟩ = some (.slice ao M.length c) ∧ W.frozen? ⟨ob, 0, none⟩ = false ∧ W.cell? ⟨ob, 1, none⟩ = some (.slice none 0 0) ∧ W.cell? ⟨ob, 2, none⟩ = some (.slice none 0 0) :=
  ⟨(cell_of_row _ _ _ _ _ _ h.ho).trans rfl, frozen_of_row W ob 0 _ _ h.ho, (cell_of_row _ _ _ _ _ _ h.ho).trans rfl, (cell_of_row _ _ _ _ _ _ h.ho).trans rfl⟩
theorem GS.grow {V W W' : World} {ob g cap : Nat} {ao : Option Addr} {c : Nat} {M : List (ByteArray × ByteArray)} {x : ByteArray × ByteArray} (h : GS V W ob ao c M)
    (own : W'.ownsRow V.heap.size 30 2 (.slice (some ⟨g, 0, none⟩) (M.length + 1) cap) (M.length + 1) (pcells M ++ [.string x.1, .string x.2])) (hg : W.grownBy W' (Value.ownBlock (.slice ao M.length c))) :
    GS V (W'.setCell ⟨ob, 0, none⟩ (.slice (some ⟨g, 0, none⟩) (M.length + 1) cap)) ob (some ⟨g, 0, none⟩) cap (M ++ [x]) ∧ W'.cell? ⟨ob, 0, none⟩ = some (.slice ao M.length c) ∧ W'.frozen? ⟨ob, 0, none⟩ = false := by
  have hne : some ob ≠ Value.ownBlock (.slice ao M.length c) := fun e => by
    have := h.own.lt ob e.symm; have := h.lt; omega
  have ho : W'.heap[ob]? = some (.cells #[.slice ao M.length c, .slice none 0 0, .slice none 0 0] 28 (0, 0)) := (hg.block ob (lt_of_heap h.ho) hne).trans h.ho
  have fs : Fr (fun k => k = ob) W' (W'.setCell ⟨ob, 0, none⟩ (.slice (some ⟨g, 0, none⟩) (M.length + 1) cap)) := (Fr.refl (fun k => k = ob) W').setCell (p := ⟨ob, 0, none⟩) (fun _ => rfl) _
  have hl : (M ++ [x]).length = M.length + 1 := by simp
  refine ⟨⟨?_, ?_, ?_, h.lt⟩, (cell_of_row _ _ _ _ _ _ ho).trans rfl, frozen_of_row W' ob 0 _ _ ho⟩
  · rw [hl]; exact heap_setCell_same W' ob 0 _ _ _ ho
  · rw [hl, show pcells (M ++ [x]) = pcells M ++ [.string x.1, .string x.2] from by simp [pcells]]
    exact own_frameB own fs (fun k hk e => by have := own.lt k hk; have := h.lt; omega)
  · exact Fr.trans (Fr.grown h.fr hg (fun k hk hl => by have := h.own.lt k hk; omega)) fs (fun i hi e => e)
theorem GS.keep {V W : World} {ob : Nat} {ao : Option Addr} {c : Nat} {M : List (ByteArray × ByteArray)} (h : GS V W ob ao c M) {a : Addr} {v : Value} (ha : a.block ≠ ob) (hv : V.cell? a = some v) : W.cell? a = some v := (h.fr.cell (World.block_lt_of_cell? _ _ hv) ha).trans hv
def isK (k : ByteArray) (x : ByteArray × ByteArray) : Bool := x.1.toList == k.toList
def woK (k : ByteArray) (ps : List (ByteArray × ByteArray)) : List (ByteArray × ByteArray) := ps.filter fun x => !isK k x
theorem woK_succ {k : ByteArray} {ps : List (ByteArray × ByteArray)} {i : Nat} {x : ByteArray × ByteArray} (h : ps[i]? = some x) : woK k (ps.take (i + 1)) = woK k (ps.take i) ++ (if isK k x = true then [] else [x]) ∧ (ps.take (i + 1)).any (isK k) = ((ps.take i).any (isK k) || isK k x) := by
  rw [List.take_add_one, h]
  unfold woK
  cases hx : isK k x <;> simp [hx]
set_option maxRecDepth 100000 in
set_option maxHeartbeats 1000000 in
theorem without_calls {r : Nr} {N : Nd} {k : ByteArray} (w : World) (h : PRow w r.pa r.pb r.po N.ps) (hn : N.ps.length ≤ 1048576) : Calls Try.prog 23 #[ndV r N, .string k] w fun e w' => ∃ ao c, e = .returned (.tuple #[nodeV ao (woK k N.ps).length c none 0 0 none 0 0, .bool (N.ps.any (isK k))]) ∧ w'.ownsRow w.heap.size 30 2 (.slice ao (woK k N.ps).length c) (woK k N.ps).length (pcells (woK k N.ps)) ∧ Same w w' := by
  obtain ⟨V, hV⟩ : ∃ V, V = ((w.alloc (.cells #[.slice r.pa N.ps.length r.cp, .slice r.sa N.ss.length r.cs, .slice r.ka N.ks.length r.ck] 28)).alloc (.cells #[.slice none 0 0, .slice none 0 0, .slice none 0 0] 28)).alloc (.cells #[.slice none 0 0, .slice none 0 0, .slice none 0 0] 28) := ⟨_, rfl⟩
  have t1 : Same w V := by rw [hV]; exact (((Fr.refl _ w).alloc _).alloc _).alloc _
  have H3 := heap3 w (.cells #[.slice r.pa N.ps.length r.cp, .slice r.sa N.ss.length r.cs, .slice r.ka N.ks.length r.ck] 28) (.cells #[.slice none 0 0, .slice none 0 0, .slice none 0 0] 28) (.cells #[.slice none 0 0, .slice none 0 0, .slice none 0 0] 28)
  rw [← hV] at H3
  obtain ⟨g0, g1, g2⟩ := H3
  have n0 : V.cell? ⟨w.heap.size, 0, none⟩ = some (.slice r.pa N.ps.length r.cp) := (cell_of_row _ _ _ _ _ _ g0).trans rfl
  have HN0 : Hid (V.cell? ⟨w.heap.size, 0, none⟩ = some (.slice r.pa N.ps.length r.cp)) := n0
  have HZ : Hid (V.heap.size = w.heap.size + 3) := by show _ = _; rw [hV]; simp
  have HG1 : Hid (V.heap[w.heap.size + 1]? = some (.cells #[.slice none 0 0, .slice none 0 0, .slice none 0 0] 28 (0, 0))) := g1
  have HP : Hid (PRow V r.pa r.pb r.po N.ps) := h.same t1
  have G0 : GS V V (w.heap.size + 1 + 1) none 0 [] := ⟨g2, own_nil, Fr.refl _ V, lt_of_heap g2⟩
  obtain ⟨i0P, hiP, hz0P, hz1P, hz2P⟩ := info_parts Try.infPair
  have HPB : Hid (N.ps ≠ [] → r.pb ≠ w.heap.size + 1 + 1) := fun e e2 => by
    have := (h.place e).2; omega
  clear h g0 g1 g2 n0
  go_enter Try.func23, Try.ntmps23
  go_wp2_with fail
  rw [← hV]
  clear hV
  go_loopg [7, 8] N.ps.length (fun g tv iv wr => ∃ (j : Nat) (ao : Option Addr) (c : Nat), tv = .bool ((N.ps.take j).any (isK k)) ∧ iv = .int .i64 (j : Int) ∧ j ≤ N.ps.length ∧ g = N.ps.length - j ∧ Hid (GS V wr (w.heap.size + 1 + 1) ao c (woK k (N.ps.take j))))
  case atStart => exact ⟨0, none, 0, by simp, rfl, by omega, rfl, G0⟩
  case round =>
    clear G0
    obtain ⟨j, ao, c, rfl, rfl, hj, hg, HG⟩ := hrel
    have n0 := HG.out.keep (a := ⟨w.heap.size, 0, none⟩) (by simp only; omega) HN0.out
    by_cases hgo : j < N.ps.length
    · obtain ⟨x, hx⟩ : ∃ x, N.ps[j]? = some x := ⟨_, List.getElem?_eq_getElem hgo⟩
      have hne : N.ps ≠ [] := by intro e; rw [e] at hx; simp at hx
      obtain ⟨c0, c1⟩ := HP.out.cells j _ hx
      have c0 := HG.out.keep (by exact HPB.out hne) c0
      have c1 := HG.out.keep (by exact HPB.out hne) c1
      obtain ⟨hpa, _⟩ := HP.out.place hne
      have HPA : Hid (r.pa = some ⟨r.pb, r.po, none⟩) := hpa
      rw [hpa] at n0
      obtain ⟨hw1, hw2⟩ := woK_succ (k := k) hx
      obtain ⟨x0, x1⟩ := x
      simp only at c0 c1
      have i1 : (j : Int) < (N.ps.length : Int) := by omega
      have i0 : (0 : Int) ≤ (j : Int) := by omega
      have HX : Hid (N.ps[j]? = some (x0, x1)) := hx
      clear hx hne hpa
      cases hb : (x0.toList == k.toList) with
      | true =>
        have e1 : isK k (x0, x1) = true := hb
        rw [e1] at hw1 hw2
        rw [if_pos rfl, List.append_nil] at hw1
        rw [Bool.or_true] at hw2
        have HG2 : Hid (GS V wr (w.heap.size + 1 + 1) ao c (woK k (N.ps.take (j + 1)))) := by rw [hw1]; exact HG
        have HW2 : Hid ((N.ps.take (j + 1)).any (isK k) = true) := hw2
        clear HG hw1 hw2 e1
        go_wp2_with fail
        go_roundg (N.ps.length - (j + 1))
        case measure => omega
        case rel => exact ⟨j + 1, ao, c, by rw [HW2.out], by go_num, by omega, rfl, HG2⟩
      | false =>
        have e1 : isK k (x0, x1) = false := hb
        rw [e1] at hw1 hw2
        rw [if_neg (by simp)] at hw1
        rw [Bool.or_false] at hw2
        have HW1 : Hid (woK k (N.ps.take (j + 1)) = woK k (N.ps.take j) ++ [(x0, x1)]) := hw1
        have HW2 : Hid ((N.ps.take (j + 1)).any (isK k) = (N.ps.take j).any (isK k)) := hw2
        obtain ⟨o0, o1, _, _⟩ := HG.out.box
        obtain ⟨MM, hMM⟩ : ∃ MM, MM = woK k (N.ps.take j) := ⟨_, rfl⟩
        have lMM : MM.length ≤ 1048576 := by
          rw [hMM]; unfold woK
          have := List.length_filter_le (fun x => !isK k x) (N.ps.take j)
          rw [List.length_take] at this; omega
        rw [← hMM] at HG HW1 o0
        generalize (N.ps.take j).any (isK k) = TH at *
        clear hw1 hw2 e1 hMM
        go_wp2_with fail
        refine wp_region_held_drew (S := fun X => X.cell? ⟨w.heap.size, 0, none⟩ = some (.slice (some ⟨r.pb, r.po, none⟩) N.ps.length r.cp) ∧ X.cell? ⟨r.pb, r.po + j * 2, none⟩ = some (.string x0) ∧ X.cell? ⟨r.pb, r.po + j * 2 + 1, none⟩ = some (.string x1)) (by kernel_rfl) (⟨n0, c0, c1⟩) (fun hHeld => ?_)
        refine wpAnyH_take (i := 0) (oi := { dst := some 24, op := Op.fieldAddr 28 (Operand.tmp 6) 0, type := 0, pos := "ref.go:55", after := #[], guard := none }) (v := .pointer (some ⟨w.heap.size + 1 + 1, 0, none⟩)) rfl (by kernel_rfl) (by kernel_rfl) (by kernel_rfl) (fun _ _ _ h => h) (Or.inl ⟨by rfl, fun w hSw => by (obtain ⟨z1, z2, z3⟩ := hSw; go_simp)⟩) (by assumption) ?_
        try simp only [Act.put, List.setIfInBounds_toArray, List.set_cons_zero, List.set_cons_succ]
        refine wpAnyH_take (i := 2) (oi := { dst := some 26, op := Op.fieldAddr 28 (Operand.tmp 2) 0, type := 0, pos := "ref.go:55", after := #[], guard := none }) (v := .pointer (some ⟨w.heap.size, 0, none⟩)) rfl (by kernel_rfl) (by kernel_rfl) (by kernel_rfl) (fun _ _ _ h => h) (Or.inl ⟨by rfl, fun w hSw => by (obtain ⟨z1, z2, z3⟩ := hSw; go_simp)⟩) (by assumption) ?_
        try simp only [Act.put, List.setIfInBounds_toArray, List.set_cons_zero, List.set_cons_succ]
        refine wpAnyH_take (i := 3) (oi := { dst := some 27, op := Op.load 24 (Operand.tmp 26), type := 24, pos := "ref.go:55", after := #[{ on := 2, ground := Ground.data }], guard := none }) (v := .slice (some ⟨r.pb, r.po, none⟩) N.ps.length r.cp) rfl (by kernel_rfl) (by kernel_rfl) (by kernel_rfl) (fun _ _ _ h => h) (Or.inl ⟨by rfl, fun w hSw => by (obtain ⟨z1, z2, z3⟩ := hSw; go_simp)⟩) (by assumption) ?_
        try simp only [Act.put, List.setIfInBounds_toArray, List.set_cons_zero, List.set_cons_succ]
        refine wpAnyH_take (i := 4) (oi := { dst := some 28, op := Op.move (Operand.tmp 8), type := 3, pos := "ref.go:55", after := #[], guard := none }) (v := .int .i64 (j : Int)) rfl (by kernel_rfl) (by kernel_rfl) (by kernel_rfl) (fun _ _ _ h => h) (Or.inl ⟨by rfl, fun w hSw => by (obtain ⟨z1, z2, z3⟩ := hSw; go_simp)⟩) (by assumption) ?_
        try simp only [Act.put, List.setIfInBounds_toArray, List.set_cons_zero, List.set_cons_succ]
        refine wpAnyH_take (i := 5) (oi := { dst := some 29, op := Op.indexAddr 24 (Operand.tmp 27) (Operand.tmp 28), type := 0, pos := "ref.go:55", after := #[{ on := 3, ground := Ground.data }, { on := 4, ground := Ground.data }], guard := none }) (v := .pointer (some ⟨r.pb, r.po + j * 2, none⟩)) rfl (by kernel_rfl) (by kernel_rfl) (by kernel_rfl) (fun _ _ _ h => h) (Or.inl ⟨by rfl, fun w hSw => by (obtain ⟨z1, z2, z3⟩ := hSw; go_simp)⟩) (by assumption) ?_
        try simp only [Act.put, List.setIfInBounds_toArray, List.set_cons_zero, List.set_cons_succ]
        refine wpAnyH_take (i := 6) (oi := { dst := some 30, op := Op.load 30 (Operand.tmp 29), type := 30, pos := "ref.go:55", after := #[{ on := 5, ground := Ground.data }], guard := none }) (v := .agg #[.string x0, .string x1]) rfl (by kernel_rfl) (by kernel_rfl) (by kernel_rfl) (fun _ _ _ h => h) (Or.inl ⟨by rfl, fun w hSw => by (obtain ⟨z1, z2, z3⟩ := hSw; go_simp)⟩) (by assumption) ?_
        try simp only [Act.put, List.setIfInBounds_toArray, List.set_cons_zero, List.set_cons_succ]
        have GD : GS V wr.drew (w.heap.size + 1 + 1) ao c MM := HG.out.drew
        have s1 : Same wr.drew (wr.drew.alloc (.cells #[.string x0, .string x1] 30)) := (Fr.refl _ _).alloc _
        have GA := GD.alloc (.cells #[.string x0, .string x1] 30)
        have o0d : wr.drew.cell? ⟨w.heap.size + 1 + 1, 0, none⟩ = some (.slice ao MM.length c) := o0
        have o0a := s1.keep o0d
        have o0b : (wr.alloc (.cells #[.string x0, .string x1] 30)).cell? ⟨w.heap.size + 1 + 1, 0, none⟩ = some (.slice ao MM.length c) := keepA' o0 _
        refine wpAnyH_ready (rs := [1, 7]) (by kernel_rfl) (by simp) ?_
        refine AllReadyH.cons (o := { dst := some 25, op := Op.load 24 (Operand.tmp 24), type := 24, pos := "ref.go:55", after := #[{ on := 0, ground := Ground.data }], guard := none }) rfl (fun K hK => ?_) (AllReadyH.cons (o := { dst := some 31, op := Op.buildSlice 24 1 #[(0, Operand.tmp 30)], type := 24, pos := "ref.go:55", after := #[{ on := 6, ground := Ground.data }], guard := none }) rfl (fun K hK => ?_) AllReadyH.nil)
        · go_simp
          refine hK.out _ _ ⟨n0, c0, c1⟩ (fun hHeld => ?_)
          clear hK K
          try simp only [Act.put, List.setIfInBounds_toArray, List.set_cons_zero, List.set_cons_succ]
          refine wpAnyH_ready (rs := [7]) (by kernel_rfl) (by simp) ?_
          refine AllReadyH.cons (o := { dst := some 31, op := Op.buildSlice 24 1 #[(0, Operand.tmp 30)], type := 24, pos := "ref.go:55", after := #[{ on := 6, ground := Ground.data }], guard := none }) rfl (fun K hK => ?_) AllReadyH.nil
          go_simp
          refine hK.out _ _ ⟨s1.keep n0, s1.keep c0, s1.keep c1⟩ (fun hHeld => ?_)
          clear hK K
          try simp only [Act.put, List.setIfInBounds_toArray, List.set_cons_zero, List.set_cons_succ]
          refine wpAnyH_ready (rs := [8]) (by kernel_rfl) (by simp) ?_
          refine AllReadyH.cons (o := { dst := some 32, op := Op.call { callee := Callee.builtin Builtin.append, args := #[Operand.tmp 25, Operand.tmp 31], argTypes := #[24, 24] }, type := 24, pos := "ref.go:55", after := #[{ on := 1, ground := Ground.data }, { on := 7, ground := Ground.data }], guard := none }) rfl (fun K hK => ?_) AllReadyH.nil
          refine step_append_lies _ rfl _ _ _ rfl V.heap.size 30 i0P (.agg #[.string ⟨#[]⟩, .string ⟨#[]⟩]) 2 32 Try.underlying24 hiP hz0P hz1P hz2P rfl (by decide) _ _ _ (by rfl) GA.own ⟨wr.heap.size, 0, none⟩ 1 1 [.string x0, .string x1] (by rfl) rfl (World.news_of_block (heap_alloc_new wr.drew _)) (by simp [Value.oneCell']) (by decide) (by unfold maxLen; omega) (by omega) (by have := GA.fr.size; exact this) _ rfl ?_
          intro g2 cap2 W6 own6 grow6 _ _
          obtain ⟨G6, p0, p1⟩ := GA.grow (x := (x0, x1)) own6 grow6
          have hb2 := HPB.out (by intro e; have := HX.out; rw [e] at this; simp at this)
          have kk : ∀ (a : Addr) v, a.block < V.heap.size → (wr.drew.alloc (.cells #[.string x0, .string x1] 30)).cell? a = some v → W6.cell? a = some v := fun a v ha hv => by
            refine World.grownBy.cell grow6 hv (fun e => ?_)
            have := GA.own.lt a.block e.symm
            omega
          have hz := HZ.out
          have hlp : r.pb < V.heap.size := (HP.out.place (by intro e; have := HX.out; rw [e] at this; simp at this)).2
          have n6 := kk ⟨w.heap.size, 0, none⟩ _ (by simp only; omega) (s1.keep n0)
          have c6 := kk ⟨r.pb, r.po + j * 2, none⟩ _ (by simp only; omega) (s1.keep c0)
          have d6 := kk ⟨r.pb, r.po + j * 2 + 1, none⟩ _ (by simp only; omega) (s1.keep c1)
          refine hK.out _ _ ⟨n6, c6, d6⟩ (fun hHeld => ?_)
          clear hK K
          try simp only [Act.put, List.setIfInBounds_toArray, List.set_cons_zero, List.set_cons_succ]
          refine wpAnyH_take (i := 9) (oi := { dst := some 33, op := Op.fieldAddr 28 (Operand.tmp 6) 0, type := 0, pos := "ref.go:55", after := #[{ on := 0, ground := Ground.phase }, { on := 1, ground := Ground.phase }, { on := 2, ground := Ground.phase }, { on := 3, ground := Ground.phase }, { on := 4, ground := Ground.phase }, { on := 5, ground := Ground.phase }, { on := 6, ground := Ground.phase }, { on := 7, ground := Ground.phase }, { on := 8, ground := Ground.phase }], guard := none }) (v := .pointer (some ⟨w.heap.size + 1 + 1, 0, none⟩)) rfl (by kernel_rfl) (by kernel_rfl) (by kernel_rfl) (fun _ _ _ h => h) (Or.inl ⟨by rfl, fun w hSw => by (obtain ⟨z1, z2, z3⟩ := hSw; go_simp)⟩) (by assumption) ?_
          try simp only [Act.put, List.setIfInBounds_toArray, List.set_cons_zero, List.set_cons_succ]
          refine wpAnyH_ready (rs := [10]) (by kernel_rfl) (by simp) ?_
          refine AllReadyH.cons (o := { dst := none, op := Op.store 24 (Operand.tmp 33) (Operand.tmp 32), type := 0, pos := "ref.go:55", after := #[{ on := 9, ground := Ground.data }, { on := 8, ground := Ground.data }, { on := 8, ground := Ground.chain }, { on := 0, ground := Ground.phase }, { on := 1, ground := Ground.phase }, { on := 2, ground := Ground.phase }, { on := 3, ground := Ground.phase }, { on := 4, ground := Ground.phase }, { on := 5, ground := Ground.phase }, { on := 6, ground := Ground.phase }, { on := 7, ground := Ground.phase }, { on := 8, ground := Ground.phase }], guard := none }) rfl (fun K hK => ?_) AllReadyH.nil
          go_simp
          have fs : Fr (fun kk => kk = w.heap.size + 1 + 1) W6 (W6.setCell ⟨w.heap.size + 1 + 1, 0, none⟩ (.slice (some ⟨g2, 0, none⟩) (MM.length + 1) cap2)) := (Fr.refl (fun kk => kk = w.heap.size + 1 + 1) W6).setCell (p := ⟨w.heap.size + 1 + 1, 0, none⟩) (fun _ => rfl) _
          refine hK.out _ _ ⟨(fs.cell (World.block_lt_of_cell? _ _ n6) (by simp only; omega)).trans n6, (fs.cell (World.block_lt_of_cell? _ _ c6) (by exact hb2)).trans c6, (fs.cell (World.block_lt_of_cell? _ _ d6) (by exact hb2)).trans d6⟩ (fun hHeld => ?_)
          clear hK K
          refine wpAnyH_done (by kernel_rfl) ?_ _
          have HG6 : Hid (GS V (W6.setCell ⟨w.heap.size + 1 + 1, 0, none⟩ (.slice (some ⟨g2, 0, none⟩) (MM.length + 1) cap2)) (w.heap.size + 1 + 1) (some ⟨g2, 0, none⟩) cap2 (woK k (N.ps.take (j + 1)))) := by rw [HW1.out]; exact G6
          clear G6 p0 p1 kk n6 c6 d6 fs own6 grow6 GA GD o0a o0b o0d s1 HG
          go_wp2_with fail
          go_roundg (N.ps.length - (j + 1))
          case measure => omega
          case rel => exact ⟨j + 1, some ⟨g2, 0, none⟩, cap2, by rw [HW2.out], by go_num, by omega, rfl, HG6⟩
        · go_simp
          refine hK.out _ _ ⟨s1.keep n0, s1.keep c0, s1.keep c1⟩ (fun hHeld => ?_)
          clear hK K
          try simp only [Act.put, List.setIfInBounds_toArray, List.set_cons_zero, List.set_cons_succ]
          refine wpAnyH_ready (rs := [1]) (by kernel_rfl) (by simp) ?_
          refine AllReadyH.cons (o := { dst := some 25, op := Op.load 24 (Operand.tmp 24), type := 24, pos := "ref.go:55", after := #[{ on := 0, ground := Ground.data }], guard := none }) rfl (fun K hK => ?_) AllReadyH.nil
          go_simp
          refine hK.out _ _ ⟨s1.keep n0, s1.keep c0, s1.keep c1⟩ (fun hHeld => ?_)
          clear hK K
          try simp only [Act.put, List.setIfInBounds_toArray, List.set_cons_zero, List.set_cons_succ]
          refine wpAnyH_ready (rs := [8]) (by kernel_rfl) (by simp) ?_
          refine AllReadyH.cons (o := { dst := some 32, op := Op.call { callee := Callee.builtin Builtin.append, args := #[Operand.tmp 25, Operand.tmp 31], argTypes := #[24, 24] }, type := 24, pos := "ref.go:55", after := #[{ on := 1, ground := Ground.data }, { on := 7, ground := Ground.data }], guard := none }) rfl (fun K hK => ?_) AllReadyH.nil
          refine step_append_lies _ rfl _ _ _ rfl V.heap.size 30 i0P (.agg #[.string ⟨#[]⟩, .string ⟨#[]⟩]) 2 32 Try.underlying24 hiP hz0P hz1P hz2P rfl (by decide) _ _ _ (by rfl) GA.own ⟨wr.heap.size, 0, none⟩ 1 1 [.string x0, .string x1] (by rfl) rfl (World.news_of_block (heap_alloc_new wr.drew _)) (by simp [Value.oneCell']) (by decide) (by unfold maxLen; omega) (by omega) (by have := GA.fr.size; exact this) _ rfl ?_
          intro g2 cap2 W6 own6 grow6 _ _
          obtain ⟨G6, p0, p1⟩ := GA.grow (x := (x0, x1)) own6 grow6
          have hb2 := HPB.out (by intro e; have := HX.out; rw [e] at this; simp at this)
          have kk : ∀ (a : Addr) v, a.block < V.heap.size → (wr.drew.alloc (.cells #[.string x0, .string x1] 30)).cell? a = some v → W6.cell? a = some v := fun a v ha hv => by
            refine World.grownBy.cell grow6 hv (fun e => ?_)
            have := GA.own.lt a.block e.symm
            omega
          have hz := HZ.out
          have hlp : r.pb < V.heap.size := (HP.out.place (by intro e; have := HX.out; rw [e] at this; simp at this)).2
          have n6 := kk ⟨w.heap.size, 0, none⟩ _ (by simp only; omega) (s1.keep n0)
          have c6 := kk ⟨r.pb, r.po + j * 2, none⟩ _ (by simp only; omega) (s1.keep c0)
          have d6 := kk ⟨r.pb, r.po + j * 2 + 1, none⟩ _ (by simp only; omega) (s1.keep c1)
          refine hK.out _ _ ⟨n6, c6, d6⟩ (fun hHeld => ?_)
          clear hK K
          try simp only [Act.put, List.setIfInBounds_toArray, List.set_cons_zero, List.set_cons_succ]
          refine wpAnyH_take (i := 9) (oi := { dst := some 33, op := Op.fieldAddr 28 (Operand.tmp 6) 0, type := 0, pos := "ref.go:55", after := #[{ on := 0, ground := Ground.phase }, { on := 1, ground := Ground.phase }, { on := 2, ground := Ground.phase }, { on := 3, ground := Ground.phase }, { on := 4, ground := Ground.phase }, { on := 5, ground := Ground.phase }, { on := 6, ground := Ground.phase }, { on := 7, ground := Ground.phase }, { on := 8, ground := Ground.phase }], guard := none }) (v := .pointer (some ⟨w.heap.size + 1 + 1, 0, none⟩)) rfl (by kernel_rfl) (by kernel_rfl) (by kernel_rfl) (fun _ _ _ h => h) (Or.inl ⟨by rfl, fun w hSw => by (obtain ⟨z1, z2, z3⟩ := hSw; go_simp)⟩) (by assumption) ?_
          try simp only [Act.put, List.setIfInBounds_toArray, List.set_cons_zero, List.set_cons_succ]
          refine wpAnyH_ready (rs := [10]) (by kernel_rfl) (by simp) ?_
          refine AllReadyH.cons (o := { dst := none, op := Op.store 24 (Operand.tmp 33) (Operand.tmp 32), type := 0, pos := "ref.go:55", after := #[{ on := 9, ground := Ground.data }, { on := 8, ground := Ground.data }, { on := 8, ground := Ground.chain }, { on := 0, ground := Ground.phase }, { on := 1, ground := Ground.phase }, { on := 2, ground := Ground.phase }, { on := 3, ground := Ground.phase }, { on := 4, ground := Ground.phase }, { on := 5, ground := Ground.phase }, { on := 6, ground := Ground.phase }, { on := 7, ground := Ground.phase }, { on := 8, ground := Ground.phase }], guard := none }) rfl (fun K hK => ?_) AllReadyH.nil
          go_simp
          have fs : Fr (fun kk => kk = w.heap.size + 1 + 1) W6 (W6.setCell ⟨w.heap.size + 1 + 1, 0, none⟩ (.slice (some ⟨g2, 0, none⟩) (MM.length + 1) cap2)) := (Fr.refl (fun kk => kk = w.heap.size + 1 + 1) W6).setCell (p := ⟨w.heap.size + 1 + 1, 0, none⟩) (fun _ => rfl) _
          refine hK.out _ _ ⟨(fs.cell (World.block_lt_of_cell? _ _ n6) (by simp only; omega)).trans n6, (fs.cell (World.block_lt_of_cell? _ _ c6) (by exact hb2)).trans c6, (fs.cell (World.block_lt_of_cell? _ _ d6) (by exact hb2)).trans d6⟩ (fun hHeld => ?_)
          clear hK K
          refine wpAnyH_done (by kernel_rfl) ?_ _
          have HG6 : Hid (GS V (W6.setCell ⟨w.heap.size + 1 + 1, 0, none⟩ (.slice (some ⟨g2, 0, none⟩) (MM.length + 1) cap2)) (w.heap.size + 1 + 1) (some ⟨g2, 0, none⟩) cap2 (woK k (N.ps.take (j + 1)))) := by rw [HW1.out]; exact G6
          clear G6 p0 p1 kk n6 c6 d6 fs own6 grow6 GA GD o0a o0b o0d s1 HG
          go_wp2_with fail
          go_roundg (N.ps.length - (j + 1))
          case measure => omega
          case rel => exact ⟨j + 1, some ⟨g2, 0, none⟩, cap2, by rw [HW2.out], by go_num, by omega, rfl, HG6⟩
    · obtain rfl : j = N.ps.length := by omega
      rw [List.take_length] at HG ⊢
      obtain ⟨o0, o1, o2, o3⟩ := HG.out.box
      have r6 : wr.heap[w.heap.size + 1]? = some (.cells #[.slice none 0 0, .slice none 0 0, .slice none 0 0] 28 (0, 0)) := (HG.out.fr.block _ (by have := HZ.out; omega) (by omega)).trans HG1.out
      have LL := HG.out
      go_wp2_with (refine wpList_store_whole (by rfl) 28 _ _ (by rfl) (w.heap.size + 1) #[.slice ao (woK k N.ps).length c, .slice none 0 0, .slice none 0 0] #[.slice none 0 0, .slice none 0 0, .slice none 0 0] 28 (by rfl) (by rfl) r6 rfl (by kernel_rfl) (by kernel_rfl) ?_; intro W7 r7 f7)
      have hz := HZ.out
      have o7 := own_frameB LL.own f7 (fun kk hk e => by have := LL.own.lt kk hk; omega)
      exact bodyPost_ret (results_row_tmp (p := 4) (u := 5) (ty := 28) (by kernel_rfl) _ _ (w.heap.size + 1) 28 _ (0, 0) _ rfl r7 Try.underlying28 rfl (by kernel_rfl)) rfl ⟨ao, c, rfl, own_base o7 (by omega), Fr.trans (Fr.trans (Fr.mono (S := fun _ => False) t1 (fun _ _ f => f.elim)) LL.fr (fun i hi e => by omega)) f7 (fun i hi e => by omega)⟩
end Go.Proofs.Ytkkjalmedogmeaa
