/- free: Read, whole. -/
import Derived.Test.YtajbifblbmlffaaQD
namespace Go.Proofs.Ytajbifblbmlffaa
open Go.RowKit Go.Maps

def oQE0 : Oper := { dst := some 4, op := .box 23 (.tmp 0), type := 0, pos := "chain.go:89", after := #[], guard := none }
def oQE1 : Oper := { dst := some 16, op := .binOp .eql 45 (.tmp 15) (.const .nilIface) 45, type := 4, pos := "chain.go:90", after := #[{ on := 0, ground := .data }], guard := none }
def oQE2 : Oper := { dst := some 18, op := .load 23 (.tmp 4), type := 23, pos := "chain.go:93", after := #[], guard := none }
def oQE3 : Oper := { dst := some 20, op := .call { callee := .value (.func 11), args := #[.tmp 18, .const (.slice none 0 0), .tmp 19], argTypes := #[23, 30, 28] }, type := 49, pos := "chain.go:93", after := #[{ on := 0, ground := .data }, { on := 1, ground := .data }], guard := none }
def oQE4 : Oper := { dst := some 21, op := .extract (.tmp 17) 0, type := 48, pos := "chain.go:93", after := #[{ on := 3, ground := .data }], guard := none }
def oQE5 : Oper := { dst := some 22, op := .extract (.tmp 17) 1, type := 25, pos := "chain.go:93", after := #[{ on := 3, ground := .data }, { on := 7, ground := .gcOnly .lateStores }], guard := none }
def oQE6 : Oper := { dst := some 10, op := .alloc 48, type := 0, pos := "chain.go:93", after := #[], guard := none }
def oQE7 : Oper := { dst := none, op := .store 48 (.tmp 10) (.tmp 21), type := 0, pos := "chain.go:93", after := #[{ on := 6, ground := .data }, { on := 4, ground := .data }, { on := 2, ground := .chain }, { on := 0, ground := .phase }, { on := 1, ground := .phase }, { on := 2, ground := .phase }, { on := 3, ground := .phase }, { on := 4, ground := .phase }, { on := 5, ground := .textOnly .lateStores }, { on := 6, ground := .phase }], guard := none }
def oQE8 : Oper := { dst := some 24, op := .binOp .neq 25 (.tmp 23) (.const (.int .i64 0)) 25, type := 4, pos := "chain.go:94", after := #[{ on := 0, ground := .data }], guard := none }
theorem qNs_len (p q : Int) (s : ByteArray) : (qNs p q s).length ≤ 2038 := by
  unfold qNs
  split
  · rename_i h
    unfold docOk at h
    simp only [Bool.and_eq_true, decide_eq_true_eq] at h
    unfold docNs
    rw [List.length_map, List.length_range]
    have h1 := h.1.2
    rcases entN_cases p q with ⟨_, h2⟩ | ⟨_, _, h2, _⟩ <;> omega
  · exact Nat.zero_le _
theorem qNs_lt (p q : Int) (s : ByteArray) : ∀ y ∈ qNs p q s, y < 4294967296 := by
  intro y hy
  unfold qNs at hy
  split at hy
  · unfold docNs at hy
    obtain ⟨i, _, rfl⟩ := List.mem_map.1 hy
    exact num4_lt _ _
  · cases hy
theorem qNx_lt (p q : Int) (s : ByteArray) : qNx p q s < 4294967296 := by
  unfold qNx
  split
  · exact num4_lt _ _
  · decide
/-- A book: its pages, and with what it refuses. -/
structure Bok (w : World) (bb : Nat) (pa : Option Addr) (pb po n cp : Nat) (P : List Pgd) (er : Int) : Prop where
  b0 : w.cell? ⟨bb, 0, none⟩ = some (.slice pa n cp)
  b1 : w.cell? ⟨bb, 1, none⟩ = some (.int .i64 er)
  row : PdRow w pa pb po P
  n_ : n = P.length
  nb : n ≤ 4000000
  sz : ∀ x ∈ P, x.body.size ≤ 281474976710656
theorem Bok.same {w w' : World} {bb : Nat} {pa : Option Addr} {pb po n cp : Nat} {P : List Pgd} {er : Int} (h : Bok w bb pa pb po n cp P er) (s : Same w w') : Bok w' bb pa pb po n cp P er := ⟨s.keep h.b0, s.keep h.b1, h.row.same s, h.n_, h.nb, h.sz⟩
section
variable {w : World} {bb : Nat} {pa : Option Addr} {pb po n cp no : Nat} {P : List Pgd} {er p q : Int} {x : Pgd}
theorem find_mem (h : findP P no = some x) : x ∈ P ∧ x.no = no := by
  unfold findP at h
  exact ⟨List.mem_of_find?_eq_some h, by simpa using List.find?_some h⟩
theorem page_none (h : Bok w bb pa pb po n cp P er) (hf : findP P no = none) : ∀ Z, Same w Z → Calls Try.prog 101 #[.pointer (some ⟨bb, 0, none⟩), .int .u32 (no : Int)] Z fun e w' => e = .returned (.tuple #[.agg #[.int .u8 0, .int .u32 0, .int .u64 0, .string ⟨#[]⟩], .int .i64 er]) ∧ Same Z w' := fun Z s => by
  refine bkp_n (er := er) Z (s.keep h.b0) (s.keep h.b1) (fun Y t => ?_)
  have := find_calls (no := no) (cp := cp) Y ((h.row.same s).same t) h.n_ h.nb
  unfold findV at this
  rw [hf] at this
  exact this
theorem page_some (h : Bok w bb pa pb po n cp P er) (hf : findP P no = some x) : ∀ Z, Same w Z → Calls Try.prog 101 #[.pointer (some ⟨bb, 0, none⟩), .int .u32 (no : Int)] Z fun e w' => e = .returned (.tuple #[.agg #[.int .u8 (x.kind : Int), .int .u32 (x.no : Int), .int .u64 (x.ver : Int), .string x.body], .int .i64 0]) ∧ Same Z w' := fun Z s => by
  refine bkp_y Z (s.keep h.b0) (fun Y t => ?_)
  have := find_calls (no := no) (cp := cp) Y ((h.row.same s).same t) h.n_ h.nb
  unfold findV at this
  rw [hf] at this
  exact this
theorem from_q (hs : x.body.size ≤ 281474976710656) : ∀ Z, Calls Try.prog 16 #[.agg #[.int .i64 p, .int .i64 q], .string x.body] Z fun e w' => (∃ ao cc, e = .returned (.tuple #[.int .u32 (qNx p q x.body : Int), .slice ao (qNs p q x.body).length cc, .int .i64 (qE p q x.body)]) ∧ w'.ownsRow Z.heap.size 28 1 (.slice ao (qNs p q x.body).length cc) (qNs p q x.body).length (ncells (qNs p q x.body))) ∧ Same Z w' := fun Z =>
  (ffrom_calls x.body hs Z).mono fun _ _ ⟨h1, h2⟩ => ⟨fq_code h1, h2⟩
theorem bonA (h : Bok w bb pa pb po n cp P er) (her : ¬ er = 0) (hf : findP P no = none) : Calls Try.prog 12 #[.agg #[.int .i64 p, .int .i64 q], .iface 33 (.pointer (some ⟨bb, 0, none⟩)), .int .u32 (no : Int)] w fun e w' => e = .returned (.tuple #[.agg #[.int .u32 0, .slice none 0 0], .int .u32 0, .int .i64 er]) ∧ Same w w' :=
  bon_a w her (page_none h hf)
theorem bonB (h : Bok w bb pa pb po n cp P er) (hf : findP P no = some x) (hb : x.kind ≠ 3 ∨ docOk p q x.body = false) : Calls Try.prog 12 #[.agg #[.int .i64 p, .int .i64 q], .iface 33 (.pointer (some ⟨bb, 0, none⟩)), .int .u32 (no : Int)] w fun e w' => e = .returned (.tuple #[.agg #[.int .u32 0, .slice none 0 0], .int .u32 0, .int .i64 8]) ∧ Same w w' := by
  have hs := h.sz x (find_mem hf).1
  cases hd : docOk p q x.body with
  | false =>
    have he : ¬ qE p q x.body = 0 := by unfold qE; rw [hd]; simp only [Bool.false_eq_true, if_false]; split <;> decide
    exact bon_b (x := x) (ns := qNs p q x.body) (nl := (qNs p q x.body).length) (nx := qNx p q x.body) w he (page_some h hf) (fun Z _ => from_q hs Z)
  | true =>
    have hk : x.kind ≠ 3 := hb.elim id (fun e => by rw [hd] at e; cases e)
    have he : qE p q x.body = 0 := by unfold qE; rw [hd]; rfl
    exact bon_c (x := x) (ns := qNs p q x.body) (nl := (qNs p q x.body).length) (nx := qNx p q x.body) w hk (page_some h hf) (fun Z _ => by have := from_q (p := p) (q := q) hs Z; rw [he] at this; exact this)
theorem bonD (h : Bok w bb pa pb po n cp P er) (hf : findP P no = some x) (hk : x.kind = 3) (hd : docOk p q x.body = true) : Calls Try.prog 12 #[.agg #[.int .i64 p, .int .i64 q], .iface 33 (.pointer (some ⟨bb, 0, none⟩)), .int .u32 (no : Int)] w fun e w' => (∃ xa xc, e = .returned (.tuple #[.agg #[.int .u32 (no : Int), .slice xa (qNs p q x.body).length xc], .int .u32 (qNx p q x.body : Int), .int .i64 0]) ∧ w'.ownsRow w.heap.size 28 1 (.slice xa (qNs p q x.body).length xc) (qNs p q x.body).length (ncells (qNs p q x.body))) ∧ Same w w' := by
  have hs := h.sz x (find_mem hf).1
  have he : qE p q x.body = 0 := by unfold qE; rw [hd]; rfl
  refine bon_d (x := x) w (fun Z s => ?_) (fun Z _ => by have := from_q (p := p) (q := q) hs Z; rw [he] at this; exact this)
  have := page_some h hf Z s
  rw [hk] at this
  exact this
end
/-- What Read answers where all that is asked may be. -/
def rErr (er : Int) : RRes → Int
  | .ok _ => 0
  | .none => er
  | .bad => 8
def rKey : RRes → List (Nat × List Nat)
  | .ok l => l
  | _ => []
theorem rdL {p q er : Int} {bb fb ob first mb pages pb po n cp : Nat} {pa : Option Addr} {P : List Pgd} {R : RRes} {Q : Exit → Act → World → Prop} (a0 : Act) (w V : World) (I0 : IRD (.iface 33 (.pointer (some ⟨bb, 0, none⟩))) fb ob a0) (h12 : a0.eval (.tmp 12) = .slice none 0 0) (h13 : a0.eval (.tmp 13) = .int .u32 (first : Int)) (hfi : first < 4294967296)
    (hB : Bok w bb pa pb po n cp P er) (her : ¬ er = 0) (sV : Same w V) (hmb : w.heap.size ≤ mb) (hpg : pages ≤ 65536) (hR : Rdr p q pages P (fun _ => false) first [] R)
    (d0 : V.cell? ⟨fb, 0, none⟩ = some (.int .i64 p)) (d1 : V.cell? ⟨fb, 1, none⟩ = some (.int .i64 q)) (o0 : V.cell? ⟨ob, 0, none⟩ = some (.int .i64 p)) (o1 : V.cell? ⟨ob, 1, none⟩ = some (.int .i64 q)) (o2 : V.cell? ⟨ob, 2, none⟩ = some (.int .u32 (pages : Int))) (o3 : V.cell? ⟨ob, 3, none⟩ = some (.map (some mb)))
    (hf : fb ≠ mb) (ho : ob ≠ mb) (st : SetAt V mb 0 (.map []))
    (hE : ∀ a W ao cc N, R = .ok (N.map Bt.key) → IRD (.iface 33 (.pointer (some ⟨bb, 0, none⟩))) fb ob a → a.eval (.tmp 12) = .slice ao N.length cc → (∃ f, RDw w V W mb pages f (N.map Bt.key) ao cc N) → Q (.exit 0) a W)
    (hN : ∀ a W, rKey R = [] → a.defers = [] → a.eval (.tmp 8) = .slice none 0 0 → a.eval (.tmp 9) = .int .i64 (rErr er R) → Same w W → Q .ret a W) : (Code.loop cRD1).wp Try.prog Q a0 V := by
  have hSm : ∀ W, Fr (fun k => k = mb) V W → Same w W := fun W f => Fr.trans sV f (fun k hk e => by omega)
  refine wp_loop_ghost (fun m a W => ∃ f at_ acc ao cc N, m = cntR pages f ∧ IRD (.iface 33 (.pointer (some ⟨bb, 0, none⟩))) fb ob a ∧ a.eval (.tmp 12) = .slice ao N.length cc ∧ a.eval (.tmp 13) = .int .u32 ((at_ : Nat) : Int) ∧ at_ < 4294967296 ∧ RDw w V W mb pages f acc ao cc N ∧ Rdr p q pages P f at_ acc R) _ ⟨fun _ => false, first, [], none, 0, [], rfl, I0, h12, h13, hfi, ⟨Fr.refl _ V, own_nil, (fun x hx => (by cases hx)), (fun j k x y b hx => (by simp at hx)), rfl, ⟨.map [], 0, st, ⟨⟨[], rfl⟩, fun y => rfl⟩, Nat.zero_le _⟩, by rw [cnt_none]; simp [wtK]⟩, hR⟩ ?_
  rintro m a W ⟨f, at_, acc, ao, cc, N, rfl, I1, g12, g13, hat, hw, hr⟩
  have sW := hSm W hw.base
  have hBW := hB.same sW
  have kc : ∀ {b o : Nat} {v : Value}, b ≠ mb → V.cell? ⟨b, o, none⟩ = some v → W.cell? ⟨b, o, none⟩ = some v := fun hb h => (hw.base.cell (World.block_lt_of_cell? _ _ h) hb).trans h
  have hwt : wtK acc ≤ 65536 := by have := hw.cnt; omega
  have hNl : N.length ≤ 65536 := by
    have h1 := wt_len N
    have h2 := wt_wtK N
    rw [hw.key] at h2
    omega
  cases hr with
  | done =>
    exact rd_x a W I1 g12 g13 (fun a' i2 k12 => hE a' W ao cc N (by rw [hw.key]) i2 k12 ⟨f, by rw [hw.key]; exact hw⟩)
  | miss h0 h1 =>
    exact rd_a a W I1 g13 h0 (kc hf d0) (kc hf d1) her (fun Z s => bonA (hBW.same s) her h1) (fun a' W' hd h8 h9 s => hN a' W' rfl hd h8 h9 (sW.trans s))
  | bad1 h0 h1 h2 =>
    exact rd_a a W I1 g13 h0 (kc hf d0) (kc hf d1) (by decide) (fun Z s => bonB (hBW.same s) h1 h2) (fun a' W' hd h8 h9 s => hN a' W' rfl hd h8 h9 (sW.trans s))
  | @bad2 _ _ _ x h0 h1 h2 h3 h4 =>
    exact rd_c (nx := qNx p q x.body) a w V W I1 g13 h0 (kc hf d0) (kc hf d1) (kc ho o0) (kc ho o1) (kc ho o2) (kc ho o3) hw h4 (qNs_lt p q x.body) hat (by have := qNs_len p q x.body; omega) hpg (fun Z s => bonD (hBW.same s) h1 h2 h3) (fun a' W' hd h8 h9 s => hN a' W' rfl hd h8 h9 (Fr.trans sW s (fun k hk e => by omega)))
  | @next _ _ _ x _ h0 h1 h2 h3 h4 h5 =>
    refine rd_d (nx := qNx p q x.body) a w V W I1 g12 g13 h0 (kc hf d0) (kc hf d1) (kc ho o0) (kc ho o1) (kc ho o2) (kc ho o3) hw sV.size rfl h4 (qNs_lt p q x.body) hat (by have := qNs_len p q x.body; omega) hpg (by omega) (fun Z s => bonD (hBW.same s) h1 h2 h3) (fun a' W' a6 c6 N2 i2 k12 k13 hw2 => ?_)
    have := ok_cnt h4
    exact ⟨_, by omega, _, _, _, a6, c6, N2, rfl, i2, k12, k13, qNx_lt _ _ _, hw2, h5⟩
set_option maxRecDepth 100000 in
theorem fread_nil {p q : Int} {first pages : Nat} (w : World) : Calls Try.prog 4 #[.agg #[.int .i64 p, .int .i64 q], .nilIface, .int .u32 (first : Int), .int .u32 (pages : Int)] w fun e w' => e = .returned (.tuple #[.slice none 0 0, .int .i64 1]) ∧ Same w w' := by
  refine calls_abs (c := cRD) Try.func4 (by kernel_rfl) 49 rfl (by simp) (fun a0 hsz hd ha => ?_)
  have g_0 := Fe.refl a0
  unfold cRD
  refine wp_seq ?_
  refine wp_region_list ?_
  unfold rRD0
  have r_1 : (execOp a0.eval oQE0).run Try.prog (w) = .ok (.value (.pointer (some ⟨w.heap.size, 0, none⟩))) (w.alloc (.cells #[.int .i64 p, .int .i64 q] 23)) := by
    unfold oQE0
    have e0 := (show a0.eval (.tmp 0) = .agg #[.int .i64 p, .int .i64 q] from ((g_0.at_ 0).trans (ha 0 _ rfl)))
    clear g_0 ha
    generalize a0.eval = ρ at *
    go_simp
  refine g_0.stepW 4 (.pointer (some ⟨w.heap.size, 0, none⟩)) rfl (lb_ hsz) (wn rfl) r_1 (fun x_1 g_1 => ?_)
  clear r_1 g_0
  refine g_1.move 8 (.slice none 0 0) _ (Or.inr rfl) rfl (lb_ hsz) (wn rfl) rfl (fun x_2 g_2 => ?_)
  clear g_1
  refine g_2.move 9 (.int .i64 0) _ (Or.inr rfl) rfl (lb_ hsz) (wn rfl) rfl (fun x_3 g_3 => ?_)
  clear g_2
  refine wpList_nil ?_
  obtain ⟨V, hV⟩ : ∃ V, V = w.alloc (.cells #[.int .i64 p, .int .i64 q] 23) := ⟨_, rfl⟩
  rw [← hV]
  have sV : Same w V := by rw [hV]; exact (Fr.refl _ w).alloc _
  have r0 : V.heap[w.heap.size]? = some (.cells #[.int .i64 p, .int .i64 q] 23 (0, 0)) := by rw [hV]; exact heap_alloc_new w _
  have zV : w.heap.size < V.heap.size := lt_of_heap r0
  have c0 : V.cell? ⟨w.heap.size, 0, none⟩ = some (.int .i64 p) := (cell_of_row _ _ _ _ _ _ r0).trans rfl
  have c1 : V.cell? ⟨w.heap.size, 1, none⟩ = some (.int .i64 q) := (cell_of_row _ _ _ _ _ _ r0).trans rfl
  clear hV
  change Code.wp _ _ _ _ _
  refine wp_seq (wp_seq ?_)
  refine wp_region_list ?_
  unfold rRD1
  refine g_3.move 15 (.nilIface) _ (Or.inl rfl) rfl (lb_ hsz) (wn rfl) ((g_3.at_ 1).trans (ha 1 _ rfl)) (fun x_4 g_4 => ?_)
  clear g_3
  have r_5 : (execOp x_4.eval oQE1).run Try.prog (V) = .ok (.value (.bool true)) (V) := by
    unfold oQE1
    have kc : ∀ v, x_4.eval (.const v) = v := fun _ => rfl
    have e15 : x_4.eval (.tmp 15) = .nilIface := g_4.at_ 15
    clear g_4 ha
    generalize x_4.eval = ρ at *
    go_simp
  refine g_4.step 16 _ rfl (lb_ hsz) (wn rfl) r_5 (fun x_5 g_5 => ?_)
  clear r_5 g_4
  refine wpList_nil ?_
  change Code.wp _ _ _ _ _
  refine wp_cond_true (show x_5.eval (.tmp 16) = .bool true from (g_5.at_ 16)) (wp_seq ?_)
  refine wp_region_list ?_
  unfold rRD2
  refine g_5.move 8 (.slice none 0 0) _ (Or.inr rfl) rfl (lb_ hsz) (wn rfl) rfl (fun x_6 g_6 => ?_)
  clear g_5
  refine g_6.move 9 (.int .i64 1) _ (Or.inr rfl) rfl (lb_ hsz) (wn rfl) rfl (fun x_7 g_7 => ?_)
  clear g_6
  refine wpList_nil ?_
  change Code.wp _ _ _ _ _
  refine wp_ret ?_
  exact ret_two (P := Try.prog) (fn := Try.f4) (R := fun e w' => e = .returned (.tuple #[.slice none 0 0, .int .i64 1]) ∧ Same w w') rfl (g_7.defers.trans hd) (show x_7.eval (.tmp 8) = .slice none 0 0 from (g_7.at_ 8)) (show x_7.eval (.tmp 9) = .int .i64 1 from (g_7.at_ 9)) ⟨rfl, sV⟩
set_option maxRecDepth 100000 in
theorem fread_bad {p q : Int} {bb first pages : Nat} (w : World) (hbad : frameP p q = false ∨ pages < 2 ∨ 65536 < pages) : Calls Try.prog 4 #[.agg #[.int .i64 p, .int .i64 q], .iface 33 (.pointer (some ⟨bb, 0, none⟩)), .int .u32 (first : Int), .int .u32 (pages : Int)] w fun e w' => e = .returned (.tuple #[.slice none 0 0, .int .i64 2]) ∧ Same w w' := by
  refine calls_abs (c := cRD) Try.func4 (by kernel_rfl) 49 rfl (by simp) (fun a0 hsz hd ha => ?_)
  have g_0 := Fe.refl a0
  unfold cRD
  refine wp_seq ?_
  refine wp_region_list ?_
  unfold rRD0
  have r_1 : (execOp a0.eval oQE0).run Try.prog (w) = .ok (.value (.pointer (some ⟨w.heap.size, 0, none⟩))) (w.alloc (.cells #[.int .i64 p, .int .i64 q] 23)) := by
    unfold oQE0
    have e0 := (show a0.eval (.tmp 0) = .agg #[.int .i64 p, .int .i64 q] from ((g_0.at_ 0).trans (ha 0 _ rfl)))
    clear g_0 ha
    generalize a0.eval = ρ at *
    go_simp
  refine g_0.stepW 4 (.pointer (some ⟨w.heap.size, 0, none⟩)) rfl (lb_ hsz) (wn rfl) r_1 (fun x_1 g_1 => ?_)
  clear r_1 g_0
  refine g_1.move 8 (.slice none 0 0) _ (Or.inr rfl) rfl (lb_ hsz) (wn rfl) rfl (fun x_2 g_2 => ?_)
  clear g_1
  refine g_2.move 9 (.int .i64 0) _ (Or.inr rfl) rfl (lb_ hsz) (wn rfl) rfl (fun x_3 g_3 => ?_)
  clear g_2
  refine wpList_nil ?_
  obtain ⟨V, hV⟩ : ∃ V, V = w.alloc (.cells #[.int .i64 p, .int .i64 q] 23) := ⟨_, rfl⟩
  rw [← hV]
  have sV : Same w V := by rw [hV]; exact (Fr.refl _ w).alloc _
  have r0 : V.heap[w.heap.size]? = some (.cells #[.int .i64 p, .int .i64 q] 23 (0, 0)) := by rw [hV]; exact heap_alloc_new w _
  have zV : w.heap.size < V.heap.size := lt_of_heap r0
  have c0 : V.cell? ⟨w.heap.size, 0, none⟩ = some (.int .i64 p) := (cell_of_row _ _ _ _ _ _ r0).trans rfl
  have c1 : V.cell? ⟨w.heap.size, 1, none⟩ = some (.int .i64 q) := (cell_of_row _ _ _ _ _ _ r0).trans rfl
  clear hV
  change Code.wp _ _ _ _ _
  refine wp_seq (wp_seq ?_)
  refine wp_region_list ?_
  unfold rRD1
  refine g_3.move 15 (.iface 33 (.pointer (some ⟨bb, 0, none⟩))) _ (Or.inl rfl) rfl (lb_ hsz) (wn rfl) ((g_3.at_ 1).trans (ha 1 _ rfl)) (fun x_4 g_4 => ?_)
  clear g_3
  have r_5 : (execOp x_4.eval oQE1).run Try.prog (V) = .ok (.value (.bool false)) (V) := by
    unfold oQE1
    have kc : ∀ v, x_4.eval (.const v) = v := fun _ => rfl
    have e15 : x_4.eval (.tmp 15) = .iface 33 (.pointer (some ⟨bb, 0, none⟩)) := g_4.at_ 15
    clear g_4 ha
    generalize x_4.eval = ρ at *
    go_simp
  refine g_4.step 16 _ rfl (lb_ hsz) (wn rfl) r_5 (fun x_5 g_5 => ?_)
  clear r_5 g_4
  refine wpList_nil ?_
  change Code.wp _ _ _ _ _
  refine wp_cond_false (show x_5.eval (.tmp 16) = .bool false from (g_5.at_ 16)) (wp_skip ?_)
  change Code.wp _ _ _ _ _
  refine wp_seq ?_
  refine wp_region_list ?_
  unfold rRD3
  have r_6 : (execOp x_5.eval oQE2).run Try.prog (V) = .ok (.value (.agg #[.int .i64 p, .int .i64 q])) (V) := by
    unfold oQE2
    have e4 : x_5.eval (.tmp 4) = .pointer (some ⟨w.heap.size, 0, none⟩) := g_5.at_ 4
    clear g_5 ha
    generalize x_5.eval = ρ at *
    go_simp
  refine g_5.step 18 _ rfl (lb_ hsz) (wn rfl) r_6 (fun x_6 g_6 => ?_)
  clear r_6 g_5
  refine g_6.move 19 (.int .u32 (pages : Int)) _ (Or.inl rfl) rfl (lb_ hsz) (wn rfl) ((g_6.at_ 3).trans (ha 3 _ rfl)) (fun x_7 g_7 => ?_)
  clear g_6
  have r_8 : (execOp x_7.eval oQE3).run Try.prog (V) = .ok (.enter 11 #[.agg #[.int .i64 p, .int .i64 q], Value.slice none 0 0, .int .u32 (pages : Int)]) (V) := by
    unfold oQE3
    have kc : ∀ v, x_7.eval (.const v) = v := fun _ => rfl
    have kf : ∀ f, x_7.eval (.func f) = .func (.func f) #[] #[] := fun _ => rfl
    have e18 : x_7.eval (.tmp 18) = .agg #[.int .i64 p, .int .i64 q] := g_7.at_ 18
    have e19 : x_7.eval (.tmp 19) = .int .u32 (pages : Int) := g_7.at_ 19
    clear g_7 ha
    generalize x_7.eval = ρ at *
    go_simp
  refine g_7.call 20 rfl (lb_ hsz) (wn rfl) r_8 (fowned_bad V hbad) (fun e W1 hR => ?_)
  obtain ⟨⟨u0, u1, u2, um, rfl⟩, s1⟩ := hR
  clear r_8
  refine ⟨_, rfl, fun x_8 g_8 => ?_⟩
  clear g_7
  refine g_8.move 17 (.tuple #[.agg #[.int .i64 u0, .int .i64 u1, .int .u32 u2, .map um], .int .i64 2]) _ (Or.inl rfl) rfl (lb_ hsz) (wn rfl) (g_8.at_ 20) (fun x_9 g_9 => ?_)
  clear g_8
  have r_10 : (execOp x_9.eval oQE4).run Try.prog (W1) = .ok (.value (.agg #[.int .i64 u0, .int .i64 u1, .int .u32 u2, .map um])) (W1) := by
    unfold oQE4
    have e17 : x_9.eval (.tmp 17) = .tuple #[.agg #[.int .i64 u0, .int .i64 u1, .int .u32 u2, .map um], .int .i64 2] := g_9.at_ 17
    clear g_9 ha
    generalize x_9.eval = ρ at *
    go_simp
  refine g_9.step 21 _ rfl (lb_ hsz) (wn rfl) r_10 (fun x_10 g_10 => ?_)
  clear r_10 g_9
  have r_11 : (execOp x_10.eval oQE5).run Try.prog (W1) = .ok (.value (.int .i64 2)) (W1) := by
    unfold oQE5
    have e17 : x_10.eval (.tmp 17) = .tuple #[.agg #[.int .i64 u0, .int .i64 u1, .int .u32 u2, .map um], .int .i64 2] := g_10.at_ 17
    clear g_10 ha
    generalize x_10.eval = ρ at *
    go_simp
  refine g_10.step 22 _ rfl (lb_ hsz) (wn rfl) r_11 (fun x_11 g_11 => ?_)
  clear r_11 g_10
  have r_12 : (execOp x_11.eval oQE6).run Try.prog (W1) = .ok (.value (.pointer (some ⟨W1.heap.size, 0, none⟩))) (W1.alloc (.cells #[.int .i64 0, .int .i64 0, .int .u32 0, .map none] 48)) := by
    unfold oQE6
    clear g_11 ha
    generalize x_11.eval = ρ at *
    go_simp
  refine g_11.stepW 10 (.pointer (some ⟨W1.heap.size, 0, none⟩)) rfl (lb_ hsz) (wn rfl) r_12 (fun x_12 g_12 => ?_)
  clear r_12 g_11
  have r_13 : (execOp x_12.eval oQE7).run Try.prog (W1.alloc (.cells #[.int .i64 0, .int .i64 0, .int .u32 0, .map none] 48)) = .ok .skip (W1.alloc (.cells #[.int .i64 u0, .int .i64 u1, .int .u32 u2, .map um] 48)) := by
    unfold oQE7
    have e10 : x_12.eval (.tmp 10) = .pointer (some ⟨W1.heap.size, 0, none⟩) := g_12.at_ 10
    have e21 : x_12.eval (.tmp 21) = .agg #[.int .i64 u0, .int .i64 u1, .int .u32 u2, .map um] := g_12.at_ 21
    clear g_12 ha
    generalize x_12.eval = ρ at *
    go_simp
  refine g_12.store rfl (wn rfl) r_13 (fun x_13 g_13 => ?_)
  clear r_13 g_12
  refine g_13.move 11 (.int .i64 2) _ (Or.inr rfl) rfl (lb_ hsz) (wn rfl) (g_13.at_ 22) (fun x_14 g_14 => ?_)
  clear g_13
  refine wpList_nil ?_
  obtain ⟨W2, hW2⟩ : ∃ W2, W2 = W1.alloc (.cells #[.int .i64 u0, .int .i64 u1, .int .u32 u2, .map um] 48) := ⟨_, rfl⟩
  rw [← hW2]
  have s2 : Same V W2 := by rw [hW2]; exact s1.alloc _
  have s12 : Same W1 W2 := by rw [hW2]; exact (Fr.refl _ W1).alloc _
  have r2 : W2.heap[W1.heap.size]? = some (.cells #[.int .i64 u0, .int .i64 u1, .int .u32 u2, .map um] 48 (0, 0)) := by rw [hW2]; exact heap_alloc_new W1 _
  clear hW2
  change Code.wp _ _ _ _ _
  refine wp_seq (wp_seq ?_)
  refine wp_region_list ?_
  unfold rRD4
  refine g_14.move 23 (.int .i64 2) _ (Or.inl rfl) rfl (lb_ hsz) (wn rfl) (g_14.at_ 11) (fun x_15 g_15 => ?_)
  clear g_14
  have r_16 : (execOp x_15.eval oQE8).run Try.prog (W2) = .ok (.value (.bool true)) (W2) := by
    unfold oQE8
    have kc : ∀ v, x_15.eval (.const v) = v := fun _ => rfl
    have e23 : x_15.eval (.tmp 23) = .int .i64 2 := g_15.at_ 23
    clear g_15 ha
    generalize x_15.eval = ρ at *
    go_simp
  refine g_15.step 24 _ rfl (lb_ hsz) (wn rfl) r_16 (fun x_16 g_16 => ?_)
  clear r_16 g_15
  refine wpList_nil ?_
  change Code.wp _ _ _ _ _
  refine wp_cond_true (show x_16.eval (.tmp 24) = .bool true from (g_16.at_ 24)) (wp_seq ?_)
  refine wp_region_list ?_
  unfold rRD5
  refine g_16.move 25 (.int .i64 2) _ (Or.inl rfl) rfl (lb_ hsz) (wn rfl) (g_16.at_ 11) (fun x_17 g_17 => ?_)
  clear g_16
  refine g_17.move 8 (.slice none 0 0) _ (Or.inr rfl) rfl (lb_ hsz) (wn rfl) rfl (fun x_18 g_18 => ?_)
  clear g_17
  refine g_18.move 9 (.int .i64 2) _ (Or.inr rfl) rfl (lb_ hsz) (wn rfl) (g_18.at_ 25) (fun x_19 g_19 => ?_)
  clear g_18
  refine wpList_nil ?_
  change Code.wp _ _ _ _ _
  refine wp_ret ?_
  exact ret_two (P := Try.prog) (fn := Try.f4) (R := fun e w' => e = .returned (.tuple #[.slice none 0 0, .int .i64 2]) ∧ Same w w') rfl (g_19.defers.trans hd) (show x_19.eval (.tmp 8) = .slice none 0 0 from (g_19.at_ 8)) (show x_19.eval (.tmp 9) = .int .i64 2 from (g_19.at_ 9)) ⟨rfl, sV.trans s2⟩
set_option maxRecDepth 100000 in
set_option maxHeartbeats 1000000 in
theorem fread_calls {p q er : Int} {bb first pages pb po n cp : Nat} {pa : Option Addr} {P : List Pgd} {R : RRes} (w : World) (hB : Bok w bb pa pb po n cp P er) (her : ¬ er = 0) (hfr : frameP p q = true) (hp1 : 2 ≤ pages) (hp2 : pages ≤ 65536) (hfi : first < 4294967296) (hR : Rdr p q pages P (fun _ => false) first [] R) :
    Calls Try.prog 4 #[.agg #[.int .i64 p, .int .i64 q], .iface 33 (.pointer (some ⟨bb, 0, none⟩)), .int .u32 (first : Int), .int .u32 (pages : Int)] w fun e w' => ∃ ao cc N, e = .returned (.tuple #[.slice ao N.length cc, .int .i64 (rErr er R)]) ∧ AftAt w w' ao cc N ∧ N.map Bt.key = rKey R ∧ Same w w' := by
  refine calls_abs (c := cRD) Try.func4 (by kernel_rfl) 49 rfl (by simp) (fun a0 hsz hd ha => ?_)
  have g_0 := Fe.refl a0
  unfold cRD
  refine wp_seq ?_
  refine wp_region_list ?_
  unfold rRD0
  have r_1 : (execOp a0.eval oQE0).run Try.prog (w) = .ok (.value (.pointer (some ⟨w.heap.size, 0, none⟩))) (w.alloc (.cells #[.int .i64 p, .int .i64 q] 23)) := by
    unfold oQE0
    have e0 := (show a0.eval (.tmp 0) = .agg #[.int .i64 p, .int .i64 q] from ((g_0.at_ 0).trans (ha 0 _ rfl)))
    clear g_0 ha
    generalize a0.eval = ρ at *
    go_simp
  refine g_0.stepW 4 (.pointer (some ⟨w.heap.size, 0, none⟩)) rfl (lb_ hsz) (wn rfl) r_1 (fun x_1 g_1 => ?_)
  clear r_1 g_0
  refine g_1.move 8 (.slice none 0 0) _ (Or.inr rfl) rfl (lb_ hsz) (wn rfl) rfl (fun x_2 g_2 => ?_)
  clear g_1
  refine g_2.move 9 (.int .i64 0) _ (Or.inr rfl) rfl (lb_ hsz) (wn rfl) rfl (fun x_3 g_3 => ?_)
  clear g_2
  refine wpList_nil ?_
  obtain ⟨V, hV⟩ : ∃ V, V = w.alloc (.cells #[.int .i64 p, .int .i64 q] 23) := ⟨_, rfl⟩
  rw [← hV]
  have sV : Same w V := by rw [hV]; exact (Fr.refl _ w).alloc _
  have r0 : V.heap[w.heap.size]? = some (.cells #[.int .i64 p, .int .i64 q] 23 (0, 0)) := by rw [hV]; exact heap_alloc_new w _
  have zV : w.heap.size < V.heap.size := lt_of_heap r0
  have c0 : V.cell? ⟨w.heap.size, 0, none⟩ = some (.int .i64 p) := (cell_of_row _ _ _ _ _ _ r0).trans rfl
  have c1 : V.cell? ⟨w.heap.size, 1, none⟩ = some (.int .i64 q) := (cell_of_row _ _ _ _ _ _ r0).trans rfl
  clear hV
  change Code.wp _ _ _ _ _
  refine wp_seq (wp_seq ?_)
  refine wp_region_list ?_
  unfold rRD1
  refine g_3.move 15 (.iface 33 (.pointer (some ⟨bb, 0, none⟩))) _ (Or.inl rfl) rfl (lb_ hsz) (wn rfl) ((g_3.at_ 1).trans (ha 1 _ rfl)) (fun x_4 g_4 => ?_)
  clear g_3
  have r_5 : (execOp x_4.eval oQE1).run Try.prog (V) = .ok (.value (.bool false)) (V) := by
    unfold oQE1
    have kc : ∀ v, x_4.eval (.const v) = v := fun _ => rfl
    have e15 : x_4.eval (.tmp 15) = .iface 33 (.pointer (some ⟨bb, 0, none⟩)) := g_4.at_ 15
    clear g_4 ha
    generalize x_4.eval = ρ at *
    go_simp
  refine g_4.step 16 _ rfl (lb_ hsz) (wn rfl) r_5 (fun x_5 g_5 => ?_)
  clear r_5 g_4
  refine wpList_nil ?_
  change Code.wp _ _ _ _ _
  refine wp_cond_false (show x_5.eval (.tmp 16) = .bool false from (g_5.at_ 16)) (wp_skip ?_)
  change Code.wp _ _ _ _ _
  refine wp_seq ?_
  refine wp_region_list ?_
  unfold rRD3
  have r_6 : (execOp x_5.eval oQE2).run Try.prog (V) = .ok (.value (.agg #[.int .i64 p, .int .i64 q])) (V) := by
    unfold oQE2
    have e4 : x_5.eval (.tmp 4) = .pointer (some ⟨w.heap.size, 0, none⟩) := g_5.at_ 4
    clear g_5 ha
    generalize x_5.eval = ρ at *
    go_simp
  refine g_5.step 18 _ rfl (lb_ hsz) (wn rfl) r_6 (fun x_6 g_6 => ?_)
  clear r_6 g_5
  refine g_6.move 19 (.int .u32 (pages : Int)) _ (Or.inl rfl) rfl (lb_ hsz) (wn rfl) ((g_6.at_ 3).trans (ha 3 _ rfl)) (fun x_7 g_7 => ?_)
  clear g_6
  have r_8 : (execOp x_7.eval oQE3).run Try.prog (V) = .ok (.enter 11 #[.agg #[.int .i64 p, .int .i64 q], Value.slice none 0 0, .int .u32 (pages : Int)]) (V) := by
    unfold oQE3
    have kc : ∀ v, x_7.eval (.const v) = v := fun _ => rfl
    have kf : ∀ f, x_7.eval (.func f) = .func (.func f) #[] #[] := fun _ => rfl
    have e18 : x_7.eval (.tmp 18) = .agg #[.int .i64 p, .int .i64 q] := g_7.at_ 18
    have e19 : x_7.eval (.tmp 19) = .int .u32 (pages : Int) := g_7.at_ 19
    clear g_7 ha
    generalize x_7.eval = ρ at *
    go_simp
  refine g_7.call 20 rfl (lb_ hsz) (wn rfl) r_8 (fowned_good (L := []) (pa := none) (pb := 0) (po := 0) (cp := 0) V ⟨fun e => absurd rfl e, fun j x hj => by simp at hj⟩ (Nat.zero_le _) hfr hp1 hp2 rfl) (fun e W1 hR => ?_)
  obtain ⟨mb, rfl, hmb, st, s1⟩ := hR
  clear r_8
  refine ⟨_, rfl, fun x_8 g_8 => ?_⟩
  clear g_7
  refine g_8.move 17 (.tuple #[.agg #[.int .i64 p, .int .i64 q, .int .u32 (pages : Int), .map (some mb)], .int .i64 0]) _ (Or.inl rfl) rfl (lb_ hsz) (wn rfl) (g_8.at_ 20) (fun x_9 g_9 => ?_)
  clear g_8
  have r_10 : (execOp x_9.eval oQE4).run Try.prog (W1) = .ok (.value (.agg #[.int .i64 p, .int .i64 q, .int .u32 (pages : Int), .map (some mb)])) (W1) := by
    unfold oQE4
    have e17 : x_9.eval (.tmp 17) = .tuple #[.agg #[.int .i64 p, .int .i64 q, .int .u32 (pages : Int), .map (some mb)], .int .i64 0] := g_9.at_ 17
    clear g_9 ha
    generalize x_9.eval = ρ at *
    go_simp
  refine g_9.step 21 _ rfl (lb_ hsz) (wn rfl) r_10 (fun x_10 g_10 => ?_)
  clear r_10 g_9
  have r_11 : (execOp x_10.eval oQE5).run Try.prog (W1) = .ok (.value (.int .i64 0)) (W1) := by
    unfold oQE5
    have e17 : x_10.eval (.tmp 17) = .tuple #[.agg #[.int .i64 p, .int .i64 q, .int .u32 (pages : Int), .map (some mb)], .int .i64 0] := g_10.at_ 17
    clear g_10 ha
    generalize x_10.eval = ρ at *
    go_simp
  refine g_10.step 22 _ rfl (lb_ hsz) (wn rfl) r_11 (fun x_11 g_11 => ?_)
  clear r_11 g_10
  have r_12 : (execOp x_11.eval oQE6).run Try.prog (W1) = .ok (.value (.pointer (some ⟨W1.heap.size, 0, none⟩))) (W1.alloc (.cells #[.int .i64 0, .int .i64 0, .int .u32 0, .map none] 48)) := by
    unfold oQE6
    clear g_11 ha
    generalize x_11.eval = ρ at *
    go_simp
  refine g_11.stepW 10 (.pointer (some ⟨W1.heap.size, 0, none⟩)) rfl (lb_ hsz) (wn rfl) r_12 (fun x_12 g_12 => ?_)
  clear r_12 g_11
  have r_13 : (execOp x_12.eval oQE7).run Try.prog (W1.alloc (.cells #[.int .i64 0, .int .i64 0, .int .u32 0, .map none] 48)) = .ok .skip (W1.alloc (.cells #[.int .i64 p, .int .i64 q, .int .u32 (pages : Int), .map (some mb)] 48)) := by
    unfold oQE7
    have e10 : x_12.eval (.tmp 10) = .pointer (some ⟨W1.heap.size, 0, none⟩) := g_12.at_ 10
    have e21 : x_12.eval (.tmp 21) = .agg #[.int .i64 p, .int .i64 q, .int .u32 (pages : Int), .map (some mb)] := g_12.at_ 21
    clear g_12 ha
    generalize x_12.eval = ρ at *
    go_simp
  refine g_12.store rfl (wn rfl) r_13 (fun x_13 g_13 => ?_)
  clear r_13 g_12
  refine g_13.move 11 (.int .i64 0) _ (Or.inr rfl) rfl (lb_ hsz) (wn rfl) (g_13.at_ 22) (fun x_14 g_14 => ?_)
  clear g_13
  refine wpList_nil ?_
  obtain ⟨W2, hW2⟩ : ∃ W2, W2 = W1.alloc (.cells #[.int .i64 p, .int .i64 q, .int .u32 (pages : Int), .map (some mb)] 48) := ⟨_, rfl⟩
  rw [← hW2]
  have s2 : Same V W2 := by rw [hW2]; exact s1.alloc _
  have s12 : Same W1 W2 := by rw [hW2]; exact (Fr.refl _ W1).alloc _
  have r2 : W2.heap[W1.heap.size]? = some (.cells #[.int .i64 p, .int .i64 q, .int .u32 (pages : Int), .map (some mb)] 48 (0, 0)) := by rw [hW2]; exact heap_alloc_new W1 _
  clear hW2
  change Code.wp _ _ _ _ _
  refine wp_seq (wp_seq ?_)
  refine wp_region_list ?_
  unfold rRD4
  refine g_14.move 23 (.int .i64 0) _ (Or.inl rfl) rfl (lb_ hsz) (wn rfl) (g_14.at_ 11) (fun x_15 g_15 => ?_)
  clear g_14
  have r_16 : (execOp x_15.eval oQE8).run Try.prog (W2) = .ok (.value (.bool false)) (W2) := by
    unfold oQE8
    have kc : ∀ v, x_15.eval (.const v) = v := fun _ => rfl
    have e23 : x_15.eval (.tmp 23) = .int .i64 0 := g_15.at_ 23
    clear g_15 ha
    generalize x_15.eval = ρ at *
    go_simp
  refine g_15.step 24 _ rfl (lb_ hsz) (wn rfl) r_16 (fun x_16 g_16 => ?_)
  clear r_16 g_15
  refine wpList_nil ?_
  change Code.wp _ _ _ _ _
  refine wp_cond_false (show x_16.eval (.tmp 24) = .bool false from (g_16.at_ 24)) (wp_skip ?_)
  change Code.wp _ _ _ _ _
  refine wp_seq ?_
  refine wp_region_list ?_
  unfold rRD6
  refine g_16.move 12 (.slice none 0 0) _ (Or.inr rfl) rfl (lb_ hsz) (wn rfl) rfl (fun x_17 g_17 => ?_)
  clear g_16
  refine wpList_nil ?_
  change Code.wp _ _ _ _ _
  refine wp_seq (wp_seq ?_)
  refine wp_region_list ?_
  unfold rRD7
  refine g_17.move 26 (.int .u32 (first : Int)) _ (Or.inl rfl) rfl (lb_ hsz) (wn rfl) ((g_17.at_ 2).trans (ha 2 _ rfl)) (fun x_18 g_18 => ?_)
  clear g_17
  refine g_18.move 13 (.int .u32 (first : Int)) _ (Or.inr rfl) rfl (lb_ hsz) (wn rfl) (g_18.at_ 26) (fun x_19 g_19 => ?_)
  clear g_18
  refine wpList_nil ?_
  change Code.wp _ _ _ _ _
  refine wp_block ?_
  have zm := st.lt
  have hsz1 := s1.size
  have I0 : IRD (.iface 33 (.pointer (some ⟨bb, 0, none⟩))) w.heap.size W1.heap.size x_19 := ⟨g_19.size.trans hsz, g_19.defers.trans hd, (show x_19.eval (.tmp 1) = .iface 33 (.pointer (some ⟨bb, 0, none⟩)) from ((g_19.at_ 1).trans (ha 1 _ rfl))), (show x_19.eval (.tmp 4) = .pointer (some ⟨w.heap.size, 0, none⟩) from (g_19.at_ 4)), (show x_19.eval (.tmp 10) = .pointer (some ⟨W1.heap.size, 0, none⟩) from (g_19.at_ 10))⟩
  refine rdL (R := R) x_19 w W2 I0 (show x_19.eval (.tmp 12) = .slice none 0 0 from (g_19.at_ 12)) (show x_19.eval (.tmp 13) = .int .u32 (first : Int) from (g_19.at_ 13)) hfi hB her (sV.trans s2) (by omega) hp2 hR (s2.keep c0) (s2.keep c1) ((cell_of_row _ _ _ _ _ _ r2).trans rfl) ((cell_of_row _ _ _ _ _ _ r2).trans rfl) ((cell_of_row _ _ _ _ _ _ r2).trans rfl) ((cell_of_row _ _ _ _ _ _ r2).trans rfl) (by omega) (by omega) (st.fr s12 (fun e => e)) (fun b W ao cc N hRe i2 k12 hw => ?_) (fun b W hk hdb h8 h9 s => ?_)
  · have fb_0 := Fe.refl b
    obtain ⟨f, hw⟩ := hw
    change Code.wp _ _ _ _ _
    refine wp_seq ?_
    refine wp_region_list ?_
    unfold rRD16
    refine fb_0.move 48 (.slice ao N.length cc) _ (Or.inl rfl) rfl (lb_ i2.size) (wn rfl) ((fb_0.at_ 12).trans k12) (fun b_1 fb_1 => ?_)
    clear fb_0
    refine fb_1.move 8 (.slice ao N.length cc) _ (Or.inr rfl) rfl (lb_ i2.size) (wn rfl) (fb_1.at_ 48) (fun b_2 fb_2 => ?_)
    clear fb_1
    refine fb_2.move 9 (.int .i64 0) _ (Or.inr rfl) rfl (lb_ i2.size) (wn rfl) rfl (fun b_3 fb_3 => ?_)
    clear fb_2
    refine wpList_nil ?_
    change Code.wp _ _ _ _ _
    refine wp_ret ?_
    refine ret_two (P := Try.prog) (fn := Try.f4) (R := fun e w' => ∃ ao cc N, e = .returned (.tuple #[.slice ao N.length cc, .int .i64 (rErr er R)]) ∧ AftAt w w' ao cc N ∧ N.map Bt.key = rKey R ∧ Same w w') rfl (fb_3.defers.trans i2.defers) (show b_3.eval (.tmp 8) = .slice ao N.length cc from (fb_3.at_ 8)) (show b_3.eval (.tmp 9) = .int .i64 0 from (fb_3.at_ 9)) ⟨ao, cc, N, ?_, ⟨own_base hw.row (sV.trans s2).size, hw.new_, hw.dis⟩, ?_, Fr.trans (sV.trans s2) hw.base (fun k hk e => by omega)⟩
    · rw [hRe]; rfl
    · rw [hRe]; rfl
  · exact ret_two (P := Try.prog) (fn := Try.f4) (R := fun e w' => ∃ ao cc N, e = .returned (.tuple #[.slice ao N.length cc, .int .i64 (rErr er R)]) ∧ AftAt w w' ao cc N ∧ N.map Bt.key = rKey R ∧ Same w w') rfl hdb h8 h9 ⟨none, 0, [], rfl, ⟨own_nil, fun x hx => (by cases hx), fun j k x y b hx => (by simp at hx)⟩, by rw [hk]; rfl, s⟩
end Go.Proofs.Ytajbifblbmlffaa
