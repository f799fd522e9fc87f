/- lent: a copy of a node with four marks behind each list. -/
import Derived.Test.YtmgkdnejjemfeaaKM
import Derived.Deep.LoopGhost
import Derived.Deep.AppendLies
namespace Go.Proofs.Ytmgkdnejjemfeaa
open Go.RowKit

theorem pcells_app (a b : List (ByteArray × ByteArray)) : pcells (a ++ b) = pcells a ++ pcells b := List.flatMap_append
theorem scells_app (a b : List ByteArray) : scells (a ++ b) = scells a ++ scells b := List.map_append
theorem kcellsL_app (a b : List Kid) : kcellsL (a ++ b) = kcellsL a ++ kcellsL b := List.flatMap_append
def markK : Kid := ⟨77, List.replicate 32 0⟩
def mksP (k : Nat) : List (ByteArray × ByteArray) := List.replicate k (⟨#[109, 97, 114, 107]⟩, ⟨#[]⟩)
def mksS (k : Nat) : List ByteArray := List.replicate k ⟨#[109, 97, 114, 107]⟩
def mksK (k : Nat) : List Kid := List.replicate k markK
theorem mksP_succ (ps : List (ByteArray × ByteArray)) (k : Nat) : pcells (ps ++ mksP k) ++ [.string ⟨#[109, 97, 114, 107]⟩, .string ⟨#[]⟩] = pcells (ps ++ mksP (k + 1)) := by
  unfold mksP; rw [List.replicate_succ', ← List.append_assoc, pcells_app (ps ++ _)]; rfl
theorem mksS_succ (ss : List ByteArray) (k : Nat) : scells (ss ++ mksS k) ++ [.string ⟨#[109, 97, 114, 107]⟩] = scells (ss ++ mksS (k + 1)) := by
  unfold mksS; rw [List.replicate_succ', ← List.append_assoc, scells_app (ss ++ _)]; rfl
theorem mksK_succ (ks : List Kid) (k : Nat) : kcellsL (ks ++ mksK k) ++ kcells markK = kcellsL (ks ++ mksK (k + 1)) := by
  unfold mksK; rw [List.replicate_succ', ← List.append_assoc, kcellsL_app (ks ++ _)]; simp [kcellsL]
theorem heap_put_new (w : World) (a : Addr) (v : Value) (o : Obj) : ((w.setCell a v).alloc o).heap[w.heap.size]? = some o := by
  have := heap_alloc_new (w.setCell a v) o
  rwa [show (w.setCell a v).heap.size = w.heap.size from by simp [World.setCell]] at this
/-- The three rows while the marks are laid, and the two boxes. -/
structure LS (w W : World) (nb mb : Nat) (r : Nr) (N : Nd) (a b c : Nat) (pa : Option Addr) (cp : Nat) (sa : Option Addr) (cs : Nat) (ka : Option Addr) (ck : Nat) : Prop where
  hn : W.heap[nb]? = some (.cells #[.slice r.pa N.ps.length r.cp, .slice r.sa N.ss.length r.cs, .slice r.ka N.ks.length r.ck] 28 (0, 0))
  hm : W.heap[mb]? = some (.cells #[.slice pa (N.ps.length + a) cp, .slice sa (N.ss.length + b) cs, .slice ka (N.ks.length + c) ck] 28 (0, 0))
  oP : W.ownsRow w.heap.size 48 2 (.slice pa (N.ps.length + a) cp) (N.ps.length + a) (pcells (N.ps ++ mksP a))
  oS : W.ownsRow w.heap.size 9 1 (.slice sa (N.ss.length + b) cs) (N.ss.length + b) (scells (N.ss ++ mksS b))
  oK : W.ownsRow w.heap.size 59 33 (.slice ka (N.ks.length + c) ck) (N.ks.length + c) (kcellsL (N.ks ++ mksK c))
  hr : W.heap[nb + 1]? = some (.cells #[.slice none 0 0, .slice none 0 0, .slice none 0 0] 28 (0, 0))
  sm : Same w W
  ne : nb ≠ mb
  ne2 : nb + 1 ≠ mb
  bm : w.heap.size ≤ mb
theorem LS.alloc {w W : World} {nb mb : Nat} {r : Nr} {N : Nd} {a b c : Nat} {pa : Option Addr} {cp : Nat} {sa : Option Addr} {cs : Nat} {ka : Option Addr} {ck : Nat} (h : LS w W nb mb r N a b c pa cp sa cs ka ck) (o : Obj) : LS w (W.alloc o) nb mb r N a b c pa cp sa cs ka ck :=
  ⟨(heap_alloc_old _ _ (lt_of_heap h.hn)).trans h.hn, (heap_alloc_old _ _ (lt_of_heap h.hm)).trans h.hm, h.oP.alloc o, h.oS.alloc o, h.oK.alloc o, (heap_alloc_old _ _ (lt_of_heap h.hr)).trans h.hr, h.sm.alloc o, h.ne, h.ne2, h.bm⟩
theorem LS.box {w W : World} {nb mb : Nat} {r : Nr} {N : Nd} {a b c : Nat} {pa : Option Addr} {cp : Nat} {sa : Option Addr} {cs : Nat} {ka : Option Addr} {ck : Nat} (h : LS w W nb mb r N a b c pa cp sa cs ka ck) :
    W.cell? ⟨mb, 0, none⟩ = some (.slice pa (N.ps.length + a) cp) ∧ W.cell? ⟨mb, 1, none⟩ = some (.slice sa (N.ss.length + b) cs) ∧ W.cell? ⟨mb, 2, none⟩ = some (.slice ka (N.ks.length + c) ck) ∧ W.frozen? ⟨mb, 0, none⟩ = false ∧ W.frozen? ⟨mb, 1, none⟩ = false ∧ W.frozen? ⟨mb, 2, none⟩ = false :=
  ⟨(cell_of_row _ _ _ _ _ _ h.hm).trans rfl, (cell_of_row _ _ _ _ _ _ h.hm).trans rfl, (cell_of_row _ _ _ _ _ _ h.hm).trans rfl, frozen_of_row W mb 0 _ _ h.hm, frozen_of_row W mb 1 _ _ h.hm, frozen_of_row W mb 2 _ _ h.hm⟩
theorem LS.nbox {w W : World} {nb mb : Nat} {r : Nr} {N : Nd} {a b c : Nat} {pa : Option Addr} {cp : Nat} {sa : Option Addr} {cs : Nat} {ka : Option Addr} {ck : Nat} (h : LS w W nb mb r N a b c pa cp sa cs ka ck) :
    W.cell? ⟨nb, 0, none⟩ = some (.slice r.pa N.ps.length r.cp) ∧ W.cell? ⟨nb, 1, none⟩ = some (.slice r.sa N.ss.length r.cs) ∧ W.cell? ⟨nb, 2, none⟩ = some (.slice r.ka N.ks.length r.ck) :=
  ⟨(cell_of_row _ _ _ _ _ _ h.hn).trans rfl, (cell_of_row _ _ _ _ _ _ h.hn).trans rfl, (cell_of_row _ _ _ _ _ _ h.hn).trans rfl⟩
theorem LS.growP {w W : World} {nb mb : Nat} {r : Nr} {N : Nd} {a b c : Nat} {pa : Option Addr} {cp : Nat} {sa : Option Addr} {cs : Nat} {ka : Option Addr} {ck : Nat} (h : LS w W nb mb r N a b c pa cp sa cs ka ck) {W' : World} {g cap : Nat} (ho : W'.ownsRow w.heap.size 48 2 (.slice (some ⟨g, 0, none⟩) (N.ps.length + a + 1) cap) (N.ps.length + a + 1) (pcells (N.ps ++ mksP a) ++ [.string ⟨#[109, 97, 114, 107]⟩, .string ⟨#[]⟩])) (hg : W.grownBy W' (Value.ownBlock (.slice pa (N.ps.length + a) cp))) :
    LS w (W'.setCell ⟨mb, 0, none⟩ (.slice (some ⟨g, 0, none⟩) (N.ps.length + a + 1) cap)) nb mb r N (a + 1) b c (some ⟨g, 0, none⟩) cap sa cs ka ck ∧ (W'.cell? ⟨mb, 0, none⟩ = some (.slice pa (N.ps.length + a) cp) ∧ W'.cell? ⟨mb, 1, none⟩ = some (.slice sa (N.ss.length + b) cs) ∧ W'.cell? ⟨mb, 2, none⟩ = some (.slice ka (N.ks.length + c) ck)) ∧ W'.frozen? ⟨mb, 0, none⟩ = false := by
  have hm : W'.heap[mb]? = some (.cells #[.slice pa (N.ps.length + a) cp, .slice sa (N.ss.length + b) cs, .slice ka (N.ks.length + c) ck] 28 (0, 0)) := (hg.block mb (lt_of_heap h.hm) (fun e => type_ne h.oP h.hm (by decide) e.symm)).trans h.hm
  have hn : W'.heap[nb]? = some (.cells #[.slice r.pa N.ps.length r.cp, .slice r.sa N.ss.length r.cs, .slice r.ka N.ks.length r.ck] 28 (0, 0)) := (hg.block nb (lt_of_heap h.hn) (fun e => type_ne h.oP h.hn (by decide) e.symm)).trans h.hn
  have hr : W'.heap[nb + 1]? = some (.cells #[.slice none 0 0, .slice none 0 0, .slice none 0 0] 28 (0, 0)) := (hg.block (nb + 1) (lt_of_heap h.hr) (fun e => type_ne h.oP h.hr (by decide) e.symm)).trans h.hr
  have sm : Same w W' := Fr.grown h.sm hg (fun k hk hl => by
    have := h.oP.lt k hk
    omega)
  have fs : Fr (fun k => k = mb) W' (W'.setCell ⟨mb, 0, none⟩ (.slice (some ⟨g, 0, none⟩) (N.ps.length + a + 1) cap)) := (Fr.refl (fun k => k = mb) W').setCell (p := ⟨mb, 0, none⟩) (fun _ => rfl) _
  have kS := own_frameB (h.oS.kept hg (by
    cases hb : Value.ownBlock (.slice sa (N.ss.length + b) cs) with
    | none => exact Or.inl rfl
    | some g' => exact Or.inr (fun e => own_apart h.oS h.oP (by decide) g' hb e.symm))) fs (fun k hk e => type_ne (h.oS.kept hg (by
    cases hb : Value.ownBlock (.slice sa (N.ss.length + b) cs) with
    | none => exact Or.inl rfl
    | some g' => exact Or.inr (fun e => own_apart h.oS h.oP (by decide) g' hb e.symm))) hm (by decide) (by rw [hk, e]))
  have kK := own_frameB (h.oK.kept hg (by
    cases hb : Value.ownBlock (.slice ka (N.ks.length + c) ck) with
    | none => exact Or.inl rfl
    | some g' => exact Or.inr (fun e => own_apart h.oK h.oP (by decide) g' hb e.symm))) fs (fun k hk e => type_ne (h.oK.kept hg (by
    cases hb : Value.ownBlock (.slice ka (N.ks.length + c) ck) with
    | none => exact Or.inl rfl
    | some g' => exact Or.inr (fun e => own_apart h.oK h.oP (by decide) g' hb e.symm))) hm (by decide) (by rw [hk, e]))
  have kP := own_frameB ho fs (fun k hk e => type_ne ho hm (by decide) (by rw [hk, e]))
  rw [mksP_succ] at kP
  refine ⟨⟨(fs.block nb (lt_of_heap hn) (fun e => h.ne e)).trans hn, heap_setCell_same W' mb 0 _ _ _ hm, kP, kS, kK, (fs.block (nb + 1) (lt_of_heap hr) (fun e => h.ne2 e)).trans hr, Fr.trans sm fs (fun j hj e => by have := h.bm; omega), h.ne, h.ne2, h.bm⟩, ⟨(cell_of_row _ _ _ _ _ _ hm).trans rfl, (cell_of_row _ _ _ _ _ _ hm).trans rfl, (cell_of_row _ _ _ _ _ _ hm).trans rfl⟩, frozen_of_row W' mb 0 _ _ hm⟩
theorem LS.growS {w W : World} {nb mb : Nat} {r : Nr} {N : Nd} {a b c : Nat} {pa : Option Addr} {cp : Nat} {sa : Option Addr} {cs : Nat} {ka : Option Addr} {ck : Nat} (h : LS w W nb mb r N a b c pa cp sa cs ka ck) {W' : World} {g cap : Nat} (ho : W'.ownsRow w.heap.size 9 1 (.slice (some ⟨g, 0, none⟩) (N.ss.length + b + 1) cap) (N.ss.length + b + 1) (scells (N.ss ++ mksS b) ++ [.string ⟨#[109, 97, 114, 107]⟩])) (hg : W.grownBy W' (Value.ownBlock (.slice sa (N.ss.length + b) cs))) :
    LS w (W'.setCell ⟨mb, 1, none⟩ (.slice (some ⟨g, 0, none⟩) (N.ss.length + b + 1) cap)) nb mb r N a (b + 1) c pa cp (some ⟨g, 0, none⟩) cap ka ck ∧ (W'.cell? ⟨mb, 0, none⟩ = some (.slice pa (N.ps.length + a) cp) ∧ W'.cell? ⟨mb, 1, none⟩ = some (.slice sa (N.ss.length + b) cs) ∧ W'.cell? ⟨mb, 2, none⟩ = some (.slice ka (N.ks.length + c) ck)) ∧ W'.frozen? ⟨mb, 1, none⟩ = false := by
  have hm : W'.heap[mb]? = some (.cells #[.slice pa (N.ps.length + a) cp, .slice sa (N.ss.length + b) cs, .slice ka (N.ks.length + c) ck] 28 (0, 0)) := (hg.block mb (lt_of_heap h.hm) (fun e => type_ne h.oS h.hm (by decide) e.symm)).trans h.hm
  have hn : W'.heap[nb]? = some (.cells #[.slice r.pa N.ps.length r.cp, .slice r.sa N.ss.length r.cs, .slice r.ka N.ks.length r.ck] 28 (0, 0)) := (hg.block nb (lt_of_heap h.hn) (fun e => type_ne h.oS h.hn (by decide) e.symm)).trans h.hn
  have hr : W'.heap[nb + 1]? = some (.cells #[.slice none 0 0, .slice none 0 0, .slice none 0 0] 28 (0, 0)) := (hg.block (nb + 1) (lt_of_heap h.hr) (fun e => type_ne h.oS h.hr (by decide) e.symm)).trans h.hr
  have sm : Same w W' := Fr.grown h.sm hg (fun k hk hl => by
    have := h.oS.lt k hk
    omega)
  have fs : Fr (fun k => k = mb) W' (W'.setCell ⟨mb, 1, none⟩ (.slice (some ⟨g, 0, none⟩) (N.ss.length + b + 1) cap)) := (Fr.refl (fun k => k = mb) W').setCell (p := ⟨mb, 1, none⟩) (fun _ => rfl) _
  have kP := own_frameB (h.oP.kept hg (by
    cases hb : Value.ownBlock (.slice pa (N.ps.length + a) cp) with
    | none => exact Or.inl rfl
    | some g' => exact Or.inr (fun e => own_apart h.oP h.oS (by decide) g' hb e.symm))) fs (fun k hk e => type_ne (h.oP.kept hg (by
    cases hb : Value.ownBlock (.slice pa (N.ps.length + a) cp) with
    | none => exact Or.inl rfl
    | some g' => exact Or.inr (fun e => own_apart h.oP h.oS (by decide) g' hb e.symm))) hm (by decide) (by rw [hk, e]))
  have kK := own_frameB (h.oK.kept hg (by
    cases hb : Value.ownBlock (.slice ka (N.ks.length + c) ck) with
    | none => exact Or.inl rfl
    | some g' => exact Or.inr (fun e => own_apart h.oK h.oS (by decide) g' hb e.symm))) fs (fun k hk e => type_ne (h.oK.kept hg (by
    cases hb : Value.ownBlock (.slice ka (N.ks.length + c) ck) with
    | none => exact Or.inl rfl
    | some g' => exact Or.inr (fun e => own_apart h.oK h.oS (by decide) g' hb e.symm))) hm (by decide) (by rw [hk, e]))
  have kS := own_frameB ho fs (fun k hk e => type_ne ho hm (by decide) (by rw [hk, e]))
  rw [mksS_succ] at kS
  refine ⟨⟨(fs.block nb (lt_of_heap hn) (fun e => h.ne e)).trans hn, heap_setCell_same W' mb 1 _ _ _ hm, kP, kS, kK, (fs.block (nb + 1) (lt_of_heap hr) (fun e => h.ne2 e)).trans hr, Fr.trans sm fs (fun j hj e => by have := h.bm; omega), h.ne, h.ne2, h.bm⟩, ⟨(cell_of_row _ _ _ _ _ _ hm).trans rfl, (cell_of_row _ _ _ _ _ _ hm).trans rfl, (cell_of_row _ _ _ _ _ _ hm).trans rfl⟩, frozen_of_row W' mb 1 _ _ hm⟩
theorem LS.growK {w W : World} {nb mb : Nat} {r : Nr} {N : Nd} {a b c : Nat} {pa : Option Addr} {cp : Nat} {sa : Option Addr} {cs : Nat} {ka : Option Addr} {ck : Nat} (h : LS w W nb mb r N a b c pa cp sa cs ka ck) {W' : World} {g cap : Nat} (ho : W'.ownsRow w.heap.size 59 33 (.slice (some ⟨g, 0, none⟩) (N.ks.length + c + 1) cap) (N.ks.length + c + 1) (kcellsL (N.ks ++ mksK c) ++ (kcells markK))) (hg : W.grownBy W' (Value.ownBlock (.slice ka (N.ks.length + c) ck))) :
    LS w (W'.setCell ⟨mb, 2, none⟩ (.slice (some ⟨g, 0, none⟩) (N.ks.length + c + 1) cap)) nb mb r N a b (c + 1) pa cp sa cs (some ⟨g, 0, none⟩) cap ∧ (W'.cell? ⟨mb, 0, none⟩ = some (.slice pa (N.ps.length + a) cp) ∧ W'.cell? ⟨mb, 1, none⟩ = some (.slice sa (N.ss.length + b) cs) ∧ W'.cell? ⟨mb, 2, none⟩ = some (.slice ka (N.ks.length + c) ck)) ∧ W'.frozen? ⟨mb, 2, none⟩ = false := by
  have hm : W'.heap[mb]? = some (.cells #[.slice pa (N.ps.length + a) cp, .slice sa (N.ss.length + b) cs, .slice ka (N.ks.length + c) ck] 28 (0, 0)) := (hg.block mb (lt_of_heap h.hm) (fun e => type_ne h.oK h.hm (by decide) e.symm)).trans h.hm
  have hn : W'.heap[nb]? = some (.cells #[.slice r.pa N.ps.length r.cp, .slice r.sa N.ss.length r.cs, .slice r.ka N.ks.length r.ck] 28 (0, 0)) := (hg.block nb (lt_of_heap h.hn) (fun e => type_ne h.oK h.hn (by decide) e.symm)).trans h.hn
  have hr : W'.heap[nb + 1]? = some (.cells #[.slice none 0 0, .slice none 0 0, .slice none 0 0] 28 (0, 0)) := (hg.block (nb + 1) (lt_of_heap h.hr) (fun e => type_ne h.oK h.hr (by decide) e.symm)).trans h.hr
  have sm : Same w W' := Fr.grown h.sm hg (fun k hk hl => by
    have := h.oK.lt k hk
    omega)
  have fs : Fr (fun k => k = mb) W' (W'.setCell ⟨mb, 2, none⟩ (.slice (some ⟨g, 0, none⟩) (N.ks.length + c + 1) cap)) := (Fr.refl (fun k => k = mb) W').setCell (p := ⟨mb, 2, none⟩) (fun _ => rfl) _
  have kP := own_frameB (h.oP.kept hg (by
    cases hb : Value.ownBlock (.slice pa (N.ps.length + a) cp) with
    | none => exact Or.inl rfl
    | some g' => exact Or.inr (fun e => own_apart h.oP h.oK (by decide) g' hb e.symm))) fs (fun k hk e => type_ne (h.oP.kept hg (by
    cases hb : Value.ownBlock (.slice pa (N.ps.length + a) cp) with
    | none => exact Or.inl rfl
    | some g' => exact Or.inr (fun e => own_apart h.oP h.oK (by decide) g' hb e.symm))) hm (by decide) (by rw [hk, e]))
  have kS := own_frameB (h.oS.kept hg (by
    cases hb : Value.ownBlock (.slice sa (N.ss.length + b) cs) with
    | none => exact Or.inl rfl
    | some g' => exact Or.inr (fun e => own_apart h.oS h.oK (by decide) g' hb e.symm))) fs (fun k hk e => type_ne (h.oS.kept hg (by
    cases hb : Value.ownBlock (.slice sa (N.ss.length + b) cs) with
    | none => exact Or.inl rfl
    | some g' => exact Or.inr (fun e => own_apart h.oS h.oK (by decide) g' hb e.symm))) hm (by decide) (by rw [hk, e]))
  have kK := own_frameB ho fs (fun k hk e => type_ne ho hm (by decide) (by rw [hk, e]))
  rw [mksK_succ] at kK
  refine ⟨⟨(fs.block nb (lt_of_heap hn) (fun e => h.ne e)).trans hn, heap_setCell_same W' mb 2 _ _ _ hm, kP, kS, kK, (fs.block (nb + 1) (lt_of_heap hr) (fun e => h.ne2 e)).trans hr, Fr.trans sm fs (fun j hj e => by have := h.bm; omega), h.ne, h.ne2, h.bm⟩, ⟨(cell_of_row _ _ _ _ _ _ hm).trans rfl, (cell_of_row _ _ _ _ _ _ hm).trans rfl, (cell_of_row _ _ _ _ _ _ hm).trans rfl⟩, frozen_of_row W' mb 2 _ _ hm⟩
set_option maxRecDepth 100000 in
set_option maxHeartbeats 1000000 in
theorem lent_calls {r : Nr} {N : Nd} (w : World) (h : NdIn w r N) (h1 : N.ps.length ≤ 1048576) (h2 : N.ss.length ≤ 1048576) (h3 : N.ks.length ≤ 1048576) : Calls Try.prog 6 #[ndV r N] w fun e w' => ∃ pa cp sa cs ka ck, e = .returned (nodeV pa N.ps.length cp sa N.ss.length cs ka N.ks.length ck) ∧ w'.ownsRow w.heap.size 48 2 (.slice pa (N.ps.length + 4) cp) (N.ps.length + 4) (pcells (N.ps ++ mksP 4)) ∧ w'.ownsRow w.heap.size 9 1 (.slice sa (N.ss.length + 4) cs) (N.ss.length + 4) (scells (N.ss ++ mksS 4)) ∧ w'.ownsRow w.heap.size 59 33 (.slice ka (N.ks.length + 4) ck) (N.ks.length + 4) (kcellsL (N.ks ++ mksK 4)) ∧ Same w w' := by
  have HC : Hid (∀ W, Same w W → Calls Try.prog 15 #[ndV r N] W fun e w' => ∃ pa cp sa cs ka ck, e = .returned (nodeV pa N.ps.length cp sa N.ss.length cs ka N.ks.length ck) ∧ w'.ownsRow W.heap.size 48 2 (.slice pa N.ps.length cp) N.ps.length (pcells N.ps) ∧ w'.ownsRow W.heap.size 9 1 (.slice sa N.ss.length cs) N.ss.length (scells N.ss) ∧ w'.ownsRow W.heap.size 59 33 (.slice ka N.ks.length ck) N.ks.length (kcellsL N.ks) ∧ Same W w') := fun W s => rcopy_calls W (h.same s) h1 h2 h3
  obtain ⟨i0P, hiP, hz0P, hz1P, hz2P⟩ := info_parts Try.infPair
  obtain ⟨i0S, hiS, hz0S, hz1S, hz2S⟩ := info_parts Try.infStr
  obtain ⟨i0K, hiK, hz0K, hz1K, hz2K⟩ := info_parts Try.infKid
  obtain ⟨V, hV⟩ : ∃ V, V = (w.alloc (.cells #[.slice r.pa N.ps.length r.cp, .slice r.sa N.ss.length r.cs, .slice r.ka N.ks.length r.ck] 28)).alloc (.cells #[.slice none 0 0, .slice none 0 0, .slice none 0 0] 28) := ⟨_, rfl⟩
  have s0 : Same w V := by rw [hV]; exact ((Fr.refl _ w).alloc _).alloc _
  have r0 : V.heap[w.heap.size]? = some (.cells #[.slice r.pa N.ps.length r.cp, .slice r.sa N.ss.length r.cs, .slice r.ka N.ks.length r.ck] 28 (0, 0)) := by rw [hV]; exact heap_alloc2_old w _ _
  have r1 : V.heap[w.heap.size + 1]? = some (.cells #[.slice none 0 0, .slice none 0 0, .slice none 0 0] 28 (0, 0)) := by rw [hV]; exact heap_alloc2_new w _ _
  have HZ : Hid (V.heap.size = w.heap.size + 2) := by show _ = _; rw [hV]; simp
  have HL : Hid (N.ps.length ≤ 1048576 ∧ N.ss.length ≤ 1048576 ∧ N.ks.length ≤ 1048576) := ⟨h1, h2, h3⟩
  have n0 : V.cell? ⟨w.heap.size, 0, none⟩ = some (.slice r.pa N.ps.length r.cp) := (cell_of_row _ _ _ _ _ _ r0).trans rfl
  have n1 : V.cell? ⟨w.heap.size, 1, none⟩ = some (.slice r.sa N.ss.length r.cs) := (cell_of_row _ _ _ _ _ _ r0).trans rfl
  have n2 : V.cell? ⟨w.heap.size, 2, none⟩ = some (.slice r.ka N.ks.length r.ck) := (cell_of_row _ _ _ _ _ _ r0).trans rfl
  have HR1 : Hid (V.heap[w.heap.size + 1]? = some (.cells #[.slice none 0 0, .slice none 0 0, .slice none 0 0] 28 (0, 0))) := r1
  have HR0 : Hid (V.heap[w.heap.size]? = some (.cells #[.slice r.pa N.ps.length r.cp, .slice r.sa N.ss.length r.cs, .slice r.ka N.ks.length r.ck] 28 (0, 0))) := r0
  clear h h1 h2 h3 r1 r0
  go_enter Try.func6, Try.ntmps6
  go_wp2_with fail
  rw [← hV]
  clear hV
  refine (HC.out _ s0).mono ?_
  rintro e W1 ⟨pa, cp, sa, cs, ka, ck, rfl, oP, oS, oK, s1⟩
  clear n0 n1 n2
  go_wp2_with fail
  have L0 : LS w (W1.alloc (.cells #[.slice pa (N.ps.length + 0) cp, .slice sa (N.ss.length + 0) cs, .slice ka (N.ks.length + 0) ck] 28)) w.heap.size W1.heap.size r N 0 0 0 pa cp sa cs ka ck := by
    have hz := HZ.out
    have z1 := s1.size
    have b0 : w.heap.size ≤ V.heap.size := by omega
    refine ⟨(heap_alloc_old _ _ (by omega)).trans ((s1.block _ (by omega) (fun e => e)).trans HR0.out), heap_alloc_new W1 _, ?_, ?_, ?_, (heap_alloc_old _ _ (by omega)).trans ((s1.block _ (by omega) (fun e => e)).trans HR1.out), (s0.trans s1).alloc _, by omega, by omega, by omega⟩
    · simpa [mksP] using own_base (oP.alloc _) b0
    · simpa [mksS] using own_base (oS.alloc _) b0
    · simpa [mksK] using own_base (oK.alloc _) b0
  obtain ⟨mb, hmb⟩ : ∃ mb, mb = W1.heap.size := ⟨_, rfl⟩
  rw [← hmb] at L0 ⊢
  simp only [Nat.add_zero] at L0
  generalize (W1.alloc (.cells #[.slice pa N.ps.length cp, .slice sa N.ss.length cs, .slice ka N.ks.length ck] 28)) = W2 at *
  clear HC HR0 HR1 hmb oP oS oK s1
  go_loopg [4] 4 (fun g iv wr => ∃ (k : Nat) (pa : Option Addr) (cp : Nat) (sa : Option Addr) (cs : Nat) (ka : Option Addr) (ck : Nat), iv = .int .i64 (k : Int) ∧ k ≤ 4 ∧ g = 4 - k ∧ LS w wr w.heap.size mb r N k k k pa cp sa cs ka ck)
  case atStart => exact ⟨0, pa, cp, sa, cs, ka, ck, rfl, by omega, rfl, L0⟩
  case round =>
    clear L0
    obtain ⟨k, pa, cp, sa, cs, ka, ck, rfl, hk, hg, L⟩ := hrel
    by_cases hgo : k < 4
    · have i1 : (k : Int) < 4 := by omega
      have HLs : Hid (LS w wr w.heap.size mb r N k k k pa cp sa cs ka ck) := L
      obtain ⟨m0, m1, m2, f0, f1, f2⟩ := L.box
      clear L
      go_wp2_with (at_builtin; go_must (refine wpList_append_lies _ (by rfl) _ _ _ (by rfl) w.heap.size 48 i0P (.agg #[.string ⟨#[]⟩, .string ⟨#[]⟩]) 2 32 Try.underlying24 hiP hz0P hz1P hz2P rfl (by decide) _ _ _ (by rfl) (HLs.out.alloc _).oP ⟨wr.heap.size, 0, none⟩ 1 1 [.string ⟨#[109, 97, 114, 107]⟩, .string ⟨#[]⟩] (by rfl) rfl (World.news_of_block (heap_alloc_new wr _)) (by simp [Value.oneCell']) (by decide) ?_ ?_ ?_ (wr.heap.size + 1) (by simp) ?_))
      · have := HL.out; unfold maxLen; omega
      · have := HL.out; omega
      · exact (HLs.out.alloc _).sm.size
      intro g2 cap2 w6 own6 grow6 _ _
      obtain ⟨L1, ⟨a0, a1, a2⟩, a3⟩ := (HLs.out.alloc _).growP own6 grow6
      have HL1 : Hid (LS w (w6.setCell ⟨mb, 0, none⟩ (.slice (some ⟨g2, 0, none⟩) (N.ps.length + k + 1) cap2)) w.heap.size mb r N (k + 1) k k (some ⟨g2, 0, none⟩) cap2 sa cs ka ck) := L1
      clear L1 HLs own6 grow6 m0 m1 m2 f0 f1 f2
      go_wp2_with (at_builtin; go_must (refine wpList_append_lies _ (by rfl) _ _ _ (by rfl) w.heap.size 9 i0S (.string ⟨#[]⟩) 1 16 Try.underlying25 hiS hz0S hz1S hz2S rfl (by decide) _ _ _ (by rfl) (HL1.out.alloc _).oS ⟨w6.heap.size, 0, none⟩ 1 1 [.string ⟨#[109, 97, 114, 107]⟩] (by rfl) rfl (World.news_of_block (heap_put_new w6 _ _ _)) (by simp [Value.oneCell']) (by decide) ?_ ?_ ?_ _ rfl ?_))
      · have := HL.out; unfold maxLen; omega
      · have := HL.out; omega
      · exact (HL1.out.alloc _).sm.size
      intro g3 cap3 w7 own7 grow7 _ _
      obtain ⟨L2, ⟨b0, b1, b2⟩, b3⟩ := (HL1.out.alloc _).growS own7 grow7
      have HL2 : Hid (LS w (w7.setCell ⟨mb, 1, none⟩ (.slice (some ⟨g3, 0, none⟩) (N.ss.length + k + 1) cap3)) w.heap.size mb r N (k + 1) (k + 1) k (some ⟨g2, 0, none⟩) cap2 (some ⟨g3, 0, none⟩) cap3 ka ck) := L2
      clear L2 HL1 own7 grow7 a0 a1 a2 a3
      go_wp2_with (at_builtin; go_must (refine wpList_append_lies _ (by rfl) _ _ _ (by rfl) w.heap.size 59 i0K (kidV zeroKid) 33 36 Try.underlying26 hiK hz0K hz1K hz2K rfl (by decide) _ _ _ (by rfl) (HL2.out.alloc _).oK ⟨w7.heap.size, 0, none⟩ 1 1 (kcells markK) (by rfl) rfl (World.news_of_block (heap_put_new w7 _ _ _)) (by decide +kernel) (by decide) ?_ ?_ ?_ _ rfl ?_))
      · have := HL.out; unfold maxLen; omega
      · have := HL.out; omega
      · exact (HL2.out.alloc _).sm.size
      intro g4 cap4 w8 own8 grow8 _ _
      obtain ⟨L3, ⟨c0, c1, c2⟩, c3⟩ := (HL2.out.alloc _).growK own8 grow8
      have HL3 : Hid (LS w (w8.setCell ⟨mb, 2, none⟩ (.slice (some ⟨g4, 0, none⟩) (N.ks.length + k + 1) cap4)) w.heap.size mb r N (k + 1) (k + 1) (k + 1) (some ⟨g2, 0, none⟩) cap2 (some ⟨g3, 0, none⟩) cap3 (some ⟨g4, 0, none⟩) cap4) := L3
      clear L3 HL2 own8 grow8 b0 b1 b2 b3
      go_wp2_with fail
      go_roundg (4 - (k + 1))
      case measure => omega
      case rel => exact ⟨k + 1, _, _, _, _, _, _, by go_num, by omega, rfl, HL3.out⟩
    · obtain rfl : k = 4 := by omega
      have i1 : ¬ ((4 : Nat) : Int) < 4 := by omega
      have HLs : Hid (LS w wr w.heap.size mb r N 4 4 4 pa cp sa cs ka ck) := L
      obtain ⟨gp, rfl, _⟩ := own_some (own_base L.oP (Nat.zero_le _)) (by omega)
      obtain ⟨gs, rfl, _⟩ := own_some (own_base L.oS (Nat.zero_le _)) (by omega)
      obtain ⟨gk, rfl, _⟩ := own_some (own_base L.oK (Nat.zero_le _)) (by omega)
      have x1 := (own_cap (own_base L.oP (Nat.zero_le _))).1
      have x2 := (own_cap (own_base L.oS (Nat.zero_le _))).1
      have x3 := (own_cap (own_base L.oK (Nat.zero_le _))).1
      have y1 : (N.ps.length : Int) ≤ (cp : Int) := by omega
      have y2 : (N.ss.length : Int) ≤ (cs : Int) := by omega
      have y3 : (N.ks.length : Int) ≤ (ck : Int) := by omega
      have z1 : (0 : Int) ≤ (N.ps.length : Int) := by omega
      have z2 : (0 : Int) ≤ (N.ss.length : Int) := by omega
      have z3 : (0 : Int) ≤ (N.ks.length : Int) := by omega
      have HB : Hid (∀ W, Same wr W → (W.cell? ⟨mb, 0, none⟩ = some (.slice (some ⟨gp, 0, none⟩) (N.ps.length + 4) cp) ∧ W.cell? ⟨mb, 1, none⟩ = some (.slice (some ⟨gs, 0, none⟩) (N.ss.length + 4) cs) ∧ W.cell? ⟨mb, 2, none⟩ = some (.slice (some ⟨gk, 0, none⟩) (N.ks.length + 4) ck)) ∧ W.cell? ⟨w.heap.size, 0, none⟩ = some (.slice r.pa N.ps.length r.cp) ∧ W.cell? ⟨w.heap.size, 1, none⟩ = some (.slice r.sa N.ss.length r.cs) ∧ W.cell? ⟨w.heap.size, 2, none⟩ = some (.slice r.ka N.ks.length r.ck)) := fun W s => ⟨⟨s.keep HLs.out.box.1, s.keep HLs.out.box.2.1, s.keep HLs.out.box.2.2.1⟩, s.keep HLs.out.nbox.1, s.keep HLs.out.nbox.2.1, s.keep HLs.out.nbox.2.2⟩
      have d0 : Same wr wr.drew := Fr.drew (Fr.refl _ wr)
      clear L x1 x2 x3 hk hg hgo
      go_wp2_with fail
      refine wp_region_held_drew (S := fun X => (X.cell? ⟨mb, 0, none⟩ = some (.slice (some ⟨gp, 0, none⟩) (N.ps.length + 4) cp) ∧ X.cell? ⟨mb, 1, none⟩ = some (.slice (some ⟨gs, 0, none⟩) (N.ss.length + 4) cs) ∧ X.cell? ⟨mb, 2, none⟩ = some (.slice (some ⟨gk, 0, none⟩) (N.ks.length + 4) ck)) ∧ X.cell? ⟨w.heap.size, 0, none⟩ = some (.slice r.pa N.ps.length r.cp) ∧ X.cell? ⟨w.heap.size, 1, none⟩ = some (.slice r.sa N.ss.length r.cs) ∧ X.cell? ⟨w.heap.size, 2, none⟩ = some (.slice r.ka N.ks.length r.ck)) (by kernel_rfl) (HB.out _ d0) (fun hHeld => ?_)
      refine wpAnyH_take (i := 0) (oi := { dst := some 28, op := Op.fieldAddr 28 (Operand.tmp 3) 0, type := 0, pos := "kit.go:42", after := #[], guard := none }) (v := .pointer (some ⟨mb, 0, none⟩)) rfl (by kernel_rfl) (by kernel_rfl) (by kernel_rfl) (fun _ _ _ h => h) (Or.inl ⟨by rfl, fun w hSw => by (obtain ⟨⟨q0, q1, q2⟩, q3, q4, q5⟩ := hSw; go_simp)⟩) (by assumption) ?_
      try simp only [Act.put, List.setIfInBounds_toArray, List.set_cons_zero, List.set_cons_succ]
      refine wpAnyH_take (i := 1) (oi := { dst := some 29, op := Op.load 24 (Operand.tmp 28), type := 24, pos := "kit.go:42", after := #[{ on := 0, ground := Ground.data }], guard := none }) (v := .slice (some ⟨gp, 0, none⟩) (N.ps.length + 4) cp) rfl (by kernel_rfl) (by kernel_rfl) (by kernel_rfl) (fun _ _ _ h => h) (Or.inl ⟨by rfl, fun w hSw => by (obtain ⟨⟨q0, q1, q2⟩, q3, q4, q5⟩ := hSw; go_simp)⟩) (by assumption) ?_
      try simp only [Act.put, List.setIfInBounds_toArray, List.set_cons_zero, List.set_cons_succ]
      refine wpAnyH_take (i := 2) (oi := { dst := some 30, op := Op.fieldAddr 28 (Operand.tmp 1) 0, type := 0, pos := "kit.go:42", after := #[], guard := none }) (v := .pointer (some ⟨w.heap.size, 0, none⟩)) rfl (by kernel_rfl) (by kernel_rfl) (by kernel_rfl) (fun _ _ _ h => h) (Or.inl ⟨by rfl, fun w hSw => by (obtain ⟨⟨q0, q1, q2⟩, q3, q4, q5⟩ := hSw; go_simp)⟩) (by assumption) ?_
      try simp only [Act.put, List.setIfInBounds_toArray, List.set_cons_zero, List.set_cons_succ]
      refine wpAnyH_take (i := 3) (oi := { dst := some 31, op := Op.load 24 (Operand.tmp 30), type := 24, pos := "kit.go:42", after := #[{ on := 2, ground := Ground.data }], guard := none }) (v := .slice r.pa N.ps.length r.cp) rfl (by kernel_rfl) (by kernel_rfl) (by kernel_rfl) (fun _ _ _ h => h) (Or.inl ⟨by rfl, fun w hSw => by (obtain ⟨⟨q0, q1, q2⟩, q3, q4, q5⟩ := hSw; go_simp)⟩) (by assumption) ?_
      try simp only [Act.put, List.setIfInBounds_toArray, List.set_cons_zero, List.set_cons_succ]
      refine wpAnyH_take (i := 4) (oi := { dst := some 32, op := Op.call { callee := Callee.builtin Builtin.len, args := #[Operand.tmp 31], argTypes := #[24] }, type := 3, pos := "kit.go:42", after := #[{ on := 3, ground := Ground.data }], guard := none }) (v := .int .i64 (N.ps.length : Int)) rfl (by kernel_rfl) (by kernel_rfl) (by kernel_rfl) (fun _ _ _ h => h) (Or.inl ⟨by rfl, fun w hSw => by (obtain ⟨⟨q0, q1, q2⟩, q3, q4, q5⟩ := hSw; go_simp)⟩) (by assumption) ?_
      try simp only [Act.put, List.setIfInBounds_toArray, List.set_cons_zero, List.set_cons_succ]
      refine wpAnyH_take (i := 5) (oi := { dst := some 33, op := Op.slice 24 (Operand.tmp 29) none (some (Operand.tmp 32)) none, type := 24, pos := "kit.go:42", after := #[{ on := 1, ground := Ground.data }, { on := 4, ground := Ground.data }], guard := none }) (v := .slice (some ⟨gp, 0, none⟩) (N.ps.length) cp) rfl (by kernel_rfl) (by kernel_rfl) (by kernel_rfl) (fun _ _ _ h => h) (Or.inl ⟨by rfl, fun w hSw => by (obtain ⟨⟨q0, q1, q2⟩, q3, q4, q5⟩ := hSw; go_simp)⟩) (by assumption) ?_
      try simp only [Act.put, List.setIfInBounds_toArray, List.set_cons_zero, List.set_cons_succ]
      refine wpAnyH_take (i := 6) (oi := { dst := some 34, op := Op.fieldAddr 28 (Operand.tmp 3) 1, type := 0, pos := "kit.go:42", after := #[], guard := none }) (v := .pointer (some ⟨mb, 1, none⟩)) rfl (by kernel_rfl) (by kernel_rfl) (by kernel_rfl) (fun _ _ _ h => h) (Or.inl ⟨by rfl, fun w hSw => by (obtain ⟨⟨q0, q1, q2⟩, q3, q4, q5⟩ := hSw; go_simp)⟩) (by assumption) ?_
      try simp only [Act.put, List.setIfInBounds_toArray, List.set_cons_zero, List.set_cons_succ]
      refine wpAnyH_take (i := 7) (oi := { dst := some 35, op := Op.load 25 (Operand.tmp 34), type := 25, pos := "kit.go:42", after := #[{ on := 6, ground := Ground.data }], guard := none }) (v := .slice (some ⟨gs, 0, none⟩) (N.ss.length + 4) cs) rfl (by kernel_rfl) (by kernel_rfl) (by kernel_rfl) (fun _ _ _ h => h) (Or.inl ⟨by rfl, fun w hSw => by (obtain ⟨⟨q0, q1, q2⟩, q3, q4, q5⟩ := hSw; go_simp)⟩) (by assumption) ?_
      try simp only [Act.put, List.setIfInBounds_toArray, List.set_cons_zero, List.set_cons_succ]
      refine wpAnyH_take (i := 8) (oi := { dst := some 36, op := Op.fieldAddr 28 (Operand.tmp 1) 1, type := 0, pos := "kit.go:42", after := #[], guard := none }) (v := .pointer (some ⟨w.heap.size, 1, none⟩)) rfl (by kernel_rfl) (by kernel_rfl) (by kernel_rfl) (fun _ _ _ h => h) (Or.inl ⟨by rfl, fun w hSw => by (obtain ⟨⟨q0, q1, q2⟩, q3, q4, q5⟩ := hSw; go_simp)⟩) (by assumption) ?_
      try simp only [Act.put, List.setIfInBounds_toArray, List.set_cons_zero, List.set_cons_succ]
      refine wpAnyH_take (i := 9) (oi := { dst := some 37, op := Op.load 25 (Operand.tmp 36), type := 25, pos := "kit.go:42", after := #[{ on := 8, ground := Ground.data }], guard := none }) (v := .slice r.sa N.ss.length r.cs) rfl (by kernel_rfl) (by kernel_rfl) (by kernel_rfl) (fun _ _ _ h => h) (Or.inl ⟨by rfl, fun w hSw => by (obtain ⟨⟨q0, q1, q2⟩, q3, q4, q5⟩ := hSw; go_simp)⟩) (by assumption) ?_
      try simp only [Act.put, List.setIfInBounds_toArray, List.set_cons_zero, List.set_cons_succ]
      refine wpAnyH_take (i := 10) (oi := { dst := some 38, op := Op.call { callee := Callee.builtin Builtin.len, args := #[Operand.tmp 37], argTypes := #[25] }, type := 3, pos := "kit.go:42", after := #[{ on := 9, ground := Ground.data }], guard := none }) (v := .int .i64 (N.ss.length : Int)) rfl (by kernel_rfl) (by kernel_rfl) (by kernel_rfl) (fun _ _ _ h => h) (Or.inl ⟨by rfl, fun w hSw => by (obtain ⟨⟨q0, q1, q2⟩, q3, q4, q5⟩ := hSw; go_simp)⟩) (by assumption) ?_
      try simp only [Act.put, List.setIfInBounds_toArray, List.set_cons_zero, List.set_cons_succ]
      refine wpAnyH_take (i := 11) (oi := { dst := some 39, op := Op.slice 25 (Operand.tmp 35) none (some (Operand.tmp 38)) none, type := 25, pos := "kit.go:42", after := #[{ on := 7, ground := Ground.data }, { on := 10, ground := Ground.data }], guard := none }) (v := .slice (some ⟨gs, 0, none⟩) (N.ss.length) cs) rfl (by kernel_rfl) (by kernel_rfl) (by kernel_rfl) (fun _ _ _ h => h) (Or.inl ⟨by rfl, fun w hSw => by (obtain ⟨⟨q0, q1, q2⟩, q3, q4, q5⟩ := hSw; go_simp)⟩) (by assumption) ?_
      try simp only [Act.put, List.setIfInBounds_toArray, List.set_cons_zero, List.set_cons_succ]
      refine wpAnyH_take (i := 12) (oi := { dst := some 40, op := Op.fieldAddr 28 (Operand.tmp 3) 2, type := 0, pos := "kit.go:42", after := #[], guard := none }) (v := .pointer (some ⟨mb, 2, none⟩)) rfl (by kernel_rfl) (by kernel_rfl) (by kernel_rfl) (fun _ _ _ h => h) (Or.inl ⟨by rfl, fun w hSw => by (obtain ⟨⟨q0, q1, q2⟩, q3, q4, q5⟩ := hSw; go_simp)⟩) (by assumption) ?_
      try simp only [Act.put, List.setIfInBounds_toArray, List.set_cons_zero, List.set_cons_succ]
      refine wpAnyH_take (i := 13) (oi := { dst := some 41, op := Op.load 26 (Operand.tmp 40), type := 26, pos := "kit.go:42", after := #[{ on := 12, ground := Ground.data }], guard := none }) (v := .slice (some ⟨gk, 0, none⟩) (N.ks.length + 4) ck) rfl (by kernel_rfl) (by kernel_rfl) (by kernel_rfl) (fun _ _ _ h => h) (Or.inl ⟨by rfl, fun w hSw => by (obtain ⟨⟨q0, q1, q2⟩, q3, q4, q5⟩ := hSw; go_simp)⟩) (by assumption) ?_
      try simp only [Act.put, List.setIfInBounds_toArray, List.set_cons_zero, List.set_cons_succ]
      refine wpAnyH_take (i := 14) (oi := { dst := some 42, op := Op.fieldAddr 28 (Operand.tmp 1) 2, type := 0, pos := "kit.go:42", after := #[], guard := none }) (v := .pointer (some ⟨w.heap.size, 2, none⟩)) rfl (by kernel_rfl) (by kernel_rfl) (by kernel_rfl) (fun _ _ _ h => h) (Or.inl ⟨by rfl, fun w hSw => by (obtain ⟨⟨q0, q1, q2⟩, q3, q4, q5⟩ := hSw; go_simp)⟩) (by assumption) ?_
      try simp only [Act.put, List.setIfInBounds_toArray, List.set_cons_zero, List.set_cons_succ]
      refine wpAnyH_take (i := 15) (oi := { dst := some 43, op := Op.load 26 (Operand.tmp 42), type := 26, pos := "kit.go:42", after := #[{ on := 14, ground := Ground.data }], guard := none }) (v := .slice r.ka N.ks.length r.ck) rfl (by kernel_rfl) (by kernel_rfl) (by kernel_rfl) (fun _ _ _ h => h) (Or.inl ⟨by rfl, fun w hSw => by (obtain ⟨⟨q0, q1, q2⟩, q3, q4, q5⟩ := hSw; go_simp)⟩) (by assumption) ?_
      try simp only [Act.put, List.setIfInBounds_toArray, List.set_cons_zero, List.set_cons_succ]
      refine wpAnyH_take (i := 16) (oi := { dst := some 44, op := Op.call { callee := Callee.builtin Builtin.len, args := #[Operand.tmp 43], argTypes := #[26] }, type := 3, pos := "kit.go:42", after := #[{ on := 15, ground := Ground.data }], guard := none }) (v := .int .i64 (N.ks.length : Int)) rfl (by kernel_rfl) (by kernel_rfl) (by kernel_rfl) (fun _ _ _ h => h) (Or.inl ⟨by rfl, fun w hSw => by (obtain ⟨⟨q0, q1, q2⟩, q3, q4, q5⟩ := hSw; go_simp)⟩) (by assumption) ?_
      try simp only [Act.put, List.setIfInBounds_toArray, List.set_cons_zero, List.set_cons_succ]
      refine wpAnyH_take (i := 17) (oi := { dst := some 45, op := Op.slice 26 (Operand.tmp 41) none (some (Operand.tmp 44)) none, type := 26, pos := "kit.go:42", after := #[{ on := 13, ground := Ground.data }, { on := 16, ground := Ground.data }], guard := none }) (v := .slice (some ⟨gk, 0, none⟩) (N.ks.length) ck) rfl (by kernel_rfl) (by kernel_rfl) (by kernel_rfl) (fun _ _ _ h => h) (Or.inl ⟨by rfl, fun w hSw => by (obtain ⟨⟨q0, q1, q2⟩, q3, q4, q5⟩ := hSw; go_simp)⟩) (by assumption) ?_
      try simp only [Act.put, List.setIfInBounds_toArray, List.set_cons_zero, List.set_cons_succ]
      refine wpAnyH_take (i := 18) (oi := { dst := some 46, op := Op.build 28 #[(0, Operand.tmp 33), (1, Operand.tmp 39), (2, Operand.tmp 45)], type := 28, pos := "kit.go:42", after := #[{ on := 5, ground := Ground.data }, { on := 11, ground := Ground.data }, { on := 17, ground := Ground.data }], guard := none }) (v := .agg #[.slice (some ⟨gp, 0, none⟩) (N.ps.length) cp, .slice (some ⟨gs, 0, none⟩) (N.ss.length) cs, .slice (some ⟨gk, 0, none⟩) (N.ks.length) ck]) rfl (by kernel_rfl) (by kernel_rfl) (by kernel_rfl) (fun _ _ _ h => h) (Or.inl ⟨by rfl, fun w hSw => by (obtain ⟨⟨q0, q1, q2⟩, q3, q4, q5⟩ := hSw; go_simp)⟩) (by assumption) ?_
      try simp only [Act.put, List.setIfInBounds_toArray, List.set_cons_zero, List.set_cons_succ]
      have r6 : wr.drew.heap[w.heap.size + 1]? = _ := HLs.out.hr
      refine wpAnyH_ready (rs := [19]) (by kernel_rfl) (by simp) ?_
      refine AllReadyH.cons (o := { dst := none, op := Op.store 28 (Operand.tmp 2) (Operand.tmp 46), type := 0, pos := "kit.go:42", after := #[{ on := 18, ground := Ground.data }, { on := 0, ground := Ground.phase }, { on := 1, ground := Ground.phase }, { on := 2, ground := Ground.phase }, { on := 3, ground := Ground.phase }, { on := 4, ground := Ground.phase }, { on := 5, ground := Ground.phase }, { on := 6, ground := Ground.phase }, { on := 7, ground := Ground.phase }, { on := 8, ground := Ground.phase }, { on := 9, ground := Ground.phase }, { on := 10, ground := Ground.phase }, { on := 11, ground := Ground.phase }, { on := 12, ground := Ground.phase }, { on := 13, ground := Ground.phase }, { on := 14, ground := Ground.phase }, { on := 15, ground := Ground.phase }, { on := 16, ground := Ground.phase }, { on := 17, ground := Ground.phase }, { on := 18, ground := Ground.phase }], guard := none }) rfl (fun K hK => ?_) AllReadyH.nil
      refine step_store_whole rfl 28 _ _ rfl (w.heap.size + 1) #[.slice (some ⟨gp, 0, none⟩) (N.ps.length) cp, .slice (some ⟨gs, 0, none⟩) (N.ss.length) cs, .slice (some ⟨gk, 0, none⟩) (N.ks.length) ck] _ 28 (by rfl) (by rfl) r6 rfl (by kernel_rfl) (by kernel_rfl) ?_
      intro W7 r7 f7
      have hne2 := HLs.out.ne2
      obtain ⟨⟨q0, q1, q2⟩, q3, q4, q5⟩ := HB.out _ d0
      refine hK.out _ _ ⟨⟨(f7.cell (World.block_lt_of_cell? _ _ q0) (by simp only; omega)).trans q0, (f7.cell (World.block_lt_of_cell? _ _ q1) (by simp only; omega)).trans q1, (f7.cell (World.block_lt_of_cell? _ _ q2) (by simp only; omega)).trans q2⟩, (f7.cell (World.block_lt_of_cell? _ _ q3) (by simp)).trans q3, (f7.cell (World.block_lt_of_cell? _ _ q4) (by simp)).trans q4, (f7.cell (World.block_lt_of_cell? _ _ q5) (by simp)).trans q5⟩ (fun hHeld => ?_)
      clear hK K
      refine wpAnyH_done (by kernel_rfl) ?_ _
      go_wp2_with fail
      have LL := HLs.out
      have f8 : Fr (fun k => k = w.heap.size + 1) wr W7 := Fr.trans (Fr.drew (Fr.refl (fun k => k = w.heap.size + 1) wr)) f7 (fun _ _ e => e)
      exact bodyPost_ret (results_row_one (p := 2) (ty := 28) (by kernel_rfl) _ _ (w.heap.size + 1) 28 _ (0, 0) _ rfl r7 Try.underlying28 rfl (by kernel_rfl)) rfl ⟨_, _, _, _, _, _, rfl, own_frameB LL.oP f8 (fun k hk e => type_ne LL.oP LL.hr (by decide) (by rw [hk, e])), own_frameB LL.oS f8 (fun k hk e => type_ne LL.oS LL.hr (by decide) (by rw [hk, e])), own_frameB LL.oK f8 (fun k hk e => type_ne LL.oK LL.hr (by decide) (by rw [hk, e])), Fr.trans (Fr.drew LL.sm) f7 (fun i hi e => by omega)⟩
end Go.Proofs.Ytmgkdnejjemfeaa
