/- The document's leaf and branch; a node under way in a box of its own; the document's one. -/
import Derived.Test.YtmgkdnejjemfeaaFC
import Derived.Test.YtmgkdnejjemfeaaGO1J
import Derived.Lib.AppendZeros
namespace Go.Proofs.Ytmgkdnejjemfeaa
open Go.RowKit

/-- A node under way in a box of its own. -/
structure BS (V W : World) (B nb : Nat) (pa : Option Addr) (np cp : Nat) (xs : List Value) (sa : Option Addr) (ns cs : Nat) (ys : List Value) (ka : Option Addr) (nk ck : Nat) (zs : List Value) : Prop where
  hb : W.heap[nb]? = some (.cells #[.slice pa np cp, .slice sa ns cs, .slice ka nk ck] 28 (0, 0))
  oP : W.ownsRow B 48 2 (.slice pa np cp) np xs
  oS : W.ownsRow B 9 1 (.slice sa ns cs) ns ys
  oK : W.ownsRow B 59 33 (.slice ka nk ck) nk zs
  fr : Same V W
  hn : V.heap.size ≤ nb
  hB : V.heap.size ≤ B
  hW : B ≤ W.heap.size
theorem BS.box {V W : World} {B nb : Nat} {pa : Option Addr} {np cp : Nat} {xs : List Value} {sa : Option Addr} {ns cs : Nat} {ys : List Value} {ka : Option Addr} {nk ck : Nat} {zs : List Value} (h : BS V W B nb pa np cp xs sa ns cs ys ka nk ck zs) : W.cell? ⟨nb, 0, none⟩ = some (.slice pa np cp) ∧ W.cell? ⟨nb, 1, none⟩ = some (.slice sa ns cs) ∧ W.cell? ⟨nb, 2, none⟩ = some (.slice ka nk ck) :=
  ⟨(cell_of_row _ _ _ _ _ _ h.hb).trans rfl, (cell_of_row _ _ _ _ _ _ h.hb).trans rfl, (cell_of_row _ _ _ _ _ _ h.hb).trans rfl⟩
theorem BS.alloc {V W : World} {B nb : Nat} {pa : Option Addr} {np cp : Nat} {xs : List Value} {sa : Option Addr} {ns cs : Nat} {ys : List Value} {ka : Option Addr} {nk ck : Nat} {zs : List Value} (h : BS V W B nb pa np cp xs sa ns cs ys ka nk ck zs) (o : Obj) : BS V (W.alloc o) B nb pa np cp xs sa ns cs ys ka nk ck zs :=
  ⟨(Below.heap_alloc _ _ _ (lt_of_heap h.hb)).trans h.hb, h.oP.alloc o, h.oS.alloc o, h.oK.alloc o, h.fr.alloc o, h.hn, h.hB, by have := h.hW; simp; omega⟩
theorem BS.same {V W : World} {B nb : Nat} {pa : Option Addr} {np cp : Nat} {xs : List Value} {sa : Option Addr} {ns cs : Nat} {ys : List Value} {ka : Option Addr} {nk ck : Nat} {zs : List Value} (h : BS V W B nb pa np cp xs sa ns cs ys ka nk ck zs) {W' : World} (s : Same W W') : BS V W' B nb pa np cp xs sa ns cs ys ka nk ck zs :=
  ⟨(s.block _ (lt_of_heap h.hb) (fun e => e)).trans h.hb, own_frameB h.oP s (fun _ _ f => f), own_frameB h.oS s (fun _ _ f => f), own_frameB h.oK s (fun _ _ f => f), h.fr.trans s, h.hn, h.hB, Nat.le_trans h.hW s.size⟩
theorem BS.growP {V W : World} {B nb : Nat} {pa : Option Addr} {np cp : Nat} {xs : List Value} {sa : Option Addr} {ns cs : Nat} {ys : List Value} {ka : Option Addr} {nk ck : Nat} {zs : List Value} (h : BS V W B nb pa np cp xs sa ns cs ys ka nk ck zs) {W' : World} {ao : Option Addr} {n' c' : Nat} {vs : List Value} (ho : W'.ownsRow B 48 2 (.slice ao n' c') n' vs) (hg : W.grownBy W' (Value.ownBlock (.slice pa np cp))) :
    BS V (W'.setCell ⟨nb, 0, none⟩ (.slice ao n' c')) B nb ao n' c' vs sa ns cs ys ka nk ck zs ∧ W'.cell? ⟨nb, 0, none⟩ = some (.slice pa np cp) ∧ W'.frozen? ⟨nb, 0, none⟩ = false := by
  have f1 : Fr (fun k => Value.ownBlock (.slice pa np cp) = some k) W W' := Fr.grown (Fr.refl _ W) hg (fun k hk _ => hk)
  have hb' : W'.heap[nb]? = some (.cells #[.slice pa np cp, .slice sa ns cs, .slice ka nk ck] 28 (0, 0)) := (f1.block nb (lt_of_heap h.hb) (fun e => type_ne h.oP h.hb (by decide) e)).trans h.hb
  have fs : Fr (fun k => k = nb) W' (W'.setCell ⟨nb, 0, none⟩ (.slice ao n' c')) := (Fr.refl (fun k => k = nb) W').setCell (p := ⟨nb, 0, none⟩) (fun _ => rfl) _
  refine ⟨⟨heap_setCell_same W' nb 0 _ _ _ hb', own_frameB ho fs (fun k hk e => type_ne ho hb' (by decide) (by rw [← e]; exact hk)), own_frameB (own_frameB h.oS f1 (fun k hk e => own_apart h.oS h.oP (by decide) k hk e)) fs (fun k hk e => type_ne (own_frameB h.oS f1 (fun k hk e => own_apart h.oS h.oP (by decide) k hk e)) hb' (by decide) (by rw [← e]; exact hk)), own_frameB (own_frameB h.oK f1 (fun k hk e => own_apart h.oK h.oP (by decide) k hk e)) fs (fun k hk e => type_ne (own_frameB h.oK f1 (fun k hk e => own_apart h.oK h.oP (by decide) k hk e)) hb' (by decide) (by rw [← e]; exact hk)), Fr.trans (Fr.grown h.fr hg (fun k hk hl => by have := h.oP.lt k hk; have := h.hB; omega)) fs (fun j hj e => by have := h.hn; omega), h.hn, h.hB, Nat.le_trans (Nat.le_trans h.hW f1.size) fs.size⟩, (cell_of_row _ _ _ _ _ _ hb').trans rfl, frozen_of_row W' nb 0 _ _ hb'⟩
theorem BS.growS {V W : World} {B nb : Nat} {pa : Option Addr} {np cp : Nat} {xs : List Value} {sa : Option Addr} {ns cs : Nat} {ys : List Value} {ka : Option Addr} {nk ck : Nat} {zs : List Value} (h : BS V W B nb pa np cp xs sa ns cs ys ka nk ck zs) {W' : World} {ao : Option Addr} {n' c' : Nat} {vs : List Value} (ho : W'.ownsRow B 9 1 (.slice ao n' c') n' vs) (hg : W.grownBy W' (Value.ownBlock (.slice sa ns cs))) :
    BS V (W'.setCell ⟨nb, 1, none⟩ (.slice ao n' c')) B nb pa np cp xs ao n' c' vs ka nk ck zs ∧ W'.cell? ⟨nb, 1, none⟩ = some (.slice sa ns cs) ∧ W'.frozen? ⟨nb, 1, none⟩ = false := by
  have f1 : Fr (fun k => Value.ownBlock (.slice sa ns cs) = some k) W W' := Fr.grown (Fr.refl _ W) hg (fun k hk _ => hk)
  have hb' : W'.heap[nb]? = some (.cells #[.slice pa np cp, .slice sa ns cs, .slice ka nk ck] 28 (0, 0)) := (f1.block nb (lt_of_heap h.hb) (fun e => type_ne h.oS h.hb (by decide) e)).trans h.hb
  have fs : Fr (fun k => k = nb) W' (W'.setCell ⟨nb, 1, none⟩ (.slice ao n' c')) := (Fr.refl (fun k => k = nb) W').setCell (p := ⟨nb, 1, none⟩) (fun _ => rfl) _
  refine ⟨⟨heap_setCell_same W' nb 1 _ _ _ hb', own_frameB (own_frameB h.oP f1 (fun k hk e => own_apart h.oP h.oS (by decide) k hk e)) fs (fun k hk e => type_ne (own_frameB h.oP f1 (fun k hk e => own_apart h.oP h.oS (by decide) k hk e)) hb' (by decide) (by rw [← e]; exact hk)), own_frameB ho fs (fun k hk e => type_ne ho hb' (by decide) (by rw [← e]; exact hk)), own_frameB (own_frameB h.oK f1 (fun k hk e => own_apart h.oK h.oS (by decide) k hk e)) fs (fun k hk e => type_ne (own_frameB h.oK f1 (fun k hk e => own_apart h.oK h.oS (by decide) k hk e)) hb' (by decide) (by rw [← e]; exact hk)), Fr.trans (Fr.grown h.fr hg (fun k hk hl => by have := h.oS.lt k hk; have := h.hB; omega)) fs (fun j hj e => by have := h.hn; omega), h.hn, h.hB, Nat.le_trans (Nat.le_trans h.hW f1.size) fs.size⟩, (cell_of_row _ _ _ _ _ _ hb').trans rfl, frozen_of_row W' nb 1 _ _ hb'⟩
theorem BS.growK {V W : World} {B nb : Nat} {pa : Option Addr} {np cp : Nat} {xs : List Value} {sa : Option Addr} {ns cs : Nat} {ys : List Value} {ka : Option Addr} {nk ck : Nat} {zs : List Value} (h : BS V W B nb pa np cp xs sa ns cs ys ka nk ck zs) {W' : World} {ao : Option Addr} {n' c' : Nat} {vs : List Value} (ho : W'.ownsRow B 59 33 (.slice ao n' c') n' vs) (hg : W.grownBy W' (Value.ownBlock (.slice ka nk ck))) :
    BS V (W'.setCell ⟨nb, 2, none⟩ (.slice ao n' c')) B nb pa np cp xs sa ns cs ys ao n' c' vs ∧ W'.cell? ⟨nb, 2, none⟩ = some (.slice ka nk ck) ∧ W'.frozen? ⟨nb, 2, none⟩ = false := by
  have f1 : Fr (fun k => Value.ownBlock (.slice ka nk ck) = some k) W W' := Fr.grown (Fr.refl _ W) hg (fun k hk _ => hk)
  have hb' : W'.heap[nb]? = some (.cells #[.slice pa np cp, .slice sa ns cs, .slice ka nk ck] 28 (0, 0)) := (f1.block nb (lt_of_heap h.hb) (fun e => type_ne h.oK h.hb (by decide) e)).trans h.hb
  have fs : Fr (fun k => k = nb) W' (W'.setCell ⟨nb, 2, none⟩ (.slice ao n' c')) := (Fr.refl (fun k => k = nb) W').setCell (p := ⟨nb, 2, none⟩) (fun _ => rfl) _
  refine ⟨⟨heap_setCell_same W' nb 2 _ _ _ hb', own_frameB (own_frameB h.oP f1 (fun k hk e => own_apart h.oP h.oK (by decide) k hk e)) fs (fun k hk e => type_ne (own_frameB h.oP f1 (fun k hk e => own_apart h.oP h.oK (by decide) k hk e)) hb' (by decide) (by rw [← e]; exact hk)), own_frameB (own_frameB h.oS f1 (fun k hk e => own_apart h.oS h.oK (by decide) k hk e)) fs (fun k hk e => type_ne (own_frameB h.oS f1 (fun k hk e => own_apart h.oS h.oK (by decide) k hk e)) hb' (by decide) (by rw [← e]; exact hk)), own_frameB ho fs (fun k hk e => type_ne ho hb' (by decide) (by rw [← e]; exact hk)), Fr.trans (Fr.grown h.fr hg (fun k hk hl => by have := h.oK.lt k hk; have := h.hB; omega)) fs (fun j hj e => by have := h.hn; omega), h.hn, h.hB, Nat.le_trans (Nat.le_trans h.hW f1.size) fs.size⟩, (cell_of_row _ _ _ _ _ _ hb').trans rfl, frozen_of_row W' nb 2 _ _ hb'⟩
end Go.Proofs.Ytmgkdnejjemfeaa
