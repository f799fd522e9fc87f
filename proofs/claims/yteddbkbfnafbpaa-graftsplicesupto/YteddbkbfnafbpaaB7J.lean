/- spoil: all that a node holds is written over, and more is laid behind. -/
import Derived.Test.YteddbkbfnafbpaaKM
import Derived.Deep.LoopGhost
import Derived.Deep.AppendLies
import Derived.Test.YteddbkbfnafbpaaKN
import Derived.Test.YteddbkbfnafbpaaFJ
import Derived.Test.YteddbkbfnafbpaaKP
import Derived.Test.YteddbkbfnafbpaaKI
namespace Go.Proofs.Yteddbkbfnafbpaa
open Go.RowKit

def Own (W : World) (e : TypeId) (sz : Nat) (ao : Option Addr) (n c : Nat) : Prop := ∃ xs, W.ownsRow 0 e sz (.slice ao n c) n xs
theorem Own.keep {W W' : World} {e : TypeId} {sz n c : Nat} {ao : Option Addr} (h : Own W e sz ao n c) (hb : ∀ a, ao = some a → W'.heap[a.block]? = W.heap[a.block]?) : Own W' e sz ao n c := by
  obtain ⟨xs, h1, h2⟩ := h
  refine ⟨xs, h1, ?_⟩
  rcases h2 with h2 | ⟨g, cap, cur, hv, hg, hh, r⟩
  · exact Or.inl h2
  · refine Or.inr ⟨g, cap, cur, hv, hg, ?_, r⟩
    injection hv with e1
    rw [← hh]; exact hb _ e1
theorem Own.blk {W : World} {e : TypeId} {sz n c : Nat} {a : Addr} (h : Own W e sz (some a) n c) : ∃ cur, W.heap[a.block]? = some (.cells cur e (0, 0)) ∧ n * sz ≤ cur.size ∧ a = ⟨a.block, 0, none⟩ := by
  obtain ⟨xs, h1, ⟨h2, _⟩ | ⟨g, cap, cur, hv, hg, hh, h3, h4, h5, h6⟩⟩ := h
  · cases h2
  · injection hv with e1 e2 e3
    injection e1 with e1
    subst e1
    exact ⟨cur, hh, by rw [h5]; exact Nat.mul_le_mul_right _ h3, rfl⟩
theorem Own.put {W : World} {e : TypeId} {sz n c g : Nat} (h : Own W e sz (some ⟨g, 0, none⟩) n c) (o : Nat) (vs : List Value) (ho : o + vs.length ≤ n * sz) : Own (W.setCells g o vs) e sz (some ⟨g, 0, none⟩) n c ∧ W.there g o vs.length := by
  obtain ⟨xs, h1, ⟨h2, _⟩ | ⟨g', cap, cur, hv, hg, hh, h3, h4, h5, h6⟩⟩ := h
  · cases h2
  · injection hv with e1 e2 e3
    injection e1 with e1
    injection e1 with e1
    subst e1 e3
    have h7 : n * sz ≤ cur.size := by rw [h5]; exact Nat.mul_le_mul_right _ h3
    obtain ⟨A, a1, a2⟩ := setCells_row vs o cur hh
    refine ⟨⟨A.toList.take (n * sz), ?_, Or.inr ⟨g, c, A, rfl, hg, a1, h3, h4, by rw [a2, h5], rfl⟩⟩, fun j hj => ⟨?_, frozen_of_row W g _ _ _ hh⟩⟩
    · rw [List.length_take, Array.length_toList, a2]; omega
    · rw [cell_of_row _ _ _ _ _ _ hh, Array.getElem?_eq_getElem (by omega)]; rfl
theorem Own.first {W : World} {e : TypeId} {sz n m c : Nat} {g : Nat} {xs : List Value} {B : Nat} (h : W.ownsRow B e sz (.slice (some ⟨g, 0, none⟩) n c) n xs) (hm : m ≤ n) : Own W e sz (some ⟨g, 0, none⟩) m c := by
  obtain ⟨h1, ⟨h2, _⟩ | ⟨g', cap, cur, hv, hg, hh, h3, h4, h5, h6⟩⟩ := h
  · cases h2
  · injection hv with e1 e2 e3
    injection e1 with e1
    injection e1 with e1
    subst e1 e3
    have h7 : m * sz ≤ cur.size := by rw [h5]; exact Nat.mul_le_mul_right _ (by omega)
    exact ⟨cur.toList.take (m * sz), by rw [List.length_take, Array.length_toList]; omega, Or.inr ⟨g, c, cur, rfl, Nat.zero_le _, hh, by omega, h4, h5, rfl⟩⟩
theorem Own.lt {W : World} {e : TypeId} {sz n c : Nat} {a : Addr} (h : Own W e sz (some a) n c) : a.block < W.heap.size := by
  obtain ⟨cur, h1, _⟩ := h.blk
  exact lt_of_heap h1
theorem own_neB {W : World} {e t : TypeId} {sz n c g : Nat} {a : Addr} {cs : Array Value} {fr : Nat × Nat} (h : Own W e sz (some a) n c) (hg : W.heap[g]? = some (.cells cs t fr)) (hne : e ≠ t) : a.block ≠ g := by
  obtain ⟨cur, h1, _⟩ := h.blk
  intro e1
  rw [e1, hg] at h1
  cases h1
  exact hne rfl
/-- A node that is being spoilt: its box and its three rows; what may have changed since w. -/
structure SP (S : Nat → Prop) (w W : World) (nb : Nat) (pa : Option Addr) (np cp : Nat) (sa : Option Addr) (ns cs : Nat) (ka : Option Addr) (nk ck : Nat) : Prop where
  hb : W.heap[nb]? = some (.cells #[.slice pa np cp, .slice sa ns cs, .slice ka nk ck] 28 (0, 0))
  oP : Own W 41 2 pa np cp
  oS : Own W 9 1 sa ns cs
  oK : Own W 46 33 ka nk ck
  fr : Fr S w W
  hS : ∀ a, (pa = some a ∨ sa = some a ∨ ka = some a) → a.block < w.heap.size → S a.block
  hn : w.heap.size ≤ nb
theorem SP.alloc {S : Nat → Prop} {w W : World} {nb : Nat} {pa : Option Addr} {np cp : Nat} {sa : Option Addr} {ns cs : Nat} {ka : Option Addr} {nk ck : Nat} (h : SP S w W nb pa np cp sa ns cs ka nk ck) (o : Obj) : SP S w (W.alloc o) nb pa np cp sa ns cs ka nk ck :=
  ⟨(Below.heap_alloc _ _ _ (lt_of_heap h.hb)).trans h.hb, h.oP.keep (fun a e => by subst e; exact Below.heap_alloc _ _ _ h.oP.lt), h.oS.keep (fun a e => by subst e; exact Below.heap_alloc _ _ _ h.oS.lt), h.oK.keep (fun a e => by subst e; exact Below.heap_alloc _ _ _ h.oK.lt), h.fr.alloc o, h.hS, h.hn⟩
theorem SP.box {S : Nat → Prop} {w W : World} {nb : Nat} {pa : Option Addr} {np cp : Nat} {sa : Option Addr} {ns cs : Nat} {ka : Option Addr} {nk ck : Nat} (h : SP S w W nb pa np cp sa ns cs ka nk ck) : W.cell? ⟨nb, 0, none⟩ = some (.slice pa np cp) ∧ W.cell? ⟨nb, 1, none⟩ = some (.slice sa ns cs) ∧ W.cell? ⟨nb, 2, none⟩ = some (.slice ka nk ck) ∧ W.frozen? ⟨nb, 0, none⟩ = false ∧ W.frozen? ⟨nb, 1, none⟩ = false ∧ W.frozen? ⟨nb, 2, none⟩ = false :=
  ⟨(cell_of_row _ _ _ _ _ _ h.hb).trans rfl, (cell_of_row _ _ _ _ _ _ h.hb).trans rfl, (cell_of_row _ _ _ _ _ _ h.hb).trans rfl, frozen_of_row W nb 0 _ _ h.hb, frozen_of_row W nb 1 _ _ h.hb, frozen_of_row W nb 2 _ _ h.hb⟩
theorem SP.putP {S : Nat → Prop} {w W : World} {nb : Nat} {np cp : Nat} {sa : Option Addr} {ns cs : Nat} {ka : Option Addr} {nk ck : Nat} {g : Nat} (h : SP S w W nb (some ⟨g, 0, none⟩) np cp sa ns cs ka nk ck) (o : Nat) (vs : List Value) (ho : o + vs.length ≤ np * 2) : SP S w (W.setCells g o vs) nb (some ⟨g, 0, none⟩) np cp sa ns cs ka nk ck ∧ W.there g o vs.length := by
  obtain ⟨kP, th⟩ := h.oP.put o vs ho
  have fs : Fr (fun k => k = g) W (W.setCells g o vs) := Fr.setCells (S := fun k => k = g) (fun _ => rfl) vs o W (Fr.refl _ W)
  have kS : Own (W.setCells g o vs) 9 1 sa ns cs := h.oS.keep (fun a e => by
    subst e
    obtain ⟨cur, hc, _⟩ := h.oP.blk
    exact fs.block _ h.oS.lt (fun e2 => own_neB h.oS hc (by decide) e2))
  have kK : Own (W.setCells g o vs) 46 33 ka nk ck := h.oK.keep (fun a e => by
    subst e
    obtain ⟨cur, hc, _⟩ := h.oP.blk
    exact fs.block _ h.oK.lt (fun e2 => own_neB h.oK hc (by decide) e2))
  refine ⟨⟨(fs.block _ (lt_of_heap h.hb) (fun e => own_neB h.oP h.hb (by decide) e.symm)).trans h.hb, kP, kS, kK, Fr.trans h.fr fs (fun j hj e => by subst e; exact h.hS ⟨j, 0, none⟩ (Or.inl rfl) hj), h.hS, h.hn⟩, th⟩
theorem SP.growP {S : Nat → Prop} {w W : World} {nb : Nat} {pa : Option Addr} {np cp : Nat} {sa : Option Addr} {ns cs : Nat} {ka : Option Addr} {nk ck : Nat} (h : SP S w W nb pa np cp sa ns cs ka nk ck) {W' : World} {g cap : Nat} {xs : List Value} (ho : W'.ownsRow 0 41 2 (.slice (some ⟨g, 0, none⟩) (np + 1) cap) (np + 1) xs) (hg : W.grownBy W' (Value.ownBlock (.slice pa np cp))) (hat : Value.ownBlock (.slice pa np cp) = some g ∨ w.heap.size ≤ g) :
    SP S w (W'.setCell ⟨nb, 0, none⟩ (.slice (some ⟨g, 0, none⟩) (np + 1) cap)) nb (some ⟨g, 0, none⟩) (np + 1) cap sa ns cs ka nk ck ∧ (W'.cell? ⟨nb, 0, none⟩ = some (.slice pa np cp) ∧ W'.cell? ⟨nb, 1, none⟩ = some (.slice sa ns cs) ∧ W'.cell? ⟨nb, 2, none⟩ = some (.slice ka nk ck)) ∧ W'.frozen? ⟨nb, 0, none⟩ = false := by
  have hbk : ∀ a, pa = some a → Value.ownBlock (.slice pa np cp) = some a.block := fun a e => by rw [e]; rfl
  have hne : ∀ k, Value.ownBlock (.slice pa np cp) = some k → ∃ a, pa = some a ∧ a.block = k := fun k hk => by
    cases hp : pa with
    | none => rw [hp] at hk; cases hk
    | some a => rw [hp] at hk; exact ⟨a, rfl, by simpa [Value.ownBlock] using hk⟩
  have hb : W'.heap[nb]? = some (.cells #[.slice pa np cp, .slice sa ns cs, .slice ka nk ck] 28 (0, 0)) := (hg.block nb (lt_of_heap h.hb) (fun e => by
    obtain ⟨a, ea, eb⟩ := hne nb e.symm
    have o1 := h.oP
    rw [ea] at o1
    exact own_neB o1 h.hb (by decide) eb)).trans h.hb
  have fs : Fr (fun k => k = nb) W' (W'.setCell ⟨nb, 0, none⟩ (.slice (some ⟨g, 0, none⟩) (np + 1) cap)) := (Fr.refl (fun k => k = nb) W').setCell (p := ⟨nb, 0, none⟩) (fun _ => rfl) _
  have own1 : Own W' 41 2 (some ⟨g, 0, none⟩) (np + 1) cap := ⟨xs, ho⟩
  have kS : Own (W'.setCell ⟨nb, 0, none⟩ (.slice (some ⟨g, 0, none⟩) (np + 1) cap)) 9 1 sa ns cs := h.oS.keep (fun a e => by
    have o2 := h.oS
    rw [e] at o2
    have hb2 : W'.heap[a.block]? = W.heap[a.block]? := hg.block _ o2.lt (fun e2 => by
      obtain ⟨a1, ea, eb⟩ := hne _ e2.symm
      have o1 := h.oP
      rw [ea] at o1
      obtain ⟨cur, hc, _⟩ := o2.blk
      exact own_neB o1 hc (by decide) eb)
    exact (fs.block _ (Nat.lt_of_lt_of_le o2.lt hg.size) (fun e2 => own_neB o2 h.hb (by decide) e2)).trans hb2)
  have kK : Own (W'.setCell ⟨nb, 0, none⟩ (.slice (some ⟨g, 0, none⟩) (np + 1) cap)) 46 33 ka nk ck := h.oK.keep (fun a e => by
    have o2 := h.oK
    rw [e] at o2
    have hb2 : W'.heap[a.block]? = W.heap[a.block]? := hg.block _ o2.lt (fun e2 => by
      obtain ⟨a1, ea, eb⟩ := hne _ e2.symm
      have o1 := h.oP
      rw [ea] at o1
      obtain ⟨cur, hc, _⟩ := o2.blk
      exact own_neB o1 hc (by decide) eb)
    exact (fs.block _ (Nat.lt_of_lt_of_le o2.lt hg.size) (fun e2 => own_neB o2 h.hb (by decide) e2)).trans hb2)
  have kP : Own (W'.setCell ⟨nb, 0, none⟩ (.slice (some ⟨g, 0, none⟩) (np + 1) cap)) 41 2 (some ⟨g, 0, none⟩) (np + 1) cap := own1.keep (fun a e => by
    cases e
    exact fs.block _ own1.lt (fun e2 => own_neB own1 hb (by decide) e2))
  refine ⟨⟨heap_setCell_same W' nb 0 _ _ _ hb, kP, kS, kK, Fr.trans (Fr.grown h.fr hg (fun k hk hl => by
    obtain ⟨a, ea, eb⟩ := hne k hk
    rw [← eb] at hl ⊢
    exact h.hS a (Or.inl ea) hl)) fs (fun j hj e => by have := h.hn; omega), fun a ha hl => ?_, h.hn⟩, ⟨(cell_of_row _ _ _ _ _ _ hb).trans rfl, (cell_of_row _ _ _ _ _ _ hb).trans rfl, (cell_of_row _ _ _ _ _ _ hb).trans rfl⟩, frozen_of_row W' nb 0 _ _ hb⟩
  rcases ha with ha | ha | ha
  · cases ha
    rcases hat with e1 | e1
    · obtain ⟨a1, ea, eb⟩ := hne g e1
      have := h.hS a1 (Or.inl ea) (by rw [eb]; exact hl)
      rw [eb] at this; exact this
    · simp only at hl; omega
  · exact h.hS a (Or.inr <| Or.inl ha) hl
  · exact h.hS a (Or.inr <| Or.inr ha) hl
theorem SP.putS {S : Nat → Prop} {w W : World} {nb : Nat} {pa : Option Addr} {np cp : Nat} {ns cs : Nat} {ka : Option Addr} {nk ck : Nat} {g : Nat} (h : SP S w W nb pa np cp (some ⟨g, 0, none⟩) ns cs ka nk ck) (o : Nat) (vs : List Value) (ho : o + vs.length ≤ ns * 1) : SP S w (W.setCells g o vs) nb pa np cp (some ⟨g, 0, none⟩) ns cs ka nk ck ∧ W.there g o vs.length := by
  obtain ⟨kS, th⟩ := h.oS.put o vs ho
  have fs : Fr (fun k => k = g) W (W.setCells g o vs) := Fr.setCells (S := fun k => k = g) (fun _ => rfl) vs o W (Fr.refl _ W)
  have kP : Own (W.setCells g o vs) 41 2 pa np cp := h.oP.keep (fun a e => by
    subst e
    obtain ⟨cur, hc, _⟩ := h.oS.blk
    exact fs.block _ h.oP.lt (fun e2 => own_neB h.oP hc (by decide) e2))
  have kK : Own (W.setCells g o vs) 46 33 ka nk ck := h.oK.keep (fun a e => by
    subst e
    obtain ⟨cur, hc, _⟩ := h.oS.blk
    exact fs.block _ h.oK.lt (fun e2 => own_neB h.oK hc (by decide) e2))
  refine ⟨⟨(fs.block _ (lt_of_heap h.hb) (fun e => own_neB h.oS h.hb (by decide) e.symm)).trans h.hb, kP, kS, kK, Fr.trans h.fr fs (fun j hj e => by subst e; exact h.hS ⟨j, 0, none⟩ (Or.inr <| Or.inl rfl) hj), h.hS, h.hn⟩, th⟩
theorem SP.growS {S : Nat → Prop} {w W : World} {nb : Nat} {pa : Option Addr} {np cp : Nat} {sa : Option Addr} {ns cs : Nat} {ka : Option Addr} {nk ck : Nat} (h : SP S w W nb pa np cp sa ns cs ka nk ck) {W' : World} {g cap : Nat} {xs : List Value} (ho : W'.ownsRow 0 9 1 (.slice (some ⟨g, 0, none⟩) (ns + 1) cap) (ns + 1) xs) (hg : W.grownBy W' (Value.ownBlock (.slice sa ns cs))) (hat : Value.ownBlock (.slice sa ns cs) = some g ∨ w.heap.size ≤ g) :
    SP S w (W'.setCell ⟨nb, 1, none⟩ (.slice (some ⟨g, 0, none⟩) (ns + 1) cap)) nb pa np cp (some ⟨g, 0, none⟩) (ns + 1) cap ka nk ck ∧ (W'.cell? ⟨nb, 0, none⟩ = some (.slice pa np cp) ∧ W'.cell? ⟨nb, 1, none⟩ = some (.slice sa ns cs) ∧ W'.cell? ⟨nb, 2, none⟩ = some (.slice ka nk ck)) ∧ W'.frozen? ⟨nb, 1, none⟩ = false := by
  have hbk : ∀ a, sa = some a → Value.ownBlock (.slice sa ns cs) = some a.block := fun a e => by rw [e]; rfl
  have hne : ∀ k, Value.ownBlock (.slice sa ns cs) = some k → ∃ a, sa = some a ∧ a.block = k := fun k hk => by
    cases hp : sa with
    | none => rw [hp] at hk; cases hk
    | some a => rw [hp] at hk; exact ⟨a, rfl, by simpa [Value.ownBlock] using hk⟩
  have hb : W'.heap[nb]? = some (.cells #[.slice pa np cp, .slice sa ns cs, .slice ka nk ck] 28 (0, 0)) := (hg.block nb (lt_of_heap h.hb) (fun e => by
    obtain ⟨a, ea, eb⟩ := hne nb e.symm
    have o1 := h.oS
    rw [ea] at o1
    exact own_neB o1 h.hb (by decide) eb)).trans h.hb
  have fs : Fr (fun k => k = nb) W' (W'.setCell ⟨nb, 1, none⟩ (.slice (some ⟨g, 0, none⟩) (ns + 1) cap)) := (Fr.refl (fun k => k = nb) W').setCell (p := ⟨nb, 1, none⟩) (fun _ => rfl) _
  have own1 : Own W' 9 1 (some ⟨g, 0, none⟩) (ns + 1) cap := ⟨xs, ho⟩
  have kP : Own (W'.setCell ⟨nb, 1, none⟩ (.slice (some ⟨g, 0, none⟩) (ns + 1) cap)) 41 2 pa np cp := h.oP.keep (fun a e => by
    have o2 := h.oP
    rw [e] at o2
    have hb2 : W'.heap[a.block]? = W.heap[a.block]? := hg.block _ o2.lt (fun e2 => by
      obtain ⟨a1, ea, eb⟩ := hne _ e2.symm
      have o1 := h.oS
      rw [ea] at o1
      obtain ⟨cur, hc, _⟩ := o2.blk
      exact own_neB o1 hc (by decide) eb)
    exact (fs.block _ (Nat.lt_of_lt_of_le o2.lt hg.size) (fun e2 => own_neB o2 h.hb (by decide) e2)).trans hb2)
  have kK : Own (W'.setCell ⟨nb, 1, none⟩ (.slice (some ⟨g, 0, none⟩) (ns + 1) cap)) 46 33 ka nk ck := h.oK.keep (fun a e => by
    have o2 := h.oK
    rw [e] at o2
    have hb2 : W'.heap[a.block]? = W.heap[a.block]? := hg.block _ o2.lt (fun e2 => by
      obtain ⟨a1, ea, eb⟩ := hne _ e2.symm
      have o1 := h.oS
      rw [ea] at o1
      obtain ⟨cur, hc, _⟩ := o2.blk
      exact own_neB o1 hc (by decide) eb)
    exact (fs.block _ (Nat.lt_of_lt_of_le o2.lt hg.size) (fun e2 => own_neB o2 h.hb (by decide) e2)).trans hb2)
  have kS : Own (W'.setCell ⟨nb, 1, none⟩ (.slice (some ⟨g, 0, none⟩) (ns + 1) cap)) 9 1 (some ⟨g, 0, none⟩) (ns + 1) cap := own1.keep (fun a e => by
    cases e
    exact fs.block _ own1.lt (fun e2 => own_neB own1 hb (by decide) e2))
  refine ⟨⟨heap_setCell_same W' nb 1 _ _ _ hb, kP, kS, kK, Fr.trans (Fr.grown h.fr hg (fun k hk hl => by
    obtain ⟨a, ea, eb⟩ := hne k hk
    rw [← eb] at hl ⊢
    exact h.hS a (Or.inr <| Or.inl ea) hl)) fs (fun j hj e => by have := h.hn; omega), fun a ha hl => ?_, h.hn⟩, ⟨(cell_of_row _ _ _ _ _ _ hb).trans rfl, (cell_of_row _ _ _ _ _ _ hb).trans rfl, (cell_of_row _ _ _ _ _ _ hb).trans rfl⟩, frozen_of_row W' nb 1 _ _ hb⟩
  rcases ha with ha | ha | ha
  · exact h.hS a (Or.inl ha) hl
  · cases ha
    rcases hat with e1 | e1
    · obtain ⟨a1, ea, eb⟩ := hne g e1
      have := h.hS a1 (Or.inr <| Or.inl ea) (by rw [eb]; exact hl)
      rw [eb] at this; exact this
    · simp only at hl; omega
  · exact h.hS a (Or.inr <| Or.inr ha) hl
theorem SP.putK {S : Nat → Prop} {w W : World} {nb : Nat} {pa : Option Addr} {np cp : Nat} {sa : Option Addr} {ns cs : Nat} {nk ck : Nat} {g : Nat} (h : SP S w W nb pa np cp sa ns cs (some ⟨g, 0, none⟩) nk ck) (o : Nat) (vs : List Value) (ho : o + vs.length ≤ nk * 33) : SP S w (W.setCells g o vs) nb pa np cp sa ns cs (some ⟨g, 0, none⟩) nk ck ∧ W.there g o vs.length := by
  obtain ⟨kK, th⟩ := h.oK.put o vs ho
  have fs : Fr (fun k => k = g) W (W.setCells g o vs) := Fr.setCells (S := fun k => k = g) (fun _ => rfl) vs o W (Fr.refl _ W)
  have kP : Own (W.setCells g o vs) 41 2 pa np cp := h.oP.keep (fun a e => by
    subst e
    obtain ⟨cur, hc, _⟩ := h.oK.blk
    exact fs.block _ h.oP.lt (fun e2 => own_neB h.oP hc (by decide) e2))
  have kS : Own (W.setCells g o vs) 9 1 sa ns cs := h.oS.keep (fun a e => by
    subst e
    obtain ⟨cur, hc, _⟩ := h.oK.blk
    exact fs.block _ h.oS.lt (fun e2 => own_neB h.oS hc (by decide) e2))
  refine ⟨⟨(fs.block _ (lt_of_heap h.hb) (fun e => own_neB h.oK h.hb (by decide) e.symm)).trans h.hb, kP, kS, kK, Fr.trans h.fr fs (fun j hj e => by subst e; exact h.hS ⟨j, 0, none⟩ (Or.inr <| Or.inr rfl) hj), h.hS, h.hn⟩, th⟩
theorem SP.growK {S : Nat → Prop} {w W : World} {nb : Nat} {pa : Option Addr} {np cp : Nat} {sa : Option Addr} {ns cs : Nat} {ka : Option Addr} {nk ck : Nat} (h : SP S w W nb pa np cp sa ns cs ka nk ck) {W' : World} {g cap : Nat} {xs : List Value} (ho : W'.ownsRow 0 46 33 (.slice (some ⟨g, 0, none⟩) (nk + 1) cap) (nk + 1) xs) (hg : W.grownBy W' (Value.ownBlock (.slice ka nk ck))) (hat : Value.ownBlock (.slice ka nk ck) = some g ∨ w.heap.size ≤ g) :
    SP S w (W'.setCell ⟨nb, 2, none⟩ (.slice (some ⟨g, 0, none⟩) (nk + 1) cap)) nb pa np cp sa ns cs (some ⟨g, 0, none⟩) (nk + 1) cap ∧ (W'.cell? ⟨nb, 0, none⟩ = some (.slice pa np cp) ∧ W'.cell? ⟨nb, 1, none⟩ = some (.slice sa ns cs) ∧ W'.cell? ⟨nb, 2, none⟩ = some (.slice ka nk ck)) ∧ W'.frozen? ⟨nb, 2, none⟩ = false := by
  have hbk : ∀ a, ka = some a → Value.ownBlock (.slice ka nk ck) = some a.block := fun a e => by rw [e]; rfl
  have hne : ∀ k, Value.ownBlock (.slice ka nk ck) = some k → ∃ a, ka = some a ∧ a.block = k := fun k hk => by
    cases hp : ka with
    | none => rw [hp] at hk; cases hk
    | some a => rw [hp] at hk; exact ⟨a, rfl, by simpa [Value.ownBlock] using hk⟩
  have hb : W'.heap[nb]? = some (.cells #[.slice pa np cp, .slice sa ns cs, .slice ka nk ck] 28 (0, 0)) := (hg.block nb (lt_of_heap h.hb) (fun e => by
    obtain ⟨a, ea, eb⟩ := hne nb e.symm
    have o1 := h.oK
    rw [ea] at o1
    exact own_neB o1 h.hb (by decide) eb)).trans h.hb
  have fs : Fr (fun k => k = nb) W' (W'.setCell ⟨nb, 2, none⟩ (.slice (some ⟨g, 0, none⟩) (nk + 1) cap)) := (Fr.refl (fun k => k = nb) W').setCell (p := ⟨nb, 2, none⟩) (fun _ => rfl) _
  have own1 : Own W' 46 33 (some ⟨g, 0, none⟩) (nk + 1) cap := ⟨xs, ho⟩
  have kP : Own (W'.setCell ⟨nb, 2, none⟩ (.slice (some ⟨g, 0, none⟩) (nk + 1) cap)) 41 2 pa np cp := h.oP.keep (fun a e => by
    have o2 := h.oP
    rw [e] at o2
    have hb2 : W'.heap[a.block]? = W.heap[a.block]? := hg.block _ o2.lt (fun e2 => by
      obtain ⟨a1, ea, eb⟩ := hne _ e2.symm
      have o1 := h.oK
      rw [ea] at o1
      obtain ⟨cur, hc, _⟩ := o2.blk
      exact own_neB o1 hc (by decide) eb)
    exact (fs.block _ (Nat.lt_of_lt_of_le o2.lt hg.size) (fun e2 => own_neB o2 h.hb (by decide) e2)).trans hb2)
  have kS : Own (W'.setCell ⟨nb, 2, none⟩ (.slice (some ⟨g, 0, none⟩) (nk + 1) cap)) 9 1 sa ns cs := h.oS.keep (fun a e => by
    have o2 := h.oS
    rw [e] at o2
    have hb2 : W'.heap[a.block]? = W.heap[a.block]? := hg.block _ o2.lt (fun e2 => by
      obtain ⟨a1, ea, eb⟩ := hne _ e2.symm
      have o1 := h.oK
      rw [ea] at o1
      obtain ⟨cur, hc, _⟩ := o2.blk
      exact own_neB o1 hc (by decide) eb)
    exact (fs.block _ (Nat.lt_of_lt_of_le o2.lt hg.size) (fun e2 => own_neB o2 h.hb (by decide) e2)).trans hb2)
  have kK : Own (W'.setCell ⟨nb, 2, none⟩ (.slice (some ⟨g, 0, none⟩) (nk + 1) cap)) 46 33 (some ⟨g, 0, none⟩) (nk + 1) cap := own1.keep (fun a e => by
    cases e
    exact fs.block _ own1.lt (fun e2 => own_neB own1 hb (by decide) e2))
  refine ⟨⟨heap_setCell_same W' nb 2 _ _ _ hb, kP, kS, kK, Fr.trans (Fr.grown h.fr hg (fun k hk hl => by
    obtain ⟨a, ea, eb⟩ := hne k hk
    rw [← eb] at hl ⊢
    exact h.hS a (Or.inr <| Or.inr ea) hl)) fs (fun j hj e => by have := h.hn; omega), fun a ha hl => ?_, h.hn⟩, ⟨(cell_of_row _ _ _ _ _ _ hb).trans rfl, (cell_of_row _ _ _ _ _ _ hb).trans rfl, (cell_of_row _ _ _ _ _ _ hb).trans rfl⟩, frozen_of_row W' nb 2 _ _ hb⟩
  rcases ha with ha | ha | ha
  · exact h.hS a (Or.inl ha) hl
  · exact h.hS a (Or.inr <| Or.inl ha) hl
  · cases ha
    rcases hat with e1 | e1
    · obtain ⟨a1, ea, eb⟩ := hne g e1
      have := h.hS a1 (Or.inr <| Or.inr ea) (by rw [eb]; exact hl)
      rw [eb] at this; exact this
    · simp only at hl; omega
end Go.Proofs.Yteddbkbfnafbpaa
namespace Go.Proofs.Yteddbkbfnafbpaa
open Go.RowKit

theorem Own.some_of {W : World} {e : TypeId} {sz n c : Nat} {ao : Option Addr} (h : Own W e sz ao n c) (hn : 0 < n) : ∃ g, ao = some ⟨g, 0, none⟩ := by
  cases ao with
  | none =>
    obtain ⟨xs, h1, ⟨h2, h3⟩ | ⟨g, cap, cur, h2, _⟩⟩ := h
    · omega
    · cases h2
  | some a =>
    obtain ⟨cur, _, _, e1⟩ := h.blk
    exact ⟨a.block, by rw [e1]⟩
set_option maxRecDepth 100000 in
set_option maxHeartbeats 4000000 in
theorem spoil_calls {S : Nat → Prop} {pa : Option Addr} {np cp : Nat} {sa : Option Addr} {ns cs : Nat} {ka : Option Addr} {nk ck : Nat} (w : World) (hp : Own w 41 2 pa np cp) (hs : Own w 9 1 sa ns cs) (hk : Own w 46 33 ka nk ck)
    (h1 : np ≤ 1048576) (h2 : ns ≤ 1048576) (h3 : nk ≤ 1048576) (hS : ∀ a, (pa = some a ∨ sa = some a ∨ ka = some a) → S a.block) :
    Calls Try.prog 8 #[nodeV pa np cp sa ns cs ka nk ck] w fun e w' => (∃ n : Int, e = .returned (.int .i64 n)) ∧ Fr S w w' := by
  obtain ⟨V, hV⟩ : ∃ V, V = w.alloc (.cells #[.slice pa np cp, .slice sa ns cs, .slice ka nk ck] 28) := ⟨_, rfl⟩
  have Z0 : SP S w V w.heap.size pa np cp sa ns cs ka nk ck := by
    have hb := heap_alloc_new w (.cells #[.slice pa np cp, .slice sa ns cs, .slice ka nk ck] 28)
    rw [← hV] at hb
    refine ⟨hb, ?_, ?_, ?_, by rw [hV]; exact (Fr.refl S w).alloc _, fun a ha _ => hS a ha, Nat.le_refl _⟩
    · exact hp.keep (fun a e => by subst e; rw [hV]; exact Below.heap_alloc _ _ _ hp.lt)
    · exact hs.keep (fun a e => by subst e; rw [hV]; exact Below.heap_alloc _ _ _ hs.lt)
    · exact hk.keep (fun a e => by subst e; rw [hV]; exact Below.heap_alloc _ _ _ hk.lt)
  obtain ⟨i0P, hiP, hz0P, hz1P, hz2P⟩ := info_parts Try.infPair
  obtain ⟨i0S, hiS, hz0S, hz1S, hz2S⟩ := info_parts Try.infStr
  obtain ⟨i0K, hiK, hz0K, hz1K, hz2K⟩ := info_parts Try.infKid
  have HZ0 : Hid (SP S w V w.heap.size pa np cp sa ns cs ka nk ck) := Z0
  obtain ⟨m0, m1, m2, _, _, _⟩ := Z0.box
  clear Z0 hp hs hk hS
  go_enter Try.func8, Try.ntmps8
  go_wp2_with fail
  rw [← hV]
  clear hV m0 m1 m2
  go_loopg [3] np (fun g iv wr => ∃ j : Nat, iv = .int .i64 (j : Int) ∧ j ≤ np ∧ g = np - j ∧ Hid (SP S w wr w.heap.size pa np cp sa ns cs ka nk ck))
  case atStart => exact ⟨0, rfl, by omega, rfl, HZ0⟩
  case round =>
    obtain ⟨j, rfl, hj, hg, HL⟩ := hrel
    obtain ⟨m0, m1, m2, _, _, _⟩ := HL.out.box
    by_cases hgo : j < np
    · obtain ⟨gg, hgg⟩ := HL.out.oP.some_of (by omega)
      have HL2 := HL.out
      rw [hgg] at HL2 m0
      obtain ⟨Z2, th⟩ := HL2.putP (j * 2) [.string ⟨#[111, 118, 101, 114]⟩, .string ⟨#[111, 118, 101, 114]⟩] (show j * 2 + 2 ≤ np * 2 by omega)
      have i1 : (j : Int) < (np : Int) := by omega
      have i0 : (0 : Int) ≤ (j : Int) := by omega
      have HZ2 : Hid (SP S w (wr.setCells gg (j * 2) [.string ⟨#[111, 118, 101, 114]⟩, .string ⟨#[111, 118, 101, 114]⟩]) w.heap.size pa np cp sa ns cs ka nk ck) := by rw [hgg]; exact Z2
      have HGG : Hid (pa = some ⟨gg, 0, none⟩) := hgg
      clear HL2 Z2 HL hgg
      go_wp2_with (refine wpList_store_mid (by rfl) 41 _ _ (by rfl) gg (j * 2) #[.string ⟨#[111, 118, 101, 114]⟩, .string ⟨#[111, 118, 101, 114]⟩] (by rfl) (by rfl) th (by kernel_rfl) (by kernel_rfl) ?_)
      go_roundg (np - (j + 1))
      case measure => omega
      case rel => exact ⟨j + 1, by go_num, by omega, rfl, HZ2⟩
    · obtain rfl : np = j := by omega
      go_wp2_with fail
      clear m0 m1 m2
      go_loopg [4] ns (fun g iv wr => ∃ j : Nat, iv = .int .i64 (j : Int) ∧ j ≤ ns ∧ g = ns - j ∧ Hid (SP S w wr w.heap.size pa np cp sa ns cs ka nk ck))
      case atStart => exact ⟨0, rfl, by omega, rfl, HL⟩
      case round =>
        obtain ⟨j, rfl, hj, hg, HL⟩ := hrel
        obtain ⟨m0, m1, m2, _, _, _⟩ := HL.out.box
        by_cases hgo : j < ns
        · obtain ⟨gg, hgg⟩ := HL.out.oS.some_of (by omega)
          have HL2 := HL.out
          rw [hgg] at HL2 m1
          obtain ⟨Z2, th⟩ := HL2.putS (j * 1) [.string ⟨#[111, 118, 101, 114]⟩] (show j * 1 + 1 ≤ ns * 1 by omega)
          have i1 : (j : Int) < (ns : Int) := by omega
          have i0 : (0 : Int) ≤ (j : Int) := by omega
          have HZ2 : Hid (SP S w (wr.setCells gg (j * 1) [.string ⟨#[111, 118, 101, 114]⟩]) w.heap.size pa np cp sa ns cs ka nk ck) := by rw [hgg]; exact Z2
          have HGG : Hid (sa = some ⟨gg, 0, none⟩) := hgg
          clear HL2 Z2 HL hgg
          obtain ⟨t1, t2⟩ := th 0 (by simp)
          rw [Nat.mul_one, Nat.add_zero] at t1 t2
          obtain ⟨ov, hov⟩ := Option.isSome_iff_exists.1 t1
          rw [Nat.mul_one] at HZ2
          go_wp2_with fail
          go_roundg (ns - (j + 1))
          case measure => omega
          case rel => exact ⟨j + 1, by go_num, by omega, rfl, HZ2⟩
        · obtain rfl : ns = j := by omega
          go_wp2_with fail
          clear m0 m1 m2
          go_loopg [5] nk (fun g iv wr => ∃ j : Nat, iv = .int .i64 (j : Int) ∧ j ≤ nk ∧ g = nk - j ∧ Hid (SP S w wr w.heap.size pa np cp sa ns cs ka nk ck))
          case atStart => exact ⟨0, rfl, by omega, rfl, HL⟩
          case round =>
            obtain ⟨j, rfl, hj, hg, HL⟩ := hrel
            obtain ⟨m0, m1, m2, _, _, _⟩ := HL.out.box
            by_cases hgo : j < nk
            · obtain ⟨gg, hgg⟩ := HL.out.oK.some_of (by omega)
              have HL2 := HL.out
              rw [hgg] at HL2 m2
              obtain ⟨Z2, th⟩ := HL2.putK (j * 33) [.int .u32 99, .int .u8 0, .int .u8 0, .int .u8 0, .int .u8 0, .int .u8 0, .int .u8 0, .int .u8 0, .int .u8 0, .int .u8 0, .int .u8 0, .int .u8 0, .int .u8 0, .int .u8 0, .int .u8 0, .int .u8 0, .int .u8 0, .int .u8 0, .int .u8 0, .int .u8 0, .int .u8 0, .int .u8 0, .int .u8 0, .int .u8 0, .int .u8 0, .int .u8 0, .int .u8 0, .int .u8 0, .int .u8 0, .int .u8 0, .int .u8 0, .int .u8 0, .int .u8 0] (show j * 33 + 33 ≤ nk * 33 by omega)
              have i1 : (j : Int) < (nk : Int) := by omega
              have i0 : (0 : Int) ≤ (j : Int) := by omega
              have HZ2 : Hid (SP S w (wr.setCells gg (j * 33) [.int .u32 99, .int .u8 0, .int .u8 0, .int .u8 0, .int .u8 0, .int .u8 0, .int .u8 0, .int .u8 0, .int .u8 0, .int .u8 0, .int .u8 0, .int .u8 0, .int .u8 0, .int .u8 0, .int .u8 0, .int .u8 0, .int .u8 0, .int .u8 0, .int .u8 0, .int .u8 0, .int .u8 0, .int .u8 0, .int .u8 0, .int .u8 0, .int .u8 0, .int .u8 0, .int .u8 0, .int .u8 0, .int .u8 0, .int .u8 0, .int .u8 0, .int .u8 0, .int .u8 0]) w.heap.size pa np cp sa ns cs ka nk ck) := by rw [hgg]; exact Z2
              have HGG : Hid (ka = some ⟨gg, 0, none⟩) := hgg
              clear HL2 Z2 HL hgg
              have th33 : wr.there gg (j * 33) 33 := th
              clear th
              go_wp2_with (show wpList _ _ _ ({ dst := none, op := Op.store 46 _ _, type := _, pos := _, after := _, guard := _ } :: _) _ _; refine wpList_store_mid (by rfl) 46 _ _ (by rfl) gg (j * 33) #[.int .u32 99, .int .u8 0, .int .u8 0, .int .u8 0, .int .u8 0, .int .u8 0, .int .u8 0, .int .u8 0, .int .u8 0, .int .u8 0, .int .u8 0, .int .u8 0, .int .u8 0, .int .u8 0, .int .u8 0, .int .u8 0, .int .u8 0, .int .u8 0, .int .u8 0, .int .u8 0, .int .u8 0, .int .u8 0, .int .u8 0, .int .u8 0, .int .u8 0, .int .u8 0, .int .u8 0, .int .u8 0, .int .u8 0, .int .u8 0, .int .u8 0, .int .u8 0, .int .u8 0] (by rfl) (by rfl) th33 (by kernel_rfl) (by kernel_rfl) ?_)
              go_roundg (nk - (j + 1))
              case measure => omega
              case rel => exact ⟨j + 1, by go_num, by omega, rfl, HZ2⟩
            · obtain rfl : nk = j := by omega
              go_wp2_with fail
              clear m0 m1 m2
              go_loopg [6] 6 (fun g iv wr => ∃ (j : Nat) (pa : Option Addr) (np cp : Nat) (sa : Option Addr) (ns cs : Nat) (ka : Option Addr) (nk ck : Nat), iv = .int .i64 (j : Int) ∧ j ≤ 6 ∧ g = 6 - j ∧ np ≤ 1048576 + j ∧ ns ≤ 1048576 + j ∧ nk ≤ 1048576 + j ∧ Hid (SP S w wr w.heap.size pa np cp sa ns cs ka nk ck))
              case atStart => exact ⟨0, _, _, _, _, _, _, _, _, _, rfl, by omega, rfl, by omega, by omega, by omega, HL⟩
              case round =>
                clear HL
                obtain ⟨j, pa, np, cp, sa, ns, cs, ka, nk, ck, rfl, hj, hg, b1, b2, b3, HL⟩ := hrel
                obtain ⟨m0, m1, m2, f0, f1, f2⟩ := HL.out.box
                by_cases hgo : j < 6
                · have i1 : (j : Int) < 6 := by omega
                  obtain ⟨xP, oP⟩ := (HL.out.alloc (.cells #[.string ⟨#[109, 111, 114, 101]⟩, .string ⟨#[]⟩] 41)).oP
                  go_wp2_with (at_builtin; go_must (refine wpList_append_lies _ (by rfl) _ _ _ (by rfl) 0 41 i0P (.agg #[.string ⟨#[]⟩, .string ⟨#[]⟩]) 2 32 Try.underlying24 hiP hz0P hz1P hz2P rfl (by decide) _ _ _ (by rfl) oP ⟨wr.heap.size, 0, none⟩ 1 1 [.string ⟨#[109, 111, 114, 101]⟩, .string ⟨#[]⟩] (by rfl) rfl (World.news_of_block (heap_alloc_new wr _)) (by simp [Value.oneCell']) (by decide) ?_ ?_ (Nat.zero_le _) _ rfl ?_))
                  · unfold maxLen; omega
                  · omega
                  intro g2 cap2 w6 own6 grow6 hat6 _
                  obtain ⟨L1, ⟨a0, a1, a2⟩, a3⟩ := (HL.out.alloc (.cells #[.string ⟨#[109, 111, 114, 101]⟩, .string ⟨#[]⟩] 41)).growP own6 grow6 (hat6.imp id (fun e => by have := HL.out.fr.size; omega))
                  have HL1 : Hid (SP S w (w6.setCell ⟨w.heap.size, 0, none⟩ (.slice (some ⟨g2, 0, none⟩) (np + 1) cap2)) w.heap.size (some ⟨g2, 0, none⟩) (np + 1) cap2 sa ns cs ka nk ck) := L1
                  obtain ⟨xS, oS⟩ := (L1.alloc (.cells #[.string ⟨#[109, 111, 114, 101]⟩] 9)).oS
                  clear L1 HL own6 grow6 m0 m1 m2 f0 f1 f2 oP hat6
                  go_wp2_with (at_builtin; go_must (refine wpList_append_lies _ (by rfl) _ _ _ (by rfl) 0 9 i0S (.string ⟨#[]⟩) 1 16 Try.underlying25 hiS hz0S hz1S hz2S rfl (by decide) _ _ _ (by rfl) oS ⟨w6.heap.size, 0, none⟩ 1 1 [.string ⟨#[109, 111, 114, 101]⟩] (by rfl) rfl (World.news_of_block (heap_put_new w6 _ _ _)) (by simp [Value.oneCell']) (by decide) ?_ ?_ (Nat.zero_le _) _ rfl ?_))
                  · unfold maxLen; omega
                  · omega
                  intro g3 cap3 w7 own7 grow7 hat7 _
                  obtain ⟨L2, ⟨c0, c1, c2⟩, c3⟩ := (HL1.out.alloc (.cells #[.string ⟨#[109, 111, 114, 101]⟩] 9)).growS own7 grow7 (hat7.imp id (fun e => by have := HL1.out.fr.size; simp [World.setCell] at this; omega))
                  have HL2 : Hid (SP S w (w7.setCell ⟨w.heap.size, 1, none⟩ (.slice (some ⟨g3, 0, none⟩) (ns + 1) cap3)) w.heap.size (some ⟨g2, 0, none⟩) (np + 1) cap2 (some ⟨g3, 0, none⟩) (ns + 1) cap3 ka nk ck) := L2
                  obtain ⟨xK, oK⟩ := (L2.alloc (.cells #[.int .u32 98, .int .u8 0, .int .u8 0, .int .u8 0, .int .u8 0, .int .u8 0, .int .u8 0, .int .u8 0, .int .u8 0, .int .u8 0, .int .u8 0, .int .u8 0, .int .u8 0, .int .u8 0, .int .u8 0, .int .u8 0, .int .u8 0, .int .u8 0, .int .u8 0, .int .u8 0, .int .u8 0, .int .u8 0, .int .u8 0, .int .u8 0, .int .u8 0, .int .u8 0, .int .u8 0, .int .u8 0, .int .u8 0, .int .u8 0, .int .u8 0, .int .u8 0, .int .u8 0] 46)).oK
                  clear L2 HL1 own7 grow7 a0 a1 a2 a3 oS hat7
                  go_wp2_with (at_builtin; go_must (refine wpList_append_lies _ (by rfl) _ _ _ (by rfl) 0 46 i0K (kidV zeroKid) 33 36 Try.underlying26 hiK hz0K hz1K hz2K rfl (by decide) _ _ _ (by rfl) oK ⟨w7.heap.size, 0, none⟩ 1 1 [.int .u32 98, .int .u8 0, .int .u8 0, .int .u8 0, .int .u8 0, .int .u8 0, .int .u8 0, .int .u8 0, .int .u8 0, .int .u8 0, .int .u8 0, .int .u8 0, .int .u8 0, .int .u8 0, .int .u8 0, .int .u8 0, .int .u8 0, .int .u8 0, .int .u8 0, .int .u8 0, .int .u8 0, .int .u8 0, .int .u8 0, .int .u8 0, .int .u8 0, .int .u8 0, .int .u8 0, .int .u8 0, .int .u8 0, .int .u8 0, .int .u8 0, .int .u8 0, .int .u8 0] (by rfl) rfl (World.news_of_block (heap_put_new w7 _ _ _)) (by decide +kernel) (by decide) ?_ ?_ (Nat.zero_le _) _ rfl ?_))
                  · unfold maxLen; omega
                  · omega
                  intro g4 cap4 w8 own8 grow8 hat8 _
                  obtain ⟨L3, ⟨d0, d1, d2⟩, d3⟩ := (HL2.out.alloc (.cells #[.int .u32 98, .int .u8 0, .int .u8 0, .int .u8 0, .int .u8 0, .int .u8 0, .int .u8 0, .int .u8 0, .int .u8 0, .int .u8 0, .int .u8 0, .int .u8 0, .int .u8 0, .int .u8 0, .int .u8 0, .int .u8 0, .int .u8 0, .int .u8 0, .int .u8 0, .int .u8 0, .int .u8 0, .int .u8 0, .int .u8 0, .int .u8 0, .int .u8 0, .int .u8 0, .int .u8 0, .int .u8 0, .int .u8 0, .int .u8 0, .int .u8 0, .int .u8 0, .int .u8 0] 46)).growK own8 grow8 (hat8.imp id (fun e => by have := HL2.out.fr.size; simp [World.setCell] at this; omega))
                  have HL3 : Hid (SP S w (w8.setCell ⟨w.heap.size, 2, none⟩ (.slice (some ⟨g4, 0, none⟩) (nk + 1) cap4)) w.heap.size (some ⟨g2, 0, none⟩) (np + 1) cap2 (some ⟨g3, 0, none⟩) (ns + 1) cap3 (some ⟨g4, 0, none⟩) (nk + 1) cap4) := L3
                  clear L3 HL2 own8 grow8 c0 c1 c2 c3 oK hat8
                  go_wp2_with fail
                  go_roundg (6 - (j + 1))
                  case measure => omega
                  case rel => exact ⟨j + 1, _, _, _, _, _, _, _, _, _, by go_num, by omega, rfl, by omega, by omega, by omega, HL3⟩
                · obtain rfl : j = 6 := by omega
                  go_wp2_with fail
                  go_ret
                  exact ⟨⟨_, rfl⟩, HL.out.fr⟩
end Go.Proofs.Yteddbkbfnafbpaa
namespace Go.Proofs.Yteddbkbfnafbpaa
open Go.RowKit

def blkO (ao : Option Addr) (k : Nat) : Prop := ∃ a, ao = some a ∧ a.block = k
/-- The blocks of a node's lists. -/
def blkN (r : Nr) (k : Nat) : Prop := blkO r.pa k ∨ blkO r.sa k ∨ blkO r.ka k
theorem own_blkO {ao : Option Addr} {n c k : Nat} (h : Value.ownBlock (.slice ao n c) = some k) : blkO ao k := by
  cases ao with
  | none => cases h
  | some a => exact ⟨a, rfl, by simpa [Value.ownBlock] using h⟩
theorem MadeNd.fr {w w' : World} {B : Nat} {r : Nr} {N : Nd} {S : Nat → Prop} (h : MadeNd w B r N) (f : Fr S w w') (hn : ∀ k, blkN r k → ¬ S k) : MadeNd w' B r N :=
  ⟨own_frameB h.op f (fun k hk => hn k (Or.inl (own_blkO hk))), own_frameB h.os f (fun k hk => hn k (Or.inr (Or.inl (own_blkO hk)))), own_frameB h.ok f (fun k hk => hn k (Or.inr (Or.inr (own_blkO hk))))⟩
theorem MadeNd.blk {w : World} {B : Nat} {r : Nr} {N : Nd} (h : MadeNd w B r N) {k : Nat} (hk : blkN r k) : B ≤ k ∧ k < w.heap.size := by
  obtain ⟨pa, pb, po, cp, sa, sb, so, cs, ka, kb, ko, ck⟩ := r
  rcases hk with ⟨a, e, rfl⟩ | ⟨a, e, rfl⟩ | ⟨a, e, rfl⟩
  · simp only at e; subst e; exact own_ge h.op
  · simp only at e; subst e; exact own_ge h.os
  · simp only at e; subst e; exact own_ge h.ok
theorem made_sameN {W : World} {B B2 : Nat} {r r2 : Nr} {N : Nd} (h1 : MadeNd W B r N) (h2 : MadeNd W B2 r2 N) (hs : NdSmall N) (hk : ∀ x ∈ N.ks, KidOk x) :
    Calls Try.prog 22 #[ndV r N, ndV r2 N] W fun e w' => e = .returned (.bool true) ∧ Same W w' := by
  obtain ⟨r1', e1, n1⟩ := h1.nd (q := 0) hs hk
  obtain ⟨r2', e2, n2⟩ := h2.nd (q := 0) hs hk
  rw [← e1, ← e2]
  exact rsame_true W n1.at_ n2.at_
set_option maxRecDepth 100000 in
set_option maxHeartbeats 1000000 in
theorem fresh_nd {Ba Bb Bw : Nat} {ra rb rw_ : Nr} {N : Nd} (w : World) (ha : MadeNd w Ba ra N) (hb : MadeNd w Bb rb N) (hw : MadeNd w Bw rw_ N) (hs : NdSmall N) (hk : ∀ x ∈ N.ks, KidOk x) (hab : ∀ k, blkN rb k → ¬ blkN ra k) (haw : ∀ k, blkN rw_ k → ¬ blkN ra k) :
    Calls Try.prog 9 #[ndV ra N, ndV rb N, ndV rw_ N] w fun e w' => e = .returned (.bool true) ∧ Fr (blkN ra) w w' := by
  have HS1 : Hid (∀ W, Same w W → Calls Try.prog 22 #[ndV ra N, ndV rw_ N] W fun e w' => e = .returned (.bool true) ∧ Same W w') := fun W s => made_sameN (ha.same s) (hw.same s) hs hk
  have HS2 : Hid (∀ W, Fr (blkN ra) w W → Calls Try.prog 22 #[ndV rb N, ndV rw_ N] W fun e w' => e = .returned (.bool true) ∧ Same W w') := fun W s => made_sameN (hb.fr s hab) (hw.fr s haw) hs hk
  have HP : Hid (∀ W, Same w W → Calls Try.prog 8 #[ndV ra N] W fun e w' => (∃ n : Int, e = .returned (.int .i64 n)) ∧ Fr (blkN ra) W w') := fun W s =>
    spoil_calls W ⟨_, own_base (ha.same s).op (Nat.zero_le _)⟩ ⟨_, own_base (ha.same s).os (Nat.zero_le _)⟩ ⟨_, own_base (ha.same s).ok (Nat.zero_le _)⟩ hs.lens.1 hs.lens.2.1 hs.lens.2.2.1 (fun a h => by
      rcases h with h | h | h
      · exact Or.inl ⟨a, h, rfl⟩
      · exact Or.inr (Or.inl ⟨a, h, rfl⟩)
      · exact Or.inr (Or.inr ⟨a, h, rfl⟩))
  have HBK : Hid (∀ k, blkN ra k → k < w.heap.size) := fun k hk => (ha.blk hk).2
  obtain ⟨V, hV⟩ : ∃ V, V = ((w.alloc (.cells #[.slice ra.pa N.ps.length ra.cp, .slice ra.sa N.ss.length ra.cs, .slice ra.ka N.ks.length ra.ck] 28)).alloc (.cells #[.slice rb.pa N.ps.length rb.cp, .slice rb.sa N.ss.length rb.cs, .slice rb.ka N.ks.length rb.ck] 28)).alloc (.cells #[.slice rw_.pa N.ps.length rw_.cp, .slice rw_.sa N.ss.length rw_.cs, .slice rw_.ka N.ks.length rw_.ck] 28) := ⟨_, rfl⟩
  have t1 : Same w V := by rw [hV]; exact (((Fr.refl _ w).alloc _).alloc _).alloc _
  have H3 := heap3 w (.cells #[.slice ra.pa N.ps.length ra.cp, .slice ra.sa N.ss.length ra.cs, .slice ra.ka N.ks.length ra.ck] 28) (.cells #[.slice rb.pa N.ps.length rb.cp, .slice rb.sa N.ss.length rb.cs, .slice rb.ka N.ks.length rb.ck] 28) (.cells #[.slice rw_.pa N.ps.length rw_.cp, .slice rw_.sa N.ss.length rw_.cs, .slice rw_.ka N.ks.length rw_.ck] 28)
  rw [← hV] at H3
  obtain ⟨g0, g1, g2⟩ := H3
  have HC : Hid (∀ W, Fr (blkN ra) V W → (W.cell? ⟨w.heap.size, 0, none⟩ = some (.slice ra.pa N.ps.length ra.cp) ∧ W.cell? ⟨w.heap.size, 1, none⟩ = some (.slice ra.sa N.ss.length ra.cs) ∧ W.cell? ⟨w.heap.size, 2, none⟩ = some (.slice ra.ka N.ks.length ra.ck)) ∧ (W.cell? ⟨w.heap.size + 1, 0, none⟩ = some (.slice rb.pa N.ps.length rb.cp) ∧ W.cell? ⟨w.heap.size + 1, 1, none⟩ = some (.slice rb.sa N.ss.length rb.cs) ∧ W.cell? ⟨w.heap.size + 1, 2, none⟩ = some (.slice rb.ka N.ks.length rb.ck)) ∧ (W.cell? ⟨w.heap.size + 1 + 1, 0, none⟩ = some (.slice rw_.pa N.ps.length rw_.cp) ∧ W.cell? ⟨w.heap.size + 1 + 1, 1, none⟩ = some (.slice rw_.sa N.ss.length rw_.cs) ∧ W.cell? ⟨w.heap.size + 1 + 1, 2, none⟩ = some (.slice rw_.ka N.ks.length rw_.ck))) := fun W s => by
    have f0 := (s.block _ (lt_of_heap g0) (fun e => by have := HBK.out _ e; omega)).trans g0
    have f1 := (s.block _ (lt_of_heap g1) (fun e => by have := HBK.out _ e; omega)).trans g1
    have f2 := (s.block _ (lt_of_heap g2) (fun e => by have := HBK.out _ e; omega)).trans g2
    exact ⟨⟨(cell_of_row _ _ _ _ _ _ f0).trans rfl, (cell_of_row _ _ _ _ _ _ f0).trans rfl, (cell_of_row _ _ _ _ _ _ f0).trans rfl⟩, ⟨(cell_of_row _ _ _ _ _ _ f1).trans rfl, (cell_of_row _ _ _ _ _ _ f1).trans rfl, (cell_of_row _ _ _ _ _ _ f1).trans rfl⟩, (cell_of_row _ _ _ _ _ _ f2).trans rfl, (cell_of_row _ _ _ _ _ _ f2).trans rfl, (cell_of_row _ _ _ _ _ _ f2).trans rfl⟩
  have up : ∀ {A B : World}, Same A B → Fr (blkN ra) A B := fun s => s.mono (fun _ _ f => f.elim)
  have UP : Hid (∀ A B : World, Same A B → Fr (blkN ra) A B) := fun A B s => up s
  obtain ⟨⟨a0, a1, a2⟩, ⟨b0, b1, b2⟩, c0, c1, c2⟩ := HC.out V (Fr.refl _ V)
  clear ha hb hw hab haw hs hk g0 g1 g2 up
  go_enter Try.func9, Try.ntmps9
  go_wp2_with fail
  rw [← hV]
  clear hV
  refine (HS1.out _ t1).mono ?_
  rintro e W1 ⟨rfl, s1⟩
  clear a0 a1 a2 b0 b1 b2 c0 c1 c2
  obtain ⟨⟨a0, a1, a2⟩, ⟨b0, b1, b2⟩, c0, c1, c2⟩ := HC.out W1 (UP.out _ _ s1)
  go_wp2_with fail
  refine (HS2.out _ (UP.out _ _ (t1.trans s1))).mono ?_
  rintro e W2 ⟨rfl, s2⟩
  have s2 := s1.trans s2
  clear a0 a1 a2 b0 b1 b2 c0 c1 c2
  obtain ⟨⟨a0, a1, a2⟩, ⟨b0, b1, b2⟩, c0, c1, c2⟩ := HC.out W2 (UP.out _ _ s2)
  go_wp2_with fail
  refine (HP.out _ (t1.trans s2)).mono ?_
  rintro e W3 ⟨⟨n, rfl⟩, s3⟩
  have s4 : Fr (blkN ra) V W3 := Fr.trans (UP.out _ _ s2) s3 (fun _ _ e => e)
  clear a0 a1 a2 b0 b1 b2 c0 c1 c2
  obtain ⟨⟨a0, a1, a2⟩, ⟨b0, b1, b2⟩, c0, c1, c2⟩ := HC.out W3 s4
  have s5 : Fr (blkN ra) w W3 := Fr.trans (UP.out _ _ t1) s4 (fun _ _ e => e)
  go_wp2_with fail
  refine (HS2.out _ s5).mono ?_
  rintro e W4 ⟨rfl, s6⟩
  go_wp2_with fail
  go_ret
  exact ⟨rfl, Fr.trans s5 (UP.out _ _ s6) (fun _ _ e => e)⟩
end Go.Proofs.Yteddbkbfnafbpaa
