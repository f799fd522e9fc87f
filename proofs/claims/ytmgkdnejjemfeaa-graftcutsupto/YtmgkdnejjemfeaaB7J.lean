/- spoil: all that a node holds is written over, and more is laid behind. -/
import Derived.Test.YtmgkdnejjemfeaaKM
import Derived.Deep.LoopGhost
import Derived.Deep.AppendLies
import Derived.Test.YtmgkdnejjemfeaaKN
namespace Go.Proofs.Ytmgkdnejjemfeaa
open Go.RowKit

def Own (W : World) (e : TypeId) (sz : Nat) (ao : Option Addr) (n c : Nat) : Prop := ∃ xs, W.ownsRow 0 e sz (.slice ao n c) n xs
theorem Own.keep {W W' : World} {e : TypeId} {sz n c : Nat} {ao : Option Addr} (h : Own W e sz ao n c) (hb : ∀ a, ao = some a → W'.heap[a.block]? = W.heap[a.block]?) : Own W' e sz ao n c := by
  obtain ⟨xs, h1, h2⟩ := h
  refine ⟨xs, h1, ?_⟩
  rcases h2 with h2 | ⟨g, cap, cur, hv, hg, hh, r⟩
  · exact Or.inl h2
  · refine Or.inr ⟨g, cap, cur, hv, hg, ?_, r⟩
    injection hv with e1
    rw [← hh]; exact hb _ e1
theorem Own.blk {W : World} {e : TypeId} {sz n c : Nat} {a : Addr} (h : Own W e sz (some a) n c) : ∃ cur, W.heap[a.block]? = some (.cells cur e (0, 0)) ∧ n * sz ≤ cur.size ∧ a = ⟨a.block, 0, none⟩ := by
  obtain ⟨xs, h1, ⟨h2, _⟩ | ⟨g, cap, cur, hv, hg, hh, h3, h4, h5, h6⟩⟩ := h
  · cases h2
  · injection hv with e1 e2 e3
    injection e1 with e1
    subst e1
    exact ⟨cur, hh, by rw [h5]; exact Nat.mul_le_mul_right _ h3, rfl⟩
theorem Own.put {W : World} {e : TypeId} {sz n c g : Nat} (h : Own W e sz (some ⟨g, 0, none⟩) n c) (o : Nat) (vs : List Value) (ho : o + vs.length ≤ n * sz) : Own (W.setCells g o vs) e sz (some ⟨g, 0, none⟩) n c ∧ W.there g o vs.length := by
  obtain ⟨xs, h1, ⟨h2, _⟩ | ⟨g', cap, cur, hv, hg, hh, h3, h4, h5, h6⟩⟩ := h
  · cases h2
  · injection hv with e1 e2 e3
    injection e1 with e1
    injection e1 with e1
    subst e1 e3
    have h7 : n * sz ≤ cur.size := by rw [h5]; exact Nat.mul_le_mul_right _ h3
    obtain ⟨A, a1, a2⟩ := setCells_row vs o cur hh
    refine ⟨⟨A.toList.take (n * sz), ?_, Or.inr ⟨g, c, A, rfl, hg, a1, h3, h4, by rw [a2, h5], rfl⟩⟩, fun j hj => ⟨?_, frozen_of_row W g _ _ _ hh⟩⟩
    · rw [List.length_take, Array.length_toList, a2]; omega
    · rw [cell_of_row _ _ _ _ _ _ hh, Array.getElem?_eq_getElem (by omega)]; rfl
theorem Own.lt {W : World} {e : TypeId} {sz n c : Nat} {a : Addr} (h : Own W e sz (some a) n c) : a.block < W.heap.size := by
  obtain ⟨cur, h1, _⟩ := h.blk
  exact lt_of_heap h1
theorem own_neB {W : World} {e t : TypeId} {sz n c g : Nat} {a : Addr} {cs : Array Value} {fr : Nat × Nat} (h : Own W e sz (some a) n c) (hg : W.heap[g]? = some (.cells cs t fr)) (hne : e ≠ t) : a.block ≠ g := by
  obtain ⟨cur, h1, _⟩ := h.blk
  intro e1
  rw [e1, hg] at h1
  cases h1
  exact hne rfl
/-- A node that is being spoilt: its box and its three rows; what may have changed since w. -/
structure SP (S : Nat → Prop) (w W : World) (nb : Nat) (pa : Option Addr) (np cp : Nat) (sa : Option Addr) (ns cs : Nat) (ka : Option Addr) (nk ck : Nat) : Prop where
  hb : W.heap[nb]? = some (.cells #[.slice pa np cp, .slice sa ns cs, .slice ka nk ck] 28 (0, 0))
  oP : Own W 48 2 pa np cp
  oS : Own W 9 1 sa ns cs
  oK : Own W 59 33 ka nk ck
  fr : Fr S w W
  hS : ∀ a, (pa = some a ∨ sa = some a ∨ ka = some a) → a.block < w.heap.size → S a.block
  hn : w.heap.size ≤ nb
theorem SP.alloc {S : Nat → Prop} {w W : World} {nb : Nat} {pa : Option Addr} {np cp : Nat} {sa : Option Addr} {ns cs : Nat} {ka : Option Addr} {nk ck : Nat} (h : SP S w W nb pa np cp sa ns cs ka nk ck) (o : Obj) : SP S w (W.alloc o) nb pa np cp sa ns cs ka nk ck :=
  ⟨(Below.heap_alloc _ _ _ (lt_of_heap h.hb)).trans h.hb, h.oP.keep (fun a e => by subst e; exact Below.heap_alloc _ _ _ h.oP.lt), h.oS.keep (fun a e => by subst e; exact Below.heap_alloc _ _ _ h.oS.lt), h.oK.keep (fun a e => by subst e; exact Below.heap_alloc _ _ _ h.oK.lt), h.fr.alloc o, h.hS, h.hn⟩
theorem SP.box {S : Nat → Prop} {w W : World} {nb : Nat} {pa : Option Addr} {np cp : Nat} {sa : Option Addr} {ns cs : Nat} {ka : Option Addr} {nk ck : Nat} (h : SP S w W nb pa np cp sa ns cs ka nk ck) : W.cell? ⟨nb, 0, none⟩ = some (.slice pa np cp) ∧ W.cell? ⟨nb, 1, none⟩ = some (.slice sa ns cs) ∧ W.cell? ⟨nb, 2, none⟩ = some (.slice ka nk ck) ∧ W.frozen? ⟨nb, 0, none⟩ = false ∧ W.frozen? ⟨nb, 1, none⟩ = false ∧ W.frozen? ⟨nb, 2, none⟩ = false :=
  ⟨(cell_of_row _ _ _ _ _ _ h.hb).trans rfl, (cell_of_row _ _ _ _ _ _ h.hb).trans rfl, (cell_of_row _ _ _ _ _ _ h.hb).trans rfl, frozen_of_row W nb 0 _ _ h.hb, frozen_of_row W nb 1 _ _ h.hb, frozen_of_row W nb 2 _ _ h.hb⟩
theorem SP.growP {S : Nat → Prop} {w W : World} {nb : Nat} {pa : Option Addr} {np cp : Nat} {sa : Option Addr} {ns cs : Nat} {ka : Option Addr} {nk ck : Nat} (h : SP S w W nb pa np cp sa ns cs ka nk ck) {W' : World} {g cap : Nat} {xs : List Value} (ho : W'.ownsRow 0 48 2 (.slice (some ⟨g, 0, none⟩) (np + 1) cap) (np + 1) xs) (hg : W.grownBy W' (Value.ownBlock (.slice pa np cp))) (hat : Value.ownBlock (.slice pa np cp) = some g ∨ w.heap.size ≤ g) :
    SP S w (W'.setCell ⟨nb, 0, none⟩ (.slice (some ⟨g, 0, none⟩) (np + 1) cap)) nb (some ⟨g, 0, none⟩) (np + 1) cap sa ns cs ka nk ck ∧ (W'.cell? ⟨nb, 0, none⟩ = some (.slice pa np cp) ∧ W'.cell? ⟨nb, 1, none⟩ = some (.slice sa ns cs) ∧ W'.cell? ⟨nb, 2, none⟩ = some (.slice ka nk ck)) ∧ W'.frozen? ⟨nb, 0, none⟩ = false := by
  have hbk : ∀ a, pa = some a → Value.ownBlock (.slice pa np cp) = some a.block := fun a e => by rw [e]; rfl
  have hne : ∀ k, Value.ownBlock (.slice pa np cp) = some k → ∃ a, pa = some a ∧ a.block = k := fun k hk => by
    cases hp : pa with
    | none => rw [hp] at hk; cases hk
    | some a => rw [hp] at hk; exact ⟨a, rfl, by simpa [Value.ownBlock] using hk⟩
  have hb : W'.heap[nb]? = some (.cells #[.slice pa np cp, .slice sa ns cs, .slice ka nk ck] 28 (0, 0)) := (hg.block nb (lt_of_heap h.hb) (fun e => by
    obtain ⟨a, ea, eb⟩ := hne nb e.symm
    have o1 := h.oP
    rw [ea] at o1
    exact own_neB o1 h.hb (by decide) eb)).trans h.hb
  have fs : Fr (fun k => k = nb) W' (W'.setCell ⟨nb, 0, none⟩ (.slice (some ⟨g, 0, none⟩) (np + 1) cap)) := (Fr.refl (fun k => k = nb) W').setCell (p := ⟨nb, 0, none⟩) (fun _ => rfl) _
  have own1 : Own W' 48 2 (some ⟨g, 0, none⟩) (np + 1) cap := ⟨xs, ho⟩
  have kS : Own (W'.setCell ⟨nb, 0, none⟩ (.slice (some ⟨g, 0, none⟩) (np + 1) cap)) 9 1 sa ns cs := h.oS.keep (fun a e => by
    have o2 := h.oS
    rw [e] at o2
    have hb2 : W'.heap[a.block]? = W.heap[a.block]? := hg.block _ o2.lt (fun e2 => by
      obtain ⟨a1, ea, eb⟩ := hne _ e2.symm
      have o1 := h.oP
      rw [ea] at o1
      obtain ⟨cur, hc, _⟩ := o2.blk
      exact own_neB o1 hc (by decide) eb)
    exact (fs.block _ (Nat.lt_of_lt_of_le o2.lt hg.size) (fun e2 => own_neB o2 h.hb (by decide) e2)).trans hb2)
  have kK : Own (W'.setCell ⟨nb, 0, none⟩ (.slice (some ⟨g, 0, none⟩) (np + 1) cap)) 59 33 ka nk ck := h.oK.keep (fun a e => by
    have o2 := h.oK
    rw [e] at o2
    have hb2 : W'.heap[a.block]? = W.heap[a.block]? := hg.block _ o2.lt (fun e2 => by
      obtain ⟨a1, ea, eb⟩ := hne _ e2.symm
      have o1 := h.oP
      rw [ea] at o1
      obtain ⟨cur, hc, _⟩ := o2.blk
      exact own_neB o1 hc (by decide) eb)
    exact (fs.block _ (Nat.lt_of_lt_of_le o2.lt hg.size) (fun e2 => own_neB o2 h.hb (by decide) e2)).trans hb2)
  have kP : Own (W'.setCell ⟨nb, 0, none⟩ (.slice (some ⟨g, 0, none⟩) (np + 1) cap)) 48 2 (some ⟨g, 0, none⟩) (np + 1) cap := own1.keep (fun a e => by
    cases e
    exact fs.block _ own1.lt (fun e2 => own_neB own1 hb (by decide) e2))
  refine ⟨⟨heap_setCell_same W' nb 0 _ _ _ hb, kP, kS, kK, Fr.trans (Fr.grown h.fr hg (fun k hk hl => by
    obtain ⟨a, ea, eb⟩ := hne k hk
    rw [← eb] at hl ⊢
    exact h.hS a (Or.inl ea) hl)) fs (fun j hj e => by have := h.hn; omega), fun a ha hl => ?_, h.hn⟩, ⟨(cell_of_row _ _ _ _ _ _ hb).trans rfl, (cell_of_row _ _ _ _ _ _ hb).trans rfl, (cell_of_row _ _ _ _ _ _ hb).trans rfl⟩, frozen_of_row W' nb 0 _ _ hb⟩
  rcases ha with ha | ha | ha
  · cases ha
    rcases hat with e1 | e1
    · obtain ⟨a1, ea, eb⟩ := hne g e1
      have := h.hS a1 (Or.inl ea) (by rw [eb]; exact hl)
      rw [eb] at this; exact this
    · simp only at hl; omega
  · exact h.hS a (Or.inr <| Or.inl ha) hl
  · exact h.hS a (Or.inr <| Or.inr ha) hl
theorem SP.growS {S : Nat → Prop} {w W : World} {nb : Nat} {pa : Option Addr} {np cp : Nat} {sa : Option Addr} {ns cs : Nat} {ka : Option Addr} {nk ck : Nat} (h : SP S w W nb pa np cp sa ns cs ka nk ck) {W' : World} {g cap : Nat} {xs : List Value} (ho : W'.ownsRow 0 9 1 (.slice (some ⟨g, 0, none⟩) (ns + 1) cap) (ns + 1) xs) (hg : W.grownBy W' (Value.ownBlock (.slice sa ns cs))) (hat : Value.ownBlock (.slice sa ns cs) = some g ∨ w.heap.size ≤ g) :
    SP S w (W'.setCell ⟨nb, 1, none⟩ (.slice (some ⟨g, 0, none⟩) (ns + 1) cap)) nb pa np cp (some ⟨g, 0, none⟩) (ns + 1) cap ka nk ck ∧ (W'.cell? ⟨nb, 0, none⟩ = some (.slice pa np cp) ∧ W'.cell? ⟨nb, 1, none⟩ = some (.slice sa ns cs) ∧ W'.cell? ⟨nb, 2, none⟩ = some (.slice ka nk ck)) ∧ W'.frozen? ⟨nb, 1, none⟩ = false := by
  have hbk : ∀ a, sa = some a → Value.ownBlock (.slice sa ns cs) = some a.block := fun a e => by rw [e]; rfl
  have hne : ∀ k, Value.ownBlock (.slice sa ns cs) = some k → ∃ a, sa = some a ∧ a.block = k := fun k hk => by
    cases hp : sa with
    | none => rw [hp] at hk; cases hk
    | some a => rw [hp] at hk; exact ⟨a, rfl, by simpa [Value.ownBlock] using hk⟩
  have hb : W'.heap[nb]? = some (.cells #[.slice pa np cp, .slice sa ns cs, .slice ka nk ck] 28 (0, 0)) := (hg.block nb (lt_of_heap h.hb) (fun e => by
    obtain ⟨a, ea, eb⟩ := hne nb e.symm
    have o1 := h.oS
    rw [ea] at o1
    exact own_neB o1 h.hb (by decide) eb)).trans h.hb
  have fs : Fr (fun k => k = nb) W' (W'.setCell ⟨nb, 1, none⟩ (.slice (some ⟨g, 0, none⟩) (ns + 1) cap)) := (Fr.refl (fun k => k = nb) W').setCell (p := ⟨nb, 1, none⟩) (fun _ => rfl) _
  have own1 : Own W' 9 1 (some ⟨g, 0, none⟩) (ns + 1) cap := ⟨xs, ho⟩
  have kP : Own (W'.setCell ⟨nb, 1, none⟩ (.slice (some ⟨g, 0, none⟩) (ns + 1) cap)) 48 2 pa np cp := h.oP.keep (fun a e => by
    have o2 := h.oP
    rw [e] at o2
    have hb2 : W'.heap[a.block]? = W.heap[a.block]? := hg.block _ o2.lt (fun e2 => by
      obtain ⟨a1, ea, eb⟩ := hne _ e2.symm
      have o1 := h.oS
      rw [ea] at o1
      obtain ⟨cur, hc, _⟩ := o2.blk
      exact own_neB o1 hc (by decide) eb)
    exact (fs.block _ (Nat.lt_of_lt_of_le o2.lt hg.size) (fun e2 => own_neB o2 h.hb (by decide) e2)).trans hb2)
  have kK : Own (W'.setCell ⟨nb, 1, none⟩ (.slice (some ⟨g, 0, none⟩) (ns + 1) cap)) 59 33 ka nk ck := h.oK.keep (fun a e => by
    have o2 := h.oK
    rw [e] at o2
    have hb2 : W'.heap[a.block]? = W.heap[a.block]? := hg.block _ o2.lt (fun e2 => by
      obtain ⟨a1, ea, eb⟩ := hne _ e2.symm
      have o1 := h.oS
      rw [ea] at o1
      obtain ⟨cur, hc, _⟩ := o2.blk
      exact own_neB o1 hc (by decide) eb)
    exact (fs.block _ (Nat.lt_of_lt_of_le o2.lt hg.size) (fun e2 => own_neB o2 h.hb (by decide) e2)).trans hb2)
  have kS : Own (W'.setCell ⟨nb, 1, none⟩ (.slice (some ⟨g, 0, none⟩) (ns + 1) cap)) 9 1 (some ⟨g, 0, none⟩) (ns + 1) cap := own1.keep (fun a e => by
    cases e
    exact fs.block _ own1.lt (fun e2 => own_neB own1 hb (by decide) e2))
  refine ⟨⟨heap_setCell_same W' nb 1 _ _ _ hb, kP, kS, kK, Fr.trans (Fr.grown h.fr hg (fun k hk hl => by
    obtain ⟨a, ea, eb⟩ := hne k hk
    rw [← eb] at hl ⊢
    exact h.hS a (Or.inr <| Or.inl ea) hl)) fs (fun j hj e => by have := h.hn; omega), fun a ha hl => ?_, h.hn⟩, ⟨(cell_of_row _ _ _ _ _ _ hb).trans rfl, (cell_of_row _ _ _ _ _ _ hb).trans rfl, (cell_of_row _ _ _ _ _ _ hb).trans rfl⟩, frozen_of_row W' nb 1 _ _ hb⟩
  rcases ha with ha | ha | ha
  · exact h.hS a (Or.inl ha) hl
  · cases ha
    rcases hat with e1 | e1
    · obtain ⟨a1, ea, eb⟩ := hne g e1
      have := h.hS a1 (Or.inr <| Or.inl ea) (by rw [eb]; exact hl)
      rw [eb] at this; exact this
    · simp only at hl; omega
  · exact h.hS a (Or.inr <| Or.inr ha) hl
theorem SP.growK {S : Nat → Prop} {w W : World} {nb : Nat} {pa : Option Addr} {np cp : Nat} {sa : Option Addr} {ns cs : Nat} {ka : Option Addr} {nk ck : Nat} (h : SP S w W nb pa np cp sa ns cs ka nk ck) {W' : World} {g cap : Nat} {xs : List Value} (ho : W'.ownsRow 0 59 33 (.slice (some ⟨g, 0, none⟩) (nk + 1) cap) (nk + 1) xs) (hg : W.grownBy W' (Value.ownBlock (.slice ka nk ck))) (hat : Value.ownBlock (.slice ka nk ck) = some g ∨ w.heap.size ≤ g) :
    SP S w (W'.setCell ⟨nb, 2, none⟩ (.slice (some ⟨g, 0, none⟩) (nk + 1) cap)) nb pa np cp sa ns cs (some ⟨g, 0, none⟩) (nk + 1) cap ∧ (W'.cell? ⟨nb, 0, none⟩ = some (.slice pa np cp) ∧ W'.cell? ⟨nb, 1, none⟩ = some (.slice sa ns cs) ∧ W'.cell? ⟨nb, 2, none⟩ = some (.slice ka nk ck)) ∧ W'.frozen? ⟨nb, 2, none⟩ = false := by
  have hbk : ∀ a, ka = some a → Value.ownBlock (.slice ka nk ck) = some a.block := fun a e => by rw [e]; rfl
  have hne : ∀ k, Value.ownBlock (.slice ka nk ck) = some k → ∃ a, ka = some a ∧ a.block = k := fun k hk => by
    cases hp : ka with
    | none => rw [hp] at hk; cases hk
    | some a => rw [hp] at hk; exact ⟨a, rfl, by simpa [Value.ownBlock] using hk⟩
  have hb : W'.heap[nb]? = some (.cells #[.slice pa np cp, .slice sa ns cs, .slice ka nk ck] 28 (0, 0)) := (hg.block nb (lt_of_heap h.hb) (fun e => by
    obtain ⟨a, ea, eb⟩ := hne nb e.symm
    have o1 := h.oK
    rw [ea] at o1
    exact own_neB o1 h.hb (by decide) eb)).trans h.hb
  have fs : Fr (fun k => k = nb) W' (W'.setCell ⟨nb, 2, none⟩ (.slice (some ⟨g, 0, none⟩) (nk + 1) cap)) := (Fr.refl (fun k => k = nb) W').setCell (p := ⟨nb, 2, none⟩) (fun _ => rfl) _
  have own1 : Own W' 59 33 (some ⟨g, 0, none⟩) (nk + 1) cap := ⟨xs, ho⟩
  have kP : Own (W'.setCell ⟨nb, 2, none⟩ (.slice (some ⟨g, 0, none⟩) (nk + 1) cap)) 48 2 pa np cp := h.oP.keep (fun a e => by
    have o2 := h.oP
    rw [e] at o2
    have hb2 : W'.heap[a.block]? = W.heap[a.block]? := hg.block _ o2.lt (fun e2 => by
      obtain ⟨a1, ea, eb⟩ := hne _ e2.symm
      have o1 := h.oK
      rw [ea] at o1
      obtain ⟨cur, hc, _⟩ := o2.blk
      exact own_neB o1 hc (by decide) eb)
    exact (fs.block _ (Nat.lt_of_lt_of_le o2.lt hg.size) (fun e2 => own_neB o2 h.hb (by decide) e2)).trans hb2)
  have kS : Own (W'.setCell ⟨nb, 2, none⟩ (.slice (some ⟨g, 0, none⟩) (nk + 1) cap)) 9 1 sa ns cs := h.oS.keep (fun a e => by
    have o2 := h.oS
    rw [e] at o2
    have hb2 : W'.heap[a.block]? = W.heap[a.block]? := hg.block _ o2.lt (fun e2 => by
      obtain ⟨a1, ea, eb⟩ := hne _ e2.symm
      have o1 := h.oK
      rw [ea] at o1
      obtain ⟨cur, hc, _⟩ := o2.blk
      exact own_neB o1 hc (by decide) eb)
    exact (fs.block _ (Nat.lt_of_lt_of_le o2.lt hg.size) (fun e2 => own_neB o2 h.hb (by decide) e2)).trans hb2)
  have kK : Own (W'.setCell ⟨nb, 2, none⟩ (.slice (some ⟨g, 0, none⟩) (nk + 1) cap)) 59 33 (some ⟨g, 0, none⟩) (nk + 1) cap := own1.keep (fun a e => by
    cases e
    exact fs.block _ own1.lt (fun e2 => own_neB own1 hb (by decide) e2))
  refine ⟨⟨heap_setCell_same W' nb 2 _ _ _ hb, kP, kS, kK, Fr.trans (Fr.grown h.fr hg (fun k hk hl => by
    obtain ⟨a, ea, eb⟩ := hne k hk
    rw [← eb] at hl ⊢
    exact h.hS a (Or.inr <| Or.inr ea) hl)) fs (fun j hj e => by have := h.hn; omega), fun a ha hl => ?_, h.hn⟩, ⟨(cell_of_row _ _ _ _ _ _ hb).trans rfl, (cell_of_row _ _ _ _ _ _ hb).trans rfl, (cell_of_row _ _ _ _ _ _ hb).trans rfl⟩, frozen_of_row W' nb 2 _ _ hb⟩
  rcases ha with ha | ha | ha
  · exact h.hS a (Or.inl ha) hl
  · exact h.hS a (Or.inr <| Or.inl ha) hl
  · cases ha
    rcases hat with e1 | e1
    · obtain ⟨a1, ea, eb⟩ := hne g e1
      have := h.hS a1 (Or.inr <| Or.inr ea) (by rw [eb]; exact hl)
      rw [eb] at this; exact this
    · simp only at hl; omega
end Go.Proofs.Ytmgkdnejjemfeaa
namespace Go.Proofs.Ytmgkdnejjemfeaa
open Go.RowKit

end Go.Proofs.Ytmgkdnejjemfeaa
