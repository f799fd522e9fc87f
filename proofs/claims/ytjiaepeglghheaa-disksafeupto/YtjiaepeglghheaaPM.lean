/- DiskSafe: its loop over the script, whole. -/
import Derived.Test.YtjiaepeglghheaaPL
namespace Go.Proofs.Ytjiaepeglghheaa
open Go.RowKit

theorem spC_one {s : Sp} (h : s.av.oneCell' = true ∧ s.fv.oneCell' = true) : (spC s).toArray.all (·.oneCell') = true := by
  simp [spC, Value.oneCell']
  exact h
theorem plays_safe : ∀ {L : List Sp} {D : Dk}, DkSafe D → DkSafe (playsD D L)
  | [], _, h => h
  | s :: L, _, h => plays_safe (L := L) (play_safe (s := s) h)
theorem plL {xc b bw m sc : Nat} {xa sa : Option Addr} {L : List Sp} {D : Dk} {w : World} {U V : Nat → Prop} {v1 : Value} {Q : Exit → Act → World → Prop} (hQp : ∀ c (a : Act) d v w, Q (.panic c) (a.put d v) w → Q (.panic c) a w) (a0 : Act) (wr : World)
    (I0 : IPL (.slice xa L.length xc) v1 (.pointer (some ⟨b, 0, none⟩)) (.slice sa D.I.length sc) (.slice (some ⟨bw, 0, none⟩) 8 8) a0) (h9 : a0.eval (.tmp 9) = .int .i64 ((0 : Nat) : Int)) (hL : SpRow w xa L) (hg : SfW w wr b bw D sa sc U V) (hI : DkIn D m) (hm : m + L.length ≤ 1048576) (hs : DkSafe D)
    (hQ : ∀ a W bw' sa' sc' (U' V' : Nat → Prop), IPL (.slice xa L.length xc) v1 (.pointer (some ⟨b, 0, none⟩)) (.slice sa' (playsD D L).I.length sc') (.slice (some ⟨bw', 0, none⟩) 8 8) a → SfW w W b bw' (playsD D L) sa' sc' U' V' → Q (.exit 0) a W) : (Code.loop cPL1).wp Try.prog Q a0 wr := by
  refine wp_loop (fun a W => ∃ (i bw' : Nat) (sa' : Option Addr) (sc' : Nat) (U' V' : Nat → Prop), i ≤ L.length ∧ a.eval (.tmp 9) = .int .i64 (i : Int) ∧ IPL (.slice xa L.length xc) v1 (.pointer (some ⟨b, 0, none⟩)) (.slice sa' (playsD D (L.take i)).I.length sc') (.slice (some ⟨bw', 0, none⟩) 8 8) a ∧ SfW w W b bw' (playsD D (L.take i)) sa' sc' U' V') (fun a _ => L.length - kOf a 9) ⟨0, bw, sa, sc, U, V, Nat.zero_le _, h9, I0, hg⟩ ?_
  rintro a W ⟨i, bw1, sa1, sc1, U1, V1, hi, g9, I1, g1⟩
  by_cases hgo : i < L.length
  · obtain ⟨s, hx⟩ : ∃ s, L[i]? = some s := ⟨_, List.getElem?_eq_getElem hgo⟩
    have hne : L ≠ [] := fun e => by rw [e] at hgo; cases hgo
    obtain ⟨g, o, rfl, hg1⟩ := hL.place hne
    have hrow := (hL.fr g1.same (fun _ _ _ _ f => f)).rows g o rfl i s hx
    have hmem := List.mem_of_getElem? hx
    have hI1 : DkIn (playsD D (L.take i)) (m + i) := by
      have := plays_in (L := L.take i) hI
      rw [List.length_take, Nat.min_eq_left hi] at this
      exact this
    have hs1 : DkSafe (playsD D (L.take i)) := plays_safe hs
    have next : ∀ a' W3 bw3 sa3 sc3 (U3 V3 : Nat → Prop), IPL (.slice (some ⟨g, o, none⟩) L.length xc) v1 (.pointer (some ⟨b, 0, none⟩)) (.slice sa3 (playD (playsD D (L.take i)) s).I.length sc3) (.slice (some ⟨bw3, 0, none⟩) 8 8) a' → a'.eval (.tmp 9) = .int .i64 ((i : Int) + 1) → SfW w W3 b bw3 (playD (playsD D (L.take i)) s) sa3 sc3 U3 V3 →
        (∃ (i' bw' : Nat) (sa' : Option Addr) (sc' : Nat) (U' V' : Nat → Prop), i' ≤ L.length ∧ a'.eval (.tmp 9) = .int .i64 (i' : Int) ∧ IPL (.slice (some ⟨g, o, none⟩) L.length xc) v1 (.pointer (some ⟨b, 0, none⟩)) (.slice sa' (playsD D (L.take i')).I.length sc') (.slice (some ⟨bw', 0, none⟩) 8 8) a' ∧ SfW w W3 b bw' (playsD D (L.take i')) sa' sc' U' V') ∧ L.length - kOf a' 9 < L.length - kOf a 9 := by
      intro a' W3 bw3 sa3 sc3 U3 V3 i3 h1 g3
      have h4 : a'.eval (.tmp 9) = .int .i64 ((i + 1 : Nat) : Int) := h1
      refine ⟨⟨i + 1, bw3, sa3, sc3, U3, V3, hgo, h4, by rw [playsD_snoc hx]; exact i3, by rw [playsD_snoc hx]; exact g3⟩, ?_⟩
      rw [kOf_eq h4, kOf_eq g9]
      omega
    by_cases h3 : s.do_ = 3
    · exact plS (Q := Exit.then _ Q) a W I1 g9 hgo (by omega) hrow (hL.no s hmem) (spC_one (hL.one s hmem)) g1 hI1 (by omega) hs1 h3 next
    · by_cases h1 : s.do_ = 1
      · cases hpe : playE (playsD D (L.take i)) s with
        | true => exact plW (Q := Exit.then _ Q) hQp a W I1 g9 hgo (by omega) hrow (hL.no s hmem) (spC_one (hL.one s hmem)) g1 hI1 (by omega) hs1 hpe h1 next
        | false => exact plF (Q := Exit.then _ Q) a W I1 g9 hgo (by omega) hrow (hL.no s hmem) (spC_one (hL.one s hmem)) g1 hI1 (by omega) hs1 hpe h1 next
      · exact plN (Q := Exit.then _ Q) a W I1 g9 hgo (by omega) hrow (hL.no s hmem) (spC_one (hL.one s hmem)) g1 hI1 (by omega) hs1 rfl h1 h3 next
  · obtain rfl : L.length = i := by omega
    rw [playsD_all] at I1 g1
    exact plE a W I1 g9 (Nat.le_refl _) (fun a' i2 => hQ a' W _ _ _ _ _ i2 g1)
end Go.Proofs.Ytjiaepeglghheaa
