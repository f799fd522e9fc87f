/- The walk of DiskSafe, put together. -/
import Derived.Test.YtjiaepeglghheaaPR
namespace Go.Proofs.Ytjiaepeglghheaa
open Go.RowKit

theorem play_page (D : Dk) (s : Sp) : (playD D s).page = D.page ∧ (playD D s).most = D.most := by
  unfold playD
  split
  · unfold dkWrite; split <;> exact ⟨rfl, rfl⟩
  · split
    · unfold dkGrow; split <;> exact ⟨rfl, rfl⟩
    · split
      · split <;> exact ⟨rfl, rfl⟩
      · exact ⟨rfl, rfl⟩
theorem plays_page : ∀ (L : List Sp) (D : Dk), (playsD D L).page = D.page ∧ (playsD D L).most = D.most
  | [], _ => ⟨rfl, rfl⟩
  | s :: L, D => by
    have h1 := plays_page L (playD D s)
    have h2 := play_page D s
    exact ⟨h1.1.trans h2.1, h1.2.trans h2.2⟩
theorem new_safe : DkSafe (dkNew 1024 8) := ⟨rfl, rfl, fun x hx => by cases hx⟩
theorem lose_nil (D : Dk) : (dkLose D []).I = D.I := setP_zero (fun _ => rfl) _ _ _
theorem lose_all {D : Dk} (h : DkSafe D) : (dkLose D (List.replicate D.W.length 255)).I = D.P := by
  rw [h.P]
  exact setP_congr _ _ _ (fun j _ h2 => by unfold fateF; rw [List.getElem?_replicate, if_pos (by omega)]; rfl)
theorem crash_all {b fc n : Nat} {fa : Option Addr} {D : Dk} {S : Nat → Prop} (w : World) (h : DkAt w b D S) (hk : DkOk D) (hm : DkSm D 1048576) (hmI : (setP D.page (fateF (List.replicate n 255)) 0 D.W D.I).length ≤ 1048576) (hft : FtRow w fa (List.replicate n 255)) (hfs : ∀ g o, fa = some ⟨g, o, none⟩ → ¬ S g) (hoff : D.off = false) :
    Calls Try.prog 11 #[.pointer (some ⟨b, 0, none⟩), .slice fa n fc] w fun e w' => e = .returned (.int .i64 0) ∧ DkAt w' b (dkLose D (List.replicate n 255)) (Land S w w') ∧ Fr S w w' := by
  have := crash_as (fc := fc) w h hk hm hmI hft hfs hoff rfl
  rw [List.length_replicate] at this
  exact this
theorem textL_zero : ∀ n, textL 0 0 n = List.replicate n 0
  | 0 => rfl
  | n + 1 => by
    rw [List.replicate_succ, ← textL_zero n]
    rfl
theorem zeros_text : zerosT 1024 = textS (-1) 0 0 1024 := by
  unfold textS textN
  rw [if_pos (Or.inl (by decide)), textL_zero]
  unfold zerosT
  rfl
/-- What the law asks of the image. -/
theorem safe_pg {D : Dk} {n : Nat} {F : List Nat} (hI : DkIn D n) (hn : n ≤ 1048576) (hs : DkSafe D) (h10 : D.page = 1024) : ∀ p x, (dkLose D F).I[p]? = some x → PgOk (wrOf D.W) D.I (textS (-1) 0 0 1024) x p := by
  intro p x hx
  have hz := zeros_text
  have hb : oldP D.page (setP D.page (fateF F) 0 D.W D.I) p = x := by
    have hx2 : (setP D.page (fateF F) 0 D.W D.I)[p]? = some x := hx
    unfold oldP
    rw [hx2, Option.getD_some]
  have ho : oldP D.page D.I p = (D.I[p]?).getD (textS (-1) 0 0 1024) := by unfold oldP; rw [h10, hz]
  have h8 : D.page = 8 * (D.page / 8) := hI.ok.h8
  have hsz : x.size = 1024 := by rw [← h10]; exact (lose_in (F := F) hI).ok.I x (List.mem_of_getElem? hx)
  have hW : ∀ s ∈ wrOf D.W p, s.size = 1024 := fun s hs2 => by
    obtain ⟨y, hy, rfl⟩ := List.mem_map.1 hs2
    have hy := List.mem_filter.1 hy
    rw [← h10]
    refine (hI.ok.W y hy.1).data (fun e => ?_)
    have := hy.2
    rw [e] at this
    simp at this
  refine ⟨hsz, by rw [← ho, ← h10]; exact oldP_size hI.ok.I, fun h0 => ?_, Nat.le_trans (wrOf_len _ _) (Nat.le_trans hI.wl hn), hW, fun k hk => ?_⟩
  · rw [← ho, ← hb]
    refine setP_kept _ _ _ (fun y hy h2 e => ?_)
    have h1 : y.act = 1 := (hs.act y hy).resolve_right h2
    have := wrOf_mem hy h1 e
    rw [List.eq_nil_of_length_eq_zero h0] at this
    cases this
  · have := setP_sec (no := p) (f := fateF F) h8 hk D.W 0 D.I hI.ok.W hI.ok.I
    rw [hb, ho, h10] at this
    rcases this with e | ⟨y, hy, h2, h3, h4⟩
    · exact Or.inl e
    · exact Or.inr ⟨y.data, wrOf_mem hy ((hs.act y hy).resolve_right h2) h3, h4⟩
end Go.Proofs.Ytjiaepeglghheaa
