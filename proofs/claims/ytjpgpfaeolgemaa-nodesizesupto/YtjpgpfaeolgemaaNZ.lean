/- NodeSizes. -/
import Derived.Test.YtjpgpfaeolgemaaNY
namespace Go.Proofs.Ytjpgpfaeolgemaa
open Go.RowKit

theorem sum_take_le {α : Type} (f : α → Nat) (l : List α) (m : Nat) : ((l.take m).map f).sum ≤ (l.map f).sum := by
  induction l generalizing m with
  | nil => simp
  | cons x l ih =>
    cases m with
    | zero => simp
    | succ m =>
      have := ih m
      rw [List.take_succ_cons, List.map_cons, List.sum_cons, List.map_cons, List.sum_cons]; omega
theorem bare_length {X Y : List Kid} (h : X.map bareK = Y.map bareK) : X.length = Y.length := by
  have := congrArg List.length h
  simpa using this
theorem sizes_walk {p q : Int} {r : Nr} {N : Nd} {pg : Int} (w : World) (h : NdOk w r q N) (hsm : NdSmall N) :
    Calls Try.prog 6 #[frameV p q, ndV r N, .int .u32 pg] w fun e w' => e = .returned (.bool true) ∧ Same w w' := by
  have HZ := fun W (s : Same w W) => size_calls (p := p) W (h.same s)
  have HC := fun W (s : Same w W) => check_calls p q W (h.same s).at_
  have lp : N.ps.length ≤ 1048576 := Nat.le_trans (sum_len (fun x : ByteArray × ByteArray => x.1.size + x.2.size + 1) N.ps (fun x _ => by omega)) hsm.hp
  have ls : N.ss.length ≤ 1048576 := Nat.le_trans (sum_len (fun x : ByteArray => x.size + 1) N.ss (fun x _ => by omega)) hsm.hs
  have lk := hsm.hk
  by_cases hc : chkN p q N = 0
  · rw [hc] at HC
    obtain ⟨hf, _⟩ := chk_zero hc
    obtain ⟨hp, hq1, hq2⟩ := frameP_cases hf
    obtain ⟨hm1, hm2⟩ := form_most h.at_.ok hc
    have hsz : sizeV p q N = ((formN true q N).length : Int) := by unfold sizeV; rw [if_pos hc]
    have b1 : (N.ps.length : Int) * (p / 16 + p / 8 + 4) ≤ (N.ps.length : Int) * 1600 := Int.mul_le_mul_of_nonneg_left (by omega) (by omega)
    have b2 : 0 ≤ (N.ps.length : Int) * (p / 16 + p / 8 + 4) := Int.mul_nonneg (by omega) (by omega)
    have b3 : (N.ks.length : Int) * (p / 16 + 6 + q) ≤ (N.ks.length : Int) * 600 := Int.mul_le_mul_of_nonneg_left (by omega) (by omega)
    have b4 : 0 ≤ (N.ks.length : Int) * (p / 16 + 6 + q) := Int.mul_nonneg (by omega) (by omega)
    refine sizes_good (a := p / 16) (b := p / 8) (ab := p / 16 + p / 8) (c := p / 16 + p / 8 + 4) (m1 := (N.ps.length : Int) * (p / 16 + p / 8 + 4)) (m2 := 11 + (N.ps.length : Int) * (p / 16 + p / 8 + 4)) (d := p / 16 + 6) (e := p / 16 + 6 + q) (m3 := (N.ks.length : Int) * (p / 16 + 6 + q)) (MO := 11 + (N.ps.length : Int) * (p / 16 + p / 8 + 4) + (N.ks.length : Int) * (p / 16 + 6 + q)) w
      (by rcases hp with rfl | rfl | rfl | rfl <;> kernel_rfl) (by rcases hp with rfl | rfl | rfl | rfl <;> kernel_rfl) (IntWalk.wrap64_in _ (by omega)) (IntWalk.wrap64_in _ (by omega)) (IntWalk.wrap64_in _ (by omega)) (IntWalk.wrap64_in _ (by omega)) (IntWalk.wrap64_in _ (by omega)) (IntWalk.wrap64_in _ (by omega)) (IntWalk.wrap64_in _ (by omega)) (IntWalk.wrap64_in _ (by omega))
      (by omega) (by omega) lk lp ls h.at_ (fun X hX hb t => ?_) (fun W r' X hb hn => ?_) HZ HC (fun m x e1 e2 hx => ?_) h.at_.ok (fun W s => copy_walk W (h.same s).at_ lp ls lk)
    · exact NdSmall.form (N := ⟨N.ps, N.ss, X⟩) ⟨hsm.hp, hsm.hs, by show X.length ≤ _; rw [bare_length hb]; exact lk⟩ hX t q
    · have := size_calls (p := p) W hn
      rw [sizeV_kids hb] at this
      exact this
    · obtain ⟨n, z1, z2, k1, k2⟩ := last_size hc m x e1 e2 hx
      have hpl := pairB_len2 k1 k2
      refine ⟨(n : Int), ((pairB x).length : Int), (x.1.size : Int) + (x.2.size : Int), fun W r' X hb hn => ?_, fun X hX hb t => ?_, ?_, IntWalk.wrap64_in _ (by omega), IntWalk.wrap64_in _ (by omega), IntWalk.wrap64_in _ (by omega), by omega, by omega⟩
      · have := size_calls (p := p) W hn
        rw [sizeV_kids (N := ⟨N.ps.take m, N.ss, N.ks⟩) hb, z1] at this
        exact this
      · exact NdSmall.form (N := ⟨N.ps.take m, N.ss, X⟩) ⟨Nat.le_trans (sum_take_le _ N.ps m) hsm.hp, hsm.hs, by show X.length ≤ _; rw [bare_length hb]; exact lk⟩ hX t q
      · rw [z2, IntWalk.wrap64_in _ (by omega)]; omega
  · have e : sizeV p q N = 0 := by unfold sizeV; rw [if_neg hc]
    rw [e] at HZ
    exact sizes_bad w HZ HC hc
end Go.Proofs.Ytjpgpfaeolgemaa
