/- rises over texts; IndexFunc, ContainsFunc over pairs and over kids. -/
import Derived.Test.YtjlbkagkmcelgaaN2
namespace Go.Proofs.Ytjlbkagkmcelgaa
open Go.RowKit

set_option maxRecDepth 100000 in
set_option maxHeartbeats 1000000 in
theorem risesTexts_calls {p q : Int} (hp : p = 1024 ∨ p = 2048 ∨ p = 4096 ∨ p = 8192) {pa : Option Addr} {pb po cp : Nat} {ps : List ByteArray} (w : World) (hr : TRow w pa pb po ps) (hn : ps.length ≤ 4611686018427387904) :
    Calls Try.prog 60 #[frameV p q, .slice pa ps.length cp, .func (.func 61) #[] #[]] w fun e w' => e = .returned (.bool (risesP (p / 16) ⟨#[]⟩ ps)) ∧ Same w w' := by
  have HK : Hid (∀ k W, Calls Try.prog 61 #[.string k] W fun e w' => e = .returned (.string k) ∧ Same W w') := sepKey_calls
  have HM : Hid (∀ W, Calls Try.prog 75 #[frameV p q] W fun e w' => e = .returned (.int .i64 (p / 16)) ∧ Same W w') := MaxKey_calls hp
  obtain ⟨mk, hmk⟩ : ∃ mk : Int, mk = p / 16 := ⟨_, rfl⟩
  rw [← hmk] at HM ⊢
  obtain ⟨V, hV⟩ : ∃ V, V = w.alloc (.cells #[.int .i64 p, .int .i64 q] 48) := ⟨_, rfl⟩
  have sx : Same w V := by rw [hV]; exact (Fr.refl _ w).alloc _
  have HC : Hid (∀ W, Same V W → W.cell? ⟨w.heap.size, 0, none⟩ = some (.int .i64 p) ∧ W.cell? ⟨w.heap.size, 1, none⟩ = some (.int .i64 q)) := fun W h => ⟨h.keep (by rw [hV]; simp), h.keep (by rw [hV]; simp)⟩
  have HR : Hid (TRow V pa pb po ps) := hr.same sx
  obtain ⟨n, hnn⟩ : ∃ n, n = ps.length := ⟨_, rfl⟩
  rw [← hnn] at hn ⊢
  have HN : Hid (n = ps.length) := hnn
  clear hp hmk hr hnn
  go_enter Try.func60, Try.ntmps60
  go_wp2_with fail
  rw [← hV]
  clear hV
  go_loopg [7, 13] n (fun g av iv wr => ∃ (k : Nat) (A : ByteArray), av = .string A ∧ iv = .int .i64 (k : Int) ∧ k ≤ n ∧ g = n - k ∧ Hid (risesP mk ⟨#[]⟩ ps = risesP mk A (ps.drop k)) ∧ Same V wr)
  case atStart => exact ⟨0, ⟨#[]⟩, rfl, rfl, by omega, rfl, rfl, Fr.refl _ V⟩
  case round =>
    obtain ⟨k, A, rfl, rfl, hk, hg, HI, sr⟩ := hrel
    by_cases hgo : k < n
    · obtain ⟨a, hx⟩ : ∃ x, ps[k]? = some x := ⟨_, List.getElem?_eq_getElem (by rw [← HN.out]; exact hgo)⟩
      have hc := (HR.out.same sr).cells k a hx
      have hc0 := hc
      obtain ⟨hpa, hlt⟩ := (HR.out.same sr).place (by intro e; rw [e] at hx; simp at hx)
      subst hpa
      have hdrop : ps.drop k = a :: ps.drop (k + 1) := by
        have hl : k < ps.length := by rw [← HN.out]; exact hgo
        have e : ps[k] = a := by rw [List.getElem?_eq_getElem hl] at hx; exact Option.some.inj hx
        rw [List.drop_eq_getElem_cons hl, e]
      have HI2 : Hid (risesP mk ⟨#[]⟩ ps = if (Op.bytesLess a.toList A.toList || a.toList == A.toList) = true then false else if mk < (a.size : Int) then false else risesP mk a (ps.drop (k + 1))) := by
        show _ = _
        rw [HI.out, hdrop]; rfl
      obtain ⟨bl, hbl⟩ : ∃ bl, (Op.bytesLess a.toList A.toList || a.toList == A.toList) = bl := ⟨_, rfl⟩
      rw [hbl] at HI2
      obtain ⟨d0, d1⟩ := HC.out _ sr
      clear hc hx hdrop HI
      go_wp2_with fail
      refine (HK.out a _).mono ?_
      rintro e W1 ⟨rfl, s2⟩
      have t1 := Same.trans sr s2
      obtain ⟨d0, d1⟩ := HC.out _ t1
      clear s2 hc0
      cases bl
      · go_wp2_with fail
        refine (HM.out _).mono ?_
        rintro e W2 ⟨rfl, s3⟩
        have t2 := t1.trans s3
        clear t1 s3 d0 d1
        by_cases hz : mk < (a.size : Int)
        · have hr : Hid (risesP mk ⟨#[]⟩ ps = false) := by show _ = _; rw [HI2.out, if_neg (by simp), if_pos hz]
          go_wp2_with fail
          go_ret
          exact ⟨by rw [hr.out]; rfl, sx.trans t2⟩
        · have HI3 : Hid (risesP mk ⟨#[]⟩ ps = risesP mk a (ps.drop (k + 1))) := by
            show _ = _
            rw [HI2.out, if_neg (by simp), if_neg hz]
          have hz' : decide (mk < (a.size : Int)) = false := decide_eq_false hz
          clear hz HI2
          go_wp2_with fail
          go_roundg (n - (k + 1))
          case measure => omega
          case rel => exact ⟨k + 1, a, rfl, by go_num, by omega, rfl, HI3, t2⟩
      · have hr : Hid (risesP mk ⟨#[]⟩ ps = false) := by show _ = _; rw [HI2.out, if_pos rfl]
        go_wp2_with fail
        go_ret
        exact ⟨by rw [hr.out]; rfl, sx.trans t1⟩
    · obtain rfl : k = n := by omega
      have hr : Hid (risesP mk ⟨#[]⟩ ps = true) := by
        show _ = _
        rw [HI.out, HN.out, List.drop_length]; rfl
      clear HI
      go_wp2_with fail
      go_ret
      exact ⟨by rw [hr.out]; rfl, sx.trans sr⟩

/-- The first place at which it says yes; -1, if there is none. -/
def firstAt {α : Type} (f : α → Bool) (l : List α) : Int := match l.findIdx? f with | some i => i | none => -1
theorem firstAt_any {α : Type} (f : α → Bool) (l : List α) : decide (0 ≤ firstAt f l) = l.any f := by
  unfold firstAt
  cases h : l.findIdx? f with
  | none =>
    have : l.any f = false := by rw [List.findIdx?_eq_none_iff] at h; rw [List.any_eq_false]; intro x hx; rw [h x hx]; simp
    rw [this]; rfl
  | some i =>
    have : l.any f = true := by
      rw [List.findIdx?_eq_some_iff_getElem] at h
      obtain ⟨hi, hy, _⟩ := h
      rw [List.any_eq_true]
      exact ⟨l[i], List.getElem_mem hi, hy⟩
    rw [this]; simp
end Go.Proofs.Ytjlbkagkmcelgaa
