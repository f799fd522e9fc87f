/- rises over pairs and over texts; ContainsFunc over pairs. -/
import Derived.Test.YtjlbkagkmcelgaaN1
namespace Go.Proofs.Ytjlbkagkmcelgaa
open Go.RowKit

/-- Each key above the one ahead, and not too long. -/
def risesP (mk : Int) : ByteArray → List ByteArray → Bool
  | _, [] => true
  | ahead, k :: l => if (Op.bytesLess k.toList ahead.toList || k.toList == ahead.toList) = true then false else if mk < (k.size : Int) then false else risesP mk k l

set_option maxRecDepth 100000 in
theorem pairKey_calls (k v : ByteArray) (w : World) : Calls Try.prog 56 #[.agg #[.string k, .string v]] w fun e w' => e = .returned (.string k) ∧ Same w w' := by
  go_enter Try.func56, Try.ntmps56
  go_wp2
  go_ret
  exact ⟨rfl, (Fr.refl _ w).alloc _⟩
set_option maxRecDepth 100000 in
theorem sepKey_calls (k : ByteArray) (w : World) : Calls Try.prog 61 #[.string k] w fun e w' => e = .returned (.string k) ∧ Same w w' := by
  go_enter Try.func61, Try.ntmps61
  go_wp2
  go_ret
  exact ⟨rfl, Fr.refl _ w⟩

set_option maxRecDepth 100000 in
set_option maxHeartbeats 1000000 in
theorem risesPairs_calls {p q : Int} (hp : p = 1024 ∨ p = 2048 ∨ p = 4096 ∨ p = 8192) {pa : Option Addr} {pb po cp : Nat} {ps : List (ByteArray × ByteArray)} (w : World) (hr : PRow w pa pb po ps) (hn : ps.length ≤ 4611686018427387904) :
    Calls Try.prog 55 #[frameV p q, .slice pa ps.length cp, .func (.func 56) #[] #[]] w fun e w' => e = .returned (.bool (risesP (p / 16) ⟨#[]⟩ (ps.map (·.1)))) ∧ Same w w' := by
  have HK : Hid (∀ k v W, Calls Try.prog 56 #[.agg #[.string k, .string v]] W fun e w' => e = .returned (.string k) ∧ Same W w') := pairKey_calls
  have HM : Hid (∀ W, Calls Try.prog 75 #[frameV p q] W fun e w' => e = .returned (.int .i64 (p / 16)) ∧ Same W w') := MaxKey_calls hp
  obtain ⟨mk, hmk⟩ : ∃ mk : Int, mk = p / 16 := ⟨_, rfl⟩
  rw [← hmk] at HM ⊢
  obtain ⟨V, hV⟩ : ∃ V, V = w.alloc (.cells #[.int .i64 p, .int .i64 q] 48) := ⟨_, rfl⟩
  have sx : Same w V := by rw [hV]; exact (Fr.refl _ w).alloc _
  have HC : Hid (∀ W, Same V W → W.cell? ⟨w.heap.size, 0, none⟩ = some (.int .i64 p) ∧ W.cell? ⟨w.heap.size, 1, none⟩ = some (.int .i64 q)) := fun W h => ⟨h.keep (by rw [hV]; simp), h.keep (by rw [hV]; simp)⟩
  have HR : Hid (PRow V pa pb po ps) := hr.same sx
  obtain ⟨n, hnn⟩ : ∃ n, n = ps.length := ⟨_, rfl⟩
  rw [← hnn] at hn ⊢
  have HN : Hid (n = ps.length) := hnn
  clear hp hmk hr hnn
  go_enter Try.func55, Try.ntmps55
  go_wp2_with fail
  rw [← hV]
  clear hV
  go_loopg [7, 13] n (fun g av iv wr => ∃ (k : Nat) (A : ByteArray), av = .string A ∧ iv = .int .i64 (k : Int) ∧ k ≤ n ∧ g = n - k ∧ Hid (risesP mk ⟨#[]⟩ (ps.map (·.1)) = risesP mk A ((ps.drop k).map (·.1))) ∧ Same V wr)
  case atStart => exact ⟨0, ⟨#[]⟩, rfl, rfl, by omega, rfl, rfl, Fr.refl _ V⟩
  case round =>
    obtain ⟨k, A, rfl, rfl, hk, hg, HI, sr⟩ := hrel
    by_cases hgo : k < n
    · obtain ⟨x, hx⟩ : ∃ x, ps[k]? = some x := ⟨_, List.getElem?_eq_getElem (by rw [← HN.out]; exact hgo)⟩
      obtain ⟨a, b⟩ := x
      have hc := (HR.out.same sr).cells k (a, b) hx
      have hc0 := hc.1
      have hc1 := hc.2
      obtain ⟨hpa, hlt⟩ := (HR.out.same sr).place (by intro e; rw [e] at hx; simp at hx)
      subst hpa
      have hdrop : ps.drop k = (a, b) :: ps.drop (k + 1) := by
        have hl : k < ps.length := by rw [← HN.out]; exact hgo
        have e : ps[k] = (a, b) := by rw [List.getElem?_eq_getElem hl] at hx; exact Option.some.inj hx
        rw [List.drop_eq_getElem_cons hl, e]
      have HI2 : Hid (risesP mk ⟨#[]⟩ (ps.map (·.1)) = if (Op.bytesLess a.toList A.toList || a.toList == A.toList) = true then false else if mk < (a.size : Int) then false else risesP mk a ((ps.drop (k + 1)).map (·.1))) := by
        show _ = _
        rw [HI.out, hdrop]; rfl
      obtain ⟨bl, hbl⟩ : ∃ bl, (Op.bytesLess a.toList A.toList || a.toList == A.toList) = bl := ⟨_, rfl⟩
      rw [hbl] at HI2
      obtain ⟨d0, d1⟩ := HC.out _ sr
      clear hc hx hdrop HI
      have s1 : Same V (wr.alloc (.cells #[.string a, .string b] 33)) := sr.alloc _
      go_wp2_with fail
      refine (HK.out a b _).mono ?_
      rintro e W1 ⟨rfl, s2⟩
      have t1 := Same.trans s1 s2
      obtain ⟨d0, d1⟩ := HC.out _ t1
      clear s1 s2 hc0 hc1
      cases bl
      · go_wp2_with fail
        refine (HM.out _).mono ?_
        rintro e W2 ⟨rfl, s3⟩
        have t2 := t1.trans s3
        clear t1 s3 d0 d1
        by_cases hz : mk < (a.size : Int)
        · have hr : Hid (risesP mk ⟨#[]⟩ (ps.map (·.1)) = false) := by show _ = _; rw [HI2.out, if_neg (by simp), if_pos hz]
          go_wp2_with fail
          go_ret
          exact ⟨by rw [hr.out]; rfl, sx.trans t2⟩
        · have HI3 : Hid (risesP mk ⟨#[]⟩ (ps.map (·.1)) = risesP mk a ((ps.drop (k + 1)).map (·.1))) := by
            show _ = _
            rw [HI2.out, if_neg (by simp), if_neg hz]
          have hz' : decide (mk < (a.size : Int)) = false := decide_eq_false hz
          clear hz HI2
          go_wp2_with fail
          go_roundg (n - (k + 1))
          case measure => omega
          case rel => exact ⟨k + 1, a, rfl, by go_num, by omega, rfl, HI3, t2⟩
      · have hr : Hid (risesP mk ⟨#[]⟩ (ps.map (·.1)) = false) := by show _ = _; rw [HI2.out, if_pos rfl]
        go_wp2_with fail
        go_ret
        exact ⟨by rw [hr.out]; rfl, sx.trans t1⟩
    · obtain rfl : k = n := by omega
      have hr : Hid (risesP mk ⟨#[]⟩ (ps.map (·.1)) = true) := by
        show _ = _
        rw [HI.out, HN.out, List.drop_length]; rfl
      clear HI
      go_wp2_with fail
      go_ret
      exact ⟨by rw [hr.out]; rfl, sx.trans sr⟩
end Go.Proofs.Ytjlbkagkmcelgaa
