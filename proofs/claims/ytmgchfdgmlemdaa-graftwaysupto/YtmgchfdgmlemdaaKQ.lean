/- The document's Find and Way; Way. -/
import Derived.Test.YtmgchfdgmlemdaaK1
import Derived.Test.YtmgchfdgmlemdaaK7
import Derived.Deep.QuietTactic
namespace Go.Proofs.Ytmgchfdgmlemdaa
open Go.RowKit

def aboveB (key x : ByteArray) : Bool := !Op.bytesLess x.toList key.toList && !x.toList == key.toList
def wayI (key : ByteArray) (ss : List ByteArray) : Int := if 0 ≤ firstAt (aboveB key) ss then firstAt (aboveB key) ss else ss.length
theorem above_calls {b : Nat} {x key : ByteArray} (w : World) (h : w.cell? ⟨b, 0, none⟩ = some (.string key)) :
    Calls Try.prog 19 #[.string x, .pointer (some ⟨b, 0, none⟩)] w fun e w' => e = .returned (.bool (aboveB key x)) ∧ Same w w' := by
  go_enter Try.func19, Try.ntmps19
  go_wp2_with fail
  go_ret
  exact ⟨rfl, Fr.refl _ w⟩
set_option maxRecDepth 100000 in
set_option maxHeartbeats 1000000 in
theorem index_texts (f : ByteArray → Bool) {pa : Option Addr} {pb po cp fb : Nat} {ps : List ByteArray} (w : World) (hr : TRow w pa pb po ps) (hn : ps.length ≤ 4611686018427387904)
    (HF : Hid (∀ x W, Same w W → Calls Try.prog 19 #[.string x, .pointer (some ⟨fb, 0, none⟩)] W fun e w' => e = .returned (.bool (f x)) ∧ Same W w')) :
    Calls Try.prog 20 #[.slice pa ps.length cp, .func (.func 19) #[] #[.pointer (some ⟨fb, 0, none⟩)]] w fun e w' => e = .returned (.int .i64 (firstAt f ps)) ∧ Same w w' := by
  have HR : Hid (TRow w pa pb po ps) := hr
  obtain ⟨n, hnn⟩ : ∃ n, n = ps.length := ⟨_, rfl⟩
  rw [← hnn] at hn ⊢
  have HN : Hid (n = ps.length) := hnn
  clear hr hnn
  go_enter Try.func20, Try.ntmps20
  go_wp2_with fail
  go_loopg [8] n (fun g iv wr => ∃ (k : Nat), iv = .int .i64 (k : Int) ∧ k ≤ n ∧ g = n - k ∧ Hid (∀ j x, j < k → ps[j]? = some x → f x = false) ∧ Same w wr)
  case atStart => exact ⟨0, rfl, by omega, rfl, fun j x hj => by omega, Fr.refl _ w⟩
  case round =>
    obtain ⟨k, rfl, hk, hg, HI, sr⟩ := hrel
    by_cases hgo : k < n
    · obtain ⟨x, hx⟩ : ∃ x, ps[k]? = some x := ⟨_, List.getElem?_eq_getElem (by rw [← HN.out]; exact hgo)⟩
      have hc := (HR.out.same sr).cells k x hx
      obtain ⟨hpa, hlt⟩ := (HR.out.same sr).place (by intro e; rw [e] at hx; simp at hx)
      subst hpa
      have HX : Hid (ps[k]? = some x) := hx
      clear hx
      go_wp2_with fail
      refine (HF.out x _ sr).mono ?_
      rintro e W1 ⟨rfl, s1⟩
      have t1 := sr.trans s1
      obtain ⟨b, hb⟩ : ∃ b, f x = b := ⟨_, rfl⟩
      rw [hb]
      cases b
      · have HI2 : Hid (∀ j x, j < k + 1 → ps[j]? = some x → f x = false) := fun j y hj hy => by
          by_cases e : j = k
          · rw [e, HX.out] at hy; rw [← Option.some.inj hy]; exact hb
          · exact HI.out j y (by omega) hy
        clear HI hb
        go_wp2_with fail
        go_roundg (n - (k + 1))
        case measure => omega
        case rel => exact ⟨k + 1, by go_num, by omega, rfl, HI2, t1⟩
      · have hr : Hid (firstAt f ps = (k : Int)) := firstAt_hit HI.out HX.out hb
        clear HI hb
        go_wp2_with fail
        go_ret
        exact ⟨by rw [hr.out]; rfl, t1⟩
    · obtain rfl : k = n := by omega
      have hr : Hid (firstAt f ps = -1) := firstAt_none (fun j x hj hx => HI.out j x (by rw [HN.out]; exact hj) hx)
      clear HI
      go_wp2_with fail
      go_ret
      exact ⟨by rw [hr.out]; rfl, sr⟩
set_option maxRecDepth 100000 in
set_option maxHeartbeats 1000000 in
theorem way_calls {pa : Option Addr} {pb po cp : Nat} {sa ka : Option Addr} {ns cs nk ck : Nat} {ps : List (ByteArray)} {key : ByteArray} (w : World) (h : TRow w pa pb po ps) (hn : ps.length ≤ 4611686018427387904) :
    Calls Try.prog 8 #[nodeV sa ns cs pa ps.length cp ka nk ck, .string key] w fun e w' => e = .returned (.int .i64 (wayI key ps)) ∧ Same w w' := by
  obtain ⟨V, hV⟩ : ∃ V, V = (w.alloc (.cells #[.slice sa ns cs, .slice pa ps.length cp, .slice ka nk ck] 28)).alloc (.cells #[.string key] 9) := ⟨_, rfl⟩
  have t1 : Same w V := by rw [hV]; exact ((Fr.refl _ w).alloc _).alloc _
  have n0 : V.cell? ⟨w.heap.size, 1, none⟩ = some (.slice pa ps.length cp) := by rw [hV]; simp
  have k0 : V.cell? ⟨w.heap.size + 1, 0, none⟩ = some (.string key) := by rw [hV]; simp
  have HX : Hid (Calls Try.prog 20 #[.slice pa ps.length cp, .func (.func 19) #[] #[.pointer (some ⟨w.heap.size + 1, 0, none⟩)]] V fun e w' => e = .returned (.int .i64 (firstAt (aboveB key) ps)) ∧ Same V w') := index_texts _ V (h.same t1) hn (fun x W s => above_calls W (s.keep k0))
  have HW : Hid ((0 ≤ firstAt (aboveB key) ps → wayI key ps = firstAt (aboveB key) ps) ∧ (¬ 0 ≤ firstAt (aboveB key) ps → wayI key ps = (ps.length : Int))) := ⟨fun h => by unfold wayI; rw [if_pos h], fun h => by unfold wayI; rw [if_neg h]⟩
  generalize firstAt (aboveB key) ps = F at *
  generalize wayI key ps = R at *
  clear h k0
  go_enter Try.func8, Try.ntmps8
  go_wp2_with fail
  rw [← hV]
  clear hV
  refine HX.out.mono ?_
  rintro e W1 ⟨rfl, s1⟩
  have n0 := s1.keep n0
  by_cases hF : 0 ≤ F
  · have hR := HW.out.1 hF
    subst hR
    go_wp2_with fail
    go_ret
    exact ⟨rfl, t1.trans s1⟩
  · have hR := HW.out.2 (by omega)
    subst hR
    go_wp2_with fail
    go_ret
    exact ⟨rfl, t1.trans s1⟩
end Go.Proofs.Ytmgchfdgmlemdaa
