/- free: the document's SameNumbers where lists are alike. -/
import Derived.Test.YtajbifblbmlffaaEY
namespace Go.Proofs.Ytajbifblbmlffaa
open Go.RowKit Go.Maps

set_option maxRecDepth 100000 in
set_option maxHeartbeats 1000000 in
theorem sameNumbers_true {pa pa2 : Option Addr} {pb po cp pb2 po2 cp2 : Nat} {ns : List Nat} (w : World) (h : NRow w pa pb po ns) (h2 : NRow w pa2 pb2 po2 ns) (hn : ns.length ≤ 1099511627776) :
    Calls Try.prog 18 #[.slice pa ns.length cp, .slice pa2 ns.length cp2] w fun e w' => e = .returned (.bool true) ∧ Same w w' := by
  have HR : Hid (∀ W, Same w W → NRow W pa pb po ns ∧ NRow W pa2 pb2 po2 ns) := fun W s => ⟨h.same s, h2.same s⟩
  obtain ⟨n, hnn⟩ : ∃ n, n = ns.length := ⟨_, rfl⟩
  rw [← hnn] at hn ⊢
  have HN : Hid (n = ns.length) := hnn
  clear h h2 hnn
  go_enter Try.func18, Try.ntmps18
  go_wp2_with fail
  go_loopg [5] n (fun g iv wr => ∃ k : Nat, iv = .int .i64 (k : Int) ∧ k ≤ n ∧ g = n - k ∧ Hid (Same w wr))
  case atStart => exact ⟨0, rfl, by omega, rfl, Fr.refl _ w⟩
  case round =>
    obtain ⟨k, rfl, hk, hg, HS⟩ := hrel
    by_cases hgo : k < n
    · have hgi : (k : Int) < (n : Int) := by omega
      obtain ⟨a, hx⟩ : ∃ x, ns[k]? = some x := ⟨_, List.getElem?_eq_getElem (by rw [← HN.out]; exact hgo)⟩
      have hne : ns ≠ [] := by intro e; rw [e] at hx; simp at hx
      obtain ⟨ha, hb⟩ := HR.out _ HS.out
      have c1 := ha.cells k a hx
      have c2 := hb.cells k a hx
      obtain ⟨hpa, _⟩ := ha.place hne
      obtain ⟨hpb, _⟩ := hb.place hne
      subst hpa
      subst hpb
      have HD : Hid (Same w wr.drew) := Fr.drew HS.out
      clear hx hne ha hb
      go_wp2_with fail
      go_region
      generalize wr.drew = X at *
      clear c1 c2
      go_wp2_with fail
      go_roundg (n - (k + 1))
      case measure => omega
      case rel => exact ⟨k + 1, by go_num, by omega, rfl, HD⟩
    · have hgi : ¬ (k : Int) < (n : Int) := by omega
      go_wp2_with fail
      go_ret
      exact ⟨rfl, HS.out⟩
end Go.Proofs.Ytajbifblbmlffaa
