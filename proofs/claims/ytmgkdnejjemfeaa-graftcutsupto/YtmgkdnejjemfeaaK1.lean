/- strings.Compare, Find. -/
import Derived.Test.YtmgkdnejjemfeaaK0
import Derived.Lib.Bytealg
import Derived.WalkMore
import Derived.Deep.LoopGhost
namespace Go.Proofs.Ytmgkdnejjemfeaa
open Go.RowKit

theorem cmpS (W : World) (a b : ByteArray) : (callFunc 86 #[.string a, .string b]).run Try.prog W = .ok (.value (.int .i64 (Lib.compareBytes a.data.toList b.data.toList))) W := by
  rw [run_callFunc_extern Try.func86 (by kernel_rfl) (by kernel_rfl) (by kernel_rfl) (e := Extern.BytealgCompare.compare) (by kernel_rfl), Lib.run_compareString]
  rfl
theorem compare0_calls (a b : ByteArray) (w : World) : Calls Try.prog 80 #[.string a, .string b] w fun e w' => e = .returned (.int .i64 (Lib.compareBytes a.data.toList b.data.toList)) ∧ w' = w := by
  have h := cmpS
  go_enter Try.func80, Try.ntmps80
  go_wp2_with fail
  go_ret
  exact ⟨rfl, rfl⟩
theorem compare_calls (a b : ByteArray) (w : World) : Calls Try.prog 72 #[.string a, .string b] w fun e w' => e = .returned (.int .i64 (Lib.compareBytes a.data.toList b.data.toList)) ∧ w' = w := by
  go_enter Try.func72, Try.ntmps72
  go_wp2_with fail
  refine (compare0_calls _ _ _).mono ?_
  rintro e W ⟨rfl, rfl⟩
  go_wp2_with fail
  go_ret
  exact ⟨rfl, rfl⟩
def findP (key : ByteArray) : List (ByteArray × ByteArray) → Nat → Nat × Bool
  | [], i => (i, false)
  | x :: l, i => if Lib.compareBytes x.1.data.toList key.data.toList = 0 then (i, true) else if Lib.compareBytes x.1.data.toList key.data.toList = 1 then (i, false) else findP key l (i + 1)
set_option maxRecDepth 100000 in
set_option maxHeartbeats 1000000 in
theorem find_core {pa : Option Addr} {pb po cp : Nat} {sa ka : Option Addr} {ns cs nk ck : Nat} {ps : List (ByteArray × ByteArray)} {key : ByteArray} (w : World) (h : PRow w pa pb po ps) (hn : ps.length ≤ 4611686018427387904) :
    Calls Try.prog 52 #[nodeV pa ps.length cp sa ns cs ka nk ck, .string key] w fun e w' => e = .returned (.tuple #[.int .i64 ((findP key ps 0).1 : Int), .bool (findP key ps 0).2]) ∧ Same w w' := by
  have HC : Hid (∀ a b W, Calls Try.prog 72 #[.string a, .string b] W fun e w' => e = .returned (.int .i64 (Lib.compareBytes a.data.toList b.data.toList)) ∧ w' = W) := compare_calls
  obtain ⟨V, hV⟩ : ∃ V, V = w.alloc (.cells #[.slice pa ps.length cp, .slice sa ns cs, .slice ka nk ck] 28) := ⟨_, rfl⟩
  have t1 : Same w V := by rw [hV]; exact (Fr.refl _ w).alloc _
  have n0 : V.cell? ⟨w.heap.size, 0, none⟩ = some (.slice pa ps.length cp) := by rw [hV]; simp
  have HP : Hid (PRow V pa pb po ps) := h.same t1
  clear h
  go_enter Try.func52, Try.ntmps52
  go_wp2_with fail
  rw [← hV]
  clear hV
  go_step3
  go_wp2_with fail
  go_step3
  go_wp2_with fail
  go_loopg [6, 7, 13] ps.length (fun g av mv iv wr => ∃ k : Nat, av = .int .i64 (k : Int) ∧ mv = .bool false ∧ iv = .int .i64 (k : Int) ∧ k ≤ ps.length ∧ g = ps.length - k ∧ Hid (findP key ps 0 = findP key (ps.drop k) k) ∧ Same V wr)
  case atStart => exact ⟨0, rfl, rfl, rfl, by omega, rfl, rfl, Fr.refl _ V⟩
  case round =>
    obtain ⟨k, rfl, rfl, rfl, hk, hg, HI, sr⟩ := hrel
    by_cases hgo : k < ps.length
    · obtain ⟨x, hx⟩ : ∃ x, ps[k]? = some x := ⟨_, List.getElem?_eq_getElem hgo⟩
      obtain ⟨x0, x1⟩ := x
      obtain ⟨c0, c1⟩ := (HP.out.same sr).cells k _ hx
      obtain ⟨hpa, _⟩ := (HP.out.same sr).place (by intro e; rw [e] at hx; simp at hx)
      subst hpa
      have hdrop : ps.drop k = (x0, x1) :: ps.drop (k + 1) := by
        have e : ps[k] = (x0, x1) := by rw [List.getElem?_eq_getElem hgo] at hx; exact Option.some.inj hx
        rw [List.drop_eq_getElem_cons hgo, e]
      have HI2 : Hid (findP key ps 0 = if Lib.compareBytes x0.data.toList key.data.toList = 0 then (k, true) else if Lib.compareBytes x0.data.toList key.data.toList = 1 then (k, false) else findP key (ps.drop (k + 1)) (k + 1)) := by
        show _ = _
        rw [HI.out, hdrop]; rfl
      obtain ⟨C, hC⟩ : ∃ C, Lib.compareBytes x0.data.toList key.data.toList = C := ⟨_, rfl⟩
      rw [hC] at HI2
      have HC2 := HC.out x0 key
      rw [hC] at HC2
      clear HI hx hdrop hC
      have s1 : Same V (wr.alloc (.cells #[.string x0, .string x1] 48)) := sr.alloc _
      go_wp2_with fail
      refine (HC2 _).mono ?_
      rintro e W1 ⟨rfl, rfl⟩
      by_cases h0 : C = 0
      · subst h0
        have hr : findP key ps 0 = (k, true) := by rw [HI2.out, if_pos rfl]
        go_wp2_with fail
        rw [Exit.noGoto_ret]
        go_ret2
        exact ⟨by rw [hr]; rfl, t1.trans s1⟩
      · by_cases h1 : C = 1
        · subst h1
          have hr : findP key ps 0 = (k, false) := by rw [HI2.out, if_neg (by decide), if_pos rfl]
          go_wp2_with fail
          rw [Exit.noGoto_ret]
          go_ret2
          exact ⟨by rw [hr]; rfl, t1.trans s1⟩
        · have HI3 : Hid (findP key ps 0 = findP key (ps.drop (k + 1)) (k + 1)) := by show _ = _; rw [HI2.out, if_neg h0, if_neg h1]
          go_wp2_with fail
          go_roundg (ps.length - (k + 1))
          case measure => omega
          case rel => exact ⟨k + 1, by go_num, rfl, by go_num, by omega, rfl, HI3, s1⟩
    · obtain rfl : k = ps.length := by omega
      have hr : findP key ps 0 = (ps.length, false) := by rw [HI.out, List.drop_length]; rfl
      go_wp2_with fail
      rw [Exit.noGoto_ret]
      go_ret2
      exact ⟨by rw [hr]; rfl, t1.trans sr⟩
end Go.Proofs.Ytmgkdnejjemfeaa
