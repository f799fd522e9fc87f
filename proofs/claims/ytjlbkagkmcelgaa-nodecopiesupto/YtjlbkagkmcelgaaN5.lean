/- The closures of a node's shape; leafShaped, branchShaped, Check. -/
import Derived.Test.YtjlbkagkmcelgaaN4
import Derived.Test.YtjlbkagkmcelgaaNC
import Derived.Deep.RegionHeld3
namespace Go.Proofs.Ytjlbkagkmcelgaa
open Go.RowKit

def longB (mv : Int) (x : ByteArray × ByteArray) : Bool := decide (mv < (x.2.size : Int))
def looseB (q : Int) (k : Kid) : Bool := !fitsP q k.d
def homeB (k : Kid) : Bool := decide (k.page < 2) || decide (2147483648 ≤ k.page)

set_option maxRecDepth 100000 in
set_option maxHeartbeats 1000000 in
theorem long_calls {p q : Int} (hp : p = 1024 ∨ p = 2048 ∨ p = 4096 ∨ p = 8192) (fb : Nat) (k v : ByteArray) (w : World) (h0 : w.cell? ⟨fb, 0, none⟩ = some (.int .i64 p)) (h1 : w.cell? ⟨fb, 1, none⟩ = some (.int .i64 q)) :
    Calls Try.prog 53 #[.agg #[.string k, .string v], .pointer (some ⟨fb, 0, none⟩)] w fun e w' => e = .returned (.bool (longB (p / 8) (k, v))) ∧ Same w w' := by
  have HM : Hid (∀ W, Calls Try.prog 54 #[frameV p q] W fun e w' => e = .returned (.int .i64 (p / 8)) ∧ Same W w') := MaxVal_calls hp
  unfold longB
  obtain ⟨mv, hmv⟩ : ∃ mv : Int, mv = p / 8 := ⟨_, rfl⟩
  rw [← hmv] at HM ⊢
  obtain ⟨V, hV⟩ : ∃ V, V = w.alloc (.cells #[.string k, .string v] 33) := ⟨_, rfl⟩
  have sx : Same w V := by rw [hV]; exact (Fr.refl _ w).alloc _
  have c0 := sx.keep h0
  have c1 := sx.keep h1
  have z0 : V.cell? ⟨w.heap.size, 0, none⟩ = some (.string k) := by rw [hV]; simp
  have z1 : V.cell? ⟨w.heap.size, 1, none⟩ = some (.string v) := by rw [hV]; simp
  clear hp hmv h0 h1
  go_enter Try.func53, Try.ntmps53
  go_wp2_with fail
  rw [← hV]
  clear hV
  have d0 : Same V V.drew := Fr.drew (Fr.refl _ V)
  go_region_held3 (fun W => W.cell? ⟨fb, 0, none⟩ = some (.int .i64 p) ∧ W.cell? ⟨fb, 1, none⟩ = some (.int .i64 q) ∧ W.cell? ⟨w.heap.size, 0, none⟩ = some (.string k) ∧ W.cell? ⟨w.heap.size, 1, none⟩ = some (.string v)) (first | exact ⟨t1.keep c0, t1.keep c1, t1.keep z0, t1.keep z1⟩ | exact ⟨c0, c1, z0, z1⟩)
    (first | (go_at_call 54; refine (HM.out _).mono ?_; rintro e W1 ⟨rfl, hs⟩; have t1 := Same.trans d0 hs; clear hs))
  go_wp2_with fail
  go_ret
  exact ⟨rfl, sx.trans t1⟩

theorem kid_sum {w : World} {b o : Nat} {k : Kid} (h : w.rangeAt b o (kcells k)) : w.rangeAt b (o + 1) (bcells k.d) := by
  intro j x hx
  have := h (j + 1) x (by rw [kcells, List.getElem?_cons_succ]; exact hx)
  rw [show o + 1 + j = o + (j + 1) from by omega]
  exact this
theorem kid_box (w : World) (k : Kid) : (w.alloc (.cells (kcells k).toArray 37)).rangeAt w.heap.size 0 (kcells k) := by
  intro j x hx
  rw [Nat.zero_add, cell_of_row _ _ _ _ _ _ (heap_alloc_new w _), List.getElem?_toArray]
  exact hx
theorem Try.infoDig : (Try.prog.info? 35).map (·.size) = some 32 := by kernel_rfl
set_option maxRecDepth 100000 in
set_option maxHeartbeats 1000000 in
theorem loose_calls {q : Int} (fb : Nat) (k : Kid) (hk : KidOk k) (w : World) (h1 : w.cell? ⟨fb, 1, none⟩ = some (.int .i64 q)) :
    Calls Try.prog 58 #[kidV k, .pointer (some ⟨fb, 0, none⟩)] w fun e w' => e = .returned (.bool (looseB q k)) ∧ Same w w' := by
  have HF : Hid (∀ W, Calls Try.prog 59 #[.int .i64 q, .agg (bcells k.d).toArray] W fun e w' => e = .returned (.bool (fitsP q k.d)) ∧ Same W w') := fun W => fits_calls W q k.d hk.d
  unfold looseB
  generalize fitsP q k.d = b at *
  have sx : Same w (w.alloc (.cells (kcells k).toArray 37)) := (Fr.refl _ w).alloc _
  have c1 := sx.keep h1
  have hS := kid_sum (kid_box w k)
  have hDl : (Try.prog.info? 35).map (·.size) = some (bcells k.d).length := by rw [Try.infoDig, bcells_length, hk.d]
  generalize bcells k.d = BD at *
  unfold kidV
  generalize (kcells k).toArray = KA at *
  clear h1
  go_enter Try.func58, Try.ntmps58
  go_wp2_with (refine wpList_load_mid (by rfl) 35 _ (by rfl) w.heap.size 1 (by rfl) BD _ hS Try.underlying35 rfl hDl ?_)
  refine (HF.out _).mono ?_
  rintro e W1 ⟨rfl, s1⟩
  go_wp2_with fail
  go_ret
  exact ⟨rfl, sx.trans s1⟩
set_option maxRecDepth 100000 in
set_option maxHeartbeats 1000000 in
theorem home_calls (k : Kid) (w : World) : Calls Try.prog 31 #[kidV k] w fun e w' => e = .returned (.bool (homeB k)) ∧ Same w w' := by
  have sx : Same w (w.alloc (.cells (kcells k).toArray 37)) := (Fr.refl _ w).alloc _
  have c0 : (w.alloc (.cells (kcells k).toArray 37)).cell? ⟨w.heap.size, 0, none⟩ = some (.int .u32 k.page) := kid_box w k 0 _ rfl
  have hh : (homeB k = true ∧ k.page < 2) ∨ (homeB k = true ∧ ¬ k.page < 2 ∧ 2147483648 ≤ k.page) ∨ (homeB k = false ∧ ¬ k.page < 2 ∧ ¬ 2147483648 ≤ k.page) := by
    unfold homeB
    by_cases a : k.page < 2
    · left; simp [a]
    · right
      by_cases b : 2147483648 ≤ k.page
      · left; simp [a, b]
      · right; simp [a, b]
  generalize homeB k = hb at *
  obtain ⟨P, hP⟩ : ∃ P : Int, P = (k.page : Int) := ⟨_, rfl⟩
  rw [← hP] at c0
  unfold kidV
  generalize (kcells k).toArray = KA at *
  rcases hh with ⟨rfl, h1⟩ | ⟨rfl, h1, h2⟩ | ⟨rfl, h1, h2⟩
  · have g1 : P < 2 := by omega
    clear hP h1
    go_enter Try.func31, Try.ntmps31
    go_wp2_with fail
    go_ret
    exact ⟨rfl, sx⟩
  · have g1 : decide (P < 2) = false := decide_eq_false (by omega)
    have g2 : decide ((2147483648 : Int) ≤ P) = true := decide_eq_true (by omega)
    clear hP h1 h2
    go_enter Try.func31, Try.ntmps31
    go_wp2_with fail
    go_ret
    exact ⟨rfl, sx⟩
  · have g1 : decide (P < 2) = false := decide_eq_false (by omega)
    have g2 : decide ((2147483648 : Int) ≤ P) = false := decide_eq_false (by omega)
    clear hP h1 h2
    go_enter Try.func31, Try.ntmps31
    go_wp2_with fail
    go_ret
    exact ⟨rfl, sx⟩
end Go.Proofs.Ytjlbkagkmcelgaa
