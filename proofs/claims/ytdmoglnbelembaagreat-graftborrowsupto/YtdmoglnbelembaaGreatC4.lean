/- The document's stands. -/
import Derived.Test.YtdmoglnbelembaaGreatC3
import Derived.BigQuiet
namespace Go.Proofs.YtdmoglnbelembaaGreat
open Go.RowKit

theorem four_boxes (w : World) (a b c d : Obj) : ((((w.alloc a).alloc b).alloc c).alloc d).heap[w.heap.size]? = some a ∧ ((((w.alloc a).alloc b).alloc c).alloc d).heap[w.heap.size + 1]? = some b ∧ ((((w.alloc a).alloc b).alloc c).alloc d).heap[w.heap.size + 1 + 1]? = some c ∧ ((((w.alloc a).alloc b).alloc c).alloc d).heap[w.heap.size + 1 + 1 + 1]? = some d := by
  obtain ⟨h0, h1, h2⟩ := three_boxes w a b c
  have h3 := heap_alloc_new (((w.alloc a).alloc b).alloc c) d
  simp only [World.size_alloc] at h3
  exact ⟨(heap_alloc_old _ d (by simp only [World.size_alloc]; omega)).trans h0, (heap_alloc_old _ d (by simp only [World.size_alloc]; omega)).trans h1, (heap_alloc_old _ d (by simp only [World.size_alloc]; omega)).trans h2, h3⟩
set_option maxRecDepth 100000 in
set_option maxHeartbeats 2000000 in
theorem stands_Pf_any {p q : Int} {sp : ByteArray} {B1 C1 : Option Addr} {b1 o1 k1 a1 d1 n1 e1 : Nat} {x1 : ByteArray} {A2 B2 C2 : Option Addr} {m2 l2 a2 d2 n2 e2 : Nat} (w : World) (z1 : decide ((sp.size : Int) < 1) = false) (z2 : decide (RowKit.wrap64 (p.tdiv 16) < (sp.size : Int)) = false) (hx1 : w.cell? ⟨b1, o1 + k1 * 2, none⟩ = some (.string x1)) (hl1 : Op.bytesLess x1.toList sp.toList = false) (hb1 : k1 + 1 ≤ 1048576) :
    Calls Tryz.prog 43 #[frameV p q, .agg #[.slice (some ⟨b1, o1, none⟩) (k1 + 1) a1, .slice B1 0 d1, .slice C1 n1 e1, .string sp, .slice A2 m2 a2, .slice B2 l2 d2, .slice C2 n2 e2]] w fun e w' => e = .returned (.bool false) ∧ Same w w' := by
  obtain ⟨X, hX⟩ : ∃ X, X = (((w.alloc (.cells #[.int .i64 p, .int .i64 q] 23)).alloc (.cells #[.slice (some ⟨b1, o1, none⟩) (k1 + 1) a1, .slice B1 0 d1, .slice C1 n1 e1, .string sp, .slice A2 m2 a2, .slice B2 l2 d2, .slice C2 n2 e2] 30)).alloc (.cells #[.slice (some ⟨b1, o1, none⟩) (k1 + 1) a1, .slice B1 0 d1, .slice C1 n1 e1] 28)).alloc (.cells #[.slice A2 m2 a2, .slice B2 l2 d2, .slice C2 n2 e2] 28) := ⟨_, rfl⟩
  have t1 : Same w X := by rw [hX]; exact ((((Fr.refl _ w).alloc _).alloc _).alloc _).alloc _
  obtain ⟨g0, g1, g2, g3⟩ := four_boxes w (.cells #[.int .i64 p, .int .i64 q] 23) (.cells #[.slice (some ⟨b1, o1, none⟩) (k1 + 1) a1, .slice B1 0 d1, .slice C1 n1 e1, .string sp, .slice A2 m2 a2, .slice B2 l2 d2, .slice C2 n2 e2] 30) (.cells #[.slice (some ⟨b1, o1, none⟩) (k1 + 1) a1, .slice B1 0 d1, .slice C1 n1 e1] 28) (.cells #[.slice A2 m2 a2, .slice B2 l2 d2, .slice C2 n2 e2] 28)
  rw [← hX] at g0 g1 g2 g3
  have m3 : X.cell? ⟨w.heap.size + 1, 3, none⟩ = some (.string sp) := (cell_of_row _ _ _ _ _ _ g1).trans rfl
  have c00 : X.cell? ⟨w.heap.size + 1 + 1, 0, none⟩ = some (.slice (some ⟨b1, o1, none⟩) (k1 + 1) a1) := (cell_of_row _ _ _ _ _ _ g2).trans rfl
  have c01 : X.cell? ⟨w.heap.size + 1 + 1, 1, none⟩ = some (.slice B1 0 d1) := (cell_of_row _ _ _ _ _ _ g2).trans rfl
  have c02 : X.cell? ⟨w.heap.size + 1 + 1, 2, none⟩ = some (.slice C1 n1 e1) := (cell_of_row _ _ _ _ _ _ g2).trans rfl
  have c10 : X.cell? ⟨w.heap.size + 1 + 1 + 1, 0, none⟩ = some (.slice A2 m2 a2) := (cell_of_row _ _ _ _ _ _ g3).trans rfl
  have c11 : X.cell? ⟨w.heap.size + 1 + 1 + 1, 1, none⟩ = some (.slice B2 l2 d2) := (cell_of_row _ _ _ _ _ _ g3).trans rfl
  have c12 : X.cell? ⟨w.heap.size + 1 + 1 + 1, 2, none⟩ = some (.slice C2 n2 e2) := (cell_of_row _ _ _ _ _ _ g3).trans rfl
  have hx1 := t1.keep hx1
  have e1 : ((k1 : Int) + 1) - 1 = (k1 : Int) := by omega
  have e3 : IntKind.i64.wrap (k1 : Int) = (k1 : Int) := by rw [IntKind.wrap_i64]; omega
  have v1 : (0 : Int) ≤ (k1 : Int) := by omega
  have v2 : (k1 : Int) < (k1 : Int) + 1 := by omega
  clear g0 g1 g2 g3 hb1
  go_enter Tryz.func43, Tryz.ntmps43
  go_wp2_with fail
  rw [← hX]
  clear hX
  go_quiet (fail)
  have sq : Same X (X.drewN nq) := ⟨rfl, rfl, rfl, Nat.le_refl _, fun _ _ _ => rfl⟩
  go_wp2_with fail
  go_ret
  exact ⟨rfl, t1.trans sq⟩
set_option maxRecDepth 100000 in
set_option maxHeartbeats 2000000 in
theorem stands_Sf_any {p q : Int} {sp : ByteArray} {A1 C1 : Option Addr} {b1 o1 k1 a1 d1 n1 e1 : Nat} {x1 : ByteArray} {A2 B2 C2 : Option Addr} {m2 l2 a2 d2 n2 e2 : Nat} (w : World) (z1 : decide ((sp.size : Int) < 1) = false) (z2 : decide (RowKit.wrap64 (p.tdiv 16) < (sp.size : Int)) = false) (hx1 : w.cell? ⟨b1, o1 + k1, none⟩ = some (.string x1)) (hl1 : Op.bytesLess x1.toList sp.toList = false) (hb1 : k1 + 1 ≤ 1048576) :
    Calls Tryz.prog 43 #[frameV p q, .agg #[.slice A1 0 a1, .slice (some ⟨b1, o1, none⟩) (k1 + 1) d1, .slice C1 n1 e1, .string sp, .slice A2 m2 a2, .slice B2 l2 d2, .slice C2 n2 e2]] w fun e w' => e = .returned (.bool false) ∧ Same w w' := by
  obtain ⟨X, hX⟩ : ∃ X, X = (((w.alloc (.cells #[.int .i64 p, .int .i64 q] 23)).alloc (.cells #[.slice A1 0 a1, .slice (some ⟨b1, o1, none⟩) (k1 + 1) d1, .slice C1 n1 e1, .string sp, .slice A2 m2 a2, .slice B2 l2 d2, .slice C2 n2 e2] 30)).alloc (.cells #[.slice A1 0 a1, .slice (some ⟨b1, o1, none⟩) (k1 + 1) d1, .slice C1 n1 e1] 28)).alloc (.cells #[.slice A2 m2 a2, .slice B2 l2 d2, .slice C2 n2 e2] 28) := ⟨_, rfl⟩
  have t1 : Same w X := by rw [hX]; exact ((((Fr.refl _ w).alloc _).alloc _).alloc _).alloc _
  obtain ⟨g0, g1, g2, g3⟩ := four_boxes w (.cells #[.int .i64 p, .int .i64 q] 23) (.cells #[.slice A1 0 a1, .slice (some ⟨b1, o1, none⟩) (k1 + 1) d1, .slice C1 n1 e1, .string sp, .slice A2 m2 a2, .slice B2 l2 d2, .slice C2 n2 e2] 30) (.cells #[.slice A1 0 a1, .slice (some ⟨b1, o1, none⟩) (k1 + 1) d1, .slice C1 n1 e1] 28) (.cells #[.slice A2 m2 a2, .slice B2 l2 d2, .slice C2 n2 e2] 28)
  rw [← hX] at g0 g1 g2 g3
  have m3 : X.cell? ⟨w.heap.size + 1, 3, none⟩ = some (.string sp) := (cell_of_row _ _ _ _ _ _ g1).trans rfl
  have c00 : X.cell? ⟨w.heap.size + 1 + 1, 0, none⟩ = some (.slice A1 0 a1) := (cell_of_row _ _ _ _ _ _ g2).trans rfl
  have c01 : X.cell? ⟨w.heap.size + 1 + 1, 1, none⟩ = some (.slice (some ⟨b1, o1, none⟩) (k1 + 1) d1) := (cell_of_row _ _ _ _ _ _ g2).trans rfl
  have c02 : X.cell? ⟨w.heap.size + 1 + 1, 2, none⟩ = some (.slice C1 n1 e1) := (cell_of_row _ _ _ _ _ _ g2).trans rfl
  have c10 : X.cell? ⟨w.heap.size + 1 + 1 + 1, 0, none⟩ = some (.slice A2 m2 a2) := (cell_of_row _ _ _ _ _ _ g3).trans rfl
  have c11 : X.cell? ⟨w.heap.size + 1 + 1 + 1, 1, none⟩ = some (.slice B2 l2 d2) := (cell_of_row _ _ _ _ _ _ g3).trans rfl
  have c12 : X.cell? ⟨w.heap.size + 1 + 1 + 1, 2, none⟩ = some (.slice C2 n2 e2) := (cell_of_row _ _ _ _ _ _ g3).trans rfl
  have hx1 := t1.keep hx1
  have e1 : ((k1 : Int) + 1) - 1 = (k1 : Int) := by omega
  have e3 : IntKind.i64.wrap (k1 : Int) = (k1 : Int) := by rw [IntKind.wrap_i64]; omega
  have v1 : (0 : Int) ≤ (k1 : Int) := by omega
  have v2 : (k1 : Int) < (k1 : Int) + 1 := by omega
  clear g0 g1 g2 g3 hb1
  go_enter Tryz.func43, Tryz.ntmps43
  go_wp2_with fail
  rw [← hX]
  clear hX
  go_quiet (fail)
  have sq : Same X (X.drewN nq) := ⟨rfl, rfl, rfl, Nat.le_refl _, fun _ _ _ => rfl⟩
  go_wp2_with fail
  go_ret
  exact ⟨rfl, t1.trans sq⟩
set_option maxRecDepth 100000 in
set_option maxHeartbeats 2000000 in
theorem stands_P0_P0 {p q : Int} {sp : ByteArray} {A1 B1 C1 : Option Addr} {a1 d1 n1 e1 : Nat} {A2 B2 C2 : Option Addr} {a2 d2 n2 e2 : Nat} (w : World) (z1 : decide ((sp.size : Int) < 1) = false) (z2 : decide (RowKit.wrap64 (p.tdiv 16) < (sp.size : Int)) = false) :
    Calls Tryz.prog 43 #[frameV p q, .agg #[.slice A1 0 a1, .slice B1 0 d1, .slice C1 n1 e1, .string sp, .slice A2 0 a2, .slice B2 0 d2, .slice C2 n2 e2]] w fun e w' => e = .returned (.bool true) ∧ Same w w' := by
  obtain ⟨X, hX⟩ : ∃ X, X = (((w.alloc (.cells #[.int .i64 p, .int .i64 q] 23)).alloc (.cells #[.slice A1 0 a1, .slice B1 0 d1, .slice C1 n1 e1, .string sp, .slice A2 0 a2, .slice B2 0 d2, .slice C2 n2 e2] 30)).alloc (.cells #[.slice A1 0 a1, .slice B1 0 d1, .slice C1 n1 e1] 28)).alloc (.cells #[.slice A2 0 a2, .slice B2 0 d2, .slice C2 n2 e2] 28) := ⟨_, rfl⟩
  have t1 : Same w X := by rw [hX]; exact ((((Fr.refl _ w).alloc _).alloc _).alloc _).alloc _
  obtain ⟨g0, g1, g2, g3⟩ := four_boxes w (.cells #[.int .i64 p, .int .i64 q] 23) (.cells #[.slice A1 0 a1, .slice B1 0 d1, .slice C1 n1 e1, .string sp, .slice A2 0 a2, .slice B2 0 d2, .slice C2 n2 e2] 30) (.cells #[.slice A1 0 a1, .slice B1 0 d1, .slice C1 n1 e1] 28) (.cells #[.slice A2 0 a2, .slice B2 0 d2, .slice C2 n2 e2] 28)
  rw [← hX] at g0 g1 g2 g3
  have m3 : X.cell? ⟨w.heap.size + 1, 3, none⟩ = some (.string sp) := (cell_of_row _ _ _ _ _ _ g1).trans rfl
  have c00 : X.cell? ⟨w.heap.size + 1 + 1, 0, none⟩ = some (.slice A1 0 a1) := (cell_of_row _ _ _ _ _ _ g2).trans rfl
  have c01 : X.cell? ⟨w.heap.size + 1 + 1, 1, none⟩ = some (.slice B1 0 d1) := (cell_of_row _ _ _ _ _ _ g2).trans rfl
  have c02 : X.cell? ⟨w.heap.size + 1 + 1, 2, none⟩ = some (.slice C1 n1 e1) := (cell_of_row _ _ _ _ _ _ g2).trans rfl
  have c10 : X.cell? ⟨w.heap.size + 1 + 1 + 1, 0, none⟩ = some (.slice A2 0 a2) := (cell_of_row _ _ _ _ _ _ g3).trans rfl
  have c11 : X.cell? ⟨w.heap.size + 1 + 1 + 1, 1, none⟩ = some (.slice B2 0 d2) := (cell_of_row _ _ _ _ _ _ g3).trans rfl
  have c12 : X.cell? ⟨w.heap.size + 1 + 1 + 1, 2, none⟩ = some (.slice C2 n2 e2) := (cell_of_row _ _ _ _ _ _ g3).trans rfl
  clear g0 g1 g2 g3
  go_enter Tryz.func43, Tryz.ntmps43
  go_wp2_with fail
  rw [← hX]
  clear hX
  go_quiet (fail)
  have sq : Same X (X.drewN nq) := ⟨rfl, rfl, rfl, Nat.le_refl _, fun _ _ _ => rfl⟩
  have d3 := sq.keep m3
  have d00 := sq.keep c00
  have d01 := sq.keep c01
  have d02 := sq.keep c02
  have d10 := sq.keep c10
  have d11 := sq.keep c11
  have d12 := sq.keep c12
  generalize X.drewN nq = Z at *
  go_wp2_with fail
  go_quiet (fail)
  have sq2 : Same Z (Z.drewN nq) := ⟨rfl, rfl, rfl, Nat.le_refl _, fun _ _ _ => rfl⟩
  go_wp2_with fail
  go_ret
  exact ⟨rfl, t1.trans (sq.trans sq2)⟩
set_option maxRecDepth 100000 in
set_option maxHeartbeats 2000000 in
theorem stands_P0_Pt {p q : Int} {sp : ByteArray} {A1 B1 C1 : Option Addr} {a1 d1 n1 e1 : Nat} {B2 C2 : Option Addr} {b2 o2 k2 a2 d2 n2 e2 : Nat} {x2 : ByteArray} (w : World) (z1 : decide ((sp.size : Int) < 1) = false) (z2 : decide (RowKit.wrap64 (p.tdiv 16) < (sp.size : Int)) = false) (hx2 : w.cell? ⟨b2, o2, none⟩ = some (.string x2)) (hl2 : Op.bytesLess x2.toList sp.toList = false) (hb2 : k2 + 1 ≤ 1048576) :
    Calls Tryz.prog 43 #[frameV p q, .agg #[.slice A1 0 a1, .slice B1 0 d1, .slice C1 n1 e1, .string sp, .slice (some ⟨b2, o2, none⟩) (k2 + 1) a2, .slice B2 0 d2, .slice C2 n2 e2]] w fun e w' => e = .returned (.bool true) ∧ Same w w' := by
  obtain ⟨X, hX⟩ : ∃ X, X = (((w.alloc (.cells #[.int .i64 p, .int .i64 q] 23)).alloc (.cells #[.slice A1 0 a1, .slice B1 0 d1, .slice C1 n1 e1, .string sp, .slice (some ⟨b2, o2, none⟩) (k2 + 1) a2, .slice B2 0 d2, .slice C2 n2 e2] 30)).alloc (.cells #[.slice A1 0 a1, .slice B1 0 d1, .slice C1 n1 e1] 28)).alloc (.cells #[.slice (some ⟨b2, o2, none⟩) (k2 + 1) a2, .slice B2 0 d2, .slice C2 n2 e2] 28) := ⟨_, rfl⟩
  have t1 : Same w X := by rw [hX]; exact ((((Fr.refl _ w).alloc _).alloc _).alloc _).alloc _
  obtain ⟨g0, g1, g2, g3⟩ := four_boxes w (.cells #[.int .i64 p, .int .i64 q] 23) (.cells #[.slice A1 0 a1, .slice B1 0 d1, .slice C1 n1 e1, .string sp, .slice (some ⟨b2, o2, none⟩) (k2 + 1) a2, .slice B2 0 d2, .slice C2 n2 e2] 30) (.cells #[.slice A1 0 a1, .slice B1 0 d1, .slice C1 n1 e1] 28) (.cells #[.slice (some ⟨b2, o2, none⟩) (k2 + 1) a2, .slice B2 0 d2, .slice C2 n2 e2] 28)
  rw [← hX] at g0 g1 g2 g3
  have m3 : X.cell? ⟨w.heap.size + 1, 3, none⟩ = some (.string sp) := (cell_of_row _ _ _ _ _ _ g1).trans rfl
  have c00 : X.cell? ⟨w.heap.size + 1 + 1, 0, none⟩ = some (.slice A1 0 a1) := (cell_of_row _ _ _ _ _ _ g2).trans rfl
  have c01 : X.cell? ⟨w.heap.size + 1 + 1, 1, none⟩ = some (.slice B1 0 d1) := (cell_of_row _ _ _ _ _ _ g2).trans rfl
  have c02 : X.cell? ⟨w.heap.size + 1 + 1, 2, none⟩ = some (.slice C1 n1 e1) := (cell_of_row _ _ _ _ _ _ g2).trans rfl
  have c10 : X.cell? ⟨w.heap.size + 1 + 1 + 1, 0, none⟩ = some (.slice (some ⟨b2, o2, none⟩) (k2 + 1) a2) := (cell_of_row _ _ _ _ _ _ g3).trans rfl
  have c11 : X.cell? ⟨w.heap.size + 1 + 1 + 1, 1, none⟩ = some (.slice B2 0 d2) := (cell_of_row _ _ _ _ _ _ g3).trans rfl
  have c12 : X.cell? ⟨w.heap.size + 1 + 1 + 1, 2, none⟩ = some (.slice C2 n2 e2) := (cell_of_row _ _ _ _ _ _ g3).trans rfl
  have hx2 := t1.keep hx2
  have v5 : (0 : Int) < (k2 : Int) + 1 := by omega
  clear g0 g1 g2 g3 hb2
  go_enter Tryz.func43, Tryz.ntmps43
  go_wp2_with fail
  rw [← hX]
  clear hX
  go_quiet (fail)
  have sq : Same X (X.drewN nq) := ⟨rfl, rfl, rfl, Nat.le_refl _, fun _ _ _ => rfl⟩
  have d3 := sq.keep m3
  have d00 := sq.keep c00
  have d01 := sq.keep c01
  have d02 := sq.keep c02
  have d10 := sq.keep c10
  have d11 := sq.keep c11
  have d12 := sq.keep c12
  have hx2 := sq.keep hx2
  generalize X.drewN nq = Z at *
  go_wp2_with fail
  go_quiet (fail)
  have sq2 : Same Z (Z.drewN nq) := ⟨rfl, rfl, rfl, Nat.le_refl _, fun _ _ _ => rfl⟩
  go_wp2_with fail
  go_ret
  exact ⟨rfl, t1.trans (sq.trans sq2)⟩
set_option maxRecDepth 100000 in
set_option maxHeartbeats 2000000 in
theorem stands_P0_Pf {p q : Int} {sp : ByteArray} {A1 B1 C1 : Option Addr} {a1 d1 n1 e1 : Nat} {B2 C2 : Option Addr} {b2 o2 k2 a2 d2 n2 e2 : Nat} {x2 : ByteArray} (w : World) (z1 : decide ((sp.size : Int) < 1) = false) (z2 : decide (RowKit.wrap64 (p.tdiv 16) < (sp.size : Int)) = false) (hx2 : w.cell? ⟨b2, o2, none⟩ = some (.string x2)) (hl2 : Op.bytesLess x2.toList sp.toList = true) (hb2 : k2 + 1 ≤ 1048576) :
    Calls Tryz.prog 43 #[frameV p q, .agg #[.slice A1 0 a1, .slice B1 0 d1, .slice C1 n1 e1, .string sp, .slice (some ⟨b2, o2, none⟩) (k2 + 1) a2, .slice B2 0 d2, .slice C2 n2 e2]] w fun e w' => e = .returned (.bool false) ∧ Same w w' := by
  obtain ⟨X, hX⟩ : ∃ X, X = (((w.alloc (.cells #[.int .i64 p, .int .i64 q] 23)).alloc (.cells #[.slice A1 0 a1, .slice B1 0 d1, .slice C1 n1 e1, .string sp, .slice (some ⟨b2, o2, none⟩) (k2 + 1) a2, .slice B2 0 d2, .slice C2 n2 e2] 30)).alloc (.cells #[.slice A1 0 a1, .slice B1 0 d1, .slice C1 n1 e1] 28)).alloc (.cells #[.slice (some ⟨b2, o2, none⟩) (k2 + 1) a2, .slice B2 0 d2, .slice C2 n2 e2] 28) := ⟨_, rfl⟩
  have t1 : Same w X := by rw [hX]; exact ((((Fr.refl _ w).alloc _).alloc _).alloc _).alloc _
  obtain ⟨g0, g1, g2, g3⟩ := four_boxes w (.cells #[.int .i64 p, .int .i64 q] 23) (.cells #[.slice A1 0 a1, .slice B1 0 d1, .slice C1 n1 e1, .string sp, .slice (some ⟨b2, o2, none⟩) (k2 + 1) a2, .slice B2 0 d2, .slice C2 n2 e2] 30) (.cells #[.slice A1 0 a1, .slice B1 0 d1, .slice C1 n1 e1] 28) (.cells #[.slice (some ⟨b2, o2, none⟩) (k2 + 1) a2, .slice B2 0 d2, .slice C2 n2 e2] 28)
  rw [← hX] at g0 g1 g2 g3
  have m3 : X.cell? ⟨w.heap.size + 1, 3, none⟩ = some (.string sp) := (cell_of_row _ _ _ _ _ _ g1).trans rfl
  have c00 : X.cell? ⟨w.heap.size + 1 + 1, 0, none⟩ = some (.slice A1 0 a1) := (cell_of_row _ _ _ _ _ _ g2).trans rfl
  have c01 : X.cell? ⟨w.heap.size + 1 + 1, 1, none⟩ = some (.slice B1 0 d1) := (cell_of_row _ _ _ _ _ _ g2).trans rfl
  have c02 : X.cell? ⟨w.heap.size + 1 + 1, 2, none⟩ = some (.slice C1 n1 e1) := (cell_of_row _ _ _ _ _ _ g2).trans rfl
  have c10 : X.cell? ⟨w.heap.size + 1 + 1 + 1, 0, none⟩ = some (.slice (some ⟨b2, o2, none⟩) (k2 + 1) a2) := (cell_of_row _ _ _ _ _ _ g3).trans rfl
  have c11 : X.cell? ⟨w.heap.size + 1 + 1 + 1, 1, none⟩ = some (.slice B2 0 d2) := (cell_of_row _ _ _ _ _ _ g3).trans rfl
  have c12 : X.cell? ⟨w.heap.size + 1 + 1 + 1, 2, none⟩ = some (.slice C2 n2 e2) := (cell_of_row _ _ _ _ _ _ g3).trans rfl
  have hx2 := t1.keep hx2
  have v5 : (0 : Int) < (k2 : Int) + 1 := by omega
  clear g0 g1 g2 g3 hb2
  go_enter Tryz.func43, Tryz.ntmps43
  go_wp2_with fail
  rw [← hX]
  clear hX
  go_quiet (fail)
  have sq : Same X (X.drewN nq) := ⟨rfl, rfl, rfl, Nat.le_refl _, fun _ _ _ => rfl⟩
  have d3 := sq.keep m3
  have d00 := sq.keep c00
  have d01 := sq.keep c01
  have d02 := sq.keep c02
  have d10 := sq.keep c10
  have d11 := sq.keep c11
  have d12 := sq.keep c12
  have hx2 := sq.keep hx2
  generalize X.drewN nq = Z at *
  go_wp2_with fail
  go_quiet (fail)
  have sq2 : Same Z (Z.drewN nq) := ⟨rfl, rfl, rfl, Nat.le_refl _, fun _ _ _ => rfl⟩
  go_wp2_with fail
  go_ret
  exact ⟨rfl, t1.trans (sq.trans sq2)⟩
set_option maxRecDepth 100000 in
set_option maxHeartbeats 2000000 in
theorem stands_Pt_P0 {p q : Int} {sp : ByteArray} {B1 C1 : Option Addr} {b1 o1 k1 a1 d1 n1 e1 : Nat} {x1 : ByteArray} {A2 B2 C2 : Option Addr} {a2 d2 n2 e2 : Nat} (w : World) (z1 : decide ((sp.size : Int) < 1) = false) (z2 : decide (RowKit.wrap64 (p.tdiv 16) < (sp.size : Int)) = false) (hx1 : w.cell? ⟨b1, o1 + k1 * 2, none⟩ = some (.string x1)) (hl1 : Op.bytesLess x1.toList sp.toList = true) (hb1 : k1 + 1 ≤ 1048576) :
    Calls Tryz.prog 43 #[frameV p q, .agg #[.slice (some ⟨b1, o1, none⟩) (k1 + 1) a1, .slice B1 0 d1, .slice C1 n1 e1, .string sp, .slice A2 0 a2, .slice B2 0 d2, .slice C2 n2 e2]] w fun e w' => e = .returned (.bool true) ∧ Same w w' := by
  obtain ⟨X, hX⟩ : ∃ X, X = (((w.alloc (.cells #[.int .i64 p, .int .i64 q] 23)).alloc (.cells #[.slice (some ⟨b1, o1, none⟩) (k1 + 1) a1, .slice B1 0 d1, .slice C1 n1 e1, .string sp, .slice A2 0 a2, .slice B2 0 d2, .slice C2 n2 e2] 30)).alloc (.cells #[.slice (some ⟨b1, o1, none⟩) (k1 + 1) a1, .slice B1 0 d1, .slice C1 n1 e1] 28)).alloc (.cells #[.slice A2 0 a2, .slice B2 0 d2, .slice C2 n2 e2] 28) := ⟨_, rfl⟩
  have t1 : Same w X := by rw [hX]; exact ((((Fr.refl _ w).alloc _).alloc _).alloc _).alloc _
  obtain ⟨g0, g1, g2, g3⟩ := four_boxes w (.cells #[.int .i64 p, .int .i64 q] 23) (.cells #[.slice (some ⟨b1, o1, none⟩) (k1 + 1) a1, .slice B1 0 d1, .slice C1 n1 e1, .string sp, .slice A2 0 a2, .slice B2 0 d2, .slice C2 n2 e2] 30) (.cells #[.slice (some ⟨b1, o1, none⟩) (k1 + 1) a1, .slice B1 0 d1, .slice C1 n1 e1] 28) (.cells #[.slice A2 0 a2, .slice B2 0 d2, .slice C2 n2 e2] 28)
  rw [← hX] at g0 g1 g2 g3
  have m3 : X.cell? ⟨w.heap.size + 1, 3, none⟩ = some (.string sp) := (cell_of_row _ _ _ _ _ _ g1).trans rfl
  have c00 : X.cell? ⟨w.heap.size + 1 + 1, 0, none⟩ = some (.slice (some ⟨b1, o1, none⟩) (k1 + 1) a1) := (cell_of_row _ _ _ _ _ _ g2).trans rfl
  have c01 : X.cell? ⟨w.heap.size + 1 + 1, 1, none⟩ = some (.slice B1 0 d1) := (cell_of_row _ _ _ _ _ _ g2).trans rfl
  have c02 : X.cell? ⟨w.heap.size + 1 + 1, 2, none⟩ = some (.slice C1 n1 e1) := (cell_of_row _ _ _ _ _ _ g2).trans rfl
  have c10 : X.cell? ⟨w.heap.size + 1 + 1 + 1, 0, none⟩ = some (.slice A2 0 a2) := (cell_of_row _ _ _ _ _ _ g3).trans rfl
  have c11 : X.cell? ⟨w.heap.size + 1 + 1 + 1, 1, none⟩ = some (.slice B2 0 d2) := (cell_of_row _ _ _ _ _ _ g3).trans rfl
  have c12 : X.cell? ⟨w.heap.size + 1 + 1 + 1, 2, none⟩ = some (.slice C2 n2 e2) := (cell_of_row _ _ _ _ _ _ g3).trans rfl
  have hx1 := t1.keep hx1
  have e1 : ((k1 : Int) + 1) - 1 = (k1 : Int) := by omega
  have e3 : IntKind.i64.wrap (k1 : Int) = (k1 : Int) := by rw [IntKind.wrap_i64]; omega
  have v1 : (0 : Int) ≤ (k1 : Int) := by omega
  have v2 : (k1 : Int) < (k1 : Int) + 1 := by omega
  clear g0 g1 g2 g3 hb1
  go_enter Tryz.func43, Tryz.ntmps43
  go_wp2_with fail
  rw [← hX]
  clear hX
  go_quiet (fail)
  have sq : Same X (X.drewN nq) := ⟨rfl, rfl, rfl, Nat.le_refl _, fun _ _ _ => rfl⟩
  have d3 := sq.keep m3
  have d00 := sq.keep c00
  have d01 := sq.keep c01
  have d02 := sq.keep c02
  have d10 := sq.keep c10
  have d11 := sq.keep c11
  have d12 := sq.keep c12
  generalize X.drewN nq = Z at *
  go_wp2_with fail
  go_quiet (fail)
  have sq2 : Same Z (Z.drewN nq) := ⟨rfl, rfl, rfl, Nat.le_refl _, fun _ _ _ => rfl⟩
  go_wp2_with fail
  go_ret
  exact ⟨rfl, t1.trans (sq.trans sq2)⟩
set_option maxRecDepth 100000 in
set_option maxHeartbeats 2000000 in
theorem stands_Pt_Pt {p q : Int} {sp : ByteArray} {B1 C1 : Option Addr} {b1 o1 k1 a1 d1 n1 e1 : Nat} {x1 : ByteArray} {B2 C2 : Option Addr} {b2 o2 k2 a2 d2 n2 e2 : Nat} {x2 : ByteArray} (w : World) (z1 : decide ((sp.size : Int) < 1) = false) (z2 : decide (RowKit.wrap64 (p.tdiv 16) < (sp.size : Int)) = false) (hx1 : w.cell? ⟨b1, o1 + k1 * 2, none⟩ = some (.string x1)) (hl1 : Op.bytesLess x1.toList sp.toList = true) (hb1 : k1 + 1 ≤ 1048576) (hx2 : w.cell? ⟨b2, o2, none⟩ = some (.string x2)) (hl2 : Op.bytesLess x2.toList sp.toList = false) (hb2 : k2 + 1 ≤ 1048576) :
    Calls Tryz.prog 43 #[frameV p q, .agg #[.slice (some ⟨b1, o1, none⟩) (k1 + 1) a1, .slice B1 0 d1, .slice C1 n1 e1, .string sp, .slice (some ⟨b2, o2, none⟩) (k2 + 1) a2, .slice B2 0 d2, .slice C2 n2 e2]] w fun e w' => e = .returned (.bool true) ∧ Same w w' := by
  obtain ⟨X, hX⟩ : ∃ X, X = (((w.alloc (.cells #[.int .i64 p, .int .i64 q] 23)).alloc (.cells #[.slice (some ⟨b1, o1, none⟩) (k1 + 1) a1, .slice B1 0 d1, .slice C1 n1 e1, .string sp, .slice (some ⟨b2, o2, none⟩) (k2 + 1) a2, .slice B2 0 d2, .slice C2 n2 e2] 30)).alloc (.cells #[.slice (some ⟨b1, o1, none⟩) (k1 + 1) a1, .slice B1 0 d1, .slice C1 n1 e1] 28)).alloc (.cells #[.slice (some ⟨b2, o2, none⟩) (k2 + 1) a2, .slice B2 0 d2, .slice C2 n2 e2] 28) := ⟨_, rfl⟩
  have t1 : Same w X := by rw [hX]; exact ((((Fr.refl _ w).alloc _).alloc _).alloc _).alloc _
  obtain ⟨g0, g1, g2, g3⟩ := four_boxes w (.cells #[.int .i64 p, .int .i64 q] 23) (.cells #[.slice (some ⟨b1, o1, none⟩) (k1 + 1) a1, .slice B1 0 d1, .slice C1 n1 e1, .string sp, .slice (some ⟨b2, o2, none⟩) (k2 + 1) a2, .slice B2 0 d2, .slice C2 n2 e2] 30) (.cells #[.slice (some ⟨b1, o1, none⟩) (k1 + 1) a1, .slice B1 0 d1, .slice C1 n1 e1] 28) (.cells #[.slice (some ⟨b2, o2, none⟩) (k2 + 1) a2, .slice B2 0 d2, .slice C2 n2 e2] 28)
  rw [← hX] at g0 g1 g2 g3
  have m3 : X.cell? ⟨w.heap.size + 1, 3, none⟩ = some (.string sp) := (cell_of_row _ _ _ _ _ _ g1).trans rfl
  have c00 : X.cell? ⟨w.heap.size + 1 + 1, 0, none⟩ = some (.slice (some ⟨b1, o1, none⟩) (k1 + 1) a1) := (cell_of_row _ _ _ _ _ _ g2).trans rfl
  have c01 : X.cell? ⟨w.heap.size + 1 + 1, 1, none⟩ = some (.slice B1 0 d1) := (cell_of_row _ _ _ _ _ _ g2).trans rfl
  have c02 : X.cell? ⟨w.heap.size + 1 + 1, 2, none⟩ = some (.slice C1 n1 e1) := (cell_of_row _ _ _ _ _ _ g2).trans rfl
  have c10 : X.cell? ⟨w.heap.size + 1 + 1 + 1, 0, none⟩ = some (.slice (some ⟨b2, o2, none⟩) (k2 + 1) a2) := (cell_of_row _ _ _ _ _ _ g3).trans rfl
  have c11 : X.cell? ⟨w.heap.size + 1 + 1 + 1, 1, none⟩ = some (.slice B2 0 d2) := (cell_of_row _ _ _ _ _ _ g3).trans rfl
  have c12 : X.cell? ⟨w.heap.size + 1 + 1 + 1, 2, none⟩ = some (.slice C2 n2 e2) := (cell_of_row _ _ _ _ _ _ g3).trans rfl
  have hx1 := t1.keep hx1
  have e1 : ((k1 : Int) + 1) - 1 = (k1 : Int) := by omega
  have e3 : IntKind.i64.wrap (k1 : Int) = (k1 : Int) := by rw [IntKind.wrap_i64]; omega
  have v1 : (0 : Int) ≤ (k1 : Int) := by omega
  have v2 : (k1 : Int) < (k1 : Int) + 1 := by omega
  have hx2 := t1.keep hx2
  have v5 : (0 : Int) < (k2 : Int) + 1 := by omega
  clear g0 g1 g2 g3 hb1 hb2
  go_enter Tryz.func43, Tryz.ntmps43
  go_wp2_with fail
  rw [← hX]
  clear hX
  go_quiet (fail)
  have sq : Same X (X.drewN nq) := ⟨rfl, rfl, rfl, Nat.le_refl _, fun _ _ _ => rfl⟩
  have d3 := sq.keep m3
  have d00 := sq.keep c00
  have d01 := sq.keep c01
  have d02 := sq.keep c02
  have d10 := sq.keep c10
  have d11 := sq.keep c11
  have d12 := sq.keep c12
  have hx2 := sq.keep hx2
  generalize X.drewN nq = Z at *
  go_wp2_with fail
  go_quiet (fail)
  have sq2 : Same Z (Z.drewN nq) := ⟨rfl, rfl, rfl, Nat.le_refl _, fun _ _ _ => rfl⟩
  go_wp2_with fail
  go_ret
  exact ⟨rfl, t1.trans (sq.trans sq2)⟩
set_option maxRecDepth 100000 in
set_option maxHeartbeats 2000000 in
theorem stands_Pt_Pf {p q : Int} {sp : ByteArray} {B1 C1 : Option Addr} {b1 o1 k1 a1 d1 n1 e1 : Nat} {x1 : ByteArray} {B2 C2 : Option Addr} {b2 o2 k2 a2 d2 n2 e2 : Nat} {x2 : ByteArray} (w : World) (z1 : decide ((sp.size : Int) < 1) = false) (z2 : decide (RowKit.wrap64 (p.tdiv 16) < (sp.size : Int)) = false) (hx1 : w.cell? ⟨b1, o1 + k1 * 2, none⟩ = some (.string x1)) (hl1 : Op.bytesLess x1.toList sp.toList = true) (hb1 : k1 + 1 ≤ 1048576) (hx2 : w.cell? ⟨b2, o2, none⟩ = some (.string x2)) (hl2 : Op.bytesLess x2.toList sp.toList = true) (hb2 : k2 + 1 ≤ 1048576) :
    Calls Tryz.prog 43 #[frameV p q, .agg #[.slice (some ⟨b1, o1, none⟩) (k1 + 1) a1, .slice B1 0 d1, .slice C1 n1 e1, .string sp, .slice (some ⟨b2, o2, none⟩) (k2 + 1) a2, .slice B2 0 d2, .slice C2 n2 e2]] w fun e w' => e = .returned (.bool false) ∧ Same w w' := by
  obtain ⟨X, hX⟩ : ∃ X, X = (((w.alloc (.cells #[.int .i64 p, .int .i64 q] 23)).alloc (.cells #[.slice (some ⟨b1, o1, none⟩) (k1 + 1) a1, .slice B1 0 d1, .slice C1 n1 e1, .string sp, .slice (some ⟨b2, o2, none⟩) (k2 + 1) a2, .slice B2 0 d2, .slice C2 n2 e2] 30)).alloc (.cells #[.slice (some ⟨b1, o1, none⟩) (k1 + 1) a1, .slice B1 0 d1, .slice C1 n1 e1] 28)).alloc (.cells #[.slice (some ⟨b2, o2, none⟩) (k2 + 1) a2, .slice B2 0 d2, .slice C2 n2 e2] 28) := ⟨_, rfl⟩
  have t1 : Same w X := by rw [hX]; exact ((((Fr.refl _ w).alloc _).alloc _).alloc _).alloc _
  obtain ⟨g0, g1, g2, g3⟩ := four_boxes w (.cells #[.int .i64 p, .int .i64 q] 23) (.cells #[.slice (some ⟨b1, o1, none⟩) (k1 + 1) a1, .slice B1 0 d1, .slice C1 n1 e1, .string sp, .slice (some ⟨b2, o2, none⟩) (k2 + 1) a2, .slice B2 0 d2, .slice C2 n2 e2] 30) (.cells #[.slice (some ⟨b1, o1, none⟩) (k1 + 1) a1, .slice B1 0 d1, .slice C1 n1 e1] 28) (.cells #[.slice (some ⟨b2, o2, none⟩) (k2 + 1) a2, .slice B2 0 d2, .slice C2 n2 e2] 28)
  rw [← hX] at g0 g1 g2 g3
  have m3 : X.cell? ⟨w.heap.size + 1, 3, none⟩ = some (.string sp) := (cell_of_row _ _ _ _ _ _ g1).trans rfl
  have c00 : X.cell? ⟨w.heap.size + 1 + 1, 0, none⟩ = some (.slice (some ⟨b1, o1, none⟩) (k1 + 1) a1) := (cell_of_row _ _ _ _ _ _ g2).trans rfl
  have c01 : X.cell? ⟨w.heap.size + 1 + 1, 1, none⟩ = some (.slice B1 0 d1) := (cell_of_row _ _ _ _ _ _ g2).trans rfl
  have c02 : X.cell? ⟨w.heap.size + 1 + 1, 2, none⟩ = some (.slice C1 n1 e1) := (cell_of_row _ _ _ _ _ _ g2).trans rfl
  have c10 : X.cell? ⟨w.heap.size + 1 + 1 + 1, 0, none⟩ = some (.slice (some ⟨b2, o2, none⟩) (k2 + 1) a2) := (cell_of_row _ _ _ _ _ _ g3).trans rfl
  have c11 : X.cell? ⟨w.heap.size + 1 + 1 + 1, 1, none⟩ = some (.slice B2 0 d2) := (cell_of_row _ _ _ _ _ _ g3).trans rfl
  have c12 : X.cell? ⟨w.heap.size + 1 + 1 + 1, 2, none⟩ = some (.slice C2 n2 e2) := (cell_of_row _ _ _ _ _ _ g3).trans rfl
  have hx1 := t1.keep hx1
  have e1 : ((k1 : Int) + 1) - 1 = (k1 : Int) := by omega
  have e3 : IntKind.i64.wrap (k1 : Int) = (k1 : Int) := by rw [IntKind.wrap_i64]; omega
  have v1 : (0 : Int) ≤ (k1 : Int) := by omega
  have v2 : (k1 : Int) < (k1 : Int) + 1 := by omega
  have hx2 := t1.keep hx2
  have v5 : (0 : Int) < (k2 : Int) + 1 := by omega
  clear g0 g1 g2 g3 hb1 hb2
  go_enter Tryz.func43, Tryz.ntmps43
  go_wp2_with fail
  rw [← hX]
  clear hX
  go_quiet (fail)
  have sq : Same X (X.drewN nq) := ⟨rfl, rfl, rfl, Nat.le_refl _, fun _ _ _ => rfl⟩
  have d3 := sq.keep m3
  have d00 := sq.keep c00
  have d01 := sq.keep c01
  have d02 := sq.keep c02
  have d10 := sq.keep c10
  have d11 := sq.keep c11
  have d12 := sq.keep c12
  have hx2 := sq.keep hx2
  generalize X.drewN nq = Z at *
  go_wp2_with fail
  go_quiet (fail)
  have sq2 : Same Z (Z.drewN nq) := ⟨rfl, rfl, rfl, Nat.le_refl _, fun _ _ _ => rfl⟩
  go_wp2_with fail
  go_ret
  exact ⟨rfl, t1.trans (sq.trans sq2)⟩
set_option maxRecDepth 100000 in
set_option maxHeartbeats 2000000 in
theorem stands_St_St {p q : Int} {sp : ByteArray} {A1 C1 : Option Addr} {b1 o1 k1 a1 d1 n1 e1 : Nat} {x1 : ByteArray} {A2 C2 : Option Addr} {b2 o2 k2 a2 d2 n2 e2 : Nat} {x2 : ByteArray} (w : World) (z1 : decide ((sp.size : Int) < 1) = false) (z2 : decide (RowKit.wrap64 (p.tdiv 16) < (sp.size : Int)) = false) (hx1 : w.cell? ⟨b1, o1 + k1, none⟩ = some (.string x1)) (hl1 : Op.bytesLess x1.toList sp.toList = true) (hb1 : k1 + 1 ≤ 1048576) (hx2 : w.cell? ⟨b2, o2, none⟩ = some (.string x2)) (hl2 : (Op.bytesLess x2.toList sp.toList || x2.toList == sp.toList) = false) (hb2 : k2 + 1 ≤ 1048576) :
    Calls Tryz.prog 43 #[frameV p q, .agg #[.slice A1 0 a1, .slice (some ⟨b1, o1, none⟩) (k1 + 1) d1, .slice C1 n1 e1, .string sp, .slice A2 0 a2, .slice (some ⟨b2, o2, none⟩) (k2 + 1) d2, .slice C2 n2 e2]] w fun e w' => e = .returned (.bool true) ∧ Same w w' := by
  obtain ⟨X, hX⟩ : ∃ X, X = (((w.alloc (.cells #[.int .i64 p, .int .i64 q] 23)).alloc (.cells #[.slice A1 0 a1, .slice (some ⟨b1, o1, none⟩) (k1 + 1) d1, .slice C1 n1 e1, .string sp, .slice A2 0 a2, .slice (some ⟨b2, o2, none⟩) (k2 + 1) d2, .slice C2 n2 e2] 30)).alloc (.cells #[.slice A1 0 a1, .slice (some ⟨b1, o1, none⟩) (k1 + 1) d1, .slice C1 n1 e1] 28)).alloc (.cells #[.slice A2 0 a2, .slice (some ⟨b2, o2, none⟩) (k2 + 1) d2, .slice C2 n2 e2] 28) := ⟨_, rfl⟩
  have t1 : Same w X := by rw [hX]; exact ((((Fr.refl _ w).alloc _).alloc _).alloc _).alloc _
  obtain ⟨g0, g1, g2, g3⟩ := four_boxes w (.cells #[.int .i64 p, .int .i64 q] 23) (.cells #[.slice A1 0 a1, .slice (some ⟨b1, o1, none⟩) (k1 + 1) d1, .slice C1 n1 e1, .string sp, .slice A2 0 a2, .slice (some ⟨b2, o2, none⟩) (k2 + 1) d2, .slice C2 n2 e2] 30) (.cells #[.slice A1 0 a1, .slice (some ⟨b1, o1, none⟩) (k1 + 1) d1, .slice C1 n1 e1] 28) (.cells #[.slice A2 0 a2, .slice (some ⟨b2, o2, none⟩) (k2 + 1) d2, .slice C2 n2 e2] 28)
  rw [← hX] at g0 g1 g2 g3
  have m3 : X.cell? ⟨w.heap.size + 1, 3, none⟩ = some (.string sp) := (cell_of_row _ _ _ _ _ _ g1).trans rfl
  have c00 : X.cell? ⟨w.heap.size + 1 + 1, 0, none⟩ = some (.slice A1 0 a1) := (cell_of_row _ _ _ _ _ _ g2).trans rfl
  have c01 : X.cell? ⟨w.heap.size + 1 + 1, 1, none⟩ = some (.slice (some ⟨b1, o1, none⟩) (k1 + 1) d1) := (cell_of_row _ _ _ _ _ _ g2).trans rfl
  have c02 : X.cell? ⟨w.heap.size + 1 + 1, 2, none⟩ = some (.slice C1 n1 e1) := (cell_of_row _ _ _ _ _ _ g2).trans rfl
  have c10 : X.cell? ⟨w.heap.size + 1 + 1 + 1, 0, none⟩ = some (.slice A2 0 a2) := (cell_of_row _ _ _ _ _ _ g3).trans rfl
  have c11 : X.cell? ⟨w.heap.size + 1 + 1 + 1, 1, none⟩ = some (.slice (some ⟨b2, o2, none⟩) (k2 + 1) d2) := (cell_of_row _ _ _ _ _ _ g3).trans rfl
  have c12 : X.cell? ⟨w.heap.size + 1 + 1 + 1, 2, none⟩ = some (.slice C2 n2 e2) := (cell_of_row _ _ _ _ _ _ g3).trans rfl
  have hx1 := t1.keep hx1
  have e1 : ((k1 : Int) + 1) - 1 = (k1 : Int) := by omega
  have e3 : IntKind.i64.wrap (k1 : Int) = (k1 : Int) := by rw [IntKind.wrap_i64]; omega
  have v1 : (0 : Int) ≤ (k1 : Int) := by omega
  have v2 : (k1 : Int) < (k1 : Int) + 1 := by omega
  have hx2 := t1.keep hx2
  have v5 : (0 : Int) < (k2 : Int) + 1 := by omega
  clear g0 g1 g2 g3 hb1 hb2
  go_enter Tryz.func43, Tryz.ntmps43
  go_wp2_with fail
  rw [← hX]
  clear hX
  go_quiet (fail)
  have sq : Same X (X.drewN nq) := ⟨rfl, rfl, rfl, Nat.le_refl _, fun _ _ _ => rfl⟩
  have d3 := sq.keep m3
  have d00 := sq.keep c00
  have d01 := sq.keep c01
  have d02 := sq.keep c02
  have d10 := sq.keep c10
  have d11 := sq.keep c11
  have d12 := sq.keep c12
  have hx2 := sq.keep hx2
  generalize X.drewN nq = Z at *
  go_wp2_with fail
  go_quiet (fail)
  have sq2 : Same Z (Z.drewN nq) := ⟨rfl, rfl, rfl, Nat.le_refl _, fun _ _ _ => rfl⟩
  go_wp2_with fail
  go_ret
  exact ⟨rfl, t1.trans (sq.trans sq2)⟩
set_option maxRecDepth 100000 in
set_option maxHeartbeats 2000000 in
theorem stands_St_Sf {p q : Int} {sp : ByteArray} {A1 C1 : Option Addr} {b1 o1 k1 a1 d1 n1 e1 : Nat} {x1 : ByteArray} {A2 C2 : Option Addr} {b2 o2 k2 a2 d2 n2 e2 : Nat} {x2 : ByteArray} (w : World) (z1 : decide ((sp.size : Int) < 1) = false) (z2 : decide (RowKit.wrap64 (p.tdiv 16) < (sp.size : Int)) = false) (hx1 : w.cell? ⟨b1, o1 + k1, none⟩ = some (.string x1)) (hl1 : Op.bytesLess x1.toList sp.toList = true) (hb1 : k1 + 1 ≤ 1048576) (hx2 : w.cell? ⟨b2, o2, none⟩ = some (.string x2)) (hl2 : (Op.bytesLess x2.toList sp.toList || x2.toList == sp.toList) = true) (hb2 : k2 + 1 ≤ 1048576) :
    Calls Tryz.prog 43 #[frameV p q, .agg #[.slice A1 0 a1, .slice (some ⟨b1, o1, none⟩) (k1 + 1) d1, .slice C1 n1 e1, .string sp, .slice A2 0 a2, .slice (some ⟨b2, o2, none⟩) (k2 + 1) d2, .slice C2 n2 e2]] w fun e w' => e = .returned (.bool false) ∧ Same w w' := by
  obtain ⟨X, hX⟩ : ∃ X, X = (((w.alloc (.cells #[.int .i64 p, .int .i64 q] 23)).alloc (.cells #[.slice A1 0 a1, .slice (some ⟨b1, o1, none⟩) (k1 + 1) d1, .slice C1 n1 e1, .string sp, .slice A2 0 a2, .slice (some ⟨b2, o2, none⟩) (k2 + 1) d2, .slice C2 n2 e2] 30)).alloc (.cells #[.slice A1 0 a1, .slice (some ⟨b1, o1, none⟩) (k1 + 1) d1, .slice C1 n1 e1] 28)).alloc (.cells #[.slice A2 0 a2, .slice (some ⟨b2, o2, none⟩) (k2 + 1) d2, .slice C2 n2 e2] 28) := ⟨_, rfl⟩
  have t1 : Same w X := by rw [hX]; exact ((((Fr.refl _ w).alloc _).alloc _).alloc _).alloc _
  obtain ⟨g0, g1, g2, g3⟩ := four_boxes w (.cells #[.int .i64 p, .int .i64 q] 23) (.cells #[.slice A1 0 a1, .slice (some ⟨b1, o1, none⟩) (k1 + 1) d1, .slice C1 n1 e1, .string sp, .slice A2 0 a2, .slice (some ⟨b2, o2, none⟩) (k2 + 1) d2, .slice C2 n2 e2] 30) (.cells #[.slice A1 0 a1, .slice (some ⟨b1, o1, none⟩) (k1 + 1) d1, .slice C1 n1 e1] 28) (.cells #[.slice A2 0 a2, .slice (some ⟨b2, o2, none⟩) (k2 + 1) d2, .slice C2 n2 e2] 28)
  rw [← hX] at g0 g1 g2 g3
  have m3 : X.cell? ⟨w.heap.size + 1, 3, none⟩ = some (.string sp) := (cell_of_row _ _ _ _ _ _ g1).trans rfl
  have c00 : X.cell? ⟨w.heap.size + 1 + 1, 0, none⟩ = some (.slice A1 0 a1) := (cell_of_row _ _ _ _ _ _ g2).trans rfl
  have c01 : X.cell? ⟨w.heap.size + 1 + 1, 1, none⟩ = some (.slice (some ⟨b1, o1, none⟩) (k1 + 1) d1) := (cell_of_row _ _ _ _ _ _ g2).trans rfl
  have c02 : X.cell? ⟨w.heap.size + 1 + 1, 2, none⟩ = some (.slice C1 n1 e1) := (cell_of_row _ _ _ _ _ _ g2).trans rfl
  have c10 : X.cell? ⟨w.heap.size + 1 + 1 + 1, 0, none⟩ = some (.slice A2 0 a2) := (cell_of_row _ _ _ _ _ _ g3).trans rfl
  have c11 : X.cell? ⟨w.heap.size + 1 + 1 + 1, 1, none⟩ = some (.slice (some ⟨b2, o2, none⟩) (k2 + 1) d2) := (cell_of_row _ _ _ _ _ _ g3).trans rfl
  have c12 : X.cell? ⟨w.heap.size + 1 + 1 + 1, 2, none⟩ = some (.slice C2 n2 e2) := (cell_of_row _ _ _ _ _ _ g3).trans rfl
  have hx1 := t1.keep hx1
  have e1 : ((k1 : Int) + 1) - 1 = (k1 : Int) := by omega
  have e3 : IntKind.i64.wrap (k1 : Int) = (k1 : Int) := by rw [IntKind.wrap_i64]; omega
  have v1 : (0 : Int) ≤ (k1 : Int) := by omega
  have v2 : (k1 : Int) < (k1 : Int) + 1 := by omega
  have hx2 := t1.keep hx2
  have v5 : (0 : Int) < (k2 : Int) + 1 := by omega
  clear g0 g1 g2 g3 hb1 hb2
  go_enter Tryz.func43, Tryz.ntmps43
  go_wp2_with fail
  rw [← hX]
  clear hX
  go_quiet (fail)
  have sq : Same X (X.drewN nq) := ⟨rfl, rfl, rfl, Nat.le_refl _, fun _ _ _ => rfl⟩
  have d3 := sq.keep m3
  have d00 := sq.keep c00
  have d01 := sq.keep c01
  have d02 := sq.keep c02
  have d10 := sq.keep c10
  have d11 := sq.keep c11
  have d12 := sq.keep c12
  have hx2 := sq.keep hx2
  generalize X.drewN nq = Z at *
  go_wp2_with fail
  go_quiet (fail)
  have sq2 : Same Z (Z.drewN nq) := ⟨rfl, rfl, rfl, Nat.le_refl _, fun _ _ _ => rfl⟩
  go_wp2_with fail
  go_ret
  exact ⟨rfl, t1.trans (sq.trans sq2)⟩
set_option maxRecDepth 100000 in
set_option maxHeartbeats 2000000 in
theorem stands_m0 {p q : Int} {sp : ByteArray} {x0 x1 x2 x3 x4 x5 : Value} (w : World) (z1 : decide ((sp.size : Int) < 1) = true) :
    Calls Tryz.prog 43 #[frameV p q, .agg #[x0, x1, x2, .string sp, x3, x4, x5]] w fun e w' => e = .returned (.bool false) ∧ Same w w' := by
  have t1 : Same w ((w.alloc (.cells #[.int .i64 p, .int .i64 q] 23)).alloc (.cells #[x0, x1, x2, .string sp, x3, x4, x5] 30)) := ((Fr.refl _ w).alloc _).alloc _
  go_enter Tryz.func43, Tryz.ntmps43
  go_wp2_with fail
  go_ret
  exact ⟨rfl, t1⟩
set_option maxRecDepth 100000 in
set_option maxHeartbeats 2000000 in
theorem stands_m1 {p q : Int} {sp : ByteArray} {x0 x1 x2 x3 x4 x5 : Value} (w : World) (z1 : decide ((sp.size : Int) < 1) = false) (z2 : decide (RowKit.wrap64 (p.tdiv 16) < (sp.size : Int)) = true) :
    Calls Tryz.prog 43 #[frameV p q, .agg #[x0, x1, x2, .string sp, x3, x4, x5]] w fun e w' => e = .returned (.bool false) ∧ Same w w' := by
  have t1 : Same w ((w.alloc (.cells #[.int .i64 p, .int .i64 q] 23)).alloc (.cells #[x0, x1, x2, .string sp, x3, x4, x5] 30)) := ((Fr.refl _ w).alloc _).alloc _
  go_enter Tryz.func43, Tryz.ntmps43
  go_wp2_with fail
  go_ret
  exact ⟨rfl, t1⟩
end Go.Proofs.YtdmoglnbelembaaGreat
