/- Walks: MetaEncodes. -/
import Derived.Test.YtjfkkjangebblaaDoorMRC
namespace Go.Proofs.YtjfkkjangebblaaDoor
open Go.RowKit

set_option maxRecDepth 100000 in
set_option maxHeartbeats 2000000 in
theorem mencodes_core {p q : Int} {A : Array Value} {S : ByteArray} {E : Int} (w : World) (hAs : A.size = 38)
    (HA : Hid (∀ W, Same w W → Calls Tryd.prog 7 #[] W fun e w' => e = .returned (.bool true) ∧ Same W w'))
    (HR : Hid (∀ W, Calls Tryd.prog 10 #[frameV p q, .agg A] W fun e w' => e = .returned (.tuple #[.string S, .int .i64 E]) ∧ Same W w'))
    (HE : Hid (∀ W, Same w W → Calls Tryd.prog 11 #[frameV p q, .agg A] W fun e w' => e = .returned (.tuple #[.string S, .int .i64 E]) ∧ Same W w')) :
    Calls Tryd.prog 4 #[frameV p q, .agg A] w fun e w' => e = .returned (.bool true) ∧ Same w w' := by
  have hs : (Tryd.prog.info? 34).map (·.size) = some A.size := by rw [Tryd.infoM, hAs]
  have hEE : (E == E) = true := by simp
  have hSS : (S.toList == S.toList) = true := by simp
  have sx : Same w ((w.alloc (.cells #[.int .i64 p, .int .i64 q] 23)).alloc (.cells A 34)) := ((Fr.refl _ w).alloc _).alloc _
  have hA : ((w.alloc (.cells #[.int .i64 p, .int .i64 q] 23)).alloc (.cells A 34)).heap[w.heap.size + 1]? = some (.cells A 34 (0, 0)) := heap_alloc2_new w _ _
  have c0 : ((w.alloc (.cells #[.int .i64 p, .int .i64 q] 23)).alloc (.cells A 34)).cell? ⟨w.heap.size, 0, none⟩ = some (.int .i64 p) := by simp
  have c1 : ((w.alloc (.cells #[.int .i64 p, .int .i64 q] 23)).alloc (.cells A 34)).cell? ⟨w.heap.size, 1, none⟩ = some (.int .i64 q) := by simp
  go_enter Tryd.func4, Tryd.ntmps4
  go_wp2_with (first | (refine wpList_load_want (by rfl) 34 _ (by rfl) (w.heap.size + 1) (by rfl) 34 A (0, 0) _ hA Tryd.underlying34 rfl hs ?_))
  generalize ((w.alloc (.cells #[.int .i64 p, .int .i64 q] 23)).alloc (.cells A 34)) = V at *
  refine (HR.out _).mono ?_
  rintro e W1 ⟨rfl, s1⟩
  have hA1 := (s1.block _ (lt_of_heap hA) (fun f => f)).trans hA
  have c0 := s1.keep c0
  have c1 := s1.keep c1
  have t1 := sx.trans s1
  clear s1 sx hA
  go_wp2_with (first | (refine wpList_load_want (by rfl) 34 _ (by rfl) (w.heap.size + 1) (by rfl) 34 A (0, 0) _ hA1 Tryd.underlying34 rfl hs ?_))
  refine (HE.out _ t1).mono ?_
  rintro e W2 ⟨rfl, s2⟩
  have t2 := t1.trans s2
  clear s2 t1 hA1 c0 c1
  go_wp2_with fail
  refine (HA.out _ t2).mono ?_
  rintro e W3 ⟨rfl, s3⟩
  go_wp2_with fail
  go_ret
  exact ⟨rfl, t2.trans s3⟩

theorem mencodes_walk (w : World) (ht : TabAt w) (hz : TzAt w) (p q : Int) (m : Rec) (hm : RecOk m) :
    Calls Tryd.prog 4 #[frameV p q, metaV m] w fun e w' => e = .returned (.bool true) ∧ Same w w' :=
  mencodes_core w (arr_size m hm.d) (fun W h => awake_calls W (ht.same h) (hz.same h)) (rencode_calls p q m hm) (fun W h => encode_calls p q m hm W (ht.same h) (hz.same h))
end Go.Proofs.YtjfkkjangebblaaDoor
