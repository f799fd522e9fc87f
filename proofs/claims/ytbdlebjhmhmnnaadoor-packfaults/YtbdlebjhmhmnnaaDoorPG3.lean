/- PackFaults: the walk. -/
import Derived.Test.YtbdlebjhmhmnnaaDoorPG2
namespace Go.Proofs.YtbdlebjhmhmnnaaDoor
open Go.RowKit

theorem Tryd.eqErr (a b : Int) (w : World) : (binOp .eql 27 (.iface 23 (.int .i64 a)) (.iface 23 (.int .i64 b))).run Tryd.prog w = .ok (.bool (decide (a = b))) w := by kernel_rfl
set_option maxRecDepth 100000 in
set_option maxHeartbeats 1000000 in
theorem pfaults_walk (W : World) (htab : Lib.TabIs Tryd.prog W "internal/strconv.uint64pow10" .u64 Lib.pow10Tab) (c p o : Int) (c0 : -9223372036854775808 ≤ c) (c1 : c ≤ 9223372036854775807) (p0 : -9223372036854775808 ≤ p) (p1 : p ≤ 9223372036854775807) :
    Calls Tryd.prog 3 #[.int .i64 c, .int .i64 p, .int .i64 o] W fun e w' => e = .returned (.bool true) ∧ Same W w' := by
  obtain ⟨X, hX⟩ : ∃ X, X = W.alloc (.cells #[.int .i64 c, .int .i64 p] 25) := ⟨_, rfl⟩
  have sX : Same W X := by rw [hX]; exact (Fr.refl _ W).alloc _
  have hf : FltI X W.heap.size c p := by rw [hX]; exact heap_alloc_new W _
  have HL : Hid (∀ V, Calls Tryd.prog 6 #[] V fun e w' => e = .returned (.bool true) ∧ Same V w') := fun V => lives_calls V
  have HF : Hid (∀ V, Same X V → Calls Tryd.prog 4 #[.pointer (some ⟨W.heap.size, 0, none⟩)] V fun e w' => e = .returned (.string (faultI c p)) ∧ Same V w') := fun V s => ferrorI (TabIs.same htab (Same.trans sX s)) (hf.same s) c0 c1 p0 p1
  have HU : Hid (∀ V, Same X V → Calls Tryd.prog 5 #[.pointer (some ⟨W.heap.size, 0, none⟩)] V fun e w' => e = .returned (.iface 23 (.int .i64 c)) ∧ w' = V) := fun V s => funwrapI (hf.same s)
  have HI : Hid (∀ V, Same X V → Calls Tryd.prog 8 #[.iface 22 (.pointer (some ⟨W.heap.size, 0, none⟩)), .iface 23 (.int .i64 o)] V fun e w' => e = .returned (.bool (decide (c = o))) ∧ w' = V) := fun V s => fis_calls o (hf.same s)
  have HN1 : Hid (∀ V, Calls Tryd.prog 7 #[.int .i64 c] V fun e w' => e = .returned (.string ⟨(Lib.itoa c).toArray⟩) ∧ Same V w') := fun V => rnumber_calls c V c0 c1
  have HN2 : Hid (∀ V, Calls Tryd.prog 7 #[.int .i64 p] V fun e w' => e = .returned (.string ⟨(Lib.itoa p).toArray⟩) ∧ Same V w') := fun V => rnumber_calls p V p0 p1
  have hA := itoaI_size c c0 c1
  have hB := itoaI_size p p0 p1
  have eE := Tryd.eqErr c c
  rw [show decide (c = c) = true by simp] at eE
  unfold faultI at HF
  obtain ⟨A, hAe⟩ : ∃ A : ByteArray, A = ⟨(Lib.itoa c).toArray⟩ := ⟨_, rfl⟩
  obtain ⟨B, hBe⟩ : ∃ B : ByteArray, B = ⟨(Lib.itoa p).toArray⟩ := ⟨_, rfl⟩
  rw [← hAe] at HF HN1 hA
  rw [← hBe] at HF HN2 hB
  clear hAe hBe htab hf
  have a1 := fun W => run_string_add_sum (P := Tryd.prog) W (⟨#[112, 97, 99, 107, 58, 32]⟩ : ByteArray) A (by have : (⟨#[112, 97, 99, 107, 58, 32]⟩ : ByteArray).size = 6 := rfl; omega)
  have a2 := fun W => run_string_add_sum (P := Tryd.prog) W ((⟨#[112, 97, 99, 107, 58, 32]⟩ : ByteArray) ++ A) (⟨#[32, 97, 116, 32]⟩ : ByteArray) (by
    have : (⟨#[112, 97, 99, 107, 58, 32]⟩ : ByteArray).size = 6 := rfl
    have : (⟨#[32, 97, 116, 32]⟩ : ByteArray).size = 4 := rfl
    rw [ba_size]
    omega)
  have a3 := fun W => run_string_add_sum (P := Tryd.prog) W (((⟨#[112, 97, 99, 107, 58, 32]⟩ : ByteArray) ++ A) ++ (⟨#[32, 97, 116, 32]⟩ : ByteArray)) B (by
    have : (⟨#[112, 97, 99, 107, 58, 32]⟩ : ByteArray).size = 6 := rfl
    have : (⟨#[32, 97, 116, 32]⟩ : ByteArray).size = 4 := rfl
    rw [ba_size, ba_size]
    omega)
  obtain ⟨T, hT⟩ : ∃ T : ByteArray, T = (((⟨#[112, 97, 99, 107, 58, 32]⟩ : ByteArray) ++ A) ++ (⟨#[32, 97, 116, 32]⟩ : ByteArray)) ++ B := ⟨_, rfl⟩
  rw [← hT] at HF a3
  clear hT hA hB c0 c1 p0 p1
  go_enter Tryd.func3, Tryd.ntmps3
  go_wp2_with fail
  rw [← hX]
  clear hX
  refine (ferror_none _).mono ?_
  rintro e W1 ⟨rfl, rfl⟩
  go_wp2_with fail
  refine (funwrap_none _).mono ?_
  rintro e W1 ⟨rfl, rfl⟩
  go_wp2_with fail
  refine (HL.out _).mono ?_
  rintro e W1 ⟨rfl, s1⟩
  go_wp2_with fail
  refine (HU.out _ s1).mono ?_
  rintro e W2 ⟨rfl, rfl⟩
  go_wp2_with fail
  refine (HF.out _ s1).mono ?_
  rintro e W2 ⟨rfl, s2⟩
  go_wp2_with fail
  refine (HN1.out _).mono ?_
  rintro e W3 ⟨rfl, s3⟩
  go_wp2_with fail
  refine (HN2.out _).mono ?_
  rintro e W4 ⟨rfl, s4⟩
  go_wp2_with fail
  refine (HI.out _ (s1.trans (s2.trans (s3.trans s4)))).mono ?_
  rintro e W5 ⟨rfl, rfl⟩
  go_wp2_with fail
  go_ret
  have e : (decide (c = o) == (c == o)) = true := by by_cases h : c = o <;> simp [h]
  exact ⟨congrArg (fun b => Ending.returned (Value.bool b)) e, sX.trans (s1.trans (s2.trans (s3.trans s4)))⟩
end Go.Proofs.YtbdlebjhmhmnnaaDoor
