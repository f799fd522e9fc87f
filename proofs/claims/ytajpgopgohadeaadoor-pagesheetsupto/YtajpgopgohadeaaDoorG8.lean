/- awake. -/
import Derived.Test.YtajpgopgohadeaaDoorG7
namespace Go.Proofs.YtajpgopgohadeaaDoor
open Go.RowKit

theorem results_cell2 {P : Program} {fn : Func} {p q : Tmp} {ty uy : TypeId} (h : fn.results = #[.cell p ty, .cell q uy]) (tmps : Array Value) (w : World) (g k : Nat) (t u : TypeId) (cs ds : Array Value) (fr fs : Nat × Nat) (d e : TypeDesc)
    (hp : tmps.getD p undef = .pointer (some ⟨g, 0, none⟩)) (hg : w.heap[g]? = some (.cells cs t fr))
    (hu : P.underlying ty = some d) (hd : (match d with | .struct _ | .array _ _ => true | _ => false) = true) (hi : (P.info? ty).map (·.size) = some cs.size)
    (hq : tmps.getD q undef = .pointer (some ⟨k, 0, none⟩)) (hk : w.heap[k]? = some (.cells ds u fs))
    (hv : P.underlying uy = some e) (he : (match e with | .struct _ | .array _ _ => true | _ => false) = true) (hj : (P.info? uy).map (·.size) = some ds.size) :
    (results fn tmps).run P w = .ok (.tuple #[.agg cs, .agg ds]) w := by
  have hp' : tmps[p]?.getD undef = .pointer (some ⟨g, 0, none⟩) := by simpa using hp
  have hq' : tmps[q]?.getD undef = .pointer (some ⟨k, 0, none⟩) := by simpa using hq
  simp [results, h, hp', hq', asAddr, run_loadVar_row w g t ty cs fr d hg hu hd hi, run_loadVar_row w k u uy ds fs e hk hv he hj]

set_option maxRecDepth 100000 in
theorem plain_calls (w : World) : Calls Tryd.prog 14 #[] w fun e w' => e = .returned (.tuple #[.agg #[.int .i64 1024, .int .i64 32], pageV 1 2 1 ⟨#[97, 98]⟩]) ∧ Same w w' := by
  go_enter Tryd.func14, Tryd.ntmps14
  go_wp2_with fail
  exact bodyPost_ret (results_cell2 (p := 0) (q := 1) (ty := 23) (uy := 41) (by kernel_rfl) _ _ w.heap.size (w.heap.size + 1) 23 41 _ _ (0, 0) (0, 0) _ _ rfl (heap_alloc2_old _ _ _) Tryd.underlying23 rfl (by kernel_rfl) rfl (heap_alloc2_new _ _ _) Tryd.underlying41 rfl (by kernel_rfl)) rfl ⟨rfl, ((Fr.refl _ w).alloc _).alloc _⟩


def abS : ByteArray := ⟨#[97, 98]⟩
def plainS : ByteArray := ⟨(formB 1024 1 2 1 abS).toArray⟩
theorem plain_ok : chkE 1024 32 1 2 1 abS.size = 0 := by decide
theorem plainS_list : plainS.data.toList = formB 1024 1 2 1 abS := by rw [plainS, List.toList_toArray]
theorem plainS_read : readE 1024 32 plainS = 0 ∧ readV 1024 32 plainS = pageV 1 2 1 abS ∧ (plainS.size : Int) = 1024 := read_form plain_ok plainS_list
theorem plainS_head : plainS.extract 0 8 = ⟨#[72, 87, 80, 71, 1, 1, 0, 2]⟩ := by
  apply bytes_ext
  rw [show (8 : Nat) = 0 + 8 from rfl, extract_list, List.drop_zero, plainS_list, formB, List.append_assoc]
  rfl
theorem plainS_body : plainS.extract 32 35 = ⟨#[97, 98, 0]⟩ := by
  apply bytes_ext
  have h := (form_places plainS_list (by decide) (by decide) (by decide) (by decide)).2.2.2.2.2.2
  have h2 := congrArg (fun x => x.data.toList) h
  simp only [extract_end, restP, List.toList_toArray] at h2
  rw [show (35 : Nat) = 32 + 3 from rfl, extract_list, h2]
  rfl

set_option maxRecDepth 100000 in
set_option maxHeartbeats 2000000 in
theorem awake_calls (w : World) (ht : TabAt w) : Calls Tryd.prog 7 #[] w fun e w' => e = .returned (.bool true) ∧ Same w w' := by
  have HT : Hid (TabAt w) := ht
  have hab : (⟨#[97, 98]⟩ : ByteArray) = abS := rfl
  have HW : Hid (∀ W, Same w W → Calls Tryd.prog 11 #[frameV 1024 32, pageV 1 2 1 abS] W fun e w' => e = .returned (.tuple #[.string plainS, .int .i64 0]) ∧ Same W w') := fun W h => write_good plain_ok W (HT.out.same h)
  have HR : Hid (∀ W, Same w W → Calls Tryd.prog 15 #[frameV 1024 32, .string plainS] W fun e w' => e = .returned (.tuple #[pageV 1 2 1 abS, .int .i64 0]) ∧ Same W w') := fun W h => by
    have := read_calls 1024 32 plainS W (HT.out.same h)
    rw [plainS_read.1, plainS_read.2.1] at this
    exact this
  have hsz : (plainS.size : Int) = 1024 := plainS_read.2.2
  have h8 := plainS_head
  have h35 := plainS_body
  have PC := plain_calls
  rw [hab] at PC
  generalize plainS = PS at *
  generalize abS = AB at *
  clear hab ht
  go_enter Tryd.func7, Tryd.ntmps7
  go_wp2_with fail
  refine (PC _).mono ?_
  rintro e W1 ⟨rfl, s1⟩
  obtain ⟨V, hV⟩ : ∃ V, V = ((W1.alloc (.cells #[.int .i64 1024, .int .i64 32] 23)).alloc (.cells #[.int .u8 1, .int .u32 2, .int .u64 1, .string AB] 41)) := ⟨_, rfl⟩
  have sx : Same w V := by rw [hV]; exact (s1.alloc _).alloc _
  have c0 : V.cell? ⟨W1.heap.size, 0, none⟩ = some (.int .i64 1024) := by rw [hV]; simp
  have c1 : V.cell? ⟨W1.heap.size, 1, none⟩ = some (.int .i64 32) := by rw [hV]; simp
  have d0 : V.cell? ⟨W1.heap.size + 1, 0, none⟩ = some (.int .u8 1) := by rw [hV]; simp
  have d1 : V.cell? ⟨W1.heap.size + 1, 1, none⟩ = some (.int .u32 2) := by rw [hV]; simp
  have d2 : V.cell? ⟨W1.heap.size + 1, 2, none⟩ = some (.int .u64 1) := by rw [hV]; simp
  have d3 : V.cell? ⟨W1.heap.size + 1, 3, none⟩ = some (.string AB) := by rw [hV]; simp
  go_wp2_with fail
  rw [← hV]
  clear hV PC
  refine (HW.out _ sx).mono ?_
  rintro e W2 ⟨rfl, s2⟩
  have t2 := sx.trans s2
  have c0 := s2.keep c0
  have c1 := s2.keep c1
  have d0 := s2.keep d0
  have d1 := s2.keep d1
  have d2 := s2.keep d2
  have d3 := s2.keep d3
  clear s2 HW
  go_wp2_with fail
  refine (HR.out _ t2).mono ?_
  rintro e W3 ⟨rfl, s3⟩
  have t3 := t2.trans s3
  have d0 := s3.keep d0
  have d1 := s3.keep d1
  have d2 := s3.keep d2
  have d3 := s3.keep d3
  clear s3 HR
  have s4 : Same W3 (W3.alloc (.cells #[.int .u8 1, .int .u32 2, .int .u64 1, .string AB] 41)) := (Fr.refl _ W3).alloc _
  have d0 := s4.keep d0
  have d1 := s4.keep d1
  have d2 := s4.keep d2
  have d3 := s4.keep d3
  go_wp2_with fail
  go_ret
  exact ⟨rfl, t3.trans s4⟩
end Go.Proofs.YtajpgopgohadeaaDoor
