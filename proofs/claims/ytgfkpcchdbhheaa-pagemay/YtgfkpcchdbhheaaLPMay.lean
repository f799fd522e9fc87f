/- PageMay answers true at every frame: the program's May answers as the document's; no condition. -/
import Derived.Test.YtgfkpcchdbhheaaRows
import Derived.Test.YtgfkpcchdbhheaaGM
import Derived.ProofKit
import Derived.OpenShut
import Derived.Deep.RegionHeld3
import Derived.Deep.MidRow
import Derived.Laws.Rows
namespace Go.Proofs.Ytgfkpcchdbhheaa
open Go.ChangeShapes Go.WideShapes Go.ChangeAt Go.RowKit

theorem results_cell2 {P : Program} {fn : Func} {p q : Tmp} {ty uy : TypeId} (h : fn.results = #[.cell p ty, .cell q uy]) (tmps : Array Value) (w : World) (g k : Nat) (t u : TypeId) (cs ds : Array Value) (fr fs : Nat × Nat) (d e : TypeDesc)
    (hp : tmps.getD p undef = .pointer (some ⟨g, 0, none⟩)) (hg : w.heap[g]? = some (.cells cs t fr))
    (hu : P.underlying ty = some d) (hd : (match d with | .struct _ | .array _ _ => true | _ => false) = true) (hi : (P.info? ty).map (·.size) = some cs.size)
    (hq : tmps.getD q undef = .pointer (some ⟨k, 0, none⟩)) (hk : w.heap[k]? = some (.cells ds u fs))
    (hv : P.underlying uy = some e) (he : (match e with | .struct _ | .array _ _ => true | _ => false) = true) (hj : (P.info? uy).map (·.size) = some ds.size) :
    (results fn tmps).run P w = .ok (.tuple #[.agg cs, .agg ds]) w := by
  have hp' : tmps[p]?.getD undef = .pointer (some ⟨g, 0, none⟩) := by simpa using hp
  have hq' : tmps[q]?.getD undef = .pointer (some ⟨k, 0, none⟩) := by simpa using hq
  simp [results, h, hp', hq', asAddr, run_loadVar_row w g t ty cs fr d hg hu hd hi, run_loadVar_row w k u uy ds fs e hk hv he hj]

abbrev pageV (kd no vs : Nat) (body : ByteArray) : Value := .agg #[.int .u8 kd, .int .u32 no, .int .u64 vs, .string body]
set_option maxRecDepth 100000 in
theorem plain_calls (w : World) : Calls Try.prog 4 #[] w fun e w' => e = .returned (.tuple #[.agg #[.int .i64 1024, .int .i64 32], pageV 1 2 1 ⟨#[97, 98]⟩]) ∧ Same w w' := by
  go_enter Try.func4, Try.ntmps4
  go_wp2_with fail
  exact bodyPost_ret (results_cell2 (p := 0) (q := 1) (ty := 23) (uy := 28) (by kernel_rfl) _ _ w.heap.size (w.heap.size + 1) 23 28 _ _ (0, 0) (0, 0) _ _ rfl (heap_alloc2_old _ _ _) Try.underlying23 rfl (by kernel_rfl) rfl (heap_alloc2_new _ _ _) Try.underlying28 rfl (by kernel_rfl)) rfl ⟨rfl, ((Fr.refl _ w).alloc _).alloc _⟩

set_option maxRecDepth 100000 in
set_option maxHeartbeats 1000000 in
theorem pmay_walk (p q : Int) (w : World) :
    Calls Try.prog 3 #[.agg #[.int .i64 p, .int .i64 q]] w fun e w' => e = .returned (.bool true) ∧ Same w w' := by
  have sx : Same w (w.alloc (.cells #[.int .i64 p, .int .i64 q] 23)) := (Fr.refl _ w).alloc _
  have c0 : (w.alloc (.cells #[.int .i64 p, .int .i64 q] 23)).cell? ⟨w.heap.size, 0, none⟩ = some (.int .i64 p) := by simp
  have c1 : (w.alloc (.cells #[.int .i64 p, .int .i64 q] 23)).cell? ⟨w.heap.size, 1, none⟩ = some (.int .i64 q) := by simp
  go_enter Try.func3, Try.ntmps3
  go_wp2_with fail
  generalize (w.alloc (.cells #[.int .i64 p, .int .i64 q] 23)) = V at *
  refine (plain_calls _).mono ?_
  rintro e W ⟨rfl, s0⟩
  go_wp2_with fail
  have e0 := s0.keep c0
  have e1 := s0.keep c1
  have y0 := Same.keep (((Fr.refl (fun _ => False) W).alloc (.cells #[.int .i64 1024, .int .i64 32] 23)).alloc (.cells #[.int .u8 1, .int .u32 2, .int .u64 1, .string ⟨#[97, 98]⟩] 28)) e0
  have y1 := Same.keep (((Fr.refl (fun _ => False) W).alloc (.cells #[.int .i64 1024, .int .i64 32] 23)).alloc (.cells #[.int .u8 1, .int .u32 2, .int .u64 1, .string ⟨#[97, 98]⟩] 28)) e1
  have s0' : Same w ((W.alloc (.cells #[.int .i64 1024, .int .i64 32] 23)).alloc (.cells #[.int .u8 1, .int .u32 2, .int .u64 1, .string ⟨#[97, 98]⟩] 28)) := ((sx.trans s0).alloc _).alloc _
  have y2 : ((W.alloc (.cells #[.int .i64 1024, .int .i64 32] 23)).alloc (.cells #[.int .u8 1, .int .u32 2, .int .u64 1, .string ⟨#[97, 98]⟩] 28)).cell? ⟨W.heap.size, 0, none⟩ = some (.int .i64 1024) := by simp
  have y3 : ((W.alloc (.cells #[.int .i64 1024, .int .i64 32] 23)).alloc (.cells #[.int .u8 1, .int .u32 2, .int .u64 1, .string ⟨#[97, 98]⟩] 28)).cell? ⟨W.heap.size, 1, none⟩ = some (.int .i64 32) := by simp
  generalize ((W.alloc (.cells #[.int .i64 1024, .int .i64 32] 23)).alloc (.cells #[.int .u8 1, .int .u32 2, .int .u64 1, .string ⟨#[97, 98]⟩] 28)) = U at *
  have HM := may_calls p q
  have HR := rmay_calls p q
  have HN := may_calls 1024 32
  have hn1 : frameP 1024 32 = true := by decide
  rw [hn1] at HN
  obtain ⟨b, hb⟩ : ∃ b, b = frameP p q := ⟨_, rfl⟩
  rw [← hb] at HM HR
  have hbb : (b == b) = true := by simp
  clear e0 e1 c0 c1 sx s0 hn1 hb
  go_region_held3 (fun w' => w'.cell? ⟨w.heap.size, 0, none⟩ = some (.int .i64 p) ∧ w'.cell? ⟨w.heap.size, 1, none⟩ = some (.int .i64 q) ∧ w'.cell? ⟨W.heap.size, 0, none⟩ = some (.int .i64 1024) ∧ w'.cell? ⟨W.heap.size, 1, none⟩ = some (.int .i64 32)) (first | go_keep | exact ⟨i0, i1, i2, i3⟩ | exact ⟨j0, j1, j2, j3⟩ | exact ⟨k0, k1, k2, k3⟩)
    (first | (have hh := t2; go_at_call 5; refine (HN _).mono ?_; rintro e W3 ⟨rfl, s3⟩; have i0 := s3.keep j0; have i1 := s3.keep j1; have i2 := s3.keep j2; have i3 := s3.keep j3) | (go_at_call 5; refine (HM _).mono ?_; rintro e W1 ⟨rfl, s1⟩; have t1 : Same w W1 := Same.trans (Fr.drew s0') s1; have k0 := Same.keep (w := U.drew) s1 (a := ⟨w.heap.size, 0, none⟩) y0; have k1 := Same.keep (w := U.drew) s1 (a := ⟨w.heap.size, 1, none⟩) y1; have k2 := Same.keep (w := U.drew) s1 (a := ⟨W.heap.size, 0, none⟩) y2; have k3 := Same.keep (w := U.drew) s1 (a := ⟨W.heap.size, 1, none⟩) y3) | (go_at_call 6; refine (HR _).mono ?_; rintro e W2 ⟨rfl, s2⟩; have t2 : Same w W2 := Same.trans t1 s2; have j0 := s2.keep k0; have j1 := s2.keep k1; have j2 := s2.keep k2; have j3 := s2.keep k3))
  go_wp2_with fail
  go_ret
  exact ⟨rfl, Same.trans t2 s3⟩

theorem Try.cellsFrame : Try.prog.cellsOf 23 = 2 := by kernel_rfl
set_option maxRecDepth 100000 in
theorem open_frame {H : Type} {enc : TypeId × Value → H} {W : World} {v : Value} {d : DataW H} {pl : List MemPlace} {base : Nat}
    (hv : Value.okWide Try.prog W .any base 23 v) (h : DataW.Trod enc Try.prog W 0 (fun _ => true) true 23 v d pl) :
    ∃ p q, v = .agg #[.int .i64 p, .int .i64 q] := by
  obtain ⟨cs, rfl, hz⟩ := okWide_struct Try.underlying23 hv
  rw [Try.cellsFrame] at hz
  obtain ⟨fuel, hf⟩ := h
  obtain ⟨x, y, rfl⟩ : ∃ x y, cs = #[x, y] := by
    obtain ⟨l⟩ := cs
    match l, hz with
    | [x, y], _ => exact ⟨x, y, rfl⟩
  obtain ⟨y0, y1, n, hx, _, f0, f1⟩ := trod_struct2 Try.underlying23 hf
  have c4 : Try.prog.cellsOf 3 = 1 := by kernel_rfl
  simp only [Value.cells, c4, List.drop_succ_cons, List.drop_zero, List.take_succ_cons, List.take_zero] at f0 f1
  obtain ⟨a, e0, g0, _⟩ := DataW.trod_int Try.underlying3 f0
  obtain ⟨b, e1, g1, _⟩ := DataW.trod_int Try.underlying3 f1
  simp only [List.cons.injEq, and_true] at e0 e1
  subst e0; subst e1
  exact ⟨a, b, rfl⟩

theorem pmay_own : ownKnob Try.prog.godebug = none := by kernel_rfl
theorem pmay_laidOut : laidOutB Try.prog = true := by kernel_rfl

set_option maxRecDepth 100000 in
theorem pmay_lifted (os : Os) (started : os.Started) (H : Type) (enc : TypeId × Value → H) :
    ReturnsInHanded {} Try.checked os 3 .any (Rows.pageMaySpec.pre6 enc Try.prog Try.f3 Rows.pageMayRow.domain false) (Rows.pageMaySpec.post enc Try.prog Try.f3 false true false false) := by
  refine returnsInHanded_of_change (C := Try.checked) pmay_own started (by kernel_rfl) Try.func3
    (ChangeSpec.witness6 (enc := enc) (C := Try.checked) false ⟨#[], #[.agg #[.int .i64 0, .int .i64 0]], []⟩ 8 (by kernel_rfl) (by kernel_rfl) (by kernel_rfl) (by kernel_rfl)) ?_
  intro W base args ds gs before hval0 hW hcnd _
  have hval : ∀ (j : Nat) t v, Try.f3.params[j]? = some t → args[j]? = some v → Value.okWide Try.prog W .any base t v := hval0
  have hW' := hW
  obtain ⟨p, q, hA0, hV, rfl, hfz, hnd⟩ := hW
  have hA : DataW.TrodAll enc Try.prog W 0 (fun _ => true) true Try.f3.params.toList args.toList ds p := hA0
  rw [Try.params3] at hA hval
  obtain ⟨v0, vs0, d0, ds0, p0, q0, hargs, rfl, rfl, h0, r0⟩ := trodAll_cons hA
  obtain ⟨rfl, rfl, rfl⟩ := trodAll_nil r0
  obtain rfl : args = #[v0] := by cases args; simp_all
  obtain ⟨rfl, rfl⟩ := trodVars_none hV
  have k0 := h0
  have lt0 : ∀ x ∈ p0, x.block < W.heap.size := by obtain ⟨m, hm⟩ := k0; exact DataW.trod_lt m _ _ _ hm
  obtain ⟨a, b, rfl⟩ := open_frame (hval 0 23 v0 rfl rfl) h0
  clear hA0 hval0
  refine (pmay_walk a b W).mono fun e W' ⟨he, sm⟩ => ?_
  subst he
  have bel : Below W.heap.size W W' := Fr.below sm (Nat.le_refl _) (fun _ f => f.elim)
  exact ⟨_, rfl, _, _, _, [], _, [], hW', trodAll_mk1 (shut_bool Try.underlying4 _), trodAll_cons_mk (Below.trod pmay_laidOut (by kernel_rfl) (of_decide_eq_true (by kernel_rfl)) k0 bel lt0) trodAll_mk0, rfl, bel.frame _, fun h => by cases h⟩

theorem pmay_holds : Rows.PageMaySaid :=
  OpenClaim.holds_of_wide 3 Try.f3 rfl rfl rfl rfl rfl rfl rfl ⟨rfl, rfl, rfl, rfl, rfl⟩ rfl rfl rfl rfl rfl (by kernel_rfl) Try.func3 (by kernel_rfl)
    (of_decide_eq_true (by kernel_rfl)) (by unfold Func.isWrapper; first | (rw [if_pos (by decide +kernel)]; kernel_rfl) | (rw [if_neg (by decide +kernel)]; exact ⟨rfl, rfl⟩))
    (fun os started H enc _ => pmay_lifted os started H enc)
end Go.Proofs.Ytgfkpcchdbhheaa
