/- SumsMore answers true: of every sum and all bytes the program's More is the document's, bit by bit; no condition but that the package's table is as the program's text lays it. -/
import Derived.Test.YtcbnaopcehhdeaaDoorCards
import Derived.Test.YtcbnaopcehhdeaaDoorTie
import Derived.OpenShut
import Derived.Deep.DeepHandedRow
import Derived.Lib.LaidTab
import Derived.Test.YtcbnaopcehhdeaaDoorSH
import Derived.Test.YtcbnaopcehhdeaaDoorSN
import Derived.SizedLaws
namespace Go.Proofs.YtcbnaopcehhdeaaDoor
open Go.ChangeShapes Go.WideShapes Go.ChangeAt Go.RowKit
open Go.ChangeMaps (open_string shut_string)

theorem smore_own' : laidOutB Tryd.prog = true := by kernel_rfl
set_option maxRecDepth 100000 in
theorem smore_walk (w : World) (ht : TabAt w) (sum : UInt32) (s : ByteArray) (hs : s.size ≤ 281474976710656) : Calls Tryd.prog 4 #[.int .u32 sum.toNat, .string s] w fun e w' => e = .returned (.bool true) ∧ Same w w' := by
  have HM : Hid (∀ W, W = w → Calls Tryd.prog 13 #[.int .u32 sum.toNat, .string s] W fun e w' => e = .returned (.int .u32 (moreP sum s.data.toList).toNat) ∧ w' = W) := by
    rintro W rfl; exact more_calls _ sum s hs ht
  have HR : Hid (∀ W, Calls Tryd.prog 14 #[.int .u32 sum.toNat, .string s] W fun e w' => e = .returned (.int .u32 (moreP sum s.data.toList).toNat) ∧ w' = W) := fun W => rmore_calls W sum s hs
  have HA : Hid (Calls Tryd.prog 12 #[] w fun e w' => e = .returned (.bool true) ∧ Same w w') := awake_calls w ht
  generalize moreP sum s.data.toList = x at *
  clear ht
  go_enter Tryd.func4, Tryd.ntmps4
  go_wp2_with fail
  refine (HM.out _ rfl).mono ?_
  rintro e W1 ⟨rfl, hW1⟩
  rw [hW1]
  clear hW1
  go_wp2_with fail
  refine (HR.out _).mono ?_
  rintro e W2 ⟨rfl, hW2⟩
  rw [hW2]
  clear hW2
  go_wp2_with fail
  refine HA.out.mono ?_
  rintro e W3 ⟨rfl, s3⟩
  go_wp2_with fail
  go_ret
  exact ⟨rfl, s3⟩

set_option maxRecDepth 100000 in
theorem smore_contract (H : Type) (enc : TypeId × Value → H) (W : World) (base : Nat) (args : Array Value) (ds gs : List (DataW H)) (before : List MemPlace)
    (hval : ∀ (j : Nat) t v, Tryd.f4.params[j]? = some t → args[j]? = some v → Value.okWide Tryd.prog W .any base t v)
    (hW : DataW.Whole enc Tryd.prog Tryd.f4.params.toList Rows.sumsMoreSpec.vars false W args.toList ds gs before)
    (hwt : (DataW.weightsEach Tryd.prog (Tryd.f4.params.toList ++ (OpenSpec.ofChange Rows.sumsMoreSpec).bare.plain.varTypes Tryd.prog) (ds ++ gs)).all (· ≤ reachBytes) = true) (hL : laidMetH Tryd.prog Rows.sumsMoreRow.laid W) :
    Calls Tryd.prog 4 args W fun e W' => ∃ v, e = .returned v ∧ Rows.sumsMoreSpec.post enc Tryd.prog Tryd.f4 false true false false W args v W' := by
  have hW' := hW
  obtain ⟨p, q, hA0, hV, rfl, hfz, hnd⟩ := hW
  have hA : DataW.TrodAll enc Tryd.prog W 0 (fun _ => true) true Tryd.f4.params.toList args.toList ds p := hA0
  rw [Tryd.params4] at hA hval hwt
  obtain ⟨v0, vs0, d0, ds0, p0, q0, hargs, rfl, rfl, h0, r0⟩ := trodAll_cons hA
  obtain ⟨v1, vs1, d1, ds1, p1, q1, rfl, rfl, rfl, h1, r1⟩ := trodAll_cons r0
  obtain ⟨rfl, rfl, rfl⟩ := trodAll_nil r1
  obtain rfl : args = #[v0, v1] := by cases args; simp_all
  obtain ⟨rfl, rfl⟩ := trodVars_none hV
  have k0 := h0
  have k1 := h1
  have lt0 : ∀ x ∈ p0, x.block < W.heap.size := by obtain ⟨m, hm⟩ := k0; exact DataW.trod_lt m _ _ _ hm
  have lt1 : ∀ x ∈ p1, x.block < W.heap.size := by obtain ⟨m, hm⟩ := k1; exact DataW.trod_lt m _ _ _ hm
  obtain ⟨n, rfl, rfl, rfl, hwf⟩ := open_int Tryd.underlying24 (hval 0 24 v0 rfl rfl) h0
  obtain ⟨s, rfl, rfl, rfl, hs⟩ := open_string Tryd.underlying9 (hval 1 9 v1 rfl rfl) h1
  have hsz : s.size ≤ 281474976710656 := by
    have h := sized_string hwt (j := 1) (t := 9) (bytes := s.data.toList) rfl rfl
    have h2 := reachBytes_lt
    have h3 : s.data.toList.length = s.size := Array.length_toList
    omega
  have hn : 0 ≤ n ∧ n < 4294967296 := by
    simp [Lit.wf, IntKind.min, IntKind.max, IntKind.bits, IntKind.signed] at hwf
    omega
  obtain ⟨sum, rfl⟩ : ∃ sum : UInt32, n = (sum.toNat : Int) := ⟨UInt32.ofNat n.toNat, by rw [UInt32.toNat_ofNat']; omega⟩
  clear hA0 hval
  refine (smore_walk W (nibTab hL) sum s hsz).mono fun e W' ⟨he, sm⟩ => ?_
  subst he
  have bel : Below W.heap.size W W' := Fr.below sm (Nat.le_refl _) (fun _ f => f.elim)
  exact ⟨_, rfl, _, _, _, [], _, [], hW', trodAll_mk1 (shut_bool Tryd.underlying4 _), trodAll_cons_mk (Below.trod smore_own' (by kernel_rfl) (of_decide_eq_true (by kernel_rfl)) k0 bel lt0) (trodAll_cons_mk (Below.trod smore_own' (by kernel_rfl) (of_decide_eq_true (by kernel_rfl)) k1 bel lt1) trodAll_mk0), rfl, bel.frame _, fun h => by cases h⟩

theorem smore_own : ownKnob Tryd.prog.godebug = none := by kernel_rfl
/-- A world for the witness: the settled one, the tables holding what their initialisers lay. -/
noncomputable def smoreWorld (os : Os) : World :=
  { World.holding Tryd.prog os ⟨#[], #[], []⟩ with heap := ((World.holding Tryd.prog os ⟨#[], #[], []⟩).heap.modify 0 fun
      | .cells _ t frozen => .cells #[.int .u32 0, .int .u32 498536548, .int .u32 997073096, .int .u32 651767980, .int .u32 1994146192, .int .u32 1802195444, .int .u32 1303535960, .int .u32 1342533948, .int .u32 3988292384, .int .u32 4027552580, .int .u32 3604390888, .int .u32 3412177804, .int .u32 2607071920, .int .u32 2262029012, .int .u32 2685067896, .int .u32 3183342108] t frozen
      | o => o) }
theorem smore_met (os : Os) : laidMet Tryd.prog Rows.sumsMoreRow.laid ((smoreWorld os).forCall (fun _ _ => 0) ⟨#[], #[.int .u32 0, .string ⟨#[]⟩], []⟩).memory :=
  laidMet_of_run' 8 (by kernel_rfl) (by kernel_rfl)
theorem smore_reads (os : Os) {H : Type} (enc : TypeId × Value → H) : ∃ places, DataW.whole enc Tryd.prog ((smoreWorld os).forCall (fun _ _ => 0) ⟨#[], #[.int .u32 0, .string ⟨#[]⟩], []⟩).memory Tryd.f4.params.toList Rows.sumsMoreSpec.vars false (#[.int .u32 0, .string ⟨#[]⟩] : Array Value).toList 8 = some ([.lit (.int .u32 0), .lit (.string [])], [], places) :=
  ⟨[], by kernel_rfl⟩

set_option maxRecDepth 100000 in
theorem smore_lifted (os : Os) (started : os.Started) (H : Type) (enc : TypeId × Value → H) (F : Stop.Interp) :
    ReturnsInHanded {} Tryd.checked os 4 .any ((OpenSpec.ofChange Rows.sumsMoreSpec).preRow enc Tryd.prog Tryd.f4 Rows.sumsMoreRow.domain false Rows.sumsMoreRow.laid) (((OpenSpec.ofChange Rows.sumsMoreSpec).at F).post enc Tryd.prog Tryd.f4 false true false false) := by
  obtain ⟨places, hx⟩ := smore_reads os enc
  refine returnsInHanded_of_row (C := Tryd.checked) (s := OpenSpec.ofChange Rows.sumsMoreSpec) smore_own started (by kernel_rfl) Tryd.func4
    (witness_row_at (enc := enc) (C := Tryd.checked) false (smoreWorld os) #[.int .u32 0, .string ⟨#[]⟩] rfl (by kernel_rfl) (by kernel_rfl) (by kernel_rfl)
      (OpenSpec.preRow_of_cond 8 hx (by kernel_rfl) (fun k hk => by cases hk) (by kernel_rfl) (smore_met os))) ?_
  intro W base args ds gs before hval hW _ hcond hwt hL _ _
  exact smore_contract H enc W base args ds gs before hval hW hwt hL

theorem smore_said : Rows.SumsMoreSaid :=
  OpenClaim.holds_of_cond 4 Tryd.f4 rfl rfl rfl rfl rfl rfl rfl ⟨rfl, rfl, rfl, rfl, rfl⟩ rfl rfl rfl rfl rfl (by kernel_rfl) Tryd.func4 (by kernel_rfl)
    (of_decide_eq_true (by kernel_rfl)) (by unfold Func.isWrapper; first | (rw [if_pos (by decide +kernel)]; kernel_rfl) | (rw [if_neg (by decide +kernel)]; exact ⟨rfl, rfl⟩))
    (fun os started H enc _ F => by rw [OpenClaim.pre_eq_preRow]; exact smore_lifted os started H enc F)

/-- No parameter wants a stand-in; the program's own looks are off. -/
theorem smore_plain (f : FuncId) (fn : Func) (hf : Tryd.pinned.checked.prog.funcNamed "heartwood/heartwoodlaw02.SumsMore" = some f) (hfn : Tryd.pinned.checked.prog.funcs[f]? = some fn) :
    false = Tryd.pinned.checked.prog.looks [] ∧ ∀ (j : Nat) t, fn.params[j]? = some t → Tryd.pinned.checked.prog.wantsStandIn t = false := by
  obtain rfl : f = 4 := Option.some.inj ((show Tryd.prog.funcNamed "heartwood/heartwoodlaw02.SumsMore" = some 4 by kernel_rfl).symm.trans hf) |>.symm
  obtain rfl : fn = Tryd.f4 := (Option.some.inj (Tryd.func4.symm.trans hfn)).symm
  refine ⟨by kernel_rfl, fun j t ht => ?_⟩
  rw [Tryd.params4] at ht
  have hm := Array.mem_of_getElem? ht
  simp only [List.mem_toArray, List.mem_cons, List.not_mem_nil, or_false] at hm
  rcases hm with rfl | rfl
  · exact (show Tryd.prog.wantsStandIn 24 = false by kernel_rfl)
  · exact (show Tryd.prog.wantsStandIn 9 = false by kernel_rfl)

theorem smore_card : Rows.SumsMoreCardSaid :=
  Claim7.holds_tied_plain_at .later [] _ _ _ _ smore_said (fun _ h => by cases h) (by kernel_rfl) (fun _ h => by cases h) sumsMore_row_tie rfl ⟨rfl, rfl⟩ (by kernel_rfl) rfl smore_plain (by kernel_rfl)
end Go.Proofs.YtcbnaopcehhdeaaDoor
