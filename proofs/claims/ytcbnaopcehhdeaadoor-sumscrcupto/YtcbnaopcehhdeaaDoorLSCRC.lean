/- SumsCRC answers true: of any parts the program's CRC is the document's of the parts put together, and the list that was lent is as it was, the room behind it too; where what comes in holds at most 1,048,576 values and letters, and the package's table is as the program's text lays it. -/
import Derived.Test.YtcbnaopcehhdeaaDoorCards
import Derived.Test.YtcbnaopcehhdeaaDoorTie
import Derived.OpenShut
import Derived.Deep.DeepHandedRow
import Derived.Lib.LaidTab
import Derived.Test.YtcbnaopcehhdeaaDoorSK
import Derived.Test.YtcbnaopcehhdeaaDoorSN
import Derived.Test.YtcbnaopcehhdeaaDoorSU
namespace Go.Proofs.YtcbnaopcehhdeaaDoor
open Go.ChangeShapes Go.WideShapes Go.ChangeAt Go.RowKit

theorem flat_sumB (ss : List ByteArray) : (flat ss).length ≤ sumB ss := by
  induction ss with
  | nil => simp [flat]
  | cons s ss ih =>
    have e : flat (s :: ss) = s.data.toList ++ flat ss := by simp [flat]
    rw [e, List.length_append, bytes_length, sumB_cons]; omega
theorem moreP_append (c : UInt32) (a b : List UInt8) : moreP (moreP c a) b = moreP c (a ++ b) := by
  unfold moreP
  rw [UInt32.not_not, List.foldl_append]
theorem crcP_flat (ss : List ByteArray) : ∀ c, ss.foldl (fun c s => moreP c s.data.toList) c = moreP c (flat ss) := by
  induction ss with
  | nil => intro c; simp [flat, moreP]
  | cons s ss ih => intro c; rw [List.foldl_cons, ih, moreP_append]; simp [flat]
theorem Lent.sat {w w' : World} {ss : List ByteArray} {g cap : Nat} (h : Lent w w' ss g cap) : SAt w' (some ⟨g, 0, none⟩) g 0 ss := by
  refine ⟨fun e => ⟨rfl, ?_⟩, fun j s hj => ?_⟩
  · exact (h.1.lt g rfl).2
  · have := h.cell j s (by rw [List.getElem?_append_left (List.getElem?_eq_some_iff.1 hj).1]; exact hj)
    rw [Nat.zero_add]; exact this

set_option maxRecDepth 100000 in
set_option maxHeartbeats 400000 in
theorem scrc_walk {w : World} (ht : TabAt w) {pa : Option Addr} {pb po pc : Nat} {ss : List ByteArray} (h : SAt w pa pb po ss) (hl : ss.length ≤ 4194304) (hfl : (flat ss).length ≤ 70368744177664) (hz : ∀ s ∈ ss, s.size ≤ 281474976710656) :
    Calls Tryd.prog 3 #[.slice pa ss.length pc] w fun e w' => e = .returned (.bool true) ∧ Same w w' := by
  have HL : Hid (Calls Tryd.prog 7 #[.slice pa ss.length pc] w fun e w' => ∃ g cap, e = .returned (.slice (some ⟨g, 0, none⟩) ss.length cap) ∧ Lent w w' ss g cap) := lent_calls h hl
  have HC : Hid (∀ W g cap, TabAt W → SAt W (some ⟨g, 0, none⟩) g 0 ss → Calls Tryd.prog 8 #[.slice (some ⟨g, 0, none⟩) ss.length cap] W fun e w' => e = .returned (.int .u32 (moreP 0 (flat ss)).toNat) ∧ w' = W) := by
    intro W g cap hT hS
    have := crc_calls W hT ss (some ⟨g, 0, none⟩) g 0 cap (fun _ => rfl) hS.cells hz (by omega)
    rw [crcP, crcP_flat] at this
    exact this
  have HJ : Hid (∀ W, Same w W → Calls Tryd.prog 10 #[.slice pa ss.length pc] W fun e w' => e = .returned (.string ⟨(flat ss).toArray⟩) ∧ Same W w') := fun W sW => joined_calls (h.same sW) hl hfl
  have HR : Hid (∀ W, Calls Tryd.prog 9 #[.string ⟨(flat ss).toArray⟩] W fun e w' => e = .returned (.int .u32 (moreP 0 (flat ss)).toNat) ∧ w' = W) := by
    intro W
    have := rcrc_calls W ⟨(flat ss).toArray⟩ (by show (flat ss).length ≤ _; omega)
    exact this
  have HK : Hid (∀ W0 W g cap, Same w W → Lent W0 W ss g cap → Calls Tryd.prog 11 #[.slice (some ⟨g, 0, none⟩) ss.length cap, .slice pa ss.length pc] W fun e w' => e = .returned (.bool true) ∧ Same W w') := fun W0 W g cap sW hLe => kept_calls (h.same sW) hl hLe
  have HT : Hid (TabAt w) := ht
  generalize moreP 0 (flat ss) = x at *
  generalize (flat ss).toArray = FA at *
  clear ht h hz hfl
  obtain ⟨n, hn⟩ : ∃ n, n = ss.length := ⟨_, rfl⟩
  rw [← hn] at HL HC HJ HK hl ⊢
  clear hn
  go_enter Tryd.func3, Tryd.ntmps3
  go_wp2_with fail
  refine HL.out.mono ?_
  rintro e W1 ⟨g1, cap1, rfl, l1⟩
  have s1 := l1.2.2
  have H1 : Hid (Lent w W1 ss g1 cap1) := l1
  clear l1
  go_wp2_with fail
  refine (HC.out W1 g1 cap1 (HT.out.same s1) H1.out.sat).mono ?_
  rintro e W2 ⟨rfl, hW2⟩
  rw [hW2]
  clear hW2
  go_wp2_with fail
  refine (HJ.out W1 s1).mono ?_
  rintro e W3 ⟨rfl, s3⟩
  go_wp2_with (first | (go_at_call 9; refine (HR.out _).mono ?_; rintro e W4 ⟨rfl, hW4⟩; rw [hW4]; clear hW4) | (go_at_call 11; fail))
  have s13 := s1.trans s3
  have H3 : Lent w W3 ss g1 cap1 := by
    have h1 := H1.out
    refine ⟨⟨h1.1.1, ?_⟩, h1.2.1, s13⟩
    rcases h1.1.2 with hh | ⟨a1, a2, a3, a4, a5, a6, a7⟩
    · exact Or.inl hh
    · exact Or.inr ⟨a1, a2, a3, a4, a5, by rw [s3.block a1 (lt_of_heap a6) (fun f => f)]; exact a6, a7⟩
  refine (HK.out w W3 g1 cap1 s13 H3).mono ?_
  rintro e W5 ⟨rfl, s5⟩
  have s15 := s13.trans s5
  have HAW := awake_calls W5 (HT.out.same s15)
  clear H3 s1 s3 s13 s5
  go_wp2_with fail
  refine HAW.mono ?_
  rintro e W6 ⟨rfl, s6⟩
  go_wp2_with fail
  go_ret
  exact ⟨rfl, s15.trans s6⟩

theorem scrc_laidOut : laidOutB Tryd.prog = true := by kernel_rfl
set_option maxRecDepth 100000 in
theorem scrc_contract (H : Type) (enc : TypeId × Value → H) (W : World) (base : Nat) (args : Array Value) (ds gs : List (DataW H)) (before : List MemPlace)
    (hval : ∀ (j : Nat) t v, Tryd.f3.params[j]? = some t → args[j]? = some v → Value.okWide Tryd.prog W .any base t v)
    (hW : DataW.Whole enc Tryd.prog Tryd.f3.params.toList Rows.sumsCRCSpec.vars false W args.toList ds gs before) (hk : Rows.uptoSmall H (ds ++ gs) = true) (hL : laidMetH Tryd.prog Rows.sumsCRCUptoRow.laid W) :
    Calls Tryd.prog 3 args W fun e W' => ∃ v, e = .returned v ∧ Rows.sumsCRCSpec.post enc Tryd.prog Tryd.f3 false true false false W args v W' := by
  have hW' := hW
  obtain ⟨p, q, hA0, hV, rfl, hfz, hnd⟩ := hW
  have hA : DataW.TrodAll enc Tryd.prog W 0 (fun _ => true) true Tryd.f3.params.toList args.toList ds p := hA0
  rw [Tryd.params3] at hA hval
  obtain ⟨v0, vs0, d0, ds0, p0, q0, hargs, rfl, rfl, h0, r0⟩ := trodAll_cons hA
  obtain ⟨rfl, rfl, rfl⟩ := trodAll_nil r0
  obtain rfl : args = #[v0] := by cases args; simp_all
  obtain ⟨rfl, rfl⟩ := trodVars_none hV
  have k0 := h0
  have lt0 : ∀ x ∈ p0, x.block < W.heap.size := by obtain ⟨m, hm⟩ := k0; exact DataW.trod_lt m _ _ _ hm
  have hB : Rows.uptoBulkAll [d0] ≤ 1048576 := by
    simp only [List.append_nil] at hk
    exact of_decide_eq_true hk
  simp only [Rows.uptoBulkAll] at hB
  obtain ⟨ss, pa, pb, po, pc, rfl, hS, hsum⟩ := open_texts (hval 0 22 v0 rfl rfl) h0
  have hsl := sumB_len ss
  clear hA0 hval
  have hfs := flat_sumB ss
  refine (scrc_walk (nibTab hL) hS (by omega) (by omega) (fun s hs => by have := sumB_mem hs; omega)).mono fun e W' ⟨he, sm⟩ => ?_
  subst he
  have bel : Below W.heap.size W W' := Fr.below sm (Nat.le_refl _) (fun _ f => f.elim)
  exact ⟨_, rfl, _, _, _, [], _, [], hW', trodAll_mk1 (shut_bool Tryd.underlying4 _), trodAll_cons_mk (Below.trod scrc_laidOut (by kernel_rfl) (of_decide_eq_true (by kernel_rfl)) k0 bel lt0) trodAll_mk0, rfl, bel.frame _, fun h => by cases h⟩

theorem scrc_own : ownKnob Tryd.prog.godebug = none := by kernel_rfl
/-- A world for the witness: the settled one, the tables holding what their initialisers lay. -/
noncomputable def scrcWorld (os : Os) : World :=
  { World.holding Tryd.prog os ⟨#[], #[], []⟩ with heap := ((World.holding Tryd.prog os ⟨#[], #[], []⟩).heap.modify 0 fun
      | .cells _ t frozen => .cells #[.int .u32 0, .int .u32 498536548, .int .u32 997073096, .int .u32 651767980, .int .u32 1994146192, .int .u32 1802195444, .int .u32 1303535960, .int .u32 1342533948, .int .u32 3988292384, .int .u32 4027552580, .int .u32 3604390888, .int .u32 3412177804, .int .u32 2607071920, .int .u32 2262029012, .int .u32 2685067896, .int .u32 3183342108] t frozen
      | o => o) }
theorem scrc_met (os : Os) : laidMet Tryd.prog Rows.sumsCRCUptoRow.laid ((scrcWorld os).forCall (fun _ _ => 0) ⟨#[], #[.slice none 0 0], []⟩).memory :=
  laidMet_of_run' 8 (by kernel_rfl) (by kernel_rfl)
theorem scrc_reads (os : Os) {H : Type} (enc : TypeId × Value → H) : ∃ places, DataW.whole enc Tryd.prog ((scrcWorld os).forCall (fun _ _ => 0) ⟨#[], #[.slice none 0 0], []⟩).memory Tryd.f3.params.toList Rows.sumsCRCSpec.vars false (#[.slice none 0 0] : Array Value).toList 8 = some ([.nil], [], places) :=
  ⟨[], by kernel_rfl⟩

set_option maxRecDepth 100000 in
theorem scrc_lifted (os : Os) (started : os.Started) (H : Type) (enc : TypeId × Value → H) (F : Stop.Interp) :
    ReturnsInHanded {} Tryd.checked os 3 .any ((Rows.OpenSpec.upto Rows.sumsCRCSpec).preRow enc Tryd.prog Tryd.f3 Rows.sumsCRCUptoRow.domain false Rows.sumsCRCUptoRow.laid) (((Rows.OpenSpec.upto Rows.sumsCRCSpec).at F).post enc Tryd.prog Tryd.f3 false true false false) := by
  obtain ⟨places, hx⟩ := scrc_reads os enc
  refine returnsInHanded_of_row (C := Tryd.checked) (s := Rows.OpenSpec.upto Rows.sumsCRCSpec) scrc_own started (by kernel_rfl) Tryd.func3
    (witness_row_at (enc := enc) (C := Tryd.checked) false (scrcWorld os) #[.slice none 0 0] rfl (by kernel_rfl) (by kernel_rfl) (by kernel_rfl)
      (OpenSpec.preRow_of_cond 8 hx (by kernel_rfl) (fun k hk => by cases hk; kernel_rfl) (by kernel_rfl) (scrc_met os))) ?_
  intro W base args ds gs before hval hW _ hcond hwt hL _ _
  exact scrc_contract H enc W base args ds gs before hval hW (hcond _ rfl) hL

theorem scrc_said : Rows.SumsCRCUptoSaid :=
  OpenClaim.holds_of_cond 3 Tryd.f3 rfl rfl rfl rfl rfl rfl rfl ⟨rfl, rfl, rfl, rfl, rfl⟩ rfl rfl rfl rfl rfl (by kernel_rfl) Tryd.func3 (by kernel_rfl)
    (of_decide_eq_true (by kernel_rfl)) (by unfold Func.isWrapper; first | (rw [if_pos (by decide +kernel)]; kernel_rfl) | (rw [if_neg (by decide +kernel)]; exact ⟨rfl, rfl⟩))
    (fun os started H enc _ F => by rw [OpenClaim.pre_eq_preRow]; exact scrc_lifted os started H enc F)

/-- No parameter wants a stand-in; the program's own looks are off. -/
theorem scrc_plain (f : FuncId) (fn : Func) (hf : Tryd.pinned.checked.prog.funcNamed "heartwood/heartwoodlaw02.SumsCRC" = some f) (hfn : Tryd.pinned.checked.prog.funcs[f]? = some fn) :
    false = Tryd.pinned.checked.prog.looks [] ∧ ∀ (j : Nat) t, fn.params[j]? = some t → Tryd.pinned.checked.prog.wantsStandIn t = false := by
  obtain rfl : f = 3 := Option.some.inj ((show Tryd.prog.funcNamed "heartwood/heartwoodlaw02.SumsCRC" = some 3 by kernel_rfl).symm.trans hf) |>.symm
  obtain rfl : fn = Tryd.f3 := (Option.some.inj (Tryd.func3.symm.trans hfn)).symm
  refine ⟨by kernel_rfl, fun j t ht => ?_⟩
  rw [Tryd.params3] at ht
  have hm := Array.mem_of_getElem? ht
  simp only [List.mem_toArray, List.mem_cons, List.not_mem_nil, or_false] at hm
  rcases hm with rfl
  · exact (show Tryd.prog.wantsStandIn 22 = false by kernel_rfl)

theorem scrc_card : Rows.SumsCRCUptoCardSaid :=
  Claim7.holds_tied_plain_at .later [] _ _ _ _ scrc_said (fun _ h => by cases h) (by kernel_rfl) (fun _ h => by cases h) sumsCRCUpto_row_tie rfl ⟨rfl, rfl⟩ (by kernel_rfl) rfl scrc_plain (by kernel_rfl)
end Go.Proofs.YtcbnaopcehhdeaaDoor
