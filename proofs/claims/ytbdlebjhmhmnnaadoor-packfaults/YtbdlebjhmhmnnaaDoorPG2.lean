/- A fault of any two numbers: its text, what it unwraps to; none. errors.Is of it and a number. -/
import Derived.Shelf.Strconv.Itoa0
import Derived.Shelf.Strconv.Itoa1
import Derived.Shelf.LaysM
import Derived.Shelf.Strconv.Itoa2
import Derived.Shelf.Strconv.Itoa3
import Derived.Shelf.Strconv.Itoa4
import Derived.Test.YtbdlebjhmhmnnaaDoorPG1
import Derived.Test.YtbdlebjhmhmnnaaDoorWB
import Derived.LaidEql
import Derived.Stop.Asserts
import Derived.RowKitTokens
namespace Go.Proofs.YtbdlebjhmhmnnaaDoor
open Go.RowKit Go.Shelf Go.Extern Go.Stop

def Tryd.laysM171_ren : Go.Shelf.Ren := ⟨fun | 171 => 9 | 243 => 27 | 246 => 43 | 283 => 44 | 284 => 45 | 285 => 46 | 286 => 47 | 129 => 49 | 317 => 48 | 318 => 50 | 319 => 51 | 320 => 52 | 337 => 53 | 338 => 54 | n => n, fun | 3 => 3 | 9 => 9 | 2 => 2 | 4 => 4 | 171 => 84 | 0 => 0 | 53 => 39 | 37 => 56 | 5 => 5 | 173 => 87 | 212 => 90 | 51 => 91 | 20 => 20 | 213 => 92 | 46 => 60 | 232 => 96 | 233 => 97 | n => n, fun | 17 => 0 | 18 => 1 | 19 => 2 | n => n⟩
theorem Tryd.laysM171 : Go.Proofs.LaysM.n171 Tryd.prog Tryd.laysM171_ren := {
  mixed := by kernel_rfl
  f129 := Tryd.func49.trans (congrArg some (by kernel_rfl))
  f171 := Tryd.func9.trans (congrArg some (by kernel_rfl))
  f243 := Tryd.func27.trans (congrArg some (by kernel_rfl))
  f246 := Tryd.func43.trans (congrArg some (by kernel_rfl))
  f283 := Tryd.func44.trans (congrArg some (by kernel_rfl))
  f284 := Tryd.func45.trans (congrArg some (by kernel_rfl))
  f285 := Tryd.func46.trans (congrArg some (by kernel_rfl))
  f286 := Tryd.func47.trans (congrArg some (by kernel_rfl))
  f317 := Tryd.func48.trans (congrArg some (by kernel_rfl))
  f318 := Tryd.func50.trans (congrArg some (by kernel_rfl))
  f319 := Tryd.func51.trans (congrArg some (by kernel_rfl))
  f320 := Tryd.func52.trans (congrArg some (by kernel_rfl))
  f337 := Tryd.func53.trans (congrArg some (by kernel_rfl))
  f338 := Tryd.func54.trans (congrArg some (by kernel_rfl))
  t0 := Tryd.underlying0
  a0 := Tryd.isAgg0
  z0 := Tryd.sizeOf0
  v0 := Tryd.zeroValue0
  t2 := Tryd.underlying2
  a2 := Tryd.isAgg2
  z2 := Tryd.sizeOf2
  v2 := Tryd.zeroValue2
  t3 := Tryd.underlying3
  a3 := Tryd.isAgg3
  z3 := Tryd.sizeOf3
  v3 := Tryd.zeroValue3
  t4 := Tryd.underlying4
  a4 := Tryd.isAgg4
  z4 := Tryd.sizeOf4
  v4 := Tryd.zeroValue4
  t5 := Tryd.underlying5
  a5 := Tryd.isAgg5
  z5 := Tryd.sizeOf5
  v5 := Tryd.zeroValue5
  t9 := Tryd.underlying9
  a9 := Tryd.isAgg9
  z9 := Tryd.sizeOf9
  v9 := Tryd.zeroValue9
  t20 := Tryd.underlying20
  a20 := Tryd.isAgg20
  z20 := Tryd.sizeOf20
  v20 := Tryd.zeroValue20
  t37 := Tryd.underlying56
  a37 := Tryd.isAgg56
  z37 := Tryd.sizeOf56
  v37 := Tryd.zeroValue56
  t46 := Tryd.underlying60
  a46 := Tryd.isAgg60
  z46 := Tryd.sizeOf60
  v46 := Tryd.zeroValue60
  t51 := Tryd.underlying91
  a51 := Tryd.isAgg91
  z51 := Tryd.sizeOf91
  v51 := Tryd.zeroValue91
  t53 := Tryd.underlying39
  a53 := Tryd.isAgg39
  z53 := Tryd.sizeOf39
  v53 := Tryd.zeroValue39
  t171 := Tryd.underlying84
  a171 := Tryd.isAgg84
  z171 := Tryd.sizeOf84
  v171 := Tryd.zeroValue84
  t173 := Tryd.underlying87
  a173 := Tryd.isAgg87
  z173 := Tryd.sizeOf87
  v173 := Tryd.zeroValue87
  t212 := Tryd.underlying90
  a212 := Tryd.isAgg90
  z212 := Tryd.sizeOf90
  v212 := Tryd.zeroValue90
  t213 := Tryd.underlying92
  a213 := Tryd.isAgg92
  z213 := Tryd.sizeOf92
  t232 := Tryd.underlying96
  a232 := Tryd.isAgg96
  z232 := Tryd.sizeOf96
  v232 := Tryd.zeroValue96
  t233 := Tryd.underlying97
  a233 := Tryd.isAgg97
  z233 := Tryd.sizeOf97
  v233 := Tryd.zeroValue97
  g17 := by kernel_rfl
  g18 := by kernel_rfl
  g19 := by kernel_rfl
  i0 := by kernel_rfl
  i2 := by kernel_rfl
  i3 := by kernel_rfl
  i4 := by kernel_rfl
  i5 := by kernel_rfl
  i9 := by kernel_rfl
  i20 := by kernel_rfl
  i37 := by kernel_rfl
  i46 := by kernel_rfl
  i51 := by kernel_rfl
  i53 := by kernel_rfl
  i171 := by kernel_rfl
  i173 := by kernel_rfl
  i212 := by kernel_rfl
  i232 := by kernel_rfl
  i233 := by kernel_rfl
  m17 := by kernel_rfl
  m18 := by kernel_rfl
  m19 := by kernel_rfl }
theorem Fr.grown_by {S : Nat → Prop} {w w' : World} (h : Fr S w w') (os : Array Obj) : Fr S w (Sort.grow w' os) :=
  ⟨h.os, h.tape, h.output, by rw [Sort.size_grow]; have := h.size; omega, fun k hk hs => (Sort.heap_grow_old w' os (by have := h.size; omega)).trans (h.block k hk hs)⟩
theorem itoa_int (w : World) (htab : Lib.TabIs Tryd.prog w "internal/strconv.uint64pow10" .u64 Lib.pow10Tab) (n : Int) (h0 : -9223372036854775808 ≤ n) (h1 : n ≤ 9223372036854775807) :
    Calls Tryd.prog 9 #[.int .i64 n] w fun e w' => e = .returned (.string ⟨(Lib.itoa n).toArray⟩) ∧ Same w w' := by
  refine (Any.strconv_Itoa Tryd.laysM171 n h0 h1 w htab).mono fun e w' ⟨he, k, os, hw⟩ => ⟨he, ?_⟩
  rw [hw]
  exact ((Fr.refl _ w).drewN k).grown_by os
theorem TabIs.same {P : Program} {w w' : World} {nm : String} {k : IntKind} {zs : List Int} (h : Lib.TabIs P w nm k zs) (s : Same w w') : Lib.TabIs P w' nm k zs := by
  unfold Lib.TabIs at h ⊢
  unfold World.var? at h ⊢
  cases hg : P.globalNamed nm with
  | none => rw [hg] at h; cases h
  | some g =>
    rw [hg] at h
    simp only [Option.bind_some] at h ⊢
    cases hb : w.heap[g]? with
    | none => rw [hb] at h; cases h
    | some o =>
      rw [hb] at h
      rw [s.block g (lt_of_heap hb) (fun f => f), hb]
      exact h
/-- A fault of two numbers, at block q. -/
def FltI (w : World) (q : Nat) (c p : Int) : Prop := w.heap[q]? = some (.cells #[.int .i64 c, .int .i64 p] 25 (0, 0))
theorem FltI.same {w w' : World} {q : Nat} {c p : Int} (h : FltI w q c p) (s : Same w w') : FltI w' q c p := (s.block q (lt_of_heap h) (fun f => f)).trans h
/-- A fault's text. -/
def faultI (c p : Int) : ByteArray := ((⟨#[112, 97, 99, 107, 58, 32]⟩ ++ ⟨(Lib.itoa c).toArray⟩) ++ ⟨#[32, 97, 116, 32]⟩) ++ ⟨(Lib.itoa p).toArray⟩
theorem itoaI_size (n : Int) (h0 : -9223372036854775808 ≤ n) (h1 : n ≤ 9223372036854775807) : (⟨(Lib.itoa n).toArray⟩ : ByteArray).size ≤ 21 := by
  show ((Lib.itoa n).toArray).size ≤ _
  have h10 : (10 : Nat) ^ (19 + 1) = 100000000000000000000 := by decide
  unfold Lib.itoa
  by_cases hn : n < 0
  · rw [if_pos hn]
    have := dec_len 19 n.natAbs (by omega)
    simp; omega
  · rw [if_neg hn]
    have := dec_len 19 n.toNat (by omega)
    simp; omega
theorem ba_size (a b : ByteArray) : (a ++ b).size = a.size + b.size := ByteArray.size_append
set_option maxRecDepth 100000 in
set_option maxHeartbeats 1000000 in
theorem ferrorI_calls {w : World} {q : Nat} {c p : Int} (HI : ∀ (n : Int) (W : World), Same w W → -9223372036854775808 ≤ n → n ≤ 9223372036854775807 → Calls Tryd.prog 9 #[.int .i64 n] W fun e w' => e = .returned (.string ⟨(Lib.itoa n).toArray⟩) ∧ Same W w')
    (h : FltI w q c p) (hc0 : -9223372036854775808 ≤ c) (hc : c ≤ 9223372036854775807) (hp0 : -9223372036854775808 ≤ p) (hp : p ≤ 9223372036854775807) :
    Calls Tryd.prog 4 #[.pointer (some ⟨q, 0, none⟩)] w fun e w' => e = .returned (.string (faultI c p)) ∧ Same w w' := by
  have sd : Same w w.drew := (Fr.refl _ w).drew
  have hA := itoaI_size c hc0 hc
  have hB := itoaI_size p hp0 hp
  have HC : Hid (∀ W, Same w W → Calls Tryd.prog 9 #[.int .i64 c] W fun e w' => e = .returned (.string ⟨(Lib.itoa c).toArray⟩) ∧ Same W w') := fun W hW => HI c W hW hc0 hc
  have HP : Hid (∀ W, Same w W → Calls Tryd.prog 9 #[.int .i64 p] W fun e w' => e = .returned (.string ⟨(Lib.itoa p).toArray⟩) ∧ Same W w') := fun W hW => HI p W hW hp0 hp
  unfold faultI
  obtain ⟨A, hAe⟩ : ∃ A : ByteArray, A = ⟨(Lib.itoa c).toArray⟩ := ⟨_, rfl⟩
  obtain ⟨B, hBe⟩ : ∃ B : ByteArray, B = ⟨(Lib.itoa p).toArray⟩ := ⟨_, rfl⟩
  rw [← hAe] at HC hA ⊢
  rw [← hBe] at HP hB ⊢
  clear hAe hBe HI
  have a1 := fun W => run_string_add_sum (P := Tryd.prog) W (⟨#[112, 97, 99, 107, 58, 32]⟩ : ByteArray) A (by have : (⟨#[112, 97, 99, 107, 58, 32]⟩ : ByteArray).size = 6 := rfl; omega)
  have a2 := fun W => run_string_add_sum (P := Tryd.prog) W ((⟨#[112, 97, 99, 107, 58, 32]⟩ : ByteArray) ++ A) (⟨#[32, 97, 116, 32]⟩ : ByteArray) (by
    have : (⟨#[112, 97, 99, 107, 58, 32]⟩ : ByteArray).size = 6 := rfl
    have : (⟨#[32, 97, 116, 32]⟩ : ByteArray).size = 4 := rfl
    rw [ba_size]
    omega)
  have a3 := fun W => run_string_add_sum (P := Tryd.prog) W (((⟨#[112, 97, 99, 107, 58, 32]⟩ : ByteArray) ++ A) ++ (⟨#[32, 97, 116, 32]⟩ : ByteArray)) B (by
    have : (⟨#[112, 97, 99, 107, 58, 32]⟩ : ByteArray).size = 6 := rfl
    have : (⟨#[32, 97, 116, 32]⟩ : ByteArray).size = 4 := rfl
    rw [ba_size, ba_size]
    omega)
  have hP : w.drew.cell? ⟨q, 0, none⟩ = some (.int .i64 c) ∧ w.drew.cell? ⟨q, 1, none⟩ = some (.int .i64 p) ∧ Same w w.drew := by
    obtain ⟨d0, d1, e0, e1⟩ := cell_of_two (show w.drew.heap[q]? = some (.cells #[.int .i64 c, .int .i64 p] 25 (0, 0)) from h)
    exact ⟨d0, d1, sd⟩
  go_enter Tryd.func4, Tryd.ntmps4
  go_wp2_with fail
  go_region_held3 (fun w' => w'.cell? ⟨q, 0, none⟩ = some (.int .i64 c) ∧ w'.cell? ⟨q, 1, none⟩ = some (.int .i64 p) ∧ Same w w')
    (first | go_keep | exact hP)
    (first | (go_at_call 9; (first | refine (HC.out _ hP.2.2).mono ?_ | refine (HP.out _ hP.2.2).mono ?_); rintro e W1 ⟨rfl, s1⟩; have hP := (⟨s1.keep hP.1, s1.keep hP.2.1, Same.trans hP.2.2 s1⟩ : W1.cell? ⟨q, 0, none⟩ = some (.int .i64 c) ∧ W1.cell? ⟨q, 1, none⟩ = some (.int .i64 p) ∧ Same w W1)))
  all_goals
    go_wp2_with fail
    go_ret
    exact ⟨rfl, hP.2.2⟩
set_option maxRecDepth 100000 in
theorem funwrapI {w : World} {q : Nat} {c p : Int} (h : FltI w q c p) :
    Calls Tryd.prog 5 #[.pointer (some ⟨q, 0, none⟩)] w fun e w' => e = .returned (.iface 23 (.int .i64 c)) ∧ w' = w := by
  obtain ⟨d0, d1, e0, e1⟩ := cell_of_two h
  go_enter Tryd.func5, Tryd.ntmps5
  go_wp2_with fail
  go_ret
  exact ⟨rfl, rfl⟩
set_option maxRecDepth 100000 in
theorem funwrap_none (w : World) : Calls Tryd.prog 5 #[.pointer none] w fun e w' => e = .returned .nilIface ∧ w' = w := by
  go_enter Tryd.func5, Tryd.ntmps5
  go_wp2
  go_ret
  exact ⟨rfl, rfl⟩
set_option maxRecDepth 100000 in
theorem ferror_none (w : World) : Calls Tryd.prog 4 #[.pointer none] w fun e w' => e = .returned (.string ⟨#[]⟩) ∧ w' = w := by
  go_enter Tryd.func4, Tryd.ntmps4
  go_wp2
  go_ret
  exact ⟨rfl, rfl⟩
theorem ferrorI {w : World} {q : Nat} {c p : Int} (htab : Lib.TabIs Tryd.prog w "internal/strconv.uint64pow10" .u64 Lib.pow10Tab) (h : FltI w q c p) (hc0 : -9223372036854775808 ≤ c) (hc : c ≤ 9223372036854775807) (hp0 : -9223372036854775808 ≤ p) (hp : p ≤ 9223372036854775807) :
    Calls Tryd.prog 4 #[.pointer (some ⟨q, 0, none⟩)] w fun e w' => e = .returned (.string (faultI c p)) ∧ Same w w' :=
  ferrorI_calls (fun n W hW h0 h1 => itoa_int W (TabIs.same htab hW) n h0 h1) h hc0 hc hp0 hp

/-! Closed facts at this program: what a number's type is asked for; which methods a fault and a number have. -/
theorem Tryd.nIs_type (v : Value) (w : World) : (ReflectliteType.typeOf #[.iface 23 v]).run Tryd.prog w = .ok (.iface 74 (.agg #[.pointer (some ⟨3, 23, none⟩)])) w := by kernel_rfl
theorem Tryd.nIs_comp (w : World) : ((ReflectliteType.method fun t => do
      Rtype.noPackHeld "Comparable" t
      (fun a => Value.bool a.comparable) <$> typeInfo t) #[.agg #[.pointer (some ⟨3, 23, none⟩)]]).run Tryd.prog w = .ok (.bool true) w := by kernel_rfl
theorem Tryd.nIs_methC (v : Value) (w : World) : (Go.method 228 74 v "Comparable").run Tryd.prog w = .ok (74, v) w := by kernel_rfl
theorem Tryd.nIs_methU (v : Value) (w : World) : (Go.method 228 22 v "Unwrap").run Tryd.prog w = .ok (5, v) w := by kernel_rfl
theorem Tryd.nIs_noIsF (v : Value) (xT : TypeId) (w : World) : (Instr.typeAssert (.iface 22 v) xT 76 true).run Tryd.prog w = .ok (.tuple #[.nilIface, .bool false]) w := run_typeAssert_lacksB Tryd.underlying76 (by kernel_rfl) (by kernel_rfl) v xT w
theorem Tryd.nIs_hasF (v : Value) (xT : TypeId) (w : World) : (Instr.typeAssert (.iface 22 v) xT 79 true).run Tryd.prog w = .ok (.tuple #[.iface 22 v, .bool true]) w := run_typeAssert_hasB Tryd.underlying79 (by kernel_rfl) v xT w
theorem Tryd.nIs_noIsN (v : Value) (xT : TypeId) (w : World) : (Instr.typeAssert (.iface 23 v) xT 76 true).run Tryd.prog w = .ok (.tuple #[.nilIface, .bool false]) w := run_typeAssert_lacksB Tryd.underlying76 (by kernel_rfl) (by kernel_rfl) v xT w
theorem Tryd.nIs_noUN (v : Value) (xT : TypeId) (w : World) : (Instr.typeAssert (.iface 23 v) xT 79 true).run Tryd.prog w = .ok (.tuple #[.nilIface, .bool false]) w := run_typeAssert_lacksB Tryd.underlying79 (by kernel_rfl) (by kernel_rfl) v xT w
theorem Tryd.nIs_noVN (v : Value) (xT : TypeId) (w : World) : (Instr.typeAssert (.iface 23 v) xT 80 true).run Tryd.prog w = .ok (.tuple #[.nilIface, .bool false]) w := run_typeAssert_lacksB Tryd.underlying80 (by kernel_rfl) (by kernel_rfl) v xT w
/-- Two numbers as errors are compared as numbers. -/
theorem Tryd.nIs_eqN (a b : Int) (w : World) : (binOp .eql 27 (.iface 23 (.int .i64 a)) (.iface 23 (.int .i64 b))).run Tryd.prog w = .ok (.bool (decide (a = b))) w := by kernel_rfl
set_option maxRecDepth 100000 in
set_option maxHeartbeats 1000000 in
/-- errors.Is of a fault and a number: is it the fault's number? -/
theorem fis_calls {w : World} {q : Nat} {c p : Int} (o : Int) (h : FltI w q c p) :
    Calls Tryd.prog 8 #[.iface 22 (.pointer (some ⟨q, 0, none⟩)), .iface 23 (.int .i64 o)] w fun e w' => e = .returned (.bool (decide (c = o))) ∧ w' = w := by
  have g1 := @run_callFunc_extern Tryd.prog 25 _ ReflectliteType.typeOf Tryd.func25 (by kernel_rfl) (by kernel_rfl) (by kernel_rfl) (by kernel_rfl)
  have g2 := @run_callFunc_extern Tryd.prog 74 _ (ReflectliteType.method fun t => do Rtype.noPackHeld "Comparable" t; pure (.bool (← typeInfo t).comparable)) Tryd.func74 (by kernel_rfl) (by kernel_rfl) (by kernel_rfl) (by kernel_rfl)
  have tT := Tryd.nIs_type
  have cT := Tryd.nIs_comp
  have mR := Tryd.nIs_methC
  have mU := Tryd.nIs_methU
  have nF := Tryd.nIs_noIsF
  have uF := Tryd.nIs_hasF
  have nN := Tryd.nIs_noIsN
  have uN := Tryd.nIs_noUN
  have vN := Tryd.nIs_noVN
  have eq1 := run_eql_iface_types (P := Tryd.prog) 22 23 (.pointer (some ⟨q, 0, none⟩)) (.int .i64 o) Tryd.underlying27 (by decide) w
  have eq2 := Tryd.nIs_eqN c o w
  obtain ⟨d0, d1, e0, e1⟩ := cell_of_two h
  by_cases hco : c = o
  · have : decide (c = o) = true := by simpa using hco
    rw [this] at eq2 ⊢
    clear hco this
    go_enter Tryd.func8, Tryd.ntmps8
    go_wp2
    refine wp_loop_rounds 2 ?_
    rw [rounds_succ]
    go_wp2
    rw [rounds_succ]
    go_wp2
    go_ret
    exact ⟨rfl, rfl⟩
  · have : decide (c = o) = false := by simpa using hco
    rw [this] at eq2 ⊢
    clear hco this
    go_enter Tryd.func8, Tryd.ntmps8
    go_wp2
    refine wp_loop_rounds 2 ?_
    rw [rounds_succ]
    go_wp2
    rw [rounds_succ]
    go_wp2
    go_ret
    exact ⟨rfl, rfl⟩
end Go.Proofs.YtbdlebjhmhmnnaaDoor
