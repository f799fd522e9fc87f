/- The document's Same of two nodes that are alike. -/
import Derived.Test.YtmgkdnejjemfeaaK1
import Derived.Deep.LoopGhost
namespace Go.Proofs.Ytmgkdnejjemfeaa
open Go.RowKit

theorem yieldsIf_neq_agg {P : Program} {ops : Array Oper} {S : World → Prop} {op : Oper} {a : Act} (hw : Region.wanted op (yielded ops a.tmps) = true) (ty ty2 : TypeId) (x y : Operand) (ho : op.op = .binOp .neq ty x y ty2) (X Y : Array Value) (hx : a.eval x = .agg X) (hy : a.eval y = .agg Y)
    (hgt : P.eqGuardType P.depth ty = false) (e : Bool) (hE : ∀ W : World, (Op.equalIn 10000 ty (.agg X) (.agg Y)).run P W = .ok e W) : YieldsIf P ops S op (.bool (!e)) a :=
  .inl ⟨hw, fun w _ => by
    have hg : (eqGuard .neq ty x y (.agg X) (.agg Y)).run P w = .ok () w := by
      simp [eqGuard, hgt]
    have hb : (binOp .neq ty (.agg X) (.agg Y)).run P w = .ok (.bool (!e)) w := by
      have := hE w
      simp only [binOp, Op.equal, Op.maxDepth, Sem.run_bind, this, Result.andThen_ok, Sem.run_pure]
    unfold execOp
    simp only [ho, hx, hy, Sem.run_bind, hg, hb, Result.andThen_ok, Sem.run_pure]⟩
set_option maxRecDepth 100000 in
theorem eq_digest_at (d : Nat) (W : World) (D : List UInt8) (hD : D.length = 32) : (Op.equalIn (d + 1 + 1) 57 (.agg (bcells D).toArray) (.agg (bcells D).toArray)).run Try.prog W = .ok true W := by
  obtain ⟨i8, hi8⟩ := info_of_underlying Try.und8
  have h1 := run_equalIn_array (w := W) (d + 1) (bcells D).toArray (bcells D).toArray Try.aund32 hi8
  rw [Try.cells8] at h1
  have h2 := eqItems_gen W d D D (List.range 32) (fun i hi => by rw [hD]; exact List.mem_range.1 hi) (fun i hi => by rw [hD]; exact List.mem_range.1 hi)
  rw [h1, h2]
  simp
theorem Try.aggD (W : World) : (isAgg 57).run Try.prog W = .ok true W := by kernel_rfl
theorem Try.szD (W : World) : (sizeOf 57).run Try.prog W = .ok 32 W := by kernel_rfl
theorem Try.plain32 : Try.prog.plainKey 55 = true := by kernel_rfl
theorem Try.sihK : Try.prog.stoodInHeld 59 = false := by kernel_rfl
theorem Try.fldK : Try.prog.underlying 59 = some (.struct (Try.prog.fieldsOf 59)) := by kernel_rfl
theorem part_dig (W : World) (cs : Array Value) (off : Nat) : (part 57 cs off).run Try.prog W = .ok (.agg (cs.extract off (off + 32))) W := by
  have h1 := Try.aggD
  have h2 := Try.szD
  simp [part, Sem.run_bind, h1, h2]
theorem part_u32 (W : World) (cs : Array Value) (off : Nat) (v : Value) (h : cs[off]? = some v) : (part 55 cs off).run Try.prog W = .ok v W := run_part_plain W Try.plain32 h
theorem eqFields_step {P : Program} (W : World) (d : Nat) (X Y : Array Value) (f : Field) (fs : List Field) (a b : Value) (r s : Bool) (hn : f.name ≠ "_") (ha : (part f.type X f.offset).run P W = .ok a W) (hb : (part f.type Y f.offset).run P W = .ok b W)
    (hr : (Op.equalIn d f.type a b).run P W = .ok r W) (hs : (Op.eqFields d X Y fs).run P W = .ok s W) : (Op.eqFields d X Y (f :: fs)).run P W = .ok (r && s) W := by
  simp only [Op.eqFields, Sem.run_bind, Sem.run_ite, if_pos hn, ha, hb, hr, Result.andThen_ok]
  cases r
  · simp
  · simp [hs]
theorem eqFields_nil {P : Program} (W : World) (d : Nat) (X Y : Array Value) : (Op.eqFields d X Y []).run P W = .ok true W := by simp [Op.eqFields]
theorem eqR {P : Program} {W : World} {m : Sem Bool} {r s : Bool} (h : m.run P W = .ok r W) (e : r = s) : m.run P W = .ok s W := by rw [h, e]
theorem kid_dig (k : Kid) (h : k.d.length = 32) : ((kcells k).toArray).extract 1 33 = (bcells k.d).toArray := by
  simp only [kcells, List.extract_toArray, List.extract_eq_take_drop, List.drop_succ_cons, List.drop_zero]
  congr 1
  rw [show 33 - 1 = (bcells k.d).length from by rw [bcells_length, h]]
  exact List.take_length
set_option maxRecDepth 100000 in
theorem eq_kid (W : World) (k : Kid) (h : k.d.length = 32) : (Op.equalIn 10000 59 (.agg (kcells k).toArray) (.agg (kcells k).toArray)).run Try.prog W = .ok true W := by
  have e1 := part_dig W (kcells k).toArray 1
  rw [show 1 + 32 = 33 from rfl, kid_dig k h] at e1
  have g0 := run_equalIn_int W 9998 55 .u32 .u32 (k.page : Int) (k.page : Int) Try.underlying55
  have g1 := eq_digest_at 9997 W k.d h
  have hst := run_equalIn_struct (P := Try.prog) W 9999 59 (kcells k).toArray (kcells k).toArray Try.fldK Try.sihK
  rw [Program.fieldsOf, Try.underlying59] at hst
  refine Eq.trans hst ?_
  refine eqR (eqFields_step W 9999 _ _ _ _ _ _ _ _ (by decide) (part_u32 W _ 0 (.int .u32 k.page) rfl) (part_u32 W _ 0 (.int .u32 k.page) rfl) g0 (eqFields_step W 9999 _ _ _ _ _ _ _ _ (by decide) e1 e1 g1 (eqFields_nil W _ _ _))) ?_
  simp
set_option maxRecDepth 100000 in
set_option maxHeartbeats 1000000 in
theorem rsame_true {ra rb : Nr} {N : Nd} (w : World) (ha : NdAt w ra N) (hb : NdAt w rb N) :
    Calls Try.prog 24 #[ndV ra N, ndV rb N] w fun e w' => e = .returned (.bool true) ∧ Same w w' := by
  obtain ⟨pa, pb, po, cp, sa, sb, so, cs, ka, kb, ko, ck⟩ := ra
  obtain ⟨pa', pb', po', cp', sa', sb', so', cs', ka', kb', ko', ck'⟩ := rb
  obtain ⟨ps, ss, ks⟩ := N
  have hp1 : PRow w pa pb po ps := ha.hp
  have hp2 : PRow w pa' pb' po' ps := hb.hp
  have hs1 : TRow w sa sb so ss := ha.hs
  have hs2 : TRow w sa' sb' so' ss := hb.hs
  have hk1 : KRow w ka kb ko ks := ha.hk
  have hk2 : KRow w ka' kb' ko' ks := hb.hk
  have lp : ps.length ≤ 4611686018427387904 := ha.lp
  have ls : ss.length ≤ 4611686018427387904 := ha.ls
  have lk : ks.length ≤ 4611686018427387904 := ha.lk
  have hok1 : ∀ x ∈ ks, KidOk x := ha.ok
  clear ha hb
  show Calls Try.prog 24 #[nodeV pa ps.length cp sa ss.length cs ka ks.length ck, nodeV pa' ps.length cp' sa' ss.length cs' ka' ks.length ck'] w (fun e w' => e = .returned (.bool true) ∧ Same w w')
  obtain ⟨V, hV⟩ : ∃ V, V = (w.alloc (.cells #[.slice pa ps.length cp, .slice sa ss.length cs, .slice ka ks.length ck] 28)).alloc (.cells #[.slice pa' ps.length cp', .slice sa' ss.length cs', .slice ka' ks.length ck'] 28) := ⟨_, rfl⟩
  have sx : Same w V := by rw [hV]; exact ((Fr.refl _ w).alloc _).alloc _
  have a0 : V.cell? ⟨w.heap.size, 0, none⟩ = some (.slice pa ps.length cp) := by rw [hV]; simp
  have a1 : V.cell? ⟨w.heap.size, 1, none⟩ = some (.slice sa ss.length cs) := by rw [hV]; simp
  have a2 : V.cell? ⟨w.heap.size, 2, none⟩ = some (.slice ka ks.length ck) := by rw [hV]; simp
  have b0 : V.cell? ⟨w.heap.size + 1, 0, none⟩ = some (.slice pa' ps.length cp') := by rw [hV]; simp
  have b1 : V.cell? ⟨w.heap.size + 1, 1, none⟩ = some (.slice sa' ss.length cs') := by rw [hV]; simp
  have b2 : V.cell? ⟨w.heap.size + 1, 2, none⟩ = some (.slice ka' ks.length ck') := by rw [hV]; simp
  have HP1 : Hid (PRow V pa pb po ps) := hp1.same sx
  have HP2 : Hid (PRow V pa' pb' po' ps) := hp2.same sx
  have HS1 : Hid (TRow V sa sb so ss) := hs1.same sx
  have HS2 : Hid (TRow V sa' sb' so' ss) := hs2.same sx
  have HK1 : Hid (KRow V ka kb ko ks) := hk1.same sx
  have HK2 : Hid (KRow V ka' kb' ko' ks) := hk2.same sx
  have HO1 : Hid (∀ x ∈ ks, KidOk x) := hok1
  have e1 : ((ps.length : Int) == (ps.length : Int)) = true := by simp
  have e2 : ((ss.length : Int) == (ss.length : Int)) = true := by simp
  have e3 : ((ks.length : Int) == (ks.length : Int)) = true := by simp
  have HC : Hid (∀ W, Same V W → W.cell? ⟨w.heap.size, 0, none⟩ = some (.slice pa ps.length cp) ∧ W.cell? ⟨w.heap.size, 1, none⟩ = some (.slice sa ss.length cs) ∧ W.cell? ⟨w.heap.size, 2, none⟩ = some (.slice ka ks.length ck) ∧ W.cell? ⟨w.heap.size + 1, 0, none⟩ = some (.slice pa' ps.length cp') ∧ W.cell? ⟨w.heap.size + 1, 1, none⟩ = some (.slice sa' ss.length cs') ∧ W.cell? ⟨w.heap.size + 1, 2, none⟩ = some (.slice ka' ks.length ck')) := fun W h => ⟨h.keep a0, h.keep a1, h.keep a2, h.keep b0, h.keep b1, h.keep b2⟩
  clear hp1 hp2 hs1 hs2 hk1 hk2 hok1
  go_enter Try.func24, Try.ntmps24
  go_wp2_with fail
  rw [← hV]
  clear hV a0 a1 a2 b0 b1 b2
  go_loopg [5] ps.length (fun g iv wr => ∃ k : Nat, iv = .int .i64 (k : Int) ∧ k ≤ ps.length ∧ g = ps.length - k ∧ Same V wr)
  case atStart => exact ⟨0, rfl, by omega, rfl, Fr.refl _ V⟩
  case round =>
    obtain ⟨k, rfl, hk, hg, sr⟩ := hrel
    obtain ⟨a0, a1, a2, b0, b1, b2⟩ := HC.out _ sr
    by_cases hgo : k < ps.length
    · obtain ⟨x, hx⟩ : ∃ x, ps[k]? = some x := ⟨_, List.getElem?_eq_getElem hgo⟩
      obtain ⟨x0, x1⟩ := x
      obtain ⟨c0, c1⟩ := (HP1.out.same sr).cells k _ hx
      obtain ⟨d0, d1⟩ := (HP2.out.same sr).cells k _ hx
      obtain ⟨hpa, _⟩ := (HP1.out.same sr).place (by intro e; rw [e] at hx; simp at hx)
      obtain ⟨hpb, _⟩ := (HP2.out.same sr).place (by intro e; rw [e] at hx; simp at hx)
      subst hpa hpb
      clear hx
      go_wp2_with fail
      go_region_held3 (fun W => W.cell? ⟨w.heap.size, 0, none⟩ = some (.slice (some ⟨pb, po, none⟩) ps.length cp) ∧ W.cell? ⟨w.heap.size + 1, 0, none⟩ = some (.slice (some ⟨pb', po', none⟩) ps.length cp') ∧ W.cell? ⟨pb, po + k * 2, none⟩ = some (.string x0) ∧ W.cell? ⟨pb, po + k * 2 + 1, none⟩ = some (.string x1) ∧ W.cell? ⟨pb', po' + k * 2, none⟩ = some (.string x0) ∧ W.cell? ⟨pb', po' + k * 2 + 1, none⟩ = some (.string x1)) (exact ⟨a0, b0, c0, c1, d0, d1⟩) (fail)
      go_wp2_with fail
      go_roundg (ps.length - (k + 1))
      case measure => omega
      case rel => exact ⟨k + 1, by go_num, by omega, rfl, Fr.drew sr⟩
    · obtain rfl : k = ps.length := by omega
      go_wp2_with fail
      go_loopg [6] ss.length (fun g iv wr => ∃ k : Nat, iv = .int .i64 (k : Int) ∧ k ≤ ss.length ∧ g = ss.length - k ∧ Same V wr)
      case atStart => exact ⟨0, rfl, by omega, rfl, sr⟩
      case round =>
        clear a0 a1 a2 b0 b1 b2 sr
        obtain ⟨k, rfl, hk, hg, sr⟩ := hrel
        obtain ⟨a0, a1, a2, b0, b1, b2⟩ := HC.out _ sr
        by_cases hgo : k < ss.length
        · obtain ⟨x, hx⟩ : ∃ x, ss[k]? = some x := ⟨_, List.getElem?_eq_getElem hgo⟩
          have c0 := (HS1.out.same sr).cells k _ hx
          have d0 := (HS2.out.same sr).cells k _ hx
          obtain ⟨hpa, _⟩ := (HS1.out.same sr).place (by intro e; rw [e] at hx; simp at hx)
          obtain ⟨hpb, _⟩ := (HS2.out.same sr).place (by intro e; rw [e] at hx; simp at hx)
          subst hpa hpb
          clear hx
          go_wp2_with fail
          go_region_held3 (fun W => W.cell? ⟨w.heap.size, 1, none⟩ = some (.slice (some ⟨sb, so, none⟩) ss.length cs) ∧ W.cell? ⟨w.heap.size + 1, 1, none⟩ = some (.slice (some ⟨sb', so', none⟩) ss.length cs') ∧ W.cell? ⟨sb, so + k, none⟩ = some (.string x) ∧ W.cell? ⟨sb', so' + k, none⟩ = some (.string x)) (exact ⟨a1, b1, c0, d0⟩) (fail)
          go_wp2_with fail
          go_roundg (ss.length - (k + 1))
          case measure => omega
          case rel => exact ⟨k + 1, by go_num, by omega, rfl, Fr.drew sr⟩
        · obtain rfl : k = ss.length := by omega
          go_wp2_with fail
          go_loopg [7] ks.length (fun g iv wr => ∃ k : Nat, iv = .int .i64 (k : Int) ∧ k ≤ ks.length ∧ g = ks.length - k ∧ Same V wr)
          case atStart => exact ⟨0, rfl, by omega, rfl, sr⟩
          case round =>
            clear a0 a1 a2 b0 b1 b2 sr
            obtain ⟨k, rfl, hk, hg, sr⟩ := hrel
            obtain ⟨a0, a1, a2, b0, b1, b2⟩ := HC.out _ sr
            by_cases hgo : k < ks.length
            · obtain ⟨x, hx⟩ : ∃ x, ks[k]? = some x := ⟨_, List.getElem?_eq_getElem hgo⟩
              have c := (HK1.out.same sr).cells k _ hx
              have d := (HK2.out.same sr).cells k _ hx
              have hDl : x.d.length = 32 := (HO1.out x (List.mem_of_getElem? hx)).d
              obtain ⟨hpa, _⟩ := (HK1.out.same sr).place (by intro e; rw [e] at hx; simp at hx)
              obtain ⟨hpb, _⟩ := (HK2.out.same sr).place (by intro e; rw [e] at hx; simp at hx)
              subst hpa hpb
              have HEQ : Hid (∀ W : World, (Op.equalIn 10000 59 (.agg (kcells x).toArray) (.agg (kcells x).toArray)).run Try.prog W = .ok true W) := fun W => eq_kid W x hDl
              have hBl : (Try.prog.info? 59).map (·.size) = some (kcells x).length := by rw [kcells_length hDl]; kernel_rfl
              generalize kcells x = BD at *
              clear hx HP1 HP2 HS1 HS2 HK1 HK2
              go_wp2_with fail
              refine wp_region_held_drew (S := fun X => X.cell? ⟨w.heap.size, 2, none⟩ = some (.slice (some ⟨kb, ko, none⟩) ks.length ck) ∧ X.cell? ⟨w.heap.size + 1, 2, none⟩ = some (.slice (some ⟨kb', ko', none⟩) ks.length ck') ∧ X.rangeAt kb (ko + k * 33) BD ∧ X.rangeAt kb' (ko' + k * 33) BD) (by kernel_rfl) (⟨a2, b2, c, d⟩) (fun hHeld => ?_)
              refine wpAnyH_take (i := 0) (oi := { dst := some 76, op := Op.fieldAddr 28 (Operand.tmp 2) 2, type := 0, pos := "ref.go:255", after := #[], guard := none }) (v := .pointer (some ⟨w.heap.size, 2, none⟩)) rfl (by kernel_rfl) (by kernel_rfl) (by kernel_rfl) (fun _ _ _ h => h) (Or.inl ⟨by rfl, fun w hSw => by (obtain ⟨z0, z1, z2, z3⟩ := hSw; go_simp)⟩) (by assumption) ?_
              try simp only [Act.put, List.setIfInBounds_toArray, List.set_cons_zero, List.set_cons_succ]
              refine wpAnyH_take (i := 1) (oi := { dst := some 77, op := Op.load 26 (Operand.tmp 76), type := 26, pos := "ref.go:255", after := #[{ on := 0, ground := Ground.data }], guard := none }) (v := .slice (some ⟨kb, ko, none⟩) ks.length ck) rfl (by kernel_rfl) (by kernel_rfl) (by kernel_rfl) (fun _ _ _ h => h) (Or.inl ⟨by rfl, fun w hSw => by (obtain ⟨z0, z1, z2, z3⟩ := hSw; go_simp)⟩) (by assumption) ?_
              try simp only [Act.put, List.setIfInBounds_toArray, List.set_cons_zero, List.set_cons_succ]
              refine wpAnyH_take (i := 2) (oi := { dst := some 78, op := Op.move (Operand.tmp 7), type := 3, pos := "ref.go:255", after := #[], guard := none }) (v := .int .i64 (k : Int)) rfl (by kernel_rfl) (by kernel_rfl) (by kernel_rfl) (fun _ _ _ h => h) (Or.inl ⟨by rfl, fun w hSw => by (obtain ⟨z0, z1, z2, z3⟩ := hSw; go_simp)⟩) (by assumption) ?_
              try simp only [Act.put, List.setIfInBounds_toArray, List.set_cons_zero, List.set_cons_succ]
              refine wpAnyH_take (i := 3) (oi := { dst := some 79, op := Op.indexAddr 26 (Operand.tmp 77) (Operand.tmp 78), type := 0, pos := "ref.go:255", after := #[{ on := 1, ground := Ground.data }, { on := 2, ground := Ground.data }], guard := none }) (v := .pointer (some ⟨kb, ko + k * 33, none⟩)) rfl (by kernel_rfl) (by kernel_rfl) (by kernel_rfl) (fun _ _ _ h => h) (Or.inl ⟨by rfl, fun w hSw => by (obtain ⟨z0, z1, z2, z3⟩ := hSw; go_simp)⟩) (by assumption) ?_
              try simp only [Act.put, List.setIfInBounds_toArray, List.set_cons_zero, List.set_cons_succ]
              refine wpAnyH_take (i := 4) (oi := { dst := some 80, op := Op.load 59 (Operand.tmp 79), type := 59, pos := "ref.go:255", after := #[{ on := 3, ground := Ground.data }], guard := none }) (v := .agg BD.toArray) rfl (by kernel_rfl) (by kernel_rfl) (by kernel_rfl) (fun _ _ _ h => h) (yieldsIf_load_mid (by rfl) 59 _ rfl (kb) (ko + k * 33) rfl BD _ (fun w hSw => hSw.2.2.1) Try.underlying59 rfl hBl) (by assumption) ?_
              try simp only [Act.put, List.setIfInBounds_toArray, List.set_cons_zero, List.set_cons_succ]
              refine wpAnyH_take (i := 5) (oi := { dst := some 81, op := Op.fieldAddr 28 (Operand.tmp 3) 2, type := 0, pos := "ref.go:255", after := #[], guard := none }) (v := .pointer (some ⟨w.heap.size + 1, 2, none⟩)) rfl (by kernel_rfl) (by kernel_rfl) (by kernel_rfl) (fun _ _ _ h => h) (Or.inl ⟨by rfl, fun w hSw => by (obtain ⟨z0, z1, z2, z3⟩ := hSw; go_simp)⟩) (by assumption) ?_
              try simp only [Act.put, List.setIfInBounds_toArray, List.set_cons_zero, List.set_cons_succ]
              refine wpAnyH_take (i := 6) (oi := { dst := some 82, op := Op.load 26 (Operand.tmp 81), type := 26, pos := "ref.go:255", after := #[{ on := 5, ground := Ground.data }], guard := none }) (v := .slice (some ⟨kb', ko', none⟩) ks.length ck') rfl (by kernel_rfl) (by kernel_rfl) (by kernel_rfl) (fun _ _ _ h => h) (Or.inl ⟨by rfl, fun w hSw => by (obtain ⟨z0, z1, z2, z3⟩ := hSw; go_simp)⟩) (by assumption) ?_
              try simp only [Act.put, List.setIfInBounds_toArray, List.set_cons_zero, List.set_cons_succ]
              refine wpAnyH_take (i := 7) (oi := { dst := some 83, op := Op.move (Operand.tmp 7), type := 3, pos := "ref.go:255", after := #[], guard := none }) (v := .int .i64 (k : Int)) rfl (by kernel_rfl) (by kernel_rfl) (by kernel_rfl) (fun _ _ _ h => h) (Or.inl ⟨by rfl, fun w hSw => by (obtain ⟨z0, z1, z2, z3⟩ := hSw; go_simp)⟩) (by assumption) ?_
              try simp only [Act.put, List.setIfInBounds_toArray, List.set_cons_zero, List.set_cons_succ]
              refine wpAnyH_take (i := 8) (oi := { dst := some 84, op := Op.indexAddr 26 (Operand.tmp 82) (Operand.tmp 83), type := 0, pos := "ref.go:255", after := #[{ on := 6, ground := Ground.data }, { on := 7, ground := Ground.data }], guard := none }) (v := .pointer (some ⟨kb', ko' + k * 33, none⟩)) rfl (by kernel_rfl) (by kernel_rfl) (by kernel_rfl) (fun _ _ _ h => h) (Or.inl ⟨by rfl, fun w hSw => by (obtain ⟨z0, z1, z2, z3⟩ := hSw; go_simp)⟩) (by assumption) ?_
              try simp only [Act.put, List.setIfInBounds_toArray, List.set_cons_zero, List.set_cons_succ]
              refine wpAnyH_take (i := 9) (oi := { dst := some 85, op := Op.load 59 (Operand.tmp 84), type := 59, pos := "ref.go:255", after := #[{ on := 8, ground := Ground.data }], guard := none }) (v := .agg BD.toArray) rfl (by kernel_rfl) (by kernel_rfl) (by kernel_rfl) (fun _ _ _ h => h) (yieldsIf_load_mid (by rfl) 59 _ rfl (kb') (ko' + k * 33) rfl BD _ (fun w hSw => hSw.2.2.2) Try.underlying59 rfl hBl) (by assumption) ?_
              try simp only [Act.put, List.setIfInBounds_toArray, List.set_cons_zero, List.set_cons_succ]
              refine wpAnyH_take (i := 10) (oi := { dst := some 86, op := Op.binOp BinOp.neq 59 (Operand.tmp 80) (Operand.tmp 85) 59, type := 4, pos := "ref.go:255", after := #[{ on := 4, ground := Ground.data }, { on := 9, ground := Ground.data }], guard := none }) (v := .bool (!true)) rfl (by kernel_rfl) (by kernel_rfl) (by kernel_rfl) (fun _ _ _ h => h) (yieldsIf_neq_agg (by rfl) 59 _ _ _ rfl BD.toArray BD.toArray rfl rfl (by kernel_rfl) true HEQ.out) (by assumption) ?_
              try simp only [Act.put, List.setIfInBounds_toArray, List.set_cons_zero, List.set_cons_succ]
              refine wpAnyH_done (by kernel_rfl) ?_ _
              go_wp2_with fail
              go_roundg (ks.length - (k + 1))
              case measure => omega
              case rel => exact ⟨k + 1, by go_num, by omega, rfl, Fr.drew sr⟩
            · obtain rfl : k = ks.length := by omega
              go_wp2_with fail
              go_ret
              exact ⟨rfl, sx.trans sr⟩
end Go.Proofs.Ytmgkdnejjemfeaa
