/- Two nodes that come in: the document's Same of them. -/
import Derived.Test.YtjlbkagkmcelgaaN6
import Derived.Test.YtjlbkagkmcelgaaNC
import Derived.Deep.LoopGhost
namespace Go.Proofs.Ytjlbkagkmcelgaa
open Go.RowKit

theorem ba_toList {a b : ByteArray} (h : (a.toList == b.toList) = true) : a = b := by
  have h := eq_of_beq h
  rw [ByteArray.toList_eq, ByteArray.toList_eq] at h
  exact ByteArray.ext (Array.toList_inj.1 h)

theorem neq_aggS {P : Program} {ops : Array Oper} {S : World → Prop} {op : Oper} {a : Act} (hw : Region.wanted op (yielded ops a.tmps) = true) (ty ty2 : TypeId) (x y : Operand) (ho : op.op = .binOp .neq ty x y ty2) (X Y : Array Value) (hx : a.eval x = .agg X) (hy : a.eval y = .agg Y)
    (hgt : P.eqGuardType P.depth ty = false) (e : Bool) (hE : ∀ W : World, (Op.equalIn 10000 ty (.agg X) (.agg Y)).run P W = .ok e W) : YieldsIf P ops S op (.bool (!e)) a :=
  .inl ⟨hw, fun w _ => by
    have hg : (eqGuard .neq ty x y (.agg X) (.agg Y)).run P w = .ok () w := by
      simp [eqGuard, hgt]
    have hb : (binOp .neq ty (.agg X) (.agg Y)).run P w = .ok (.bool (!e)) w := by
      have := hE w
      simp only [binOp, Op.equal, Op.maxDepth, Sem.run_bind, this, Result.andThen_ok, Sem.run_pure]
    unfold execOp
    simp only [ho, hx, hy, Sem.run_bind, hg, hb, Result.andThen_ok, Sem.run_pure]⟩
set_option maxRecDepth 100000 in
theorem eq_digest_2 (d : Nat) (W : World) (D E : List UInt8) (hD : D.length = 32) (hE : E.length = 32) : (Op.equalIn (d + 1 + 1) 35 (.agg (bcells D).toArray) (.agg (bcells E).toArray)).run Try.prog W = .ok (decide (D = E)) W := by
  obtain ⟨i8, hi8⟩ := info_of_underlying Try.und8
  have h1 := run_equalIn_array (w := W) (d + 1) (bcells D).toArray (bcells E).toArray Try.aund32 hi8
  rw [Try.cells8] at h1
  have h2 := eqItems_gen W d D E (List.range 32) (fun i hi => by rw [hD]; exact List.mem_range.1 hi) (fun i hi => by rw [hE]; exact List.mem_range.1 hi)
  rw [h1, h2]
  congr 1
  rw [Bool.eq_iff_iff, List.all_eq_true, decide_eq_true_eq]
  constructor
  · intro h
    apply List.ext_getElem (by omega)
    intro i hi1 hi2
    have := h i (List.mem_range.2 (by omega))
    simpa [hi1, hi2] using this
  · rintro rfl i _
    simp
theorem Try.aggD (W : World) : (isAgg 35).run Try.prog W = .ok true W := by kernel_rfl
theorem Try.szD (W : World) : (sizeOf 35).run Try.prog W = .ok 32 W := by kernel_rfl
theorem Try.plain32 : Try.prog.plainKey 30 = true := by kernel_rfl
theorem Try.sihK : Try.prog.stoodInHeld 37 = false := by kernel_rfl
theorem Try.fldK : Try.prog.underlying 37 = some (.struct (Try.prog.fieldsOf 37)) := by kernel_rfl
theorem part_dig (W : World) (cs : Array Value) (off : Nat) : (part 35 cs off).run Try.prog W = .ok (.agg (cs.extract off (off + 32))) W := by
  have h1 := Try.aggD
  have h2 := Try.szD
  simp [part, Sem.run_bind, h1, h2]
theorem part_u32 (W : World) (cs : Array Value) (off : Nat) (v : Value) (h : cs[off]? = some v) : (part 30 cs off).run Try.prog W = .ok v W := run_part_plain W Try.plain32 h
theorem eqFields_step {P : Program} (W : World) (d : Nat) (X Y : Array Value) (f : Field) (fs : List Field) (a b : Value) (r s : Bool) (hn : f.name ≠ "_") (ha : (part f.type X f.offset).run P W = .ok a W) (hb : (part f.type Y f.offset).run P W = .ok b W)
    (hr : (Op.equalIn d f.type a b).run P W = .ok r W) (hs : (Op.eqFields d X Y fs).run P W = .ok s W) : (Op.eqFields d X Y (f :: fs)).run P W = .ok (r && s) W := by
  simp only [Op.eqFields, Sem.run_bind, Sem.run_ite, if_pos hn, ha, hb, hr, Result.andThen_ok]
  cases r
  · simp
  · simp [hs]
theorem eqFields_nil {P : Program} (W : World) (d : Nat) (X Y : Array Value) : (Op.eqFields d X Y []).run P W = .ok true W := by simp [Op.eqFields]
theorem eqR {P : Program} {W : World} {m : Sem Bool} {r s : Bool} (h : m.run P W = .ok r W) (e : r = s) : m.run P W = .ok s W := by rw [h, e]
theorem kid_dig (k : Kid) (h : k.d.length = 32) : ((kcells k).toArray).extract 1 33 = (bcells k.d).toArray := by
  simp only [kcells, List.extract_toArray, List.extract_eq_take_drop, List.drop_succ_cons, List.drop_zero]
  congr 1
  rw [show 33 - 1 = (bcells k.d).length from by rw [bcells_length, h]]
  exact List.take_length
set_option maxRecDepth 100000 in
theorem eq_kid2 (k l : Kid) (h : k.d.length = 32) (h2 : l.d.length = 32) : ∃ b : Bool, (∀ W, (Op.equalIn 10000 37 (.agg (kcells k).toArray) (.agg (kcells l).toArray)).run Try.prog W = .ok b W) ∧ (b = true ↔ k = l) := by
  refine ⟨((k.page : Int) == (l.page : Int)) && decide (k.d = l.d), fun W => ?_, ?_⟩
  · have e1 := part_dig W (kcells k).toArray 1
    rw [show 1 + 32 = 33 from rfl, kid_dig k h] at e1
    have e2 := part_dig W (kcells l).toArray 1
    rw [show 1 + 32 = 33 from rfl, kid_dig l h2] at e2
    have g0 := run_equalIn_int W 9998 30 .u32 .u32 (k.page : Int) (l.page : Int) Try.underlying30
    have g1 := eq_digest_2 9997 W k.d l.d h h2
    have hst := run_equalIn_struct (P := Try.prog) W 9999 37 (kcells k).toArray (kcells l).toArray Try.fldK Try.sihK
    rw [Program.fieldsOf, Try.underlying37] at hst
    refine Eq.trans hst ?_
    refine eqR (eqFields_step W 9999 _ _ _ _ _ _ _ _ (by decide) (part_u32 W _ 0 (.int .u32 k.page) rfl) (part_u32 W _ 0 (.int .u32 l.page) rfl) g0 (eqFields_step W 9999 _ _ _ _ _ _ _ _ (by decide) e1 e2 g1 (eqFields_nil W _ _ _))) ?_
    simp
  · obtain ⟨p, d⟩ := k
    obtain ⟨p2, d2⟩ := l
    simp
    intro _
    omega
theorem Try.plainS : Try.prog.plainKey 9 = true := by kernel_rfl
theorem Try.sihP : Try.prog.stoodInHeld 33 = false := by kernel_rfl
theorem Try.fldP : Try.prog.underlying 33 = some (.struct (Try.prog.fieldsOf 33)) := by kernel_rfl
theorem part_strS (W : World) (cs : Array Value) (off : Nat) (v : Value) (h : cs[off]? = some v) : (part 9 cs off).run Try.prog W = .ok v W := run_part_plain W Try.plainS h
set_option maxRecDepth 100000 in
theorem neq_pair (W : World) {x0 x1 y0 y1 : ByteArray} (h : ¬ (x0 = y0 ∧ x1 = y1)) : (binOp .neq 33 (.agg #[.string x0, .string x1]) (.agg #[.string y0, .string y1])).run Try.prog W = .ok (.bool true) W := by
  have g0 := run_equalIn_string (P := Try.prog) (w := W) 9998 9 x0 y0 Try.underlying9
  have g1 := run_equalIn_string (P := Try.prog) (w := W) 9998 9 x1 y1 Try.underlying9
  have hst := run_equalIn_struct (P := Try.prog) W 9999 33 #[.string x0, .string x1] #[.string y0, .string y1] Try.fldP Try.sihP
  rw [Program.fieldsOf, Try.underlying33] at hst
  have hE : (Op.equalIn 10000 33 (.agg #[.string x0, .string x1]) (.agg #[.string y0, .string y1])).run Try.prog W = .ok false W := by
    refine Eq.trans hst ?_
    refine eqR (eqFields_step W 9999 _ _ _ _ _ _ _ _ (by decide) (part_strS W _ 0 (.string x0) rfl) (part_strS W _ 0 (.string y0) rfl) g0 (eqFields_step W 9999 _ _ _ _ _ _ _ _ (by decide) (part_strS W _ 1 (.string x1) rfl) (part_strS W _ 1 (.string y1) rfl) g1 (eqFields_nil W _ _ _))) ?_
    rw [Bool.and_true, Bool.eq_false_iff]
    intro e
    rw [Bool.and_eq_true] at e
    exact h ⟨ba_toList e.1, ba_toList e.2⟩
  simp only [binOp, Op.equal, Op.maxDepth, Sem.run_bind, hE, Result.andThen_ok, Sem.run_pure]
  rfl
theorem neq_text {x y : ByteArray} (h : ¬ x = y) : (x.toList == y.toList) = false := by
  rw [Bool.eq_false_iff]
  exact fun e => h (ba_toList e)
set_option maxRecDepth 100000 in
set_option maxHeartbeats 4000000 in
theorem rsame_calls {ra rb : Nr} {A B : Nd} (w : World) (ha : NdAt w ra A) (hb : NdAt w rb B) :
    Calls Try.prog 6 #[ndV ra A, ndV rb B] w fun e w' => ∃ b : Bool, e = .returned (.bool b) ∧ (b = true ↔ A = B) ∧ Same w w' := by
  obtain ⟨pa, pb, po, cp, sa, sb, so, cs, ka, kb, ko, ck⟩ := ra
  obtain ⟨pa', pb', po', cp', sa', sb', so', cs', ka', kb', ko', ck'⟩ := rb
  obtain ⟨ps, ss, ks⟩ := A
  obtain ⟨qs, ts, ms⟩ := B
  have hp1 : PRow w pa pb po ps := ha.hp
  have hp2 : PRow w pa' pb' po' qs := hb.hp
  have hs1 : TRow w sa sb so ss := ha.hs
  have hs2 : TRow w sa' sb' so' ts := hb.hs
  have hk1 : KRow w ka kb ko ks := ha.hk
  have hk2 : KRow w ka' kb' ko' ms := hb.hk
  have lp : ps.length ≤ 4611686018427387904 := ha.lp
  have ls : ss.length ≤ 4611686018427387904 := ha.ls
  have lk : ks.length ≤ 4611686018427387904 := ha.lk
  have hok1 : ∀ x ∈ ks, KidOk x := ha.ok
  have hok2 : ∀ x ∈ ms, KidOk x := hb.ok
  clear ha hb
  show Calls Try.prog 6 #[nodeV pa ps.length cp sa ss.length cs ka ks.length ck, nodeV pa' qs.length cp' sa' ts.length cs' ka' ms.length ck'] w _
  obtain ⟨V, hV⟩ : ∃ V, V = (w.alloc (.cells #[.slice pa ps.length cp, .slice sa ss.length cs, .slice ka ks.length ck] 26)).alloc (.cells #[.slice pa' qs.length cp', .slice sa' ts.length cs', .slice ka' ms.length ck'] 26) := ⟨_, rfl⟩
  have sx : Same w V := by rw [hV]; exact ((Fr.refl _ w).alloc _).alloc _
  have a0 : V.cell? ⟨w.heap.size, 0, none⟩ = some (.slice pa ps.length cp) := by rw [hV]; simp
  have a1 : V.cell? ⟨w.heap.size, 1, none⟩ = some (.slice sa ss.length cs) := by rw [hV]; simp
  have a2 : V.cell? ⟨w.heap.size, 2, none⟩ = some (.slice ka ks.length ck) := by rw [hV]; simp
  have b0 : V.cell? ⟨w.heap.size + 1, 0, none⟩ = some (.slice pa' qs.length cp') := by rw [hV]; simp
  have b1 : V.cell? ⟨w.heap.size + 1, 1, none⟩ = some (.slice sa' ts.length cs') := by rw [hV]; simp
  have b2 : V.cell? ⟨w.heap.size + 1, 2, none⟩ = some (.slice ka' ms.length ck') := by rw [hV]; simp
  have HP1 : Hid (PRow V pa pb po ps) := hp1.same sx
  have HP2 : Hid (PRow V pa' pb' po' qs) := hp2.same sx
  have HS1 : Hid (TRow V sa sb so ss) := hs1.same sx
  have HS2 : Hid (TRow V sa' sb' so' ts) := hs2.same sx
  have HK1 : Hid (KRow V ka kb ko ks) := hk1.same sx
  have HK2 : Hid (KRow V ka' kb' ko' ms) := hk2.same sx
  have HO1 : Hid (∀ x ∈ ks, KidOk x) := hok1
  have HO2 : Hid (∀ x ∈ ms, KidOk x) := hok2
  have HC : Hid (∀ W, Same V W → W.cell? ⟨w.heap.size, 0, none⟩ = some (.slice pa ps.length cp) ∧ W.cell? ⟨w.heap.size, 1, none⟩ = some (.slice sa ss.length cs) ∧ W.cell? ⟨w.heap.size, 2, none⟩ = some (.slice ka ks.length ck) ∧ W.cell? ⟨w.heap.size + 1, 0, none⟩ = some (.slice pa' qs.length cp') ∧ W.cell? ⟨w.heap.size + 1, 1, none⟩ = some (.slice sa' ts.length cs') ∧ W.cell? ⟨w.heap.size + 1, 2, none⟩ = some (.slice ka' ms.length ck')) := fun W h => ⟨h.keep a0, h.keep a1, h.keep a2, h.keep b0, h.keep b1, h.keep b2⟩
  clear hp1 hp2 hs1 hs2 hk1 hk2 hok1 hok2
  by_cases hlen : ps.length = qs.length ∧ ss.length = ts.length ∧ ks.length = ms.length
  case neg =>
    have HN : Hid (¬ (⟨ps, ss, ks⟩ : Nd) = ⟨qs, ts, ms⟩) := fun e => hlen (by injection e with e1 e2 e3; rw [e1, e2, e3]; exact ⟨rfl, rfl, rfl⟩)
    by_cases l1 : ps.length = qs.length
    · have e1 : ((ps.length : Int) != (qs.length : Int)) = false := by simp [l1]
      by_cases l2 : ss.length = ts.length
      · have e2 : ((ss.length : Int) != (ts.length : Int)) = false := by simp [l2]
        have l3 : ¬ ks.length = ms.length := fun l3 => hlen ⟨l1, l2, l3⟩
        have e3 : ((ks.length : Int) != (ms.length : Int)) = true := by simp; omega
        clear hlen l1 l2 l3
        go_enter Try.func6, Try.ntmps6
        go_wp2_with fail
        go_ret
        exact ⟨false, rfl, ⟨fun h => (by cases h), fun h => (HN.out h).elim⟩, by rw [← hV]; exact sx⟩
      · have e2 : ((ss.length : Int) != (ts.length : Int)) = true := by simp; omega
        clear hlen l1 l2
        go_enter Try.func6, Try.ntmps6
        go_wp2_with fail
        go_ret
        exact ⟨false, rfl, ⟨fun h => (by cases h), fun h => (HN.out h).elim⟩, by rw [← hV]; exact sx⟩
    · have e1 : ((ps.length : Int) != (qs.length : Int)) = true := by simp; omega
      clear hlen l1
      go_enter Try.func6, Try.ntmps6
      go_wp2_with fail
      go_ret
      exact ⟨false, rfl, ⟨fun h => (by cases h), fun h => (HN.out h).elim⟩, by rw [← hV]; exact sx⟩
  obtain ⟨l1, l2, l3⟩ := hlen
  have HL1 : Hid (ps.length = qs.length) := l1
  have HL2 : Hid (ss.length = ts.length) := l2
  have HL3 : Hid (ks.length = ms.length) := l3
  have e1 : ((ps.length : Int) != (qs.length : Int)) = false := by simp [l1]
  have e2 : ((ss.length : Int) != (ts.length : Int)) = false := by simp [l2]
  have e3 : ((ks.length : Int) != (ms.length : Int)) = false := by simp [l3]
  clear l1 l2 l3
  go_enter Try.func6, Try.ntmps6
  go_wp2_with fail
  rw [← hV]
  clear hV a0 a1 a2 b0 b1 b2
  go_loopg [5] ps.length (fun g iv wr => ∃ k : Nat, iv = .int .i64 (k : Int) ∧ k ≤ ps.length ∧ g = ps.length - k ∧ Same V wr ∧ Hid (∀ j, j < k → ps[j]? = qs[j]?))
  case atStart => exact ⟨0, rfl, by omega, rfl, Fr.refl _ V, fun j hj => by omega⟩
  case round =>
    obtain ⟨k, rfl, hk, hg, sr, hE⟩ := hrel
    obtain ⟨a0, a1, a2, b0, b1, b2⟩ := HC.out _ sr
    by_cases hgo : k < ps.length
    · obtain ⟨x, hx⟩ : ∃ x, ps[k]? = some x := ⟨_, List.getElem?_eq_getElem hgo⟩
      obtain ⟨y, hy⟩ : ∃ y, qs[k]? = some y := ⟨_, List.getElem?_eq_getElem (by have := HL1.out; omega)⟩
      obtain ⟨x0, x1⟩ := x
      obtain ⟨y0, y1⟩ := y
      obtain ⟨c0, c1⟩ := (HP1.out.same sr).cells k _ hx
      obtain ⟨d0, d1⟩ := (HP2.out.same sr).cells k _ hy
      obtain ⟨hpa, _⟩ := (HP1.out.same sr).place (by intro e; rw [e] at hx; simp at hx)
      obtain ⟨hpb, _⟩ := (HP2.out.same sr).place (by intro e; rw [e] at hy; simp at hy)
      subst hpa hpb
      have hgo2 : k < qs.length := by have := HL1.out; omega
      have HX : Hid (ps[k]? = some (x0, x1)) := hx
      have HY : Hid (qs[k]? = some (y0, y1)) := hy
      clear hx hy
      by_cases hxy : x0 = y0 ∧ x1 = y1
      · obtain ⟨rfl, rfl⟩ := hxy
        go_wp2_with fail
        go_region_held3 (fun W => W.cell? ⟨w.heap.size, 0, none⟩ = some (.slice (some ⟨pb, po, none⟩) ps.length cp) ∧ W.cell? ⟨w.heap.size + 1, 0, none⟩ = some (.slice (some ⟨pb', po', none⟩) qs.length cp') ∧ W.cell? ⟨pb, po + k * 2, none⟩ = some (.string x0) ∧ W.cell? ⟨pb, po + k * 2 + 1, none⟩ = some (.string x1) ∧ W.cell? ⟨pb', po' + k * 2, none⟩ = some (.string x0) ∧ W.cell? ⟨pb', po' + k * 2 + 1, none⟩ = some (.string x1)) (exact ⟨a0, b0, c0, c1, d0, d1⟩) (fail)
        go_wp2_with fail
        go_roundg (ps.length - (k + 1))
        case measure => omega
        case rel =>
          refine ⟨k + 1, by go_num, by omega, rfl, Fr.drew sr, fun j hj => ?_⟩
          by_cases hjk : j < k
          · exact hE.out j hjk
          · obtain rfl : j = k := by omega
            rw [HX.out, HY.out]
      · have hq := fun W => neq_pair W hxy
        have HN : Hid (¬ (⟨ps, ss, ks⟩ : Nd) = ⟨qs, ts, ms⟩) := fun e => by
          injection e with e1 e2 e3
          have := HX.out
          rw [e1, HY.out] at this
          injection this with this
          injection this with h1 h2
          exact hxy ⟨h1.symm, h2.symm⟩
        clear hxy hE
        go_wp2_with fail
        go_region_held3 (fun W => W.cell? ⟨w.heap.size, 0, none⟩ = some (.slice (some ⟨pb, po, none⟩) ps.length cp) ∧ W.cell? ⟨w.heap.size + 1, 0, none⟩ = some (.slice (some ⟨pb', po', none⟩) qs.length cp') ∧ W.cell? ⟨pb, po + k * 2, none⟩ = some (.string x0) ∧ W.cell? ⟨pb, po + k * 2 + 1, none⟩ = some (.string x1) ∧ W.cell? ⟨pb', po' + k * 2, none⟩ = some (.string y0) ∧ W.cell? ⟨pb', po' + k * 2 + 1, none⟩ = some (.string y1)) (exact ⟨a0, b0, c0, c1, d0, d1⟩) (fail)
        go_wp2_with fail
        go_ret
        exact ⟨false, rfl, ⟨fun h => (by cases h), fun h => (HN.out h).elim⟩, sx.trans (Fr.drew sr)⟩
    · obtain rfl : k = ps.length := by omega
      have HE1 : Hid (ps = qs) := List.ext_getElem? (fun j => by
        by_cases hj : j < ps.length
        · exact hE.out j hj
        · rw [List.getElem?_eq_none (by omega), List.getElem?_eq_none (by have := HL1.out; omega)])
      clear hE
      go_wp2_with fail
      go_loopg [6] ss.length (fun g iv wr => ∃ k : Nat, iv = .int .i64 (k : Int) ∧ k ≤ ss.length ∧ g = ss.length - k ∧ Same V wr ∧ Hid (∀ j, j < k → ss[j]? = ts[j]?))
      case atStart => exact ⟨0, rfl, by omega, rfl, sr, fun j hj => by omega⟩
      case round =>
        clear a0 a1 a2 b0 b1 b2 sr
        obtain ⟨k, rfl, hk, hg, sr, hE⟩ := hrel
        obtain ⟨a0, a1, a2, b0, b1, b2⟩ := HC.out _ sr
        by_cases hgo : k < ss.length
        · obtain ⟨x, hx⟩ : ∃ x, ss[k]? = some x := ⟨_, List.getElem?_eq_getElem hgo⟩
          obtain ⟨y, hy⟩ : ∃ y, ts[k]? = some y := ⟨_, List.getElem?_eq_getElem (by have := HL2.out; omega)⟩
          have c0 := (HS1.out.same sr).cells k _ hx
          have d0 := (HS2.out.same sr).cells k _ hy
          obtain ⟨hpa, _⟩ := (HS1.out.same sr).place (by intro e; rw [e] at hx; simp at hx)
          obtain ⟨hpb, _⟩ := (HS2.out.same sr).place (by intro e; rw [e] at hy; simp at hy)
          subst hpa hpb
          have hgo2 : k < ts.length := by have := HL2.out; omega
          have HX : Hid (ss[k]? = some x) := hx
          have HY : Hid (ts[k]? = some y) := hy
          clear hx hy
          by_cases hxy : x = y
          · obtain rfl := hxy
            go_wp2_with fail
            go_region_held3 (fun W => W.cell? ⟨w.heap.size, 1, none⟩ = some (.slice (some ⟨sb, so, none⟩) ss.length cs) ∧ W.cell? ⟨w.heap.size + 1, 1, none⟩ = some (.slice (some ⟨sb', so', none⟩) ts.length cs') ∧ W.cell? ⟨sb, so + k, none⟩ = some (.string x) ∧ W.cell? ⟨sb', so' + k, none⟩ = some (.string x)) (exact ⟨a1, b1, c0, d0⟩) (fail)
            go_wp2_with fail
            go_roundg (ss.length - (k + 1))
            case measure => omega
            case rel =>
              refine ⟨k + 1, by go_num, by omega, rfl, Fr.drew sr, fun j hj => ?_⟩
              by_cases hjk : j < k
              · exact hE.out j hjk
              · obtain rfl : j = k := by omega
                rw [HX.out, HY.out]
          · have hq := neq_text hxy
            have HN : Hid (¬ (⟨ps, ss, ks⟩ : Nd) = ⟨qs, ts, ms⟩) := fun e => by
              injection e with e1 e2 e3
              have := HX.out
              rw [e2, HY.out] at this
              injection this with this
              exact hxy this.symm
            clear hxy hE
            go_wp2_with fail
            go_region_held3 (fun W => W.cell? ⟨w.heap.size, 1, none⟩ = some (.slice (some ⟨sb, so, none⟩) ss.length cs) ∧ W.cell? ⟨w.heap.size + 1, 1, none⟩ = some (.slice (some ⟨sb', so', none⟩) ts.length cs') ∧ W.cell? ⟨sb, so + k, none⟩ = some (.string x) ∧ W.cell? ⟨sb', so' + k, none⟩ = some (.string y)) (exact ⟨a1, b1, c0, d0⟩) (fail)
            go_wp2_with fail
            go_ret
            exact ⟨false, rfl, ⟨fun h => (by cases h), fun h => (HN.out h).elim⟩, sx.trans (Fr.drew sr)⟩
        · obtain rfl : k = ss.length := by omega
          have HE2 : Hid (ss = ts) := List.ext_getElem? (fun j => by
            by_cases hj : j < ss.length
            · exact hE.out j hj
            · rw [List.getElem?_eq_none (by omega), List.getElem?_eq_none (by have := HL2.out; omega)])
          clear hE
          go_wp2_with fail
          go_loopg [7] ks.length (fun g iv wr => ∃ k : Nat, iv = .int .i64 (k : Int) ∧ k ≤ ks.length ∧ g = ks.length - k ∧ Same V wr ∧ Hid (∀ j, j < k → ks[j]? = ms[j]?))
          case atStart => exact ⟨0, rfl, by omega, rfl, sr, fun j hj => by omega⟩
          case round =>
            clear a0 a1 a2 b0 b1 b2 sr
            obtain ⟨k, rfl, hk, hg, sr, hE⟩ := hrel
            obtain ⟨a0, a1, a2, b0, b1, b2⟩ := HC.out _ sr
            by_cases hgo : k < ks.length
            · obtain ⟨x, hx⟩ : ∃ x, ks[k]? = some x := ⟨_, List.getElem?_eq_getElem hgo⟩
              obtain ⟨y, hy⟩ : ∃ y, ms[k]? = some y := ⟨_, List.getElem?_eq_getElem (by have := HL3.out; omega)⟩
              have c := (HK1.out.same sr).cells k _ hx
              have d := (HK2.out.same sr).cells k _ hy
              have hDl : x.d.length = 32 := (HO1.out x (List.mem_of_getElem? hx)).d
              have hEl0 : y.d.length = 32 := (HO2.out y (List.mem_of_getElem? hy)).d
              obtain ⟨hpa, _⟩ := (HK1.out.same sr).place (by intro e; rw [e] at hx; simp at hx)
              obtain ⟨hpb, _⟩ := (HK2.out.same sr).place (by intro e; rw [e] at hy; simp at hy)
              subst hpa hpb
              have hgo2 : k < ms.length := by have := HL3.out; omega
              have HX : Hid (ks[k]? = some x) := hx
              have HY : Hid (ms[k]? = some y) := hy
              obtain ⟨bq, heq, hiff⟩ := eq_kid2 x y hDl hEl0
              have HEQ : Hid (∀ W : World, (Op.equalIn 10000 37 (.agg (kcells x).toArray) (.agg (kcells y).toArray)).run Try.prog W = .ok bq W) := heq
              have HIF : Hid (bq = true ↔ x = y) := hiff
              have hBl : (Try.prog.info? 37).map (·.size) = some (kcells x).length := by rw [kcells_length hDl]; kernel_rfl
              have hEl : (Try.prog.info? 37).map (·.size) = some (kcells y).length := by rw [kcells_length hEl0]; kernel_rfl
              clear heq hiff hDl hEl0 hx hy
              generalize kcells x = BD at *
              generalize kcells y = BE at *
              clear HP1 HP2 HS1 HS2 HK1 HK2
              go_wp2_with fail
              refine wp_region_held_drew (S := fun X => X.cell? ⟨w.heap.size, 2, none⟩ = some (.slice (some ⟨kb, ko, none⟩) ks.length ck) ∧ X.cell? ⟨w.heap.size + 1, 2, none⟩ = some (.slice (some ⟨kb', ko', none⟩) ms.length ck') ∧ X.rangeAt kb (ko + k * 33) BD ∧ X.rangeAt kb' (ko' + k * 33) BE) (by kernel_rfl) (⟨a2, b2, c, d⟩) (fun hHeld => ?_)
              refine wpAnyH_take (i := 0) (oi := { dst := some 76, op := Op.fieldAddr 26 (Operand.tmp 2) 2, type := 0, pos := "ref.go:255", after := #[], guard := none }) (v := .pointer (some ⟨w.heap.size, 2, none⟩)) rfl (by kernel_rfl) (by kernel_rfl) (by kernel_rfl) (fun _ _ _ h => h) (Or.inl ⟨by rfl, fun w hSw => by (obtain ⟨z0, z1, z2, z3⟩ := hSw; go_simp)⟩) (by assumption) ?_
              try simp only [Act.put, List.setIfInBounds_toArray, List.set_cons_zero, List.set_cons_succ]
              refine wpAnyH_take (i := 1) (oi := { dst := some 77, op := Op.load 24 (Operand.tmp 76), type := 24, pos := "ref.go:255", after := #[{ on := 0, ground := Ground.data }], guard := none }) (v := .slice (some ⟨kb, ko, none⟩) ks.length ck) rfl (by kernel_rfl) (by kernel_rfl) (by kernel_rfl) (fun _ _ _ h => h) (Or.inl ⟨by rfl, fun w hSw => by (obtain ⟨z0, z1, z2, z3⟩ := hSw; go_simp)⟩) (by assumption) ?_
              try simp only [Act.put, List.setIfInBounds_toArray, List.set_cons_zero, List.set_cons_succ]
              refine wpAnyH_take (i := 2) (oi := { dst := some 78, op := Op.move (Operand.tmp 7), type := 3, pos := "ref.go:255", after := #[], guard := none }) (v := .int .i64 (k : Int)) rfl (by kernel_rfl) (by kernel_rfl) (by kernel_rfl) (fun _ _ _ h => h) (Or.inl ⟨by rfl, fun w hSw => by (obtain ⟨z0, z1, z2, z3⟩ := hSw; go_simp)⟩) (by assumption) ?_
              try simp only [Act.put, List.setIfInBounds_toArray, List.set_cons_zero, List.set_cons_succ]
              refine wpAnyH_take (i := 3) (oi := { dst := some 79, op := Op.indexAddr 24 (Operand.tmp 77) (Operand.tmp 78), type := 0, pos := "ref.go:255", after := #[{ on := 1, ground := Ground.data }, { on := 2, ground := Ground.data }], guard := none }) (v := .pointer (some ⟨kb, ko + k * 33, none⟩)) rfl (by kernel_rfl) (by kernel_rfl) (by kernel_rfl) (fun _ _ _ h => h) (Or.inl ⟨by rfl, fun w hSw => by (obtain ⟨z0, z1, z2, z3⟩ := hSw; go_simp)⟩) (by assumption) ?_
              try simp only [Act.put, List.setIfInBounds_toArray, List.set_cons_zero, List.set_cons_succ]
              refine wpAnyH_take (i := 4) (oi := { dst := some 80, op := Op.load 37 (Operand.tmp 79), type := 37, pos := "ref.go:255", after := #[{ on := 3, ground := Ground.data }], guard := none }) (v := .agg BD.toArray) rfl (by kernel_rfl) (by kernel_rfl) (by kernel_rfl) (fun _ _ _ h => h) (yieldsIf_load_mid (by rfl) 37 _ rfl (kb) (ko + k * 33) rfl BD _ (fun w hSw => hSw.2.2.1) Try.underlying37 rfl hBl) (by assumption) ?_
              try simp only [Act.put, List.setIfInBounds_toArray, List.set_cons_zero, List.set_cons_succ]
              refine wpAnyH_take (i := 5) (oi := { dst := some 81, op := Op.fieldAddr 26 (Operand.tmp 3) 2, type := 0, pos := "ref.go:255", after := #[], guard := none }) (v := .pointer (some ⟨w.heap.size + 1, 2, none⟩)) rfl (by kernel_rfl) (by kernel_rfl) (by kernel_rfl) (fun _ _ _ h => h) (Or.inl ⟨by rfl, fun w hSw => by (obtain ⟨z0, z1, z2, z3⟩ := hSw; go_simp)⟩) (by assumption) ?_
              try simp only [Act.put, List.setIfInBounds_toArray, List.set_cons_zero, List.set_cons_succ]
              refine wpAnyH_take (i := 6) (oi := { dst := some 82, op := Op.load 24 (Operand.tmp 81), type := 24, pos := "ref.go:255", after := #[{ on := 5, ground := Ground.data }], guard := none }) (v := .slice (some ⟨kb', ko', none⟩) ms.length ck') rfl (by kernel_rfl) (by kernel_rfl) (by kernel_rfl) (fun _ _ _ h => h) (Or.inl ⟨by rfl, fun w hSw => by (obtain ⟨z0, z1, z2, z3⟩ := hSw; go_simp)⟩) (by assumption) ?_
              try simp only [Act.put, List.setIfInBounds_toArray, List.set_cons_zero, List.set_cons_succ]
              refine wpAnyH_take (i := 7) (oi := { dst := some 83, op := Op.move (Operand.tmp 7), type := 3, pos := "ref.go:255", after := #[], guard := none }) (v := .int .i64 (k : Int)) rfl (by kernel_rfl) (by kernel_rfl) (by kernel_rfl) (fun _ _ _ h => h) (Or.inl ⟨by rfl, fun w hSw => by (obtain ⟨z0, z1, z2, z3⟩ := hSw; go_simp)⟩) (by assumption) ?_
              try simp only [Act.put, List.setIfInBounds_toArray, List.set_cons_zero, List.set_cons_succ]
              refine wpAnyH_take (i := 8) (oi := { dst := some 84, op := Op.indexAddr 24 (Operand.tmp 82) (Operand.tmp 83), type := 0, pos := "ref.go:255", after := #[{ on := 6, ground := Ground.data }, { on := 7, ground := Ground.data }], guard := none }) (v := .pointer (some ⟨kb', ko' + k * 33, none⟩)) rfl (by kernel_rfl) (by kernel_rfl) (by kernel_rfl) (fun _ _ _ h => h) (Or.inl ⟨by rfl, fun w hSw => by (obtain ⟨z0, z1, z2, z3⟩ := hSw; go_simp)⟩) (by assumption) ?_
              try simp only [Act.put, List.setIfInBounds_toArray, List.set_cons_zero, List.set_cons_succ]
              refine wpAnyH_take (i := 9) (oi := { dst := some 85, op := Op.load 37 (Operand.tmp 84), type := 37, pos := "ref.go:255", after := #[{ on := 8, ground := Ground.data }], guard := none }) (v := .agg BE.toArray) rfl (by kernel_rfl) (by kernel_rfl) (by kernel_rfl) (fun _ _ _ h => h) (yieldsIf_load_mid (by rfl) 37 _ rfl (kb') (ko' + k * 33) rfl BE _ (fun w hSw => hSw.2.2.2) Try.underlying37 rfl hEl) (by assumption) ?_
              try simp only [Act.put, List.setIfInBounds_toArray, List.set_cons_zero, List.set_cons_succ]
              refine wpAnyH_take (i := 10) (oi := { dst := some 86, op := Op.binOp BinOp.neq 37 (Operand.tmp 80) (Operand.tmp 85) 37, type := 4, pos := "ref.go:255", after := #[{ on := 4, ground := Ground.data }, { on := 9, ground := Ground.data }], guard := none }) (v := .bool (!bq)) rfl (by kernel_rfl) (by kernel_rfl) (by kernel_rfl) (fun _ _ _ h => h) (neq_aggS (by rfl) 37 _ _ _ rfl BD.toArray BE.toArray rfl rfl (by kernel_rfl) bq HEQ.out) (by assumption) ?_
              try simp only [Act.put, List.setIfInBounds_toArray, List.set_cons_zero, List.set_cons_succ]
              refine wpAnyH_done (by kernel_rfl) ?_ _
              cases bq
              · have HN : Hid (¬ (⟨ps, ss, ks⟩ : Nd) = ⟨qs, ts, ms⟩) := fun e => by
                  injection e with e1 e2 e3
                  have := HX.out
                  rw [e3, HY.out] at this
                  injection this with this
                  exact Bool.noConfusion (HIF.out.2 this.symm)
                clear hE
                go_wp2_with fail
                go_ret
                exact ⟨false, rfl, ⟨fun h => (by cases h), fun h => (HN.out h).elim⟩, sx.trans (Fr.drew sr)⟩
              · have HXY : Hid (x = y) := HIF.out.1 rfl
                clear HIF
                go_wp2_with fail
                go_roundg (ks.length - (k + 1))
                case measure => omega
                case rel =>
                  refine ⟨k + 1, by go_num, by omega, rfl, Fr.drew sr, fun j hj => ?_⟩
                  by_cases hjk : j < k
                  · exact hE.out j hjk
                  · obtain rfl : j = k := by omega
                    rw [HX.out, HY.out, HXY.out]
            · obtain rfl : k = ks.length := by omega
              have HE3 : Hid (ks = ms) := List.ext_getElem? (fun j => by
                by_cases hj : j < ks.length
                · exact hE.out j hj
                · rw [List.getElem?_eq_none (by omega), List.getElem?_eq_none (by have := HL3.out; omega)])
              clear hE
              go_wp2_with fail
              go_ret
              exact ⟨true, rfl, ⟨fun _ => by rw [HE1.out, HE2.out, HE3.out], fun _ => rfl⟩, sx.trans sr⟩
end Go.Proofs.Ytjlbkagkmcelgaa
namespace Go.Proofs.Ytjlbkagkmcelgaa
open Go.RowKit

set_option maxRecDepth 100000 in
set_option maxHeartbeats 4000000 in
theorem equalP {ka ka' : Option Addr} {kb ko ck kb' ko' ck' : Nat} {ks ms : List (ByteArray × ByteArray)} (w : World) (h1 : PRow w ka kb ko ks) (h2 : PRow w ka' kb' ko' ms) (lk : ks.length ≤ 4611686018427387904) :
    Calls Try.prog 13 #[.slice ka ks.length ck, .slice ka' ms.length ck'] w fun e w' => ∃ b : Bool, e = .returned (.bool b) ∧ (b = true ↔ ks = ms) ∧ Same w w' := by
  have HK1 : Hid (PRow w ka kb ko ks) := h1
  have HK2 : Hid (PRow w ka' kb' ko' ms) := h2
  clear h1 h2
  by_cases l3 : ks.length = ms.length
  case neg =>
    have HN : Hid (¬ ks = ms) := fun e => l3 (by rw [e])
    have e3 : ((ks.length : Int) != (ms.length : Int)) = true := by simp; omega
    clear l3
    go_enter Try.func13, Try.ntmps13
    go_wp2_with fail
    go_ret
    exact ⟨false, rfl, ⟨fun h => (by cases h), fun h => (HN.out h).elim⟩, Fr.refl _ w⟩
  have HL3 : Hid (ks.length = ms.length) := l3
  have e3 : ((ks.length : Int) != (ms.length : Int)) = false := by simp [l3]
  clear l3
  go_enter Try.func13, Try.ntmps13
  go_wp2_with fail
  go_loopg [13] ks.length (fun g iv wr => ∃ k : Nat, iv = .int .i64 (k : Int) ∧ k ≤ ks.length ∧ g = ks.length - k ∧ Same w wr ∧ Hid (∀ j, j < k → ks[j]? = ms[j]?))
  case atStart => exact ⟨0, rfl, by omega, rfl, Fr.refl _ w, fun j hj => by omega⟩
  case round =>
    obtain ⟨k, rfl, hk, hg, sr, hE⟩ := hrel
    by_cases hgo : k < ks.length
    · obtain ⟨x, hx⟩ : ∃ x, ks[k]? = some x := ⟨_, List.getElem?_eq_getElem hgo⟩
      obtain ⟨y, hy⟩ : ∃ y, ms[k]? = some y := ⟨_, List.getElem?_eq_getElem (by have := HL3.out; omega)⟩
      obtain ⟨hpa, _⟩ := (HK1.out.same sr).place (by intro e; rw [e] at hx; simp at hx)
      obtain ⟨hpb, _⟩ := (HK2.out.same sr).place (by intro e; rw [e] at hy; simp at hy)
      have hgo2 : k < ms.length := by have := HL3.out; omega
      subst hpa hpb
      obtain ⟨x0, x1⟩ := x
      obtain ⟨y0, y1⟩ := y
      obtain ⟨c0, c1⟩ := (HK1.out.same sr).cells k _ hx
      obtain ⟨d0, d1⟩ := (HK2.out.same sr).cells k _ hy
      have HX : Hid (ks[k]? = some (x0, x1)) := hx
      have HY : Hid (ms[k]? = some (y0, y1)) := hy
      clear hx hy
      by_cases hxy : x0 = y0 ∧ x1 = y1
      · obtain ⟨rfl, rfl⟩ := hxy
        go_wp2_with fail
        go_region_held3 (fun W => W.cell? ⟨kb, ko + k * 2, none⟩ = some (.string x0) ∧ W.cell? ⟨kb, ko + k * 2 + 1, none⟩ = some (.string x1) ∧ W.cell? ⟨kb', ko' + k * 2, none⟩ = some (.string x0) ∧ W.cell? ⟨kb', ko' + k * 2 + 1, none⟩ = some (.string x1)) (exact ⟨c0, c1, d0, d1⟩) (fail)
        go_wp2_with fail
        go_roundg (ks.length - (k + 1))
        case measure => omega
        case rel =>
          refine ⟨k + 1, by go_num, by omega, rfl, Fr.drew sr, fun j hj => ?_⟩
          by_cases hjk : j < k
          · exact hE.out j hjk
          · obtain rfl : j = k := by omega
            rw [HX.out, HY.out]
      · have hq := fun W => neq_pair W hxy
        have HN : Hid (¬ ks = ms) := fun e => by
          have := HX.out
          rw [e, HY.out] at this
          injection this with this
          injection this with h1 h2
          exact hxy ⟨h1.symm, h2.symm⟩
        clear hxy hE
        go_wp2_with fail
        go_region_held3 (fun W => W.cell? ⟨kb, ko + k * 2, none⟩ = some (.string x0) ∧ W.cell? ⟨kb, ko + k * 2 + 1, none⟩ = some (.string x1) ∧ W.cell? ⟨kb', ko' + k * 2, none⟩ = some (.string y0) ∧ W.cell? ⟨kb', ko' + k * 2 + 1, none⟩ = some (.string y1)) (exact ⟨c0, c1, d0, d1⟩) (fail)
        go_wp2_with fail
        go_ret
        exact ⟨false, rfl, ⟨fun h => (by cases h), fun h => (HN.out h).elim⟩, Fr.drew sr⟩
    · obtain rfl : k = ks.length := by omega
      have HE3 : Hid (ks = ms) := List.ext_getElem? (fun j => by
        by_cases hj : j < ks.length
        · exact hE.out j hj
        · rw [List.getElem?_eq_none (by omega), List.getElem?_eq_none (by have := HL3.out; omega)])
      clear hE
      go_wp2_with fail
      go_ret
      exact ⟨true, rfl, ⟨fun _ => HE3.out, fun _ => rfl⟩, sr⟩
set_option maxRecDepth 100000 in
set_option maxHeartbeats 4000000 in
theorem equalT {ka ka' : Option Addr} {kb ko ck kb' ko' ck' : Nat} {ks ms : List ByteArray} (w : World) (h1 : TRow w ka kb ko ks) (h2 : TRow w ka' kb' ko' ms) (lk : ks.length ≤ 4611686018427387904) :
    Calls Try.prog 14 #[.slice ka ks.length ck, .slice ka' ms.length ck'] w fun e w' => ∃ b : Bool, e = .returned (.bool b) ∧ (b = true ↔ ks = ms) ∧ Same w w' := by
  have HK1 : Hid (TRow w ka kb ko ks) := h1
  have HK2 : Hid (TRow w ka' kb' ko' ms) := h2
  clear h1 h2
  by_cases l3 : ks.length = ms.length
  case neg =>
    have HN : Hid (¬ ks = ms) := fun e => l3 (by rw [e])
    have e3 : ((ks.length : Int) != (ms.length : Int)) = true := by simp; omega
    clear l3
    go_enter Try.func14, Try.ntmps14
    go_wp2_with fail
    go_ret
    exact ⟨false, rfl, ⟨fun h => (by cases h), fun h => (HN.out h).elim⟩, Fr.refl _ w⟩
  have HL3 : Hid (ks.length = ms.length) := l3
  have e3 : ((ks.length : Int) != (ms.length : Int)) = false := by simp [l3]
  clear l3
  go_enter Try.func14, Try.ntmps14
  go_wp2_with fail
  go_loopg [13] ks.length (fun g iv wr => ∃ k : Nat, iv = .int .i64 (k : Int) ∧ k ≤ ks.length ∧ g = ks.length - k ∧ Same w wr ∧ Hid (∀ j, j < k → ks[j]? = ms[j]?))
  case atStart => exact ⟨0, rfl, by omega, rfl, Fr.refl _ w, fun j hj => by omega⟩
  case round =>
    obtain ⟨k, rfl, hk, hg, sr, hE⟩ := hrel
    by_cases hgo : k < ks.length
    · obtain ⟨x, hx⟩ : ∃ x, ks[k]? = some x := ⟨_, List.getElem?_eq_getElem hgo⟩
      obtain ⟨y, hy⟩ : ∃ y, ms[k]? = some y := ⟨_, List.getElem?_eq_getElem (by have := HL3.out; omega)⟩
      obtain ⟨hpa, _⟩ := (HK1.out.same sr).place (by intro e; rw [e] at hx; simp at hx)
      obtain ⟨hpb, _⟩ := (HK2.out.same sr).place (by intro e; rw [e] at hy; simp at hy)
      have hgo2 : k < ms.length := by have := HL3.out; omega
      subst hpa hpb
      have c0 := (HK1.out.same sr).cells k _ hx
      have d0 := (HK2.out.same sr).cells k _ hy
      have HX : Hid (ks[k]? = some x) := hx
      have HY : Hid (ms[k]? = some y) := hy
      clear hx hy
      by_cases hxy : x = y
      · obtain rfl := hxy
        go_wp2_with fail
        go_region_held3 (fun W => W.cell? ⟨kb, ko + k, none⟩ = some (.string x) ∧ W.cell? ⟨kb', ko' + k, none⟩ = some (.string x)) (exact ⟨c0, d0⟩) (fail)
        go_wp2_with fail
        go_roundg (ks.length - (k + 1))
        case measure => omega
        case rel =>
          refine ⟨k + 1, by go_num, by omega, rfl, Fr.drew sr, fun j hj => ?_⟩
          by_cases hjk : j < k
          · exact hE.out j hjk
          · obtain rfl : j = k := by omega
            rw [HX.out, HY.out]
      · have hq := neq_text hxy
        have HN : Hid (¬ ks = ms) := fun e => by
          have := HX.out
          rw [e, HY.out] at this
          injection this with this
          exact hxy this.symm
        clear hxy hE
        go_wp2_with fail
        go_region_held3 (fun W => W.cell? ⟨kb, ko + k, none⟩ = some (.string x) ∧ W.cell? ⟨kb', ko' + k, none⟩ = some (.string y)) (exact ⟨c0, d0⟩) (fail)
        go_wp2_with fail
        go_ret
        exact ⟨false, rfl, ⟨fun h => (by cases h), fun h => (HN.out h).elim⟩, Fr.drew sr⟩
    · obtain rfl : k = ks.length := by omega
      have HE3 : Hid (ks = ms) := List.ext_getElem? (fun j => by
        by_cases hj : j < ks.length
        · exact hE.out j hj
        · rw [List.getElem?_eq_none (by omega), List.getElem?_eq_none (by have := HL3.out; omega)])
      clear hE
      go_wp2_with fail
      go_ret
      exact ⟨true, rfl, ⟨fun _ => HE3.out, fun _ => rfl⟩, sr⟩
set_option maxRecDepth 100000 in
set_option maxHeartbeats 4000000 in
theorem equalK {ka ka' : Option Addr} {kb ko ck kb' ko' ck' : Nat} {ks ms : List Kid} (w : World) (h1 : KRow w ka kb ko ks) (h2 : KRow w ka' kb' ko' ms) (lk : ks.length ≤ 4611686018427387904) (o1 : ∀ x ∈ ks, KidOk x) (o2 : ∀ x ∈ ms, KidOk x) :
    Calls Try.prog 15 #[.slice ka ks.length ck, .slice ka' ms.length ck'] w fun e w' => ∃ b : Bool, e = .returned (.bool b) ∧ (b = true ↔ ks = ms) ∧ Same w w' := by
  have HK1 : Hid (KRow w ka kb ko ks) := h1
  have HK2 : Hid (KRow w ka' kb' ko' ms) := h2
  have HO1 : Hid (∀ x ∈ ks, KidOk x) := o1
  have HO2 : Hid (∀ x ∈ ms, KidOk x) := o2
  clear o1 o2
  clear h1 h2
  by_cases l3 : ks.length = ms.length
  case neg =>
    have HN : Hid (¬ ks = ms) := fun e => l3 (by rw [e])
    have e3 : ((ks.length : Int) != (ms.length : Int)) = true := by simp; omega
    clear l3
    go_enter Try.func15, Try.ntmps15
    go_wp2_with fail
    go_ret
    exact ⟨false, rfl, ⟨fun h => (by cases h), fun h => (HN.out h).elim⟩, Fr.refl _ w⟩
  have HL3 : Hid (ks.length = ms.length) := l3
  have e3 : ((ks.length : Int) != (ms.length : Int)) = false := by simp [l3]
  clear l3
  go_enter Try.func15, Try.ntmps15
  go_wp2_with fail
  go_loopg [13] ks.length (fun g iv wr => ∃ k : Nat, iv = .int .i64 (k : Int) ∧ k ≤ ks.length ∧ g = ks.length - k ∧ Same w wr ∧ Hid (∀ j, j < k → ks[j]? = ms[j]?))
  case atStart => exact ⟨0, rfl, by omega, rfl, Fr.refl _ w, fun j hj => by omega⟩
  case round =>
    obtain ⟨k, rfl, hk, hg, sr, hE⟩ := hrel
    by_cases hgo : k < ks.length
    · obtain ⟨x, hx⟩ : ∃ x, ks[k]? = some x := ⟨_, List.getElem?_eq_getElem hgo⟩
      obtain ⟨y, hy⟩ : ∃ y, ms[k]? = some y := ⟨_, List.getElem?_eq_getElem (by have := HL3.out; omega)⟩
      obtain ⟨hpa, _⟩ := (HK1.out.same sr).place (by intro e; rw [e] at hx; simp at hx)
      obtain ⟨hpb, _⟩ := (HK2.out.same sr).place (by intro e; rw [e] at hy; simp at hy)
      have hgo2 : k < ms.length := by have := HL3.out; omega
      have c := (HK1.out.same sr).cells k _ hx
      have d := (HK2.out.same sr).cells k _ hy
      have hDl : x.d.length = 32 := (HO1.out x (List.mem_of_getElem? hx)).d
      have hEl0 : y.d.length = 32 := (HO2.out y (List.mem_of_getElem? hy)).d
      subst hpa hpb
      have HX : Hid (ks[k]? = some x) := hx
      have HY : Hid (ms[k]? = some y) := hy
      obtain ⟨bq, heq, hiff⟩ := eq_kid2 x y hDl hEl0
      have HEQ : Hid (∀ W : World, (Op.equalIn 10000 37 (.agg (kcells x).toArray) (.agg (kcells y).toArray)).run Try.prog W = .ok bq W) := heq
      have HIF : Hid (bq = true ↔ x = y) := hiff
      have hBl : (Try.prog.info? 37).map (·.size) = some (kcells x).length := by rw [kcells_length hDl]; kernel_rfl
      have hEl : (Try.prog.info? 37).map (·.size) = some (kcells y).length := by rw [kcells_length hEl0]; kernel_rfl
      clear heq hiff hDl hEl0 hx hy
      generalize kcells x = BD at *
      generalize kcells y = BE at *
      go_wp2_with fail
      refine wp_region_held_drew (S := fun X => X.rangeAt kb (ko + k * 33) BD ∧ X.rangeAt kb' (ko' + k * 33) BE) (by kernel_rfl) (⟨c, d⟩) (fun hHeld => ?_)
      refine wpAnyH_take (i := 0) (oi := { dst := some 16, op := Op.move (Operand.tmp 0), type := 24, pos := "slices.go:25", after := #[], guard := none }) (v := .slice (some ⟨kb, ko, none⟩) ks.length ck) rfl (by kernel_rfl) (by kernel_rfl) (by kernel_rfl) (fun _ _ _ h => h) (Or.inl ⟨by rfl, fun w hSw => by (obtain ⟨z0, z1⟩ := hSw; go_simp)⟩) (by assumption) ?_
      try simp only [Act.put, List.setIfInBounds_toArray, List.set_cons_zero, List.set_cons_succ]
      refine wpAnyH_take (i := 1) (oi := { dst := some 17, op := Op.move (Operand.tmp 5), type := 3, pos := "slices.go:25", after := #[], guard := none }) (v := .int .i64 (k : Int)) rfl (by kernel_rfl) (by kernel_rfl) (by kernel_rfl) (fun _ _ _ h => h) (Or.inl ⟨by rfl, fun w hSw => by (obtain ⟨z0, z1⟩ := hSw; go_simp)⟩) (by assumption) ?_
      try simp only [Act.put, List.setIfInBounds_toArray, List.set_cons_zero, List.set_cons_succ]
      refine wpAnyH_take (i := 2) (oi := { dst := some 18, op := Op.indexAddr 24 (Operand.tmp 16) (Operand.tmp 17), type := 0, pos := "slices.go:25", after := #[{ on := 0, ground := Ground.data }, { on := 1, ground := Ground.data }], guard := none }) (v := .pointer (some ⟨kb, ko + k * 33, none⟩)) rfl (by kernel_rfl) (by kernel_rfl) (by kernel_rfl) (fun _ _ _ h => h) (Or.inl ⟨by rfl, fun w hSw => by (obtain ⟨z0, z1⟩ := hSw; go_simp)⟩) (by assumption) ?_
      try simp only [Act.put, List.setIfInBounds_toArray, List.set_cons_zero, List.set_cons_succ]
      refine wpAnyH_take (i := 3) (oi := { dst := some 19, op := Op.load 37 (Operand.tmp 18), type := 37, pos := "slices.go:25", after := #[{ on := 2, ground := Ground.data }], guard := none }) (v := .agg BD.toArray) rfl (by kernel_rfl) (by kernel_rfl) (by kernel_rfl) (fun _ _ _ h => h) (yieldsIf_load_mid (by rfl) 37 _ rfl (kb) (ko + k * 33) rfl BD _ (fun w hSw => hSw.1) Try.underlying37 rfl hBl) (by assumption) ?_
      try simp only [Act.put, List.setIfInBounds_toArray, List.set_cons_zero, List.set_cons_succ]
      refine wpAnyH_take (i := 4) (oi := { dst := some 20, op := Op.move (Operand.tmp 1), type := 24, pos := "slices.go:25", after := #[], guard := none }) (v := .slice (some ⟨kb', ko', none⟩) ms.length ck') rfl (by kernel_rfl) (by kernel_rfl) (by kernel_rfl) (fun _ _ _ h => h) (Or.inl ⟨by rfl, fun w hSw => by (obtain ⟨z0, z1⟩ := hSw; go_simp)⟩) (by assumption) ?_
      try simp only [Act.put, List.setIfInBounds_toArray, List.set_cons_zero, List.set_cons_succ]
      refine wpAnyH_take (i := 5) (oi := { dst := some 21, op := Op.move (Operand.tmp 5), type := 3, pos := "slices.go:25", after := #[], guard := none }) (v := .int .i64 (k : Int)) rfl (by kernel_rfl) (by kernel_rfl) (by kernel_rfl) (fun _ _ _ h => h) (Or.inl ⟨by rfl, fun w hSw => by (obtain ⟨z0, z1⟩ := hSw; go_simp)⟩) (by assumption) ?_
      try simp only [Act.put, List.setIfInBounds_toArray, List.set_cons_zero, List.set_cons_succ]
      refine wpAnyH_take (i := 6) (oi := { dst := some 22, op := Op.indexAddr 24 (Operand.tmp 20) (Operand.tmp 21), type := 0, pos := "slices.go:25", after := #[{ on := 4, ground := Ground.data }, { on := 5, ground := Ground.data }], guard := none }) (v := .pointer (some ⟨kb', ko' + k * 33, none⟩)) rfl (by kernel_rfl) (by kernel_rfl) (by kernel_rfl) (fun _ _ _ h => h) (Or.inl ⟨by rfl, fun w hSw => by (obtain ⟨z0, z1⟩ := hSw; go_simp)⟩) (by assumption) ?_
      try simp only [Act.put, List.setIfInBounds_toArray, List.set_cons_zero, List.set_cons_succ]
      refine wpAnyH_take (i := 7) (oi := { dst := some 23, op := Op.load 37 (Operand.tmp 22), type := 37, pos := "slices.go:25", after := #[{ on := 6, ground := Ground.data }], guard := none }) (v := .agg BE.toArray) rfl (by kernel_rfl) (by kernel_rfl) (by kernel_rfl) (fun _ _ _ h => h) (yieldsIf_load_mid (by rfl) 37 _ rfl (kb') (ko' + k * 33) rfl BE _ (fun w hSw => hSw.2) Try.underlying37 rfl hEl) (by assumption) ?_
      try simp only [Act.put, List.setIfInBounds_toArray, List.set_cons_zero, List.set_cons_succ]
      refine wpAnyH_take (i := 8) (oi := { dst := some 24, op := Op.binOp BinOp.neq 37 (Operand.tmp 19) (Operand.tmp 23) 37, type := 4, pos := "slices.go:25", after := #[{ on := 3, ground := Ground.data }, { on := 7, ground := Ground.data }], guard := none }) (v := .bool (!bq)) rfl (by kernel_rfl) (by kernel_rfl) (by kernel_rfl) (fun _ _ _ h => h) (neq_aggS (by rfl) 37 _ _ _ rfl BD.toArray BE.toArray rfl rfl (by kernel_rfl) bq HEQ.out) (by assumption) ?_
      try simp only [Act.put, List.setIfInBounds_toArray, List.set_cons_zero, List.set_cons_succ]
      refine wpAnyH_done (by kernel_rfl) ?_ _
      cases bq
      · have HN : Hid (¬ ks = ms) := fun e => by
          have := HX.out
          rw [e, HY.out] at this
          injection this with this
          exact Bool.noConfusion (HIF.out.2 this.symm)
        clear hE
        go_wp2_with fail
        go_ret
        exact ⟨false, rfl, ⟨fun h => (by cases h), fun h => (HN.out h).elim⟩, Fr.drew sr⟩
      · have HXY : Hid (x = y) := HIF.out.1 rfl
        clear HIF
        go_wp2_with fail
        go_roundg (ks.length - (k + 1))
        case measure => omega
        case rel =>
          refine ⟨k + 1, by go_num, by omega, rfl, Fr.drew sr, fun j hj => ?_⟩
          by_cases hjk : j < k
          · exact hE.out j hjk
          · obtain rfl : j = k := by omega
            rw [HX.out, HY.out, HXY.out]
    · obtain rfl : k = ks.length := by omega
      have HE3 : Hid (ks = ms) := List.ext_getElem? (fun j => by
        by_cases hj : j < ks.length
        · exact hE.out j hj
        · rw [List.getElem?_eq_none (by omega), List.getElem?_eq_none (by have := HL3.out; omega)])
      clear hE
      go_wp2_with fail
      go_ret
      exact ⟨true, rfl, ⟨fun _ => HE3.out, fun _ => rfl⟩, sr⟩
set_option maxRecDepth 100000 in
set_option maxHeartbeats 1000000 in
theorem psame_calls {ra rb : Nr} {A B : Nd} (w : World) (ha : NdAt w ra A) (hb : NdAt w rb B) :
    Calls Try.prog 5 #[ndV ra A, ndV rb B] w fun e w' => ∃ b : Bool, e = .returned (.bool b) ∧ (b = true ↔ A = B) ∧ Same w w' := by
  obtain ⟨pa, pb, po, cp, sa, sb, so, cs, ka, kb, ko, ck⟩ := ra
  obtain ⟨pa', pb', po', cp', sa', sb', so', cs', ka', kb', ko', ck'⟩ := rb
  obtain ⟨ps, ss, ks⟩ := A
  obtain ⟨qs, ts, ms⟩ := B
  show Calls Try.prog 5 #[nodeV pa ps.length cp sa ss.length cs ka ks.length ck, nodeV pa' qs.length cp' sa' ts.length cs' ka' ms.length ck'] w _
  obtain ⟨V, hV⟩ : ∃ V, V = (w.alloc (.cells #[.slice pa ps.length cp, .slice sa ss.length cs, .slice ka ks.length ck] 26)).alloc (.cells #[.slice pa' qs.length cp', .slice sa' ts.length cs', .slice ka' ms.length ck'] 26) := ⟨_, rfl⟩
  have sx : Same w V := by rw [hV]; exact ((Fr.refl _ w).alloc _).alloc _
  have a0 : V.cell? ⟨w.heap.size, 0, none⟩ = some (.slice pa ps.length cp) := by rw [hV]; simp
  have a1 : V.cell? ⟨w.heap.size, 1, none⟩ = some (.slice sa ss.length cs) := by rw [hV]; simp
  have a2 : V.cell? ⟨w.heap.size, 2, none⟩ = some (.slice ka ks.length ck) := by rw [hV]; simp
  have b0 : V.cell? ⟨w.heap.size + 1, 0, none⟩ = some (.slice pa' qs.length cp') := by rw [hV]; simp
  have b1 : V.cell? ⟨w.heap.size + 1, 1, none⟩ = some (.slice sa' ts.length cs') := by rw [hV]; simp
  have b2 : V.cell? ⟨w.heap.size + 1, 2, none⟩ = some (.slice ka' ms.length ck') := by rw [hV]; simp
  have HC : Hid (∀ W, Same V W → W.cell? ⟨w.heap.size, 0, none⟩ = some (.slice pa ps.length cp) ∧ W.cell? ⟨w.heap.size, 1, none⟩ = some (.slice sa ss.length cs) ∧ W.cell? ⟨w.heap.size, 2, none⟩ = some (.slice ka ks.length ck) ∧ W.cell? ⟨w.heap.size + 1, 0, none⟩ = some (.slice pa' qs.length cp') ∧ W.cell? ⟨w.heap.size + 1, 1, none⟩ = some (.slice sa' ts.length cs') ∧ W.cell? ⟨w.heap.size + 1, 2, none⟩ = some (.slice ka' ms.length ck')) := fun W h => ⟨h.keep a0, h.keep a1, h.keep a2, h.keep b0, h.keep b1, h.keep b2⟩
  have H1 : Hid (∀ W, Same V W → Calls Try.prog 13 #[.slice pa ps.length cp, .slice pa' qs.length cp'] W fun e w' => ∃ b : Bool, e = .returned (.bool b) ∧ (b = true ↔ ps = qs) ∧ Same W w') := fun W s => equalP W (ha.hp.same (sx.trans s)) (hb.hp.same (sx.trans s)) ha.lp
  have H2 : Hid (∀ W, Same V W → Calls Try.prog 14 #[.slice sa ss.length cs, .slice sa' ts.length cs'] W fun e w' => ∃ b : Bool, e = .returned (.bool b) ∧ (b = true ↔ ss = ts) ∧ Same W w') := fun W s => equalT W (ha.hs.same (sx.trans s)) (hb.hs.same (sx.trans s)) ha.ls
  have H3 : Hid (∀ W, Same V W → Calls Try.prog 15 #[.slice ka ks.length ck, .slice ka' ms.length ck'] W fun e w' => ∃ b : Bool, e = .returned (.bool b) ∧ (b = true ↔ ks = ms) ∧ Same W w') := fun W s => equalK W (ha.hk.same (sx.trans s)) (hb.hk.same (sx.trans s)) ha.lk ha.ok hb.ok
  clear ha hb
  go_enter Try.func5, Try.ntmps5
  go_wp2_with fail
  rw [← hV]
  clear hV
  refine (H1.out _ (Fr.refl _ V)).mono ?_
  rintro e W1 ⟨q1, rfl, i1, s1⟩
  have HI1 : Hid (q1 = true ↔ ps = qs) := i1
  clear i1 a0 a1 a2 b0 b1 b2
  obtain ⟨a0, a1, a2, b0, b1, b2⟩ := HC.out _ s1
  cases q1
  · have HN : Hid (¬ (⟨ps, ss, ks⟩ : Nd) = ⟨qs, ts, ms⟩) := fun e => by
      injection e with e1 e2 e3
      exact Bool.noConfusion (HI1.out.2 e1)
    go_wp2_with fail
    go_ret
    exact ⟨false, rfl, ⟨fun h => (by cases h), fun h => (HN.out h).elim⟩, sx.trans s1⟩
  have E1 : Hid (ps = qs) := HI1.out.1 rfl
  clear HI1
  go_wp2_with fail
  refine (H2.out _ s1).mono ?_
  rintro e W2 ⟨q2, rfl, i2, s2⟩
  have HI2 : Hid (q2 = true ↔ ss = ts) := i2
  clear i2 a0 a1 a2 b0 b1 b2
  obtain ⟨a0, a1, a2, b0, b1, b2⟩ := HC.out _ (s1.trans s2)
  cases q2
  · have HN : Hid (¬ (⟨ps, ss, ks⟩ : Nd) = ⟨qs, ts, ms⟩) := fun e => by
      injection e with e1 e2 e3
      exact Bool.noConfusion (HI2.out.2 e2)
    go_wp2_with fail
    go_ret
    exact ⟨false, rfl, ⟨fun h => (by cases h), fun h => (HN.out h).elim⟩, sx.trans (s1.trans s2)⟩
  have E2 : Hid (ss = ts) := HI2.out.1 rfl
  clear HI2
  go_wp2_with fail
  refine (H3.out _ (s1.trans s2)).mono ?_
  rintro e W3 ⟨q3, rfl, i3, s3⟩
  go_wp2_with fail
  go_ret
  refine ⟨q3, rfl, ⟨fun h => ?_, fun h => ?_⟩, sx.trans (s1.trans (s2.trans s3))⟩
  · rw [E1.out, E2.out, i3.1 h]
  · injection h with h1 h2 h3
    exact i3.2 h3
end Go.Proofs.Ytjlbkagkmcelgaa
