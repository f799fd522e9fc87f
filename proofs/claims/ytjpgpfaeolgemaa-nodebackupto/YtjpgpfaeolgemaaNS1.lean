/- same. -/
import Derived.Test.YtjpgpfaeolgemaaNP
namespace Go.Proofs.Ytjpgpfaeolgemaa
open Go.RowKit

theorem yieldsIf_neq_agg {P : Program} {ops : Array Oper} {S : World → Prop} {op : Oper} {a : Act} (hw : Region.wanted op (yielded ops a.tmps) = true) (ty ty2 : TypeId) (x y : Operand) (ho : op.op = .binOp .neq ty x y ty2) (X Y : Array Value) (hx : a.eval x = .agg X) (hy : a.eval y = .agg Y)
    (hgt : P.eqGuardType P.depth ty = false) (e : Bool) (hE : ∀ W : World, (Op.equalIn 10000 ty (.agg X) (.agg Y)).run P W = .ok e W) : YieldsIf P ops S op (.bool (!e)) a :=
  .inl ⟨hw, fun w _ => by
    have hg : (eqGuard .neq ty x y (.agg X) (.agg Y)).run P w = .ok () w := by
      simp [eqGuard, hgt]
    have hb : (binOp .neq ty (.agg X) (.agg Y)).run P w = .ok (.bool (!e)) w := by
      have := hE w
      simp only [binOp, Op.equal, Op.maxDepth, Sem.run_bind, this, Result.andThen_ok, Sem.run_pure]
    unfold execOp
    simp only [ho, hx, hy, Sem.run_bind, hg, hb, Result.andThen_ok, Sem.run_pure]⟩
set_option maxRecDepth 100000 in
set_option maxHeartbeats 1000000 in
theorem same_true {ra rb : Nr} {A B : Nd} {bare : Bool} (w : World) (ha : NdAt w ra A) (hb : NdAt w rb B) (hps : A.ps = B.ps) (hss : A.ss = B.ss) (hkl : A.ks.length = B.ks.length)
    (hk : ∀ (j : Nat) (x y : Kid), A.ks[j]? = some x → B.ks[j]? = some y → x.d = y.d ∧ (bare = false → x.page = y.page)) :
    Calls Try.prog 16 #[ndV ra A, ndV rb B, .bool bare] w fun e w' => e = .returned (.bool true) ∧ Same w w' := by
  obtain ⟨pa, pb, po, cp, sa, sb, so, cs, ka, kb, ko, ck⟩ := ra
  obtain ⟨pa', pb', po', cp', sa', sb', so', cs', ka', kb', ko', ck'⟩ := rb
  obtain ⟨ps, ss, ks⟩ := A
  obtain ⟨ps', ss', ks'⟩ := B
  simp only at hps hss hkl hk
  subst hps hss
  have hp1 : PRow w pa pb po ps := ha.hp
  have hp2 : PRow w pa' pb' po' ps := hb.hp
  have hs1 : TRow w sa sb so ss := ha.hs
  have hs2 : TRow w sa' sb' so' ss := hb.hs
  have hk1 : KRow w ka kb ko ks := ha.hk
  have hk2 : KRow w ka' kb' ko' ks' := hb.hk
  have lp : ps.length ≤ 4611686018427387904 := ha.lp
  have ls : ss.length ≤ 4611686018427387904 := ha.ls
  have lk : ks.length ≤ 4611686018427387904 := ha.lk
  have hok1 : ∀ x ∈ ks, KidOk x := ha.ok
  have hok2 : ∀ x ∈ ks', KidOk x := hb.ok
  clear ha hb
  show Calls Try.prog 16 #[nodeV pa ps.length cp sa ss.length cs ka ks.length ck, nodeV pa' ps.length cp' sa' ss.length cs' ka' ks'.length ck', .bool bare] w (fun e w' => e = .returned (.bool true) ∧ Same w w')
  rw [← hkl]
  obtain ⟨V, hV⟩ : ∃ V, V = (w.alloc (.cells #[.slice pa ps.length cp, .slice sa ss.length cs, .slice ka ks.length ck] 30)).alloc (.cells #[.slice pa' ps.length cp', .slice sa' ss.length cs', .slice ka' ks.length ck'] 30) := ⟨_, rfl⟩
  have sx : Same w V := by rw [hV]; exact ((Fr.refl _ w).alloc _).alloc _
  have a0 : V.cell? ⟨w.heap.size, 0, none⟩ = some (.slice pa ps.length cp) := by rw [hV]; simp
  have a1 : V.cell? ⟨w.heap.size, 1, none⟩ = some (.slice sa ss.length cs) := by rw [hV]; simp
  have a2 : V.cell? ⟨w.heap.size, 2, none⟩ = some (.slice ka ks.length ck) := by rw [hV]; simp
  have b0 : V.cell? ⟨w.heap.size + 1, 0, none⟩ = some (.slice pa' ps.length cp') := by rw [hV]; simp
  have b1 : V.cell? ⟨w.heap.size + 1, 1, none⟩ = some (.slice sa' ss.length cs') := by rw [hV]; simp
  have b2 : V.cell? ⟨w.heap.size + 1, 2, none⟩ = some (.slice ka' ks.length ck') := by rw [hV]; simp
  have HP1 : Hid (PRow V pa pb po ps) := hp1.same sx
  have HP2 : Hid (PRow V pa' pb' po' ps) := hp2.same sx
  have HS1 : Hid (TRow V sa sb so ss) := hs1.same sx
  have HS2 : Hid (TRow V sa' sb' so' ss) := hs2.same sx
  have HK1 : Hid (KRow V ka kb ko ks) := hk1.same sx
  have HK2 : Hid (KRow V ka' kb' ko' ks') := hk2.same sx
  have HO1 : Hid (∀ x ∈ ks, KidOk x) := hok1
  have HO2 : Hid (∀ x ∈ ks', KidOk x) := hok2
  have HKK : Hid (∀ (j : Nat) (x y : Kid), ks[j]? = some x → ks'[j]? = some y → x.d = y.d ∧ (bare = false → x.page = y.page)) := hk
  have HC : Hid (∀ W, Same V W → W.cell? ⟨w.heap.size, 0, none⟩ = some (.slice pa ps.length cp) ∧ W.cell? ⟨w.heap.size, 1, none⟩ = some (.slice sa ss.length cs) ∧ W.cell? ⟨w.heap.size, 2, none⟩ = some (.slice ka ks.length ck) ∧ W.cell? ⟨w.heap.size + 1, 0, none⟩ = some (.slice pa' ps.length cp') ∧ W.cell? ⟨w.heap.size + 1, 1, none⟩ = some (.slice sa' ss.length cs') ∧ W.cell? ⟨w.heap.size + 1, 2, none⟩ = some (.slice ka' ks.length ck')) := fun W h => ⟨h.keep a0, h.keep a1, h.keep a2, h.keep b0, h.keep b1, h.keep b2⟩
  have HKL : Hid (ks.length = ks'.length) := hkl
  clear a0 a1 a2 b0 b1 b2
  clear hp1 hp2 hs1 hs2 hk1 hk2 hok1 hok2 hk hkl
  go_enter Try.func16, Try.ntmps16
  go_wp2_with fail
  rw [← hV]
  clear hV
  go_loopg [7] ps.length (fun g iv wr => ∃ k : Nat, iv = .int .i64 (k : Int) ∧ k ≤ ps.length ∧ g = ps.length - k ∧ Same V wr)
  case atStart => exact ⟨0, rfl, by omega, rfl, Fr.refl _ V⟩
  case round =>
    obtain ⟨k, rfl, hk, hg, sr⟩ := hrel
    obtain ⟨a0, a1, a2, b0, b1, b2⟩ := HC.out _ sr
    by_cases hgo : k < ps.length
    · obtain ⟨x, hx⟩ : ∃ x, ps[k]? = some x := ⟨_, List.getElem?_eq_getElem hgo⟩
      obtain ⟨x0, x1⟩ := x
      obtain ⟨c0, c1⟩ := (HP1.out.same sr).cells k _ hx
      obtain ⟨d0, d1⟩ := (HP2.out.same sr).cells k _ hx
      obtain ⟨hpa, _⟩ := (HP1.out.same sr).place (by intro e; rw [e] at hx; simp at hx)
      obtain ⟨hpb, _⟩ := (HP2.out.same sr).place (by intro e; rw [e] at hx; simp at hx)
      subst hpa hpb
      clear hx
      go_wp2_with fail
      go_region_held3 (fun W => W.cell? ⟨w.heap.size, 0, none⟩ = some (.slice (some ⟨pb, po, none⟩) ps.length cp) ∧ W.cell? ⟨w.heap.size + 1, 0, none⟩ = some (.slice (some ⟨pb', po', none⟩) ps.length cp') ∧ W.cell? ⟨pb, po + k * 2, none⟩ = some (.string x0) ∧ W.cell? ⟨pb, po + k * 2 + 1, none⟩ = some (.string x1) ∧ W.cell? ⟨pb', po' + k * 2, none⟩ = some (.string x0) ∧ W.cell? ⟨pb', po' + k * 2 + 1, none⟩ = some (.string x1)) (exact ⟨a0, b0, c0, c1, d0, d1⟩) (fail)
      go_wp2_with fail
      go_roundg (ps.length - (k + 1))
      case measure => omega
      case rel => exact ⟨k + 1, by go_num, by omega, rfl, Fr.drew sr⟩
    · obtain rfl : k = ps.length := by omega
      go_wp2_with fail
      go_loopg [8] ss.length (fun g iv wr => ∃ k : Nat, iv = .int .i64 (k : Int) ∧ k ≤ ss.length ∧ g = ss.length - k ∧ Same V wr)
      case atStart => exact ⟨0, rfl, by omega, rfl, sr⟩
      case round =>
        clear a0 a1 a2 b0 b1 b2 sr
        obtain ⟨k, rfl, hk, hg, sr⟩ := hrel
        obtain ⟨a0, a1, a2, b0, b1, b2⟩ := HC.out _ sr
        by_cases hgo : k < ss.length
        · obtain ⟨x, hx⟩ : ∃ x, ss[k]? = some x := ⟨_, List.getElem?_eq_getElem hgo⟩
          have c0 := (HS1.out.same sr).cells k _ hx
          have d0 := (HS2.out.same sr).cells k _ hx
          obtain ⟨hpa, _⟩ := (HS1.out.same sr).place (by intro e; rw [e] at hx; simp at hx)
          obtain ⟨hpb, _⟩ := (HS2.out.same sr).place (by intro e; rw [e] at hx; simp at hx)
          subst hpa hpb
          clear hx
          go_wp2_with fail
          go_region_held3 (fun W => W.cell? ⟨w.heap.size, 1, none⟩ = some (.slice (some ⟨sb, so, none⟩) ss.length cs) ∧ W.cell? ⟨w.heap.size + 1, 1, none⟩ = some (.slice (some ⟨sb', so', none⟩) ss.length cs') ∧ W.cell? ⟨sb, so + k, none⟩ = some (.string x) ∧ W.cell? ⟨sb', so' + k, none⟩ = some (.string x)) (exact ⟨a1, b1, c0, d0⟩) (fail)
          go_wp2_with fail
          go_roundg (ss.length - (k + 1))
          case measure => omega
          case rel => exact ⟨k + 1, by go_num, by omega, rfl, Fr.drew sr⟩
        · obtain rfl : k = ss.length := by omega
          go_wp2_with fail
          go_loopg [9] ks.length (fun g iv wr => ∃ k : Nat, iv = .int .i64 (k : Int) ∧ k ≤ ks.length ∧ g = ks.length - k ∧ Same V wr)
          case atStart => exact ⟨0, rfl, by omega, rfl, sr⟩
          case round =>
            clear a0 a1 a2 b0 b1 b2 sr
            obtain ⟨k, rfl, hk, hg, sr⟩ := hrel
            obtain ⟨a0, a1, a2, b0, b1, b2⟩ := HC.out _ sr
            by_cases hgo : k < ks.length
            · obtain ⟨x, hx⟩ : ∃ x, ks[k]? = some x := ⟨_, List.getElem?_eq_getElem hgo⟩
              obtain ⟨y, hy⟩ : ∃ y, ks'[k]? = some y := ⟨_, List.getElem?_eq_getElem (by rw [← HKL.out]; exact hgo)⟩
              obtain ⟨hd, hpg⟩ := HKK.out k x y hx hy
              have c := (HK1.out.same sr).cells k _ hx
              have d := (HK2.out.same sr).cells k _ hy
              have c0 : wr.cell? ⟨kb, ko + k * 33, none⟩ = some (.int .u32 x.page) := c 0 _ rfl
              have d0 : wr.cell? ⟨kb', ko' + k * 33, none⟩ = some (.int .u32 y.page) := d 0 _ rfl
              have c1 : wr.rangeAt kb (ko + k * 33 + 1) (bcells x.d) := fun j v hj => by have := c (j + 1) v hj; rwa [show ko + k * 33 + (j + 1) = ko + k * 33 + 1 + j from by omega] at this
              have d1 : wr.rangeAt kb' (ko' + k * 33 + 1) (bcells x.d) := fun j v hj => by have := d (j + 1) v (by show (bcells y.d)[j]? = some v; rw [← hd]; exact hj); rwa [show ko' + k * 33 + (j + 1) = ko' + k * 33 + 1 + j from by omega] at this
              have hDl : x.d.length = 32 := (HO1.out x (List.mem_of_getElem? hx)).d
              obtain ⟨hpa, _⟩ := (HK1.out.same sr).place (by intro e; rw [e] at hx; simp at hx)
              obtain ⟨hpb, _⟩ := (HK2.out.same sr).place (by intro e; rw [e] at hy; simp at hy)
              subst hpa hpb
              have HEQ : Hid (∀ W : World, (Op.equalIn 10000 40 (.agg (bcells x.d).toArray) (.agg (bcells x.d).toArray)).run Try.prog W = .ok true W) := fun W => by
                have := eq_digest W x.d x.d hDl hDl
                rwa [decide_eq_true rfl] at this
              have hBl : (Try.prog.info? 40).map (·.size) = some (bcells x.d).length := by rw [bcells_length, hDl]; kernel_rfl
              have hpg : Hid (bare = false → (x.page : Int) = (y.page : Int)) := fun h => by rw [hpg h]
              generalize bcells x.d = BD at *
              generalize (x.page : Int) = PX at *
              generalize (y.page : Int) = PY at *
              clear hx hy c d hd
              clear HP1 HP2 HS1 HS2 HK1 HK2 HKK
              cases bare with
              | true =>
                go_wp2_with fail
                refine wp_region_held_drew (S := fun X => X.cell? ⟨w.heap.size, 2, none⟩ = some (.slice (some ⟨kb, ko, none⟩) ks.length ck) ∧ X.cell? ⟨w.heap.size + 1, 2, none⟩ = some (.slice (some ⟨kb', ko', none⟩) ks.length ck') ∧ X.cell? ⟨kb, ko + k * 33, none⟩ = some (.int .u32 PX) ∧ X.cell? ⟨kb', ko' + k * 33, none⟩ = some (.int .u32 PY) ∧ X.rangeAt kb (ko + k * 33 + 1) BD ∧ X.rangeAt kb' (ko' + k * 33 + 1) BD) (by kernel_rfl) (⟨a2, b2, c0, d0, c1, d1⟩) (fun hHeld => ?_)
                refine wpAnyH_take (i := 0) (oi := { dst := some 78, op := Op.fieldAddr 30 (Operand.tmp 3) 2, type := 0, pos := "outright.go:39", after := #[], guard := none }) (v := .pointer (some ⟨w.heap.size, 2, none⟩)) rfl (by kernel_rfl) (by kernel_rfl) (by kernel_rfl) (fun _ _ _ h => h) (Or.inl ⟨by rfl, fun w hSw => by (obtain ⟨z0, z1, z2, z3, z4, z5⟩ := hSw; go_simp)⟩) (by assumption) ?_
                try simp only [Act.put, List.setIfInBounds_toArray, List.set_cons_zero, List.set_cons_succ]
                refine wpAnyH_take (i := 1) (oi := { dst := some 79, op := Op.load 28 (Operand.tmp 78), type := 28, pos := "outright.go:39", after := #[{ on := 0, ground := Ground.data }], guard := none }) (v := .slice (some ⟨kb, ko, none⟩) ks.length ck) rfl (by kernel_rfl) (by kernel_rfl) (by kernel_rfl) (fun _ _ _ h => h) (Or.inl ⟨by rfl, fun w hSw => by (obtain ⟨z0, z1, z2, z3, z4, z5⟩ := hSw; go_simp)⟩) (by assumption) ?_
                try simp only [Act.put, List.setIfInBounds_toArray, List.set_cons_zero, List.set_cons_succ]
                refine wpAnyH_take (i := 2) (oi := { dst := some 80, op := Op.move (Operand.tmp 9), type := 3, pos := "outright.go:39", after := #[], guard := none }) (v := .int .i64 (k : Int)) rfl (by kernel_rfl) (by kernel_rfl) (by kernel_rfl) (fun _ _ _ h => h) (Or.inl ⟨by rfl, fun w hSw => by (obtain ⟨z0, z1, z2, z3, z4, z5⟩ := hSw; go_simp)⟩) (by assumption) ?_
                try simp only [Act.put, List.setIfInBounds_toArray, List.set_cons_zero, List.set_cons_succ]
                refine wpAnyH_take (i := 3) (oi := { dst := some 81, op := Op.indexAddr 28 (Operand.tmp 79) (Operand.tmp 80), type := 0, pos := "outright.go:39", after := #[{ on := 1, ground := Ground.data }, { on := 2, ground := Ground.data }], guard := none }) (v := .pointer (some ⟨kb, ko + k * 33, none⟩)) rfl (by kernel_rfl) (by kernel_rfl) (by kernel_rfl) (fun _ _ _ h => h) (Or.inl ⟨by rfl, fun w hSw => by (obtain ⟨z0, z1, z2, z3, z4, z5⟩ := hSw; go_simp)⟩) (by assumption) ?_
                try simp only [Act.put, List.setIfInBounds_toArray, List.set_cons_zero, List.set_cons_succ]
                refine wpAnyH_take (i := 4) (oi := { dst := some 82, op := Op.fieldAddr 42 (Operand.tmp 81) 1, type := 0, pos := "outright.go:39", after := #[{ on := 3, ground := Ground.data }], guard := none }) (v := .pointer (some ⟨kb, ko + k * 33 + 1, none⟩)) rfl (by kernel_rfl) (by kernel_rfl) (by kernel_rfl) (fun _ _ _ h => h) (Or.inl ⟨by rfl, fun w hSw => by (obtain ⟨z0, z1, z2, z3, z4, z5⟩ := hSw; go_simp)⟩) (by assumption) ?_
                try simp only [Act.put, List.setIfInBounds_toArray, List.set_cons_zero, List.set_cons_succ]
                refine wpAnyH_take (i := 5) (oi := { dst := some 83, op := Op.load 40 (Operand.tmp 82), type := 40, pos := "outright.go:39", after := #[{ on := 4, ground := Ground.data }], guard := none }) (v := .agg BD.toArray) rfl (by kernel_rfl) (by kernel_rfl) (by kernel_rfl) (fun _ _ _ h => h) (yieldsIf_load_mid (by rfl) 40 _ rfl (kb) (ko + k * 33 + 1) rfl BD _ (fun w hSw => hSw.2.2.2.2.1) Try.underlying40 rfl hBl) (by assumption) ?_
                try simp only [Act.put, List.setIfInBounds_toArray, List.set_cons_zero, List.set_cons_succ]
                refine wpAnyH_take (i := 6) (oi := { dst := some 84, op := Op.fieldAddr 30 (Operand.tmp 4) 2, type := 0, pos := "outright.go:39", after := #[], guard := none }) (v := .pointer (some ⟨w.heap.size + 1, 2, none⟩)) rfl (by kernel_rfl) (by kernel_rfl) (by kernel_rfl) (fun _ _ _ h => h) (Or.inl ⟨by rfl, fun w hSw => by (obtain ⟨z0, z1, z2, z3, z4, z5⟩ := hSw; go_simp)⟩) (by assumption) ?_
                try simp only [Act.put, List.setIfInBounds_toArray, List.set_cons_zero, List.set_cons_succ]
                refine wpAnyH_take (i := 7) (oi := { dst := some 85, op := Op.load 28 (Operand.tmp 84), type := 28, pos := "outright.go:39", after := #[{ on := 6, ground := Ground.data }], guard := none }) (v := .slice (some ⟨kb', ko', none⟩) ks.length ck') rfl (by kernel_rfl) (by kernel_rfl) (by kernel_rfl) (fun _ _ _ h => h) (Or.inl ⟨by rfl, fun w hSw => by (obtain ⟨z0, z1, z2, z3, z4, z5⟩ := hSw; go_simp)⟩) (by assumption) ?_
                try simp only [Act.put, List.setIfInBounds_toArray, List.set_cons_zero, List.set_cons_succ]
                refine wpAnyH_take (i := 8) (oi := { dst := some 86, op := Op.move (Operand.tmp 9), type := 3, pos := "outright.go:39", after := #[], guard := none }) (v := .int .i64 (k : Int)) rfl (by kernel_rfl) (by kernel_rfl) (by kernel_rfl) (fun _ _ _ h => h) (Or.inl ⟨by rfl, fun w hSw => by (obtain ⟨z0, z1, z2, z3, z4, z5⟩ := hSw; go_simp)⟩) (by assumption) ?_
                try simp only [Act.put, List.setIfInBounds_toArray, List.set_cons_zero, List.set_cons_succ]
                refine wpAnyH_take (i := 9) (oi := { dst := some 87, op := Op.indexAddr 28 (Operand.tmp 85) (Operand.tmp 86), type := 0, pos := "outright.go:39", after := #[{ on := 7, ground := Ground.data }, { on := 8, ground := Ground.data }], guard := none }) (v := .pointer (some ⟨kb', ko' + k * 33, none⟩)) rfl (by kernel_rfl) (by kernel_rfl) (by kernel_rfl) (fun _ _ _ h => h) (Or.inl ⟨by rfl, fun w hSw => by (obtain ⟨z0, z1, z2, z3, z4, z5⟩ := hSw; go_simp)⟩) (by assumption) ?_
                try simp only [Act.put, List.setIfInBounds_toArray, List.set_cons_zero, List.set_cons_succ]
                refine wpAnyH_take (i := 10) (oi := { dst := some 88, op := Op.fieldAddr 42 (Operand.tmp 87) 1, type := 0, pos := "outright.go:39", after := #[{ on := 9, ground := Ground.data }], guard := none }) (v := .pointer (some ⟨kb', ko' + k * 33 + 1, none⟩)) rfl (by kernel_rfl) (by kernel_rfl) (by kernel_rfl) (fun _ _ _ h => h) (Or.inl ⟨by rfl, fun w hSw => by (obtain ⟨z0, z1, z2, z3, z4, z5⟩ := hSw; go_simp)⟩) (by assumption) ?_
                try simp only [Act.put, List.setIfInBounds_toArray, List.set_cons_zero, List.set_cons_succ]
                refine wpAnyH_take (i := 11) (oi := { dst := some 89, op := Op.load 40 (Operand.tmp 88), type := 40, pos := "outright.go:39", after := #[{ on := 10, ground := Ground.data }], guard := none }) (v := .agg BD.toArray) rfl (by kernel_rfl) (by kernel_rfl) (by kernel_rfl) (fun _ _ _ h => h) (yieldsIf_load_mid (by rfl) 40 _ rfl (kb') (ko' + k * 33 + 1) rfl BD _ (fun w hSw => hSw.2.2.2.2.2) Try.underlying40 rfl hBl) (by assumption) ?_
                try simp only [Act.put, List.setIfInBounds_toArray, List.set_cons_zero, List.set_cons_succ]
                refine wpAnyH_take (i := 12) (oi := { dst := some 90, op := Op.binOp BinOp.neq 40 (Operand.tmp 83) (Operand.tmp 89) 40, type := 4, pos := "outright.go:39", after := #[{ on := 5, ground := Ground.data }, { on := 11, ground := Ground.data }], guard := none }) (v := .bool (!true)) rfl (by kernel_rfl) (by kernel_rfl) (by kernel_rfl) (fun _ _ _ h => h) (yieldsIf_neq_agg (by rfl) 40 _ _ _ rfl BD.toArray BD.toArray rfl rfl (by kernel_rfl) true HEQ.out) (by assumption) ?_
                try simp only [Act.put, List.setIfInBounds_toArray, List.set_cons_zero, List.set_cons_succ]
                refine wpAnyH_take (i := 13) (oi := { dst := some 91, op := Op.move (Operand.tmp 90), type := 4, pos := "outright.go:39", after := #[{ on := 12, ground := Ground.data }], guard := none }) (v := .bool false) rfl (by kernel_rfl) (by kernel_rfl) (by kernel_rfl) (fun _ _ _ h => h) (Or.inl ⟨by rfl, fun w hSw => by (obtain ⟨z0, z1, z2, z3, z4, z5⟩ := hSw; go_simp)⟩) (by assumption) ?_
                try simp only [Act.put, List.setIfInBounds_toArray, List.set_cons_zero, List.set_cons_succ]
                refine wpAnyH_take (i := 14) (oi := { dst := some 92, op := Op.move (Operand.tmp 2), type := 4, pos := "outright.go:39", after := #[{ on := 13, ground := Ground.guard }], guard := some (13, false) }) (v := .bool true) rfl (by kernel_rfl) (by kernel_rfl) (by kernel_rfl) (fun _ _ _ h => h) (Or.inl ⟨by rfl, fun w hSw => by (obtain ⟨z0, z1, z2, z3, z4, z5⟩ := hSw; go_simp)⟩) (by assumption) ?_
                try simp only [Act.put, List.setIfInBounds_toArray, List.set_cons_zero, List.set_cons_succ]
                refine wpAnyH_take (i := 15) (oi := { dst := some 93, op := Op.unOp UnOp.not 4 (Operand.tmp 92), type := 4, pos := "outright.go:39", after := #[{ on := 14, ground := Ground.data }, { on := 13, ground := Ground.guard }], guard := some (13, false) }) (v := .bool false) rfl (by kernel_rfl) (by kernel_rfl) (by kernel_rfl) (fun _ _ _ h => h) (Or.inl ⟨by rfl, fun w hSw => by (obtain ⟨z0, z1, z2, z3, z4, z5⟩ := hSw; go_simp)⟩) (by assumption) ?_
                try simp only [Act.put, List.setIfInBounds_toArray, List.set_cons_zero, List.set_cons_succ]
                refine wpAnyH_take (i := 16) (oi := { dst := some 94, op := Op.move (Operand.tmp 93), type := 4, pos := "outright.go:39", after := #[{ on := 15, ground := Ground.data }, { on := 13, ground := Ground.chain }, { on := 13, ground := Ground.guard }], guard := some (13, false) }) (v := .bool false) rfl (by kernel_rfl) (by kernel_rfl) (by kernel_rfl) (fun _ _ _ h => h) (Or.inl ⟨by rfl, fun w hSw => by (obtain ⟨z0, z1, z2, z3, z4, z5⟩ := hSw; go_simp)⟩) (by assumption) ?_
                try simp only [Act.put, List.setIfInBounds_toArray, List.set_cons_zero, List.set_cons_succ]
                refine wpAnyH_take (i := 17) (oi := { dst := some 95, op := Op.fieldAddr 30 (Operand.tmp 3) 2, type := 0, pos := "outright.go:39", after := #[{ on := 16, ground := Ground.guard }], guard := some (16, true) }) (v := undef) rfl (by kernel_rfl) (by kernel_rfl) (by kernel_rfl) (fun _ _ _ h => h) (Or.inr ⟨by rfl, rfl⟩) (by assumption) ?_
                try simp only [Act.put, List.setIfInBounds_toArray, List.set_cons_zero, List.set_cons_succ]
                refine wpAnyH_take (i := 18) (oi := { dst := some 96, op := Op.load 28 (Operand.tmp 95), type := 28, pos := "outright.go:39", after := #[{ on := 17, ground := Ground.data }, { on := 16, ground := Ground.guard }], guard := some (16, true) }) (v := undef) rfl (by kernel_rfl) (by kernel_rfl) (by kernel_rfl) (fun _ _ _ h => h) (Or.inr ⟨by rfl, rfl⟩) (by assumption) ?_
                try simp only [Act.put, List.setIfInBounds_toArray, List.set_cons_zero, List.set_cons_succ]
                refine wpAnyH_take (i := 19) (oi := { dst := some 97, op := Op.move (Operand.tmp 9), type := 3, pos := "outright.go:39", after := #[{ on := 16, ground := Ground.guard }], guard := some (16, true) }) (v := undef) rfl (by kernel_rfl) (by kernel_rfl) (by kernel_rfl) (fun _ _ _ h => h) (Or.inr ⟨by rfl, rfl⟩) (by assumption) ?_
                try simp only [Act.put, List.setIfInBounds_toArray, List.set_cons_zero, List.set_cons_succ]
                refine wpAnyH_take (i := 20) (oi := { dst := some 98, op := Op.indexAddr 28 (Operand.tmp 96) (Operand.tmp 97), type := 0, pos := "outright.go:39", after := #[{ on := 18, ground := Ground.data }, { on := 19, ground := Ground.data }, { on := 16, ground := Ground.guard }], guard := some (16, true) }) (v := undef) rfl (by kernel_rfl) (by kernel_rfl) (by kernel_rfl) (fun _ _ _ h => h) (Or.inr ⟨by rfl, rfl⟩) (by assumption) ?_
                try simp only [Act.put, List.setIfInBounds_toArray, List.set_cons_zero, List.set_cons_succ]
                refine wpAnyH_take (i := 21) (oi := { dst := some 99, op := Op.fieldAddr 42 (Operand.tmp 98) 0, type := 0, pos := "outright.go:39", after := #[{ on := 20, ground := Ground.data }, { on := 16, ground := Ground.guard }], guard := some (16, true) }) (v := undef) rfl (by kernel_rfl) (by kernel_rfl) (by kernel_rfl) (fun _ _ _ h => h) (Or.inr ⟨by rfl, rfl⟩) (by assumption) ?_
                try simp only [Act.put, List.setIfInBounds_toArray, List.set_cons_zero, List.set_cons_succ]
                refine wpAnyH_take (i := 22) (oi := { dst := some 100, op := Op.load 38 (Operand.tmp 99), type := 38, pos := "outright.go:39", after := #[{ on := 21, ground := Ground.data }, { on := 16, ground := Ground.guard }], guard := some (16, true) }) (v := undef) rfl (by kernel_rfl) (by kernel_rfl) (by kernel_rfl) (fun _ _ _ h => h) (Or.inr ⟨by rfl, rfl⟩) (by assumption) ?_
                try simp only [Act.put, List.setIfInBounds_toArray, List.set_cons_zero, List.set_cons_succ]
                refine wpAnyH_take (i := 23) (oi := { dst := some 101, op := Op.fieldAddr 30 (Operand.tmp 4) 2, type := 0, pos := "outright.go:39", after := #[{ on := 16, ground := Ground.guard }], guard := some (16, true) }) (v := undef) rfl (by kernel_rfl) (by kernel_rfl) (by kernel_rfl) (fun _ _ _ h => h) (Or.inr ⟨by rfl, rfl⟩) (by assumption) ?_
                try simp only [Act.put, List.setIfInBounds_toArray, List.set_cons_zero, List.set_cons_succ]
                refine wpAnyH_take (i := 24) (oi := { dst := some 102, op := Op.load 28 (Operand.tmp 101), type := 28, pos := "outright.go:39", after := #[{ on := 23, ground := Ground.data }, { on := 16, ground := Ground.guard }], guard := some (16, true) }) (v := undef) rfl (by kernel_rfl) (by kernel_rfl) (by kernel_rfl) (fun _ _ _ h => h) (Or.inr ⟨by rfl, rfl⟩) (by assumption) ?_
                try simp only [Act.put, List.setIfInBounds_toArray, List.set_cons_zero, List.set_cons_succ]
                refine wpAnyH_take (i := 25) (oi := { dst := some 103, op := Op.move (Operand.tmp 9), type := 3, pos := "outright.go:39", after := #[{ on := 16, ground := Ground.guard }], guard := some (16, true) }) (v := undef) rfl (by kernel_rfl) (by kernel_rfl) (by kernel_rfl) (fun _ _ _ h => h) (Or.inr ⟨by rfl, rfl⟩) (by assumption) ?_
                try simp only [Act.put, List.setIfInBounds_toArray, List.set_cons_zero, List.set_cons_succ]
                refine wpAnyH_take (i := 26) (oi := { dst := some 104, op := Op.indexAddr 28 (Operand.tmp 102) (Operand.tmp 103), type := 0, pos := "outright.go:39", after := #[{ on := 24, ground := Ground.data }, { on := 25, ground := Ground.data }, { on := 16, ground := Ground.guard }], guard := some (16, true) }) (v := undef) rfl (by kernel_rfl) (by kernel_rfl) (by kernel_rfl) (fun _ _ _ h => h) (Or.inr ⟨by rfl, rfl⟩) (by assumption) ?_
                try simp only [Act.put, List.setIfInBounds_toArray, List.set_cons_zero, List.set_cons_succ]
                refine wpAnyH_take (i := 27) (oi := { dst := some 105, op := Op.fieldAddr 42 (Operand.tmp 104) 0, type := 0, pos := "outright.go:39", after := #[{ on := 26, ground := Ground.data }, { on := 16, ground := Ground.guard }], guard := some (16, true) }) (v := undef) rfl (by kernel_rfl) (by kernel_rfl) (by kernel_rfl) (fun _ _ _ h => h) (Or.inr ⟨by rfl, rfl⟩) (by assumption) ?_
                try simp only [Act.put, List.setIfInBounds_toArray, List.set_cons_zero, List.set_cons_succ]
                refine wpAnyH_take (i := 28) (oi := { dst := some 106, op := Op.load 38 (Operand.tmp 105), type := 38, pos := "outright.go:39", after := #[{ on := 27, ground := Ground.data }, { on := 16, ground := Ground.guard }], guard := some (16, true) }) (v := undef) rfl (by kernel_rfl) (by kernel_rfl) (by kernel_rfl) (fun _ _ _ h => h) (Or.inr ⟨by rfl, rfl⟩) (by assumption) ?_
                try simp only [Act.put, List.setIfInBounds_toArray, List.set_cons_zero, List.set_cons_succ]
                refine wpAnyH_take (i := 29) (oi := { dst := some 107, op := Op.binOp BinOp.neq 38 (Operand.tmp 100) (Operand.tmp 106) 38, type := 4, pos := "outright.go:39", after := #[{ on := 22, ground := Ground.data }, { on := 28, ground := Ground.data }, { on := 16, ground := Ground.guard }], guard := some (16, true) }) (v := undef) rfl (by kernel_rfl) (by kernel_rfl) (by kernel_rfl) (fun _ _ _ h => h) (Or.inr ⟨by rfl, rfl⟩) (by assumption) ?_
                try simp only [Act.put, List.setIfInBounds_toArray, List.set_cons_zero, List.set_cons_succ]
                refine wpAnyH_take (i := 30) (oi := { dst := some 108, op := Op.pick (Operand.tmp 94) (Operand.tmp 107) (Operand.const (Value.bool false)), type := 4, pos := "outright.go:39", after := #[{ on := 16, ground := Ground.data }, { on := 29, ground := Ground.data }, { on := 13, ground := Ground.guard }], guard := some (13, false) }) (v := .bool false) rfl (by kernel_rfl) (by kernel_rfl) (by kernel_rfl) (fun _ _ _ h => h) (Or.inl ⟨by rfl, fun w hSw => by (obtain ⟨z0, z1, z2, z3, z4, z5⟩ := hSw; go_simp)⟩) (by assumption) ?_
                try simp only [Act.put, List.setIfInBounds_toArray, List.set_cons_zero, List.set_cons_succ]
                refine wpAnyH_take (i := 31) (oi := { dst := some 109, op := Op.pick (Operand.tmp 91) (Operand.const (Value.bool true)) (Operand.tmp 108), type := 4, pos := "outright.go:39", after := #[{ on := 13, ground := Ground.data }, { on := 30, ground := Ground.data }], guard := none }) (v := .bool false) rfl (by kernel_rfl) (by kernel_rfl) (by kernel_rfl) (fun _ _ _ h => h) (Or.inl ⟨by rfl, fun w hSw => by (obtain ⟨z0, z1, z2, z3, z4, z5⟩ := hSw; go_simp)⟩) (by assumption) ?_
                try simp only [Act.put, List.setIfInBounds_toArray, List.set_cons_zero, List.set_cons_succ]
                refine wpAnyH_done (by kernel_rfl) ?_ _
                go_wp2_with fail
                go_roundg (ks.length - (k + 1))
                case measure => omega
                case rel => exact ⟨k + 1, by go_num, by omega, rfl, Fr.drew sr⟩
              | false =>
                have hpq := hpg.out rfl
                subst hpq
                go_wp2_with fail
                refine wp_region_held_drew (S := fun X => X.cell? ⟨w.heap.size, 2, none⟩ = some (.slice (some ⟨kb, ko, none⟩) ks.length ck) ∧ X.cell? ⟨w.heap.size + 1, 2, none⟩ = some (.slice (some ⟨kb', ko', none⟩) ks.length ck') ∧ X.cell? ⟨kb, ko + k * 33, none⟩ = some (.int .u32 PX) ∧ X.cell? ⟨kb', ko' + k * 33, none⟩ = some (.int .u32 PX) ∧ X.rangeAt kb (ko + k * 33 + 1) BD ∧ X.rangeAt kb' (ko' + k * 33 + 1) BD) (by kernel_rfl) (⟨a2, b2, c0, d0, c1, d1⟩) (fun hHeld => ?_)
                refine wpAnyH_take (i := 0) (oi := { dst := some 78, op := Op.fieldAddr 30 (Operand.tmp 3) 2, type := 0, pos := "outright.go:39", after := #[], guard := none }) (v := .pointer (some ⟨w.heap.size, 2, none⟩)) rfl (by kernel_rfl) (by kernel_rfl) (by kernel_rfl) (fun _ _ _ h => h) (Or.inl ⟨by rfl, fun w hSw => by (obtain ⟨z0, z1, z2, z3, z4, z5⟩ := hSw; go_simp)⟩) (by assumption) ?_
                try simp only [Act.put, List.setIfInBounds_toArray, List.set_cons_zero, List.set_cons_succ]
                refine wpAnyH_take (i := 1) (oi := { dst := some 79, op := Op.load 28 (Operand.tmp 78), type := 28, pos := "outright.go:39", after := #[{ on := 0, ground := Ground.data }], guard := none }) (v := .slice (some ⟨kb, ko, none⟩) ks.length ck) rfl (by kernel_rfl) (by kernel_rfl) (by kernel_rfl) (fun _ _ _ h => h) (Or.inl ⟨by rfl, fun w hSw => by (obtain ⟨z0, z1, z2, z3, z4, z5⟩ := hSw; go_simp)⟩) (by assumption) ?_
                try simp only [Act.put, List.setIfInBounds_toArray, List.set_cons_zero, List.set_cons_succ]
                refine wpAnyH_take (i := 2) (oi := { dst := some 80, op := Op.move (Operand.tmp 9), type := 3, pos := "outright.go:39", after := #[], guard := none }) (v := .int .i64 (k : Int)) rfl (by kernel_rfl) (by kernel_rfl) (by kernel_rfl) (fun _ _ _ h => h) (Or.inl ⟨by rfl, fun w hSw => by (obtain ⟨z0, z1, z2, z3, z4, z5⟩ := hSw; go_simp)⟩) (by assumption) ?_
                try simp only [Act.put, List.setIfInBounds_toArray, List.set_cons_zero, List.set_cons_succ]
                refine wpAnyH_take (i := 3) (oi := { dst := some 81, op := Op.indexAddr 28 (Operand.tmp 79) (Operand.tmp 80), type := 0, pos := "outright.go:39", after := #[{ on := 1, ground := Ground.data }, { on := 2, ground := Ground.data }], guard := none }) (v := .pointer (some ⟨kb, ko + k * 33, none⟩)) rfl (by kernel_rfl) (by kernel_rfl) (by kernel_rfl) (fun _ _ _ h => h) (Or.inl ⟨by rfl, fun w hSw => by (obtain ⟨z0, z1, z2, z3, z4, z5⟩ := hSw; go_simp)⟩) (by assumption) ?_
                try simp only [Act.put, List.setIfInBounds_toArray, List.set_cons_zero, List.set_cons_succ]
                refine wpAnyH_take (i := 4) (oi := { dst := some 82, op := Op.fieldAddr 42 (Operand.tmp 81) 1, type := 0, pos := "outright.go:39", after := #[{ on := 3, ground := Ground.data }], guard := none }) (v := .pointer (some ⟨kb, ko + k * 33 + 1, none⟩)) rfl (by kernel_rfl) (by kernel_rfl) (by kernel_rfl) (fun _ _ _ h => h) (Or.inl ⟨by rfl, fun w hSw => by (obtain ⟨z0, z1, z2, z3, z4, z5⟩ := hSw; go_simp)⟩) (by assumption) ?_
                try simp only [Act.put, List.setIfInBounds_toArray, List.set_cons_zero, List.set_cons_succ]
                refine wpAnyH_take (i := 5) (oi := { dst := some 83, op := Op.load 40 (Operand.tmp 82), type := 40, pos := "outright.go:39", after := #[{ on := 4, ground := Ground.data }], guard := none }) (v := .agg BD.toArray) rfl (by kernel_rfl) (by kernel_rfl) (by kernel_rfl) (fun _ _ _ h => h) (yieldsIf_load_mid (by rfl) 40 _ rfl (kb) (ko + k * 33 + 1) rfl BD _ (fun w hSw => hSw.2.2.2.2.1) Try.underlying40 rfl hBl) (by assumption) ?_
                try simp only [Act.put, List.setIfInBounds_toArray, List.set_cons_zero, List.set_cons_succ]
                refine wpAnyH_take (i := 6) (oi := { dst := some 84, op := Op.fieldAddr 30 (Operand.tmp 4) 2, type := 0, pos := "outright.go:39", after := #[], guard := none }) (v := .pointer (some ⟨w.heap.size + 1, 2, none⟩)) rfl (by kernel_rfl) (by kernel_rfl) (by kernel_rfl) (fun _ _ _ h => h) (Or.inl ⟨by rfl, fun w hSw => by (obtain ⟨z0, z1, z2, z3, z4, z5⟩ := hSw; go_simp)⟩) (by assumption) ?_
                try simp only [Act.put, List.setIfInBounds_toArray, List.set_cons_zero, List.set_cons_succ]
                refine wpAnyH_take (i := 7) (oi := { dst := some 85, op := Op.load 28 (Operand.tmp 84), type := 28, pos := "outright.go:39", after := #[{ on := 6, ground := Ground.data }], guard := none }) (v := .slice (some ⟨kb', ko', none⟩) ks.length ck') rfl (by kernel_rfl) (by kernel_rfl) (by kernel_rfl) (fun _ _ _ h => h) (Or.inl ⟨by rfl, fun w hSw => by (obtain ⟨z0, z1, z2, z3, z4, z5⟩ := hSw; go_simp)⟩) (by assumption) ?_
                try simp only [Act.put, List.setIfInBounds_toArray, List.set_cons_zero, List.set_cons_succ]
                refine wpAnyH_take (i := 8) (oi := { dst := some 86, op := Op.move (Operand.tmp 9), type := 3, pos := "outright.go:39", after := #[], guard := none }) (v := .int .i64 (k : Int)) rfl (by kernel_rfl) (by kernel_rfl) (by kernel_rfl) (fun _ _ _ h => h) (Or.inl ⟨by rfl, fun w hSw => by (obtain ⟨z0, z1, z2, z3, z4, z5⟩ := hSw; go_simp)⟩) (by assumption) ?_
                try simp only [Act.put, List.setIfInBounds_toArray, List.set_cons_zero, List.set_cons_succ]
                refine wpAnyH_take (i := 9) (oi := { dst := some 87, op := Op.indexAddr 28 (Operand.tmp 85) (Operand.tmp 86), type := 0, pos := "outright.go:39", after := #[{ on := 7, ground := Ground.data }, { on := 8, ground := Ground.data }], guard := none }) (v := .pointer (some ⟨kb', ko' + k * 33, none⟩)) rfl (by kernel_rfl) (by kernel_rfl) (by kernel_rfl) (fun _ _ _ h => h) (Or.inl ⟨by rfl, fun w hSw => by (obtain ⟨z0, z1, z2, z3, z4, z5⟩ := hSw; go_simp)⟩) (by assumption) ?_
                try simp only [Act.put, List.setIfInBounds_toArray, List.set_cons_zero, List.set_cons_succ]
                refine wpAnyH_take (i := 10) (oi := { dst := some 88, op := Op.fieldAddr 42 (Operand.tmp 87) 1, type := 0, pos := "outright.go:39", after := #[{ on := 9, ground := Ground.data }], guard := none }) (v := .pointer (some ⟨kb', ko' + k * 33 + 1, none⟩)) rfl (by kernel_rfl) (by kernel_rfl) (by kernel_rfl) (fun _ _ _ h => h) (Or.inl ⟨by rfl, fun w hSw => by (obtain ⟨z0, z1, z2, z3, z4, z5⟩ := hSw; go_simp)⟩) (by assumption) ?_
                try simp only [Act.put, List.setIfInBounds_toArray, List.set_cons_zero, List.set_cons_succ]
                refine wpAnyH_take (i := 11) (oi := { dst := some 89, op := Op.load 40 (Operand.tmp 88), type := 40, pos := "outright.go:39", after := #[{ on := 10, ground := Ground.data }], guard := none }) (v := .agg BD.toArray) rfl (by kernel_rfl) (by kernel_rfl) (by kernel_rfl) (fun _ _ _ h => h) (yieldsIf_load_mid (by rfl) 40 _ rfl (kb') (ko' + k * 33 + 1) rfl BD _ (fun w hSw => hSw.2.2.2.2.2) Try.underlying40 rfl hBl) (by assumption) ?_
                try simp only [Act.put, List.setIfInBounds_toArray, List.set_cons_zero, List.set_cons_succ]
                refine wpAnyH_take (i := 12) (oi := { dst := some 90, op := Op.binOp BinOp.neq 40 (Operand.tmp 83) (Operand.tmp 89) 40, type := 4, pos := "outright.go:39", after := #[{ on := 5, ground := Ground.data }, { on := 11, ground := Ground.data }], guard := none }) (v := .bool (!true)) rfl (by kernel_rfl) (by kernel_rfl) (by kernel_rfl) (fun _ _ _ h => h) (yieldsIf_neq_agg (by rfl) 40 _ _ _ rfl BD.toArray BD.toArray rfl rfl (by kernel_rfl) true HEQ.out) (by assumption) ?_
                try simp only [Act.put, List.setIfInBounds_toArray, List.set_cons_zero, List.set_cons_succ]
                refine wpAnyH_take (i := 13) (oi := { dst := some 91, op := Op.move (Operand.tmp 90), type := 4, pos := "outright.go:39", after := #[{ on := 12, ground := Ground.data }], guard := none }) (v := .bool false) rfl (by kernel_rfl) (by kernel_rfl) (by kernel_rfl) (fun _ _ _ h => h) (Or.inl ⟨by rfl, fun w hSw => by (obtain ⟨z0, z1, z2, z3, z4, z5⟩ := hSw; go_simp)⟩) (by assumption) ?_
                try simp only [Act.put, List.setIfInBounds_toArray, List.set_cons_zero, List.set_cons_succ]
                refine wpAnyH_take (i := 14) (oi := { dst := some 92, op := Op.move (Operand.tmp 2), type := 4, pos := "outright.go:39", after := #[{ on := 13, ground := Ground.guard }], guard := some (13, false) }) (v := .bool false) rfl (by kernel_rfl) (by kernel_rfl) (by kernel_rfl) (fun _ _ _ h => h) (Or.inl ⟨by rfl, fun w hSw => by (obtain ⟨z0, z1, z2, z3, z4, z5⟩ := hSw; go_simp)⟩) (by assumption) ?_
                try simp only [Act.put, List.setIfInBounds_toArray, List.set_cons_zero, List.set_cons_succ]
                refine wpAnyH_take (i := 15) (oi := { dst := some 93, op := Op.unOp UnOp.not 4 (Operand.tmp 92), type := 4, pos := "outright.go:39", after := #[{ on := 14, ground := Ground.data }, { on := 13, ground := Ground.guard }], guard := some (13, false) }) (v := .bool true) rfl (by kernel_rfl) (by kernel_rfl) (by kernel_rfl) (fun _ _ _ h => h) (Or.inl ⟨by rfl, fun w hSw => by (obtain ⟨z0, z1, z2, z3, z4, z5⟩ := hSw; go_simp)⟩) (by assumption) ?_
                try simp only [Act.put, List.setIfInBounds_toArray, List.set_cons_zero, List.set_cons_succ]
                refine wpAnyH_take (i := 16) (oi := { dst := some 94, op := Op.move (Operand.tmp 93), type := 4, pos := "outright.go:39", after := #[{ on := 15, ground := Ground.data }, { on := 13, ground := Ground.chain }, { on := 13, ground := Ground.guard }], guard := some (13, false) }) (v := .bool true) rfl (by kernel_rfl) (by kernel_rfl) (by kernel_rfl) (fun _ _ _ h => h) (Or.inl ⟨by rfl, fun w hSw => by (obtain ⟨z0, z1, z2, z3, z4, z5⟩ := hSw; go_simp)⟩) (by assumption) ?_
                try simp only [Act.put, List.setIfInBounds_toArray, List.set_cons_zero, List.set_cons_succ]
                refine wpAnyH_take (i := 17) (oi := { dst := some 95, op := Op.fieldAddr 30 (Operand.tmp 3) 2, type := 0, pos := "outright.go:39", after := #[{ on := 16, ground := Ground.guard }], guard := some (16, true) }) (v := .pointer (some ⟨w.heap.size, 2, none⟩)) rfl (by kernel_rfl) (by kernel_rfl) (by kernel_rfl) (fun _ _ _ h => h) (Or.inl ⟨by rfl, fun w hSw => by (obtain ⟨z0, z1, z2, z3, z4, z5⟩ := hSw; go_simp)⟩) (by assumption) ?_
                try simp only [Act.put, List.setIfInBounds_toArray, List.set_cons_zero, List.set_cons_succ]
                refine wpAnyH_take (i := 18) (oi := { dst := some 96, op := Op.load 28 (Operand.tmp 95), type := 28, pos := "outright.go:39", after := #[{ on := 17, ground := Ground.data }, { on := 16, ground := Ground.guard }], guard := some (16, true) }) (v := .slice (some ⟨kb, ko, none⟩) ks.length ck) rfl (by kernel_rfl) (by kernel_rfl) (by kernel_rfl) (fun _ _ _ h => h) (Or.inl ⟨by rfl, fun w hSw => by (obtain ⟨z0, z1, z2, z3, z4, z5⟩ := hSw; go_simp)⟩) (by assumption) ?_
                try simp only [Act.put, List.setIfInBounds_toArray, List.set_cons_zero, List.set_cons_succ]
                refine wpAnyH_take (i := 19) (oi := { dst := some 97, op := Op.move (Operand.tmp 9), type := 3, pos := "outright.go:39", after := #[{ on := 16, ground := Ground.guard }], guard := some (16, true) }) (v := .int .i64 (k : Int)) rfl (by kernel_rfl) (by kernel_rfl) (by kernel_rfl) (fun _ _ _ h => h) (Or.inl ⟨by rfl, fun w hSw => by (obtain ⟨z0, z1, z2, z3, z4, z5⟩ := hSw; go_simp)⟩) (by assumption) ?_
                try simp only [Act.put, List.setIfInBounds_toArray, List.set_cons_zero, List.set_cons_succ]
                refine wpAnyH_take (i := 20) (oi := { dst := some 98, op := Op.indexAddr 28 (Operand.tmp 96) (Operand.tmp 97), type := 0, pos := "outright.go:39", after := #[{ on := 18, ground := Ground.data }, { on := 19, ground := Ground.data }, { on := 16, ground := Ground.guard }], guard := some (16, true) }) (v := .pointer (some ⟨kb, ko + k * 33, none⟩)) rfl (by kernel_rfl) (by kernel_rfl) (by kernel_rfl) (fun _ _ _ h => h) (Or.inl ⟨by rfl, fun w hSw => by (obtain ⟨z0, z1, z2, z3, z4, z5⟩ := hSw; go_simp)⟩) (by assumption) ?_
                try simp only [Act.put, List.setIfInBounds_toArray, List.set_cons_zero, List.set_cons_succ]
                refine wpAnyH_take (i := 21) (oi := { dst := some 99, op := Op.fieldAddr 42 (Operand.tmp 98) 0, type := 0, pos := "outright.go:39", after := #[{ on := 20, ground := Ground.data }, { on := 16, ground := Ground.guard }], guard := some (16, true) }) (v := .pointer (some ⟨kb, ko + k * 33, none⟩)) rfl (by kernel_rfl) (by kernel_rfl) (by kernel_rfl) (fun _ _ _ h => h) (Or.inl ⟨by rfl, fun w hSw => by (obtain ⟨z0, z1, z2, z3, z4, z5⟩ := hSw; go_simp)⟩) (by assumption) ?_
                try simp only [Act.put, List.setIfInBounds_toArray, List.set_cons_zero, List.set_cons_succ]
                refine wpAnyH_take (i := 22) (oi := { dst := some 100, op := Op.load 38 (Operand.tmp 99), type := 38, pos := "outright.go:39", after := #[{ on := 21, ground := Ground.data }, { on := 16, ground := Ground.guard }], guard := some (16, true) }) (v := .int .u32 PX) rfl (by kernel_rfl) (by kernel_rfl) (by kernel_rfl) (fun _ _ _ h => h) (Or.inl ⟨by rfl, fun w hSw => by (obtain ⟨z0, z1, z2, z3, z4, z5⟩ := hSw; go_simp)⟩) (by assumption) ?_
                try simp only [Act.put, List.setIfInBounds_toArray, List.set_cons_zero, List.set_cons_succ]
                refine wpAnyH_take (i := 23) (oi := { dst := some 101, op := Op.fieldAddr 30 (Operand.tmp 4) 2, type := 0, pos := "outright.go:39", after := #[{ on := 16, ground := Ground.guard }], guard := some (16, true) }) (v := .pointer (some ⟨w.heap.size + 1, 2, none⟩)) rfl (by kernel_rfl) (by kernel_rfl) (by kernel_rfl) (fun _ _ _ h => h) (Or.inl ⟨by rfl, fun w hSw => by (obtain ⟨z0, z1, z2, z3, z4, z5⟩ := hSw; go_simp)⟩) (by assumption) ?_
                try simp only [Act.put, List.setIfInBounds_toArray, List.set_cons_zero, List.set_cons_succ]
                refine wpAnyH_take (i := 24) (oi := { dst := some 102, op := Op.load 28 (Operand.tmp 101), type := 28, pos := "outright.go:39", after := #[{ on := 23, ground := Ground.data }, { on := 16, ground := Ground.guard }], guard := some (16, true) }) (v := .slice (some ⟨kb', ko', none⟩) ks.length ck') rfl (by kernel_rfl) (by kernel_rfl) (by kernel_rfl) (fun _ _ _ h => h) (Or.inl ⟨by rfl, fun w hSw => by (obtain ⟨z0, z1, z2, z3, z4, z5⟩ := hSw; go_simp)⟩) (by assumption) ?_
                try simp only [Act.put, List.setIfInBounds_toArray, List.set_cons_zero, List.set_cons_succ]
                refine wpAnyH_take (i := 25) (oi := { dst := some 103, op := Op.move (Operand.tmp 9), type := 3, pos := "outright.go:39", after := #[{ on := 16, ground := Ground.guard }], guard := some (16, true) }) (v := .int .i64 (k : Int)) rfl (by kernel_rfl) (by kernel_rfl) (by kernel_rfl) (fun _ _ _ h => h) (Or.inl ⟨by rfl, fun w hSw => by (obtain ⟨z0, z1, z2, z3, z4, z5⟩ := hSw; go_simp)⟩) (by assumption) ?_
                try simp only [Act.put, List.setIfInBounds_toArray, List.set_cons_zero, List.set_cons_succ]
                refine wpAnyH_take (i := 26) (oi := { dst := some 104, op := Op.indexAddr 28 (Operand.tmp 102) (Operand.tmp 103), type := 0, pos := "outright.go:39", after := #[{ on := 24, ground := Ground.data }, { on := 25, ground := Ground.data }, { on := 16, ground := Ground.guard }], guard := some (16, true) }) (v := .pointer (some ⟨kb', ko' + k * 33, none⟩)) rfl (by kernel_rfl) (by kernel_rfl) (by kernel_rfl) (fun _ _ _ h => h) (Or.inl ⟨by rfl, fun w hSw => by (obtain ⟨z0, z1, z2, z3, z4, z5⟩ := hSw; go_simp)⟩) (by assumption) ?_
                try simp only [Act.put, List.setIfInBounds_toArray, List.set_cons_zero, List.set_cons_succ]
                refine wpAnyH_take (i := 27) (oi := { dst := some 105, op := Op.fieldAddr 42 (Operand.tmp 104) 0, type := 0, pos := "outright.go:39", after := #[{ on := 26, ground := Ground.data }, { on := 16, ground := Ground.guard }], guard := some (16, true) }) (v := .pointer (some ⟨kb', ko' + k * 33, none⟩)) rfl (by kernel_rfl) (by kernel_rfl) (by kernel_rfl) (fun _ _ _ h => h) (Or.inl ⟨by rfl, fun w hSw => by (obtain ⟨z0, z1, z2, z3, z4, z5⟩ := hSw; go_simp)⟩) (by assumption) ?_
                try simp only [Act.put, List.setIfInBounds_toArray, List.set_cons_zero, List.set_cons_succ]
                refine wpAnyH_take (i := 28) (oi := { dst := some 106, op := Op.load 38 (Operand.tmp 105), type := 38, pos := "outright.go:39", after := #[{ on := 27, ground := Ground.data }, { on := 16, ground := Ground.guard }], guard := some (16, true) }) (v := .int .u32 PX) rfl (by kernel_rfl) (by kernel_rfl) (by kernel_rfl) (fun _ _ _ h => h) (Or.inl ⟨by rfl, fun w hSw => by (obtain ⟨z0, z1, z2, z3, z4, z5⟩ := hSw; go_simp)⟩) (by assumption) ?_
                try simp only [Act.put, List.setIfInBounds_toArray, List.set_cons_zero, List.set_cons_succ]
                refine wpAnyH_take (i := 29) (oi := { dst := some 107, op := Op.binOp BinOp.neq 38 (Operand.tmp 100) (Operand.tmp 106) 38, type := 4, pos := "outright.go:39", after := #[{ on := 22, ground := Ground.data }, { on := 28, ground := Ground.data }, { on := 16, ground := Ground.guard }], guard := some (16, true) }) (v := .bool false) rfl (by kernel_rfl) (by kernel_rfl) (by kernel_rfl) (fun _ _ _ h => h) (Or.inl ⟨by rfl, fun w hSw => by (obtain ⟨z0, z1, z2, z3, z4, z5⟩ := hSw; go_simp)⟩) (by assumption) ?_
                try simp only [Act.put, List.setIfInBounds_toArray, List.set_cons_zero, List.set_cons_succ]
                refine wpAnyH_take (i := 30) (oi := { dst := some 108, op := Op.pick (Operand.tmp 94) (Operand.tmp 107) (Operand.const (Value.bool false)), type := 4, pos := "outright.go:39", after := #[{ on := 16, ground := Ground.data }, { on := 29, ground := Ground.data }, { on := 13, ground := Ground.guard }], guard := some (13, false) }) (v := .bool false) rfl (by kernel_rfl) (by kernel_rfl) (by kernel_rfl) (fun _ _ _ h => h) (Or.inl ⟨by rfl, fun w hSw => by (obtain ⟨z0, z1, z2, z3, z4, z5⟩ := hSw; go_simp)⟩) (by assumption) ?_
                try simp only [Act.put, List.setIfInBounds_toArray, List.set_cons_zero, List.set_cons_succ]
                refine wpAnyH_take (i := 31) (oi := { dst := some 109, op := Op.pick (Operand.tmp 91) (Operand.const (Value.bool true)) (Operand.tmp 108), type := 4, pos := "outright.go:39", after := #[{ on := 13, ground := Ground.data }, { on := 30, ground := Ground.data }], guard := none }) (v := .bool false) rfl (by kernel_rfl) (by kernel_rfl) (by kernel_rfl) (fun _ _ _ h => h) (Or.inl ⟨by rfl, fun w hSw => by (obtain ⟨z0, z1, z2, z3, z4, z5⟩ := hSw; go_simp)⟩) (by assumption) ?_
                try simp only [Act.put, List.setIfInBounds_toArray, List.set_cons_zero, List.set_cons_succ]
                refine wpAnyH_done (by kernel_rfl) ?_ _
                go_wp2_with fail
                go_roundg (ks.length - (k + 1))
                case measure => omega
                case rel => exact ⟨k + 1, by go_num, by omega, rfl, Fr.drew sr⟩
            · obtain rfl : k = ks.length := by omega
              go_wp2_with fail
              go_ret
              exact ⟨rfl, sx.trans sr⟩
end Go.Proofs.Ytjpgpfaeolgemaa
