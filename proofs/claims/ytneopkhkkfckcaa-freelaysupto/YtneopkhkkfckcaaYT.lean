/- free: FreeLays: the region that lends a plan. -/
import Derived.Test.YtneopkhkkfckcaaYRJ
namespace Go.Proofs.Ytneopkhkkfckcaa
open Go.RowKit Go.Maps

def rFL3 : Array Oper := #[{ dst := some 29, op := Op.fieldAddr 42 (Operand.tmp 3) 2, type := 0, pos := "law.go:114", after := #[], guard := none },
  { dst := some 30, op := Op.fieldAddr 26 (Operand.tmp 29) 0, type := 0, pos := "law.go:114", after := #[{ on := 0, ground := Ground.data }], guard := none },
  { dst := some 31, op := Op.load 23 (Operand.tmp 30), type := 23, pos := "law.go:114", after := #[{ on := 1, ground := Ground.data }], guard := none },
  { dst := some 32, op := Op.call { callee := Callee.value (Operand.func 7), args := #[Operand.tmp 31], argTypes := #[23] }, type := 23, pos := "law.go:114", after := #[{ on := 2, ground := Ground.data }], guard := none },
  { dst := some 33, op := Op.fieldAddr 42 (Operand.tmp 3) 2, type := 0, pos := "law.go:114", after := #[], guard := none },
  { dst := some 34, op := Op.fieldAddr 26 (Operand.tmp 33) 1, type := 0, pos := "law.go:114", after := #[{ on := 4, ground := Ground.data }], guard := none },
  { dst := some 35, op := Op.load 22 (Operand.tmp 34), type := 22, pos := "law.go:114", after := #[{ on := 5, ground := Ground.data }], guard := none },
  { dst := some 36, op := Op.call { callee := Callee.value (Operand.func 6), args := #[Operand.tmp 35], argTypes := #[22] }, type := 22, pos := "law.go:114", after := #[{ on := 6, ground := Ground.data }, { on := 3, ground := Ground.chain }], guard := none },
  { dst := some 37, op := Op.fieldAddr 42 (Operand.tmp 3) 2, type := 0, pos := "law.go:114", after := #[], guard := none },
  { dst := some 38, op := Op.fieldAddr 26 (Operand.tmp 37) 2, type := 0, pos := "law.go:114", after := #[{ on := 8, ground := Ground.data }], guard := none },
  { dst := some 39, op := Op.load 3 (Operand.tmp 38), type := 3, pos := "law.go:114", after := #[{ on := 9, ground := Ground.data }], guard := none },
  { dst := some 40, op := Op.fieldAddr 42 (Operand.tmp 3) 2, type := 0, pos := "law.go:114", after := #[], guard := none },
  { dst := some 41, op := Op.fieldAddr 26 (Operand.tmp 40) 3, type := 0, pos := "law.go:114", after := #[{ on := 11, ground := Ground.data }], guard := none },
  { dst := some 42, op := Op.load 24 (Operand.tmp 41), type := 24, pos := "law.go:114", after := #[{ on := 12, ground := Ground.data }], guard := none },
  { dst := some 43, op := Op.build 26 #[(0, Operand.tmp 32), (1, Operand.tmp 36), (2, Operand.tmp 39), (3, Operand.tmp 42)], type := 26, pos := "law.go:114", after := #[{ on := 3, ground := Ground.data }, { on := 7, ground := Ground.data }, { on := 10, ground := Ground.data }, { on := 13, ground := Ground.data }], guard := none },
  { dst := some 8, op := Op.alloc 26, type := 0, pos := "law.go:114", after := #[], guard := none },
  { dst := none, op := Op.store 26 (Operand.tmp 8) (Operand.tmp 43), type := 0, pos := "law.go:114", after := #[{ on := 15, ground := Ground.data }, { on := 14, ground := Ground.data }, { on := 7, ground := Ground.chain }, { on := 0, ground := Ground.phase }, { on := 1, ground := Ground.phase }, { on := 2, ground := Ground.phase }, { on := 3, ground := Ground.phase }, { on := 4, ground := Ground.phase }, { on := 5, ground := Ground.phase }, { on := 6, ground := Ground.phase }, { on := 7, ground := Ground.phase }, { on := 8, ground := Ground.phase }, { on := 9, ground := Ground.phase }, { on := 10, ground := Ground.phase }, { on := 11, ground := Ground.phase }, { on := 12, ground := Ground.phase }, { on := 13, ground := Ground.phase }, { on := 14, ground := Ground.phase }, { on := 15, ground := Ground.phase }], guard := none }]

theorem LentC.fr9 {W W' : World} {B g cc n bx : Nat} {L M : List Bt} {cs : Array Value} (h : LentC W B g cc n L M) (f : Fr (fun k => k = bx) W W') (hb : W.heap[bx]? = some (.cells cs 26 (0, 0))) : LentC W' B g cc n L M := by
  refine ⟨own_frameB h.row f (fun k hk e => own_neT (own_base h.row (Nat.zero_le _)) hb (by decide) k hk e), h.key, fun x hx => (h.lent x hx).fr f (fun e => ?_)⟩
  exact own_neT (own_base (h.lent x hx).ns (Nat.zero_le _)) hb (by decide) x.nb rfl e
set_option maxRecDepth 100000 in
set_option maxHeartbeats 1000000 in
theorem fl3 {tb tn tc ln llc : Nat} {ta la : Option Addr} {op pgs : Int} {ML : List Bt} {Q : Exit → Act → World → Prop} (hQp : ∀ c (a : Act) d v w, Q (.panic c) (a.put d v) w → Q (.panic c) a w) (a0 : Act) (wr : World) (hsz : a0.tmps.size = 130) (h3 : a0.eval (.tmp 3) = .pointer (some ⟨tb, 0, none⟩))
    (c2 : wr.cell? ⟨tb, 2, none⟩ = some (.slice ta tn tc)) (c3 : wr.cell? ⟨tb, 3, none⟩ = some (.slice la ln llc)) (c4 : wr.cell? ⟨tb, 4, none⟩ = some (.int .i64 op)) (c5 : wr.cell? ⟨tb, 5, none⟩ = some (.int .u32 pgs))
    (kn : ∀ Z, Same wr Z → Calls Try.prog 7 #[.slice ta tn tc] Z fun e w' => ∃ g c, e = .returned (.slice (some ⟨g, 0, none⟩) tn c) ∧ Same Z w')
    (kl : ∀ Z, Same wr Z → Calls Try.prog 6 #[.slice la ln llc] Z fun e w' => ∃ g c M, e = .returned (.slice (some ⟨g, 0, none⟩) ln c) ∧ LentC w' wr.heap.size g c ln ML M ∧ Same Z w')
    (hQ : ∀ a W bx gt ct gl cl ML2 env, Fe a0 env a → (∀ t, t = 2 ∨ t = 3 ∨ t = 4 ∨ t = 5 ∨ t = 6 ∨ t = 7 → look env t (a0.eval (.tmp t)) = a0.eval (.tmp t)) → a.eval (.tmp 8) = .pointer (some ⟨bx, 0, none⟩) → W.heap[bx]? = some (.cells #[.slice (some ⟨gt, 0, none⟩) tn ct, .slice (some ⟨gl, 0, none⟩) ln cl, .int .i64 op, .int .u32 pgs] 26 (0, 0)) → LentC W wr.heap.size gl cl ln ML ML2 → Same wr W → Q .normal a W) : (Code.region 3 rFL3 true).wp Try.prog Q a0 wr := by
  have dd : Same wr wr.drew := (Fr.refl (fun _ => False) wr).drew
  have fa0_0 := Fe.refl a0
  refine wp_region_held_drew (ops := rFL3) (S := fun Z => Same wr Z) (by kernel_rfl) (dd) (fun hS0 => ?_)
  have r_a0_1 : ∀ Z, (fun Z => Same wr Z) Z → (execOp a0.eval { dst := some 29, op := Op.fieldAddr 42 (Operand.tmp 3) 2, type := 0, pos := "law.go:114", after := #[], guard := none }).run Try.prog Z = .ok (.value (.pointer (some ⟨tb, 2, none⟩))) Z := fun Z hZ => by
    have e3 := (show a0.eval (.tmp 3) = .pointer (some ⟨tb, 0, none⟩) from ((fa0_0.at_ 3).trans h3))
    clear fa0_0 hQ h3
    generalize a0.eval = ρ at *
    go_simp
  refine fa0_0.take 0 29 (.pointer (some ⟨tb, 2, none⟩)) rfl (by kernel_rfl) (by kernel_rfl) (by kernel_rfl) (fun _ _ _ h => hQp _ _ _ _ _ h) rfl (lb_ hsz) (wanted_none rfl) r_a0_1 hS0 (fun a0_1 fa0_1 => ?_)
  clear r_a0_1
  clear fa0_0
  have r_a0_2 : ∀ Z, (fun Z => Same wr Z) Z → (execOp a0_1.eval { dst := some 30, op := Op.fieldAddr 26 (Operand.tmp 29) 0, type := 0, pos := "law.go:114", after := #[{ on := 0, ground := Ground.data }], guard := none }).run Try.prog Z = .ok (.value (.pointer (some ⟨tb, 2, none⟩))) Z := fun Z hZ => by
    have e29 := (show a0_1.eval (.tmp 29) = .pointer (some ⟨tb, 2, none⟩) from (fa0_1.at_ 29))
    clear fa0_1 hQ h3
    generalize a0_1.eval = ρ at *
    go_simp
  refine fa0_1.take 1 30 (.pointer (some ⟨tb, 2, none⟩)) rfl (by kernel_rfl) (by kernel_rfl) (by kernel_rfl) (fun _ _ _ h => hQp _ _ _ _ _ h) rfl (lb_ hsz) (wanted_none rfl) r_a0_2 hS0 (fun a0_2 fa0_2 => ?_)
  clear r_a0_2
  clear fa0_1
  have r_a0_3 : ∀ Z, (fun Z => Same wr Z) Z → (execOp a0_2.eval { dst := some 31, op := Op.load 23 (Operand.tmp 30), type := 23, pos := "law.go:114", after := #[{ on := 1, ground := Ground.data }], guard := none }).run Try.prog Z = .ok (.value (.slice ta tn tc)) Z := fun Z hZ => by
    have z2 := hZ.keep c2
    have z3 := hZ.keep c3
    have z4 := hZ.keep c4
    have z5 := hZ.keep c5
    have e30 := (show a0_2.eval (.tmp 30) = .pointer (some ⟨tb, 2, none⟩) from (fa0_2.at_ 30))
    clear fa0_2 hQ h3
    generalize a0_2.eval = ρ at *
    go_simp
  refine fa0_2.take 2 31 (.slice ta tn tc) rfl (by kernel_rfl) (by kernel_rfl) (by kernel_rfl) (fun _ _ _ h => hQp _ _ _ _ _ h) rfl (lb_ hsz) (wanted_none rfl) r_a0_3 hS0 (fun a0_3 fa0_3 => ?_)
  clear r_a0_3
  clear fa0_2
  have r_a0_4 : ∀ Z, (fun Z => Same wr Z) Z → (execOp a0_3.eval { dst := some 33, op := Op.fieldAddr 42 (Operand.tmp 3) 2, type := 0, pos := "law.go:114", after := #[], guard := none }).run Try.prog Z = .ok (.value (.pointer (some ⟨tb, 2, none⟩))) Z := fun Z hZ => by
    have e3 := (show a0_3.eval (.tmp 3) = .pointer (some ⟨tb, 0, none⟩) from ((fa0_3.at_ 3).trans h3))
    clear fa0_3 hQ h3
    generalize a0_3.eval = ρ at *
    go_simp
  refine fa0_3.take 4 33 (.pointer (some ⟨tb, 2, none⟩)) rfl (by kernel_rfl) (by kernel_rfl) (by kernel_rfl) (fun _ _ _ h => hQp _ _ _ _ _ h) rfl (lb_ hsz) (wanted_none rfl) r_a0_4 hS0 (fun a0_4 fa0_4 => ?_)
  clear r_a0_4
  clear fa0_3
  have r_a0_5 : ∀ Z, (fun Z => Same wr Z) Z → (execOp a0_4.eval { dst := some 34, op := Op.fieldAddr 26 (Operand.tmp 33) 1, type := 0, pos := "law.go:114", after := #[{ on := 4, ground := Ground.data }], guard := none }).run Try.prog Z = .ok (.value (.pointer (some ⟨tb, 3, none⟩))) Z := fun Z hZ => by
    have e33 := (show a0_4.eval (.tmp 33) = .pointer (some ⟨tb, 2, none⟩) from (fa0_4.at_ 33))
    clear fa0_4 hQ h3
    generalize a0_4.eval = ρ at *
    go_simp
  refine fa0_4.take 5 34 (.pointer (some ⟨tb, 3, none⟩)) rfl (by kernel_rfl) (by kernel_rfl) (by kernel_rfl) (fun _ _ _ h => hQp _ _ _ _ _ h) rfl (lb_ hsz) (wanted_none rfl) r_a0_5 hS0 (fun a0_5 fa0_5 => ?_)
  clear r_a0_5
  clear fa0_4
  have r_a0_6 : ∀ Z, (fun Z => Same wr Z) Z → (execOp a0_5.eval { dst := some 35, op := Op.load 22 (Operand.tmp 34), type := 22, pos := "law.go:114", after := #[{ on := 5, ground := Ground.data }], guard := none }).run Try.prog Z = .ok (.value (.slice la ln llc)) Z := fun Z hZ => by
    have z2 := hZ.keep c2
    have z3 := hZ.keep c3
    have z4 := hZ.keep c4
    have z5 := hZ.keep c5
    have e34 := (show a0_5.eval (.tmp 34) = .pointer (some ⟨tb, 3, none⟩) from (fa0_5.at_ 34))
    clear fa0_5 hQ h3
    generalize a0_5.eval = ρ at *
    go_simp
  refine fa0_5.take 6 35 (.slice la ln llc) rfl (by kernel_rfl) (by kernel_rfl) (by kernel_rfl) (fun _ _ _ h => hQp _ _ _ _ _ h) rfl (lb_ hsz) (wanted_none rfl) r_a0_6 hS0 (fun a0_6 fa0_6 => ?_)
  clear r_a0_6
  clear fa0_5
  have r_a0_7 : ∀ Z, (fun Z => Same wr Z) Z → (execOp a0_6.eval { dst := some 37, op := Op.fieldAddr 42 (Operand.tmp 3) 2, type := 0, pos := "law.go:114", after := #[], guard := none }).run Try.prog Z = .ok (.value (.pointer (some ⟨tb, 2, none⟩))) Z := fun Z hZ => by
    have e3 := (show a0_6.eval (.tmp 3) = .pointer (some ⟨tb, 0, none⟩) from ((fa0_6.at_ 3).trans h3))
    clear fa0_6 hQ h3
    generalize a0_6.eval = ρ at *
    go_simp
  refine fa0_6.take 8 37 (.pointer (some ⟨tb, 2, none⟩)) rfl (by kernel_rfl) (by kernel_rfl) (by kernel_rfl) (fun _ _ _ h => hQp _ _ _ _ _ h) rfl (lb_ hsz) (wanted_none rfl) r_a0_7 hS0 (fun a0_7 fa0_7 => ?_)
  clear r_a0_7
  clear fa0_6
  have r_a0_8 : ∀ Z, (fun Z => Same wr Z) Z → (execOp a0_7.eval { dst := some 38, op := Op.fieldAddr 26 (Operand.tmp 37) 2, type := 0, pos := "law.go:114", after := #[{ on := 8, ground := Ground.data }], guard := none }).run Try.prog Z = .ok (.value (.pointer (some ⟨tb, 4, none⟩))) Z := fun Z hZ => by
    have e37 := (show a0_7.eval (.tmp 37) = .pointer (some ⟨tb, 2, none⟩) from (fa0_7.at_ 37))
    clear fa0_7 hQ h3
    generalize a0_7.eval = ρ at *
    go_simp
  refine fa0_7.take 9 38 (.pointer (some ⟨tb, 4, none⟩)) rfl (by kernel_rfl) (by kernel_rfl) (by kernel_rfl) (fun _ _ _ h => hQp _ _ _ _ _ h) rfl (lb_ hsz) (wanted_none rfl) r_a0_8 hS0 (fun a0_8 fa0_8 => ?_)
  clear r_a0_8
  clear fa0_7
  have r_a0_9 : ∀ Z, (fun Z => Same wr Z) Z → (execOp a0_8.eval { dst := some 39, op := Op.load 3 (Operand.tmp 38), type := 3, pos := "law.go:114", after := #[{ on := 9, ground := Ground.data }], guard := none }).run Try.prog Z = .ok (.value (.int .i64 op)) Z := fun Z hZ => by
    have z2 := hZ.keep c2
    have z3 := hZ.keep c3
    have z4 := hZ.keep c4
    have z5 := hZ.keep c5
    have e38 := (show a0_8.eval (.tmp 38) = .pointer (some ⟨tb, 4, none⟩) from (fa0_8.at_ 38))
    clear fa0_8 hQ h3
    generalize a0_8.eval = ρ at *
    go_simp
  refine fa0_8.take 10 39 (.int .i64 op) rfl (by kernel_rfl) (by kernel_rfl) (by kernel_rfl) (fun _ _ _ h => hQp _ _ _ _ _ h) rfl (lb_ hsz) (wanted_none rfl) r_a0_9 hS0 (fun a0_9 fa0_9 => ?_)
  clear r_a0_9
  clear fa0_8
  have r_a0_10 : ∀ Z, (fun Z => Same wr Z) Z → (execOp a0_9.eval { dst := some 40, op := Op.fieldAddr 42 (Operand.tmp 3) 2, type := 0, pos := "law.go:114", after := #[], guard := none }).run Try.prog Z = .ok (.value (.pointer (some ⟨tb, 2, none⟩))) Z := fun Z hZ => by
    have e3 := (show a0_9.eval (.tmp 3) = .pointer (some ⟨tb, 0, none⟩) from ((fa0_9.at_ 3).trans h3))
    clear fa0_9 hQ h3
    generalize a0_9.eval = ρ at *
    go_simp
  refine fa0_9.take 11 40 (.pointer (some ⟨tb, 2, none⟩)) rfl (by kernel_rfl) (by kernel_rfl) (by kernel_rfl) (fun _ _ _ h => hQp _ _ _ _ _ h) rfl (lb_ hsz) (wanted_none rfl) r_a0_10 hS0 (fun a0_10 fa0_10 => ?_)
  clear r_a0_10
  clear fa0_9
  have r_a0_11 : ∀ Z, (fun Z => Same wr Z) Z → (execOp a0_10.eval { dst := some 41, op := Op.fieldAddr 26 (Operand.tmp 40) 3, type := 0, pos := "law.go:114", after := #[{ on := 11, ground := Ground.data }], guard := none }).run Try.prog Z = .ok (.value (.pointer (some ⟨tb, 5, none⟩))) Z := fun Z hZ => by
    have e40 := (show a0_10.eval (.tmp 40) = .pointer (some ⟨tb, 2, none⟩) from (fa0_10.at_ 40))
    clear fa0_10 hQ h3
    generalize a0_10.eval = ρ at *
    go_simp
  refine fa0_10.take 12 41 (.pointer (some ⟨tb, 5, none⟩)) rfl (by kernel_rfl) (by kernel_rfl) (by kernel_rfl) (fun _ _ _ h => hQp _ _ _ _ _ h) rfl (lb_ hsz) (wanted_none rfl) r_a0_11 hS0 (fun a0_11 fa0_11 => ?_)
  clear r_a0_11
  clear fa0_10
  have r_a0_12 : ∀ Z, (fun Z => Same wr Z) Z → (execOp a0_11.eval { dst := some 42, op := Op.load 24 (Operand.tmp 41), type := 24, pos := "law.go:114", after := #[{ on := 12, ground := Ground.data }], guard := none }).run Try.prog Z = .ok (.value (.int .u32 pgs)) Z := fun Z hZ => by
    have z2 := hZ.keep c2
    have z3 := hZ.keep c3
    have z4 := hZ.keep c4
    have z5 := hZ.keep c5
    have e41 := (show a0_11.eval (.tmp 41) = .pointer (some ⟨tb, 5, none⟩) from (fa0_11.at_ 41))
    clear fa0_11 hQ h3
    generalize a0_11.eval = ρ at *
    go_simp
  refine fa0_11.take 13 42 (.int .u32 pgs) rfl (by kernel_rfl) (by kernel_rfl) (by kernel_rfl) (fun _ _ _ h => hQp _ _ _ _ _ h) rfl (lb_ hsz) (wanted_none rfl) r_a0_12 hS0 (fun a0_12 fa0_12 => ?_)
  clear r_a0_12
  clear fa0_11
  refine wpAnyH_ready (rs := [3, 15]) (by kernel_rfl) (by simp) (AllReadyH.cons rfl (fun K hK => ?_) (AllReadyH.cons rfl (fun K hK => ?_) AllReadyH.nil))
  · have r_a0_13 : (execOp a0_12.eval { dst := some 32, op := Op.call { callee := Callee.value (Operand.func 7), args := #[Operand.tmp 31], argTypes := #[23] }, type := 23, pos := "law.go:114", after := #[{ on := 2, ground := Ground.data }], guard := none }).run Try.prog (wr.drew) = .ok (.enter 7 #[.slice ta tn tc]) (wr.drew) := by
      have kf : ∀ f, a0_12.eval (.func f) = .func (.func f) #[] #[] := fun _ => rfl
      have e31 := (show a0_12.eval (.tmp 31) = .slice ta tn tc from (fa0_12.at_ 31))
      clear fa0_12 hQ h3
      generalize a0_12.eval = ρ at *
      go_simp
    refine fa0_12.kCall hK 32 rfl (lb_ hsz) (wanted_none rfl) r_a0_13 (kn _ dd) (fun e Wn hR => ?_)
    obtain ⟨gt, ct, rfl, s_n⟩ := hR
    clear r_a0_13
    have hS13 : (fun Z => Same wr Z) Wn := ((dd).trans s_n)
    refine ⟨_, rfl, hS13, fun a0_13 fa0_13 => ?_⟩
    clear fa0_12
    refine wpAnyH_ready (rs := [7, 15]) (by kernel_rfl) (by simp) (AllReadyH.cons rfl (fun K hK => ?_) (AllReadyH.cons rfl (fun K hK => ?_) AllReadyH.nil))
    · have r_a0_14 : (execOp a0_13.eval { dst := some 36, op := Op.call { callee := Callee.value (Operand.func 6), args := #[Operand.tmp 35], argTypes := #[22] }, type := 22, pos := "law.go:114", after := #[{ on := 6, ground := Ground.data }, { on := 3, ground := Ground.chain }], guard := none }).run Try.prog (Wn) = .ok (.enter 6 #[.slice la ln llc]) (Wn) := by
        have kf : ∀ f, a0_13.eval (.func f) = .func (.func f) #[] #[] := fun _ => rfl
        have e35 := (show a0_13.eval (.tmp 35) = .slice la ln llc from (fa0_13.at_ 35))
        clear fa0_13 hQ h3
        generalize a0_13.eval = ρ at *
        go_simp
      refine fa0_13.kCall hK 36 rfl (lb_ hsz) (wanted_none rfl) r_a0_14 (kl _ ((dd).trans s_n)) (fun e Wl hR => ?_)
      obtain ⟨gl, cl, ML2, rfl, l1, s_l⟩ := hR
      clear r_a0_14
      have hS14 : (fun Z => Same wr Z) Wl := ((((dd).trans s_n)).trans s_l)
      refine ⟨_, rfl, hS14, fun a0_14 fa0_14 => ?_⟩
      clear fa0_13
      have r_a0_15 : ∀ Z, (fun Z => Same wr Z) Z → (execOp a0_14.eval { dst := some 43, op := Op.build 26 #[(0, Operand.tmp 32), (1, Operand.tmp 36), (2, Operand.tmp 39), (3, Operand.tmp 42)], type := 26, pos := "law.go:114", after := #[{ on := 3, ground := Ground.data }, { on := 7, ground := Ground.data }, { on := 10, ground := Ground.data }, { on := 13, ground := Ground.data }], guard := none }).run Try.prog Z = .ok (.value (.agg #[.slice (some ⟨gt, 0, none⟩) tn ct, .slice (some ⟨gl, 0, none⟩) ln cl, .int .i64 op, .int .u32 pgs])) Z := fun Z hZ => by
        have e32 := (show a0_14.eval (.tmp 32) = .slice (some ⟨gt, 0, none⟩) tn ct from (fa0_14.at_ 32))
        have e36 := (show a0_14.eval (.tmp 36) = .slice (some ⟨gl, 0, none⟩) ln cl from (fa0_14.at_ 36))
        have e39 := (show a0_14.eval (.tmp 39) = .int .i64 op from (fa0_14.at_ 39))
        have e42 := (show a0_14.eval (.tmp 42) = .int .u32 pgs from (fa0_14.at_ 42))
        clear fa0_14 hQ h3
        generalize a0_14.eval = ρ at *
        go_simp
      refine fa0_14.take 14 43 (.agg #[.slice (some ⟨gt, 0, none⟩) tn ct, .slice (some ⟨gl, 0, none⟩) ln cl, .int .i64 op, .int .u32 pgs]) rfl (by kernel_rfl) (by kernel_rfl) (by kernel_rfl) (fun _ _ _ h => hQp _ _ _ _ _ h) rfl (lb_ hsz) (wanted_none rfl) r_a0_15 hS14 (fun a0_15 fa0_15 => ?_)
      clear r_a0_15
      clear fa0_14
      have r_a0_16 : (execOp a0_15.eval { dst := some 8, op := Op.alloc 26, type := 0, pos := "law.go:114", after := #[], guard := none }).run Try.prog (Wl) = .ok (.value (.pointer (some ⟨(Wl).heap.size, 0, none⟩))) ((Wl).alloc (.cells #[.slice none 0 0, .slice none 0 0, .int .i64 0, .int .u32 0] 26)) := by
        clear fa0_15 hQ h3
        generalize a0_15.eval = ρ at *
        go_simp
      obtain ⟨bx, hbx⟩ : ∃ bx, bx = (Wl).heap.size := ⟨_, rfl⟩
      obtain ⟨Wa, hWa⟩ : ∃ Wa, Wa = (Wl).alloc (.cells #[.slice none 0 0, .slice none 0 0, .int .i64 0, .int .u32 0] 26) := ⟨_, rfl⟩
      have s_a : Same (Wl) Wa := by rw [hWa]; exact (Fr.refl _ _).alloc _
      have bx0 : Wa.heap[bx]? = some (.cells #[.slice none 0 0, .slice none 0 0, .int .i64 0, .int .u32 0] 26 (0, 0)) := by rw [hWa, hbx]; exact heap_alloc_new _ _
      have hbw : wr.heap.size ≤ bx := by rw [hbx]; exact (((((dd).trans s_n)).trans s_l)).size
      rw [← hbx, ← hWa] at r_a0_16
      have l2 := l1.same s_a
      have hS16 : (fun Z => Same wr Z) Wa := ((((((dd).trans s_n)).trans s_l)).trans s_a)
      refine fa0_15.one 15 8 _ (by kernel_rfl) rfl rfl (lb_ hsz) (wanted_none rfl) r_a0_16 hS16 (fun a0_16 fa0_16 => ?_)
      clear r_a0_16 fa0_15
      refine fa0_16.oneStore 16 (by kernel_rfl) rfl rfl rfl 26 _ _ rfl bx #[.slice (some ⟨gt, 0, none⟩) tn ct, .slice (some ⟨gl, 0, none⟩) ln cl, .int .i64 op, .int .u32 pgs] #[.slice none 0 0, .slice none 0 0, .int .i64 0, .int .u32 0] 26 (show a0_16.eval (.tmp 8) = .pointer (some ⟨bx, 0, none⟩) from (fa0_16.at_ 8)) (show a0_16.eval (.tmp 43) = .agg #[.slice (some ⟨gt, 0, none⟩) tn ct, .slice (some ⟨gl, 0, none⟩) ln cl, .int .i64 op, .int .u32 pgs] from (fa0_16.at_ 43)) bx0 rfl (by kernel_rfl) (by kernel_rfl) (fun W9 r9 f9 => ?_)
      have s9 : Same wr W9 := Fr.trans ((((((dd).trans s_n)).trans s_l)).trans s_a) f9 (fun k hk e => by omega)
      refine ⟨s9, fun a9 f99 => ?_⟩
      refine wpAnyH_done (by kernel_rfl) ?_ _
      refine hQ a9 W9 bx gt ct gl cl ML2 _ f99 ?_ (f99.at_ 8) r9 (l2.fr9 f9 bx0) s9
      intro t ht; rcases ht with rfl | rfl | rfl | rfl | rfl | rfl <;> rfl
    · have r_a0_14 : (execOp a0_13.eval { dst := some 8, op := Op.alloc 26, type := 0, pos := "law.go:114", after := #[], guard := none }).run Try.prog (Wn) = .ok (.value (.pointer (some ⟨(Wn).heap.size, 0, none⟩))) ((Wn).alloc (.cells #[.slice none 0 0, .slice none 0 0, .int .i64 0, .int .u32 0] 26)) := by
        clear fa0_13 hQ h3
        generalize a0_13.eval = ρ at *
        go_simp
      obtain ⟨bx, hbx⟩ : ∃ bx, bx = (Wn).heap.size := ⟨_, rfl⟩
      obtain ⟨Wa, hWa⟩ : ∃ Wa, Wa = (Wn).alloc (.cells #[.slice none 0 0, .slice none 0 0, .int .i64 0, .int .u32 0] 26) := ⟨_, rfl⟩
      have s_a : Same (Wn) Wa := by rw [hWa]; exact (Fr.refl _ _).alloc _
      have bx0 : Wa.heap[bx]? = some (.cells #[.slice none 0 0, .slice none 0 0, .int .i64 0, .int .u32 0] 26 (0, 0)) := by rw [hWa, hbx]; exact heap_alloc_new _ _
      have hbw : wr.heap.size ≤ bx := by rw [hbx]; exact (((dd).trans s_n)).size
      rw [← hbx, ← hWa] at r_a0_14
      have hS14 : (fun Z => Same wr Z) Wa := ((((dd).trans s_n)).trans s_a)
      refine fa0_13.kVal hK 8 _ rfl (lb_ hsz) (wanted_none rfl) r_a0_14 hS14 (fun a0_14 fa0_14 => ?_)
      clear r_a0_14 fa0_13
      have r_a0_15 : (execOp a0_14.eval { dst := some 36, op := Op.call { callee := Callee.value (Operand.func 6), args := #[Operand.tmp 35], argTypes := #[22] }, type := 22, pos := "law.go:114", after := #[{ on := 6, ground := Ground.data }, { on := 3, ground := Ground.chain }], guard := none }).run Try.prog (Wa) = .ok (.enter 6 #[.slice la ln llc]) (Wa) := by
        have kf : ∀ f, a0_14.eval (.func f) = .func (.func f) #[] #[] := fun _ => rfl
        have e35 := (show a0_14.eval (.tmp 35) = .slice la ln llc from (fa0_14.at_ 35))
        clear fa0_14 hQ h3
        generalize a0_14.eval = ρ at *
        go_simp
      refine fa0_14.oneCall 7 36 (by kernel_rfl) rfl rfl (lb_ hsz) (wanted_none rfl) r_a0_15 (kl _ ((((dd).trans s_n)).trans s_a)) (fun e Wl hR => ?_)
      obtain ⟨gl, cl, ML2, rfl, l1, s_l⟩ := hR
      clear r_a0_15
      have hbx15 := (s_l.block _ (lt_of_heap bx0) (fun f => f)).trans bx0
      have hS15 : (fun Z => Same wr Z) Wl := ((((((dd).trans s_n)).trans s_a)).trans s_l)
      refine ⟨_, rfl, hS15, fun a0_15 fa0_15 => ?_⟩
      clear fa0_14
      have r_a0_16 : ∀ Z, (fun Z => Same wr Z) Z → (execOp a0_15.eval { dst := some 43, op := Op.build 26 #[(0, Operand.tmp 32), (1, Operand.tmp 36), (2, Operand.tmp 39), (3, Operand.tmp 42)], type := 26, pos := "law.go:114", after := #[{ on := 3, ground := Ground.data }, { on := 7, ground := Ground.data }, { on := 10, ground := Ground.data }, { on := 13, ground := Ground.data }], guard := none }).run Try.prog Z = .ok (.value (.agg #[.slice (some ⟨gt, 0, none⟩) tn ct, .slice (some ⟨gl, 0, none⟩) ln cl, .int .i64 op, .int .u32 pgs])) Z := fun Z hZ => by
        have e32 := (show a0_15.eval (.tmp 32) = .slice (some ⟨gt, 0, none⟩) tn ct from (fa0_15.at_ 32))
        have e36 := (show a0_15.eval (.tmp 36) = .slice (some ⟨gl, 0, none⟩) ln cl from (fa0_15.at_ 36))
        have e39 := (show a0_15.eval (.tmp 39) = .int .i64 op from (fa0_15.at_ 39))
        have e42 := (show a0_15.eval (.tmp 42) = .int .u32 pgs from (fa0_15.at_ 42))
        clear fa0_15 hQ h3
        generalize a0_15.eval = ρ at *
        go_simp
      refine fa0_15.take 14 43 (.agg #[.slice (some ⟨gt, 0, none⟩) tn ct, .slice (some ⟨gl, 0, none⟩) ln cl, .int .i64 op, .int .u32 pgs]) rfl (by kernel_rfl) (by kernel_rfl) (by kernel_rfl) (fun _ _ _ h => hQp _ _ _ _ _ h) rfl (lb_ hsz) (wanted_none rfl) r_a0_16 hS15 (fun a0_16 fa0_16 => ?_)
      clear r_a0_16
      clear fa0_15
      refine fa0_16.oneStore 16 (by kernel_rfl) rfl rfl rfl 26 _ _ rfl bx #[.slice (some ⟨gt, 0, none⟩) tn ct, .slice (some ⟨gl, 0, none⟩) ln cl, .int .i64 op, .int .u32 pgs] #[.slice none 0 0, .slice none 0 0, .int .i64 0, .int .u32 0] 26 (show a0_16.eval (.tmp 8) = .pointer (some ⟨bx, 0, none⟩) from (fa0_16.at_ 8)) (show a0_16.eval (.tmp 43) = .agg #[.slice (some ⟨gt, 0, none⟩) tn ct, .slice (some ⟨gl, 0, none⟩) ln cl, .int .i64 op, .int .u32 pgs] from (fa0_16.at_ 43)) hbx15 rfl (by kernel_rfl) (by kernel_rfl) (fun W9 r9 f9 => ?_)
      have s9 : Same wr W9 := Fr.trans ((((((dd).trans s_n)).trans s_a)).trans s_l) f9 (fun k hk e => by omega)
      refine ⟨s9, fun a9 f99 => ?_⟩
      refine wpAnyH_done (by kernel_rfl) ?_ _
      refine hQ a9 W9 bx gt ct gl cl ML2 _ f99 ?_ (f99.at_ 8) r9 (l1.fr9 f9 hbx15) s9
      intro t ht; rcases ht with rfl | rfl | rfl | rfl | rfl | rfl <;> rfl
  · have r_a0_13 : (execOp a0_12.eval { dst := some 8, op := Op.alloc 26, type := 0, pos := "law.go:114", after := #[], guard := none }).run Try.prog (wr.drew) = .ok (.value (.pointer (some ⟨(wr.drew).heap.size, 0, none⟩))) ((wr.drew).alloc (.cells #[.slice none 0 0, .slice none 0 0, .int .i64 0, .int .u32 0] 26)) := by
      clear fa0_12 hQ h3
      generalize a0_12.eval = ρ at *
      go_simp
    obtain ⟨bx, hbx⟩ : ∃ bx, bx = (wr.drew).heap.size := ⟨_, rfl⟩
    obtain ⟨Wa, hWa⟩ : ∃ Wa, Wa = (wr.drew).alloc (.cells #[.slice none 0 0, .slice none 0 0, .int .i64 0, .int .u32 0] 26) := ⟨_, rfl⟩
    have s_a : Same (wr.drew) Wa := by rw [hWa]; exact (Fr.refl _ _).alloc _
    have bx0 : Wa.heap[bx]? = some (.cells #[.slice none 0 0, .slice none 0 0, .int .i64 0, .int .u32 0] 26 (0, 0)) := by rw [hWa, hbx]; exact heap_alloc_new _ _
    have hbw : wr.heap.size ≤ bx := by rw [hbx]; exact (dd).size
    rw [← hbx, ← hWa] at r_a0_13
    have hS13 : (fun Z => Same wr Z) Wa := ((dd).trans s_a)
    refine fa0_12.kVal hK 8 _ rfl (lb_ hsz) (wanted_none rfl) r_a0_13 hS13 (fun a0_13 fa0_13 => ?_)
    clear r_a0_13 fa0_12
    have r_a0_14 : (execOp a0_13.eval { dst := some 32, op := Op.call { callee := Callee.value (Operand.func 7), args := #[Operand.tmp 31], argTypes := #[23] }, type := 23, pos := "law.go:114", after := #[{ on := 2, ground := Ground.data }], guard := none }).run Try.prog (Wa) = .ok (.enter 7 #[.slice ta tn tc]) (Wa) := by
      have kf : ∀ f, a0_13.eval (.func f) = .func (.func f) #[] #[] := fun _ => rfl
      have e31 := (show a0_13.eval (.tmp 31) = .slice ta tn tc from (fa0_13.at_ 31))
      clear fa0_13 hQ h3
      generalize a0_13.eval = ρ at *
      go_simp
    refine fa0_13.oneCall 3 32 (by kernel_rfl) rfl rfl (lb_ hsz) (wanted_none rfl) r_a0_14 (kn _ ((dd).trans s_a)) (fun e Wn hR => ?_)
    obtain ⟨gt, ct, rfl, s_n⟩ := hR
    clear r_a0_14
    have hbx14 := (s_n.block _ (lt_of_heap bx0) (fun f => f)).trans bx0
    have hS14 : (fun Z => Same wr Z) Wn := ((((dd).trans s_a)).trans s_n)
    refine ⟨_, rfl, hS14, fun a0_14 fa0_14 => ?_⟩
    clear fa0_13
    have r_a0_15 : (execOp a0_14.eval { dst := some 36, op := Op.call { callee := Callee.value (Operand.func 6), args := #[Operand.tmp 35], argTypes := #[22] }, type := 22, pos := "law.go:114", after := #[{ on := 6, ground := Ground.data }, { on := 3, ground := Ground.chain }], guard := none }).run Try.prog (Wn) = .ok (.enter 6 #[.slice la ln llc]) (Wn) := by
      have kf : ∀ f, a0_14.eval (.func f) = .func (.func f) #[] #[] := fun _ => rfl
      have e35 := (show a0_14.eval (.tmp 35) = .slice la ln llc from (fa0_14.at_ 35))
      clear fa0_14 hQ h3
      generalize a0_14.eval = ρ at *
      go_simp
    refine fa0_14.oneCall 7 36 (by kernel_rfl) rfl rfl (lb_ hsz) (wanted_none rfl) r_a0_15 (kl _ ((((dd).trans s_a)).trans s_n)) (fun e Wl hR => ?_)
    obtain ⟨gl, cl, ML2, rfl, l1, s_l⟩ := hR
    clear r_a0_15
    have hbx15 := (s_l.block _ (lt_of_heap hbx14) (fun f => f)).trans hbx14
    have hS15 : (fun Z => Same wr Z) Wl := ((((((dd).trans s_a)).trans s_n)).trans s_l)
    refine ⟨_, rfl, hS15, fun a0_15 fa0_15 => ?_⟩
    clear fa0_14
    have r_a0_16 : ∀ Z, (fun Z => Same wr Z) Z → (execOp a0_15.eval { dst := some 43, op := Op.build 26 #[(0, Operand.tmp 32), (1, Operand.tmp 36), (2, Operand.tmp 39), (3, Operand.tmp 42)], type := 26, pos := "law.go:114", after := #[{ on := 3, ground := Ground.data }, { on := 7, ground := Ground.data }, { on := 10, ground := Ground.data }, { on := 13, ground := Ground.data }], guard := none }).run Try.prog Z = .ok (.value (.agg #[.slice (some ⟨gt, 0, none⟩) tn ct, .slice (some ⟨gl, 0, none⟩) ln cl, .int .i64 op, .int .u32 pgs])) Z := fun Z hZ => by
      have e32 := (show a0_15.eval (.tmp 32) = .slice (some ⟨gt, 0, none⟩) tn ct from (fa0_15.at_ 32))
      have e36 := (show a0_15.eval (.tmp 36) = .slice (some ⟨gl, 0, none⟩) ln cl from (fa0_15.at_ 36))
      have e39 := (show a0_15.eval (.tmp 39) = .int .i64 op from (fa0_15.at_ 39))
      have e42 := (show a0_15.eval (.tmp 42) = .int .u32 pgs from (fa0_15.at_ 42))
      clear fa0_15 hQ h3
      generalize a0_15.eval = ρ at *
      go_simp
    refine fa0_15.take 14 43 (.agg #[.slice (some ⟨gt, 0, none⟩) tn ct, .slice (some ⟨gl, 0, none⟩) ln cl, .int .i64 op, .int .u32 pgs]) rfl (by kernel_rfl) (by kernel_rfl) (by kernel_rfl) (fun _ _ _ h => hQp _ _ _ _ _ h) rfl (lb_ hsz) (wanted_none rfl) r_a0_16 hS15 (fun a0_16 fa0_16 => ?_)
    clear r_a0_16
    clear fa0_15
    refine fa0_16.oneStore 16 (by kernel_rfl) rfl rfl rfl 26 _ _ rfl bx #[.slice (some ⟨gt, 0, none⟩) tn ct, .slice (some ⟨gl, 0, none⟩) ln cl, .int .i64 op, .int .u32 pgs] #[.slice none 0 0, .slice none 0 0, .int .i64 0, .int .u32 0] 26 (show a0_16.eval (.tmp 8) = .pointer (some ⟨bx, 0, none⟩) from (fa0_16.at_ 8)) (show a0_16.eval (.tmp 43) = .agg #[.slice (some ⟨gt, 0, none⟩) tn ct, .slice (some ⟨gl, 0, none⟩) ln cl, .int .i64 op, .int .u32 pgs] from (fa0_16.at_ 43)) hbx15 rfl (by kernel_rfl) (by kernel_rfl) (fun W9 r9 f9 => ?_)
    have s9 : Same wr W9 := Fr.trans ((((((dd).trans s_a)).trans s_n)).trans s_l) f9 (fun k hk e => by omega)
    refine ⟨s9, fun a9 f99 => ?_⟩
    refine wpAnyH_done (by kernel_rfl) ?_ _
    refine hQ a9 W9 bx gt ct gl cl ML2 _ f99 ?_ (f99.at_ 8) r9 (l1.fr9 f9 hbx15) s9
    intro t ht; rcases ht with rfl | rfl | rfl | rfl | rfl | rfl <;> rfl
end Go.Proofs.Ytneopkhkkfckcaa
