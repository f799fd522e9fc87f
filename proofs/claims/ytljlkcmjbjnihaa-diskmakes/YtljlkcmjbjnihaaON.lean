/- disk: lose, Crash, Sync. -/
import Derived.Test.YtljlkcmjbjnihaaOM
namespace Go.Proofs.Ytljlkcmjbjnihaa
open Go.RowKit

/-- Fates in memory. -/
structure FtRow (w : World) (fa : Option Addr) (F : List Nat) : Prop where
  place : F ≠ [] → ∃ g o, fa = some ⟨g, o, none⟩
  cells : ∀ g o, fa = some ⟨g, o, none⟩ → ∀ (j : Nat) (x : Nat), F[j]? = some x → w.cell? ⟨g, o + j, none⟩ = some (.int .u8 (x : Int))
theorem FtRow.fr {w w' : World} {fa : Option Addr} {F : List Nat} {S : Nat → Prop} (h : FtRow w fa F) (f : Fr S w w') (hn : ∀ g o, fa = some ⟨g, o, none⟩ → ¬ S g) : FtRow w' fa F :=
  ⟨h.place, fun g o e j x hx => (f.cell (World.block_lt_of_cell? _ _ (h.cells g o e j x hx)) (hn g o e)).trans (h.cells g o e j x hx)⟩
def fateF (F : List Nat) (i : Nat) : Nat := (F[i]?).getD 0
set_option maxRecDepth 100000 in
theorem lose1_calls {fb i fc : Nat} {fa : Option Addr} {F : List Nat} (w : World) (c : w.cell? ⟨fb, 0, none⟩ = some (.slice fa F.length fc)) (hr : FtRow w fa F) :
    Calls Try.prog 49 #[.int .i64 (i : Int), .pointer (some ⟨fb, 0, none⟩)] w fun e w' => e = .returned (.int .u8 (fateF F i : Int)) ∧ w' = w := by
  by_cases hi : i < F.length
  · obtain ⟨x, hx⟩ : ∃ x, F[i]? = some x := ⟨_, List.getElem?_eq_getElem hi⟩
    obtain ⟨g, o, rfl⟩ := hr.place (by intro e; rw [e] at hi; cases hi)
    have c1 := hr.cells g o rfl i x hx
    have hii : (i : Int) < (F.length : Int) := by omega
    have e1 : fateF F i = x := by unfold fateF; rw [hx]; rfl
    rw [e1]
    clear hr hx e1 hi
    go_enter Try.func49, Try.ntmps49
    go_wp2_with fail
    go_ret
    exact ⟨rfl, rfl⟩
  · have hii : ¬ (i : Int) < (F.length : Int) := by omega
    have e1 : fateF F i = 0 := by unfold fateF; rw [List.getElem?_eq_none (by omega)]; rfl
    rw [e1]
    clear hr e1 hi
    go_enter Try.func49, Try.ntmps49
    go_wp2_with fail
    go_ret
    exact ⟨rfl, rfl⟩
theorem sync1_calls {i : Int} (w : World) : Calls Try.prog 43 #[.int .i64 i] w fun e w' => e = .returned (.int .u8 ((255 : Nat) : Int)) ∧ w' = w := by
  go_enter Try.func43, Try.ntmps43
  go_wp2_with fail
  go_ret
  exact ⟨rfl, rfl⟩
/-- What a disk is: its pages are whole, what waits may be. -/
structure DkOk (D : Dk) : Prop where
  h8 : D.page = 8 * (D.page / 8)
  hp0 : 0 < D.page
  hp1 : D.page ≤ 8192
  P : ∀ s ∈ D.P, s.size = D.page
  I : ∀ s ∈ D.I, s.size = D.page
  W : ∀ x ∈ D.W, WtOk D.page x
/-- Its numbers are not too great. -/
structure DkSm (D : Dk) (n : Nat) : Prop where
  P : D.P.length ≤ n
  I : D.I.length ≤ n
  W : D.W.length ≤ n
  wr : D.wr ≤ n
  gr : D.gr ≤ n
  sy : D.sy ≤ n
  life : D.life ≤ n
  taken : D.taken ≤ n
def dkLose (D : Dk) (F : List Nat) : Dk := { D with P := setP D.page (fateF F) 0 D.W D.I, I := setP D.page (fateF F) 0 D.W D.I, W := [], off := true, taken := D.taken + 1 }
def dkSync (D : Dk) : Dk := { D with I := setP D.page (fun _ => 255) 0 D.W D.I, W := [], sy := D.sy + 1 }
theorem land_same {S : Nat → Prop} {w W W2 : World} {k : Nat} (h : Land S w W k) (hs : W.heap.size ≤ W2.heap.size) : Land S w W2 k := h.imp id (fun e => ⟨e.1, Nat.lt_of_lt_of_le e.2 hs⟩)
def rON0 : Array Oper := #[{ dst := some 3, op := Op.box 80 (Operand.tmp 1), type := 0, pos := "power.go:51", after := #[], guard := none }]
def rON1 : Array Oper := #[{ dst := some 4, op := Op.move (Operand.tmp 0), type := 27, pos := "power.go:52", after := #[], guard := none },
  { dst := some 5, op := Op.makeFunc (Go.Fn.func 49) #[] #[Operand.tmp 3], type := 87, pos := "power.go:52", after := #[], guard := none },
  { dst := some 6, op := Op.call { callee := Callee.value (Operand.func 42), args := #[Operand.tmp 4, Operand.tmp 5], argTypes := #[27, 87] }, type := 0, pos := "power.go:52", after := #[{ on := 0, ground := Ground.data }, { on := 1, ground := Ground.data }], guard := none }]
def rON2 : Array Oper := #[{ dst := some 7, op := Op.move (Operand.tmp 0), type := 27, pos := "power.go:58", after := #[], guard := none },
  { dst := some 8, op := Op.move (Operand.tmp 0), type := 27, pos := "power.go:58", after := #[], guard := none },
  { dst := some 9, op := Op.nilCheck (Operand.tmp 8), type := 0, pos := "power.go:58", after := #[{ on := 1, ground := Ground.data }], guard := none },
  { dst := some 10, op := Op.fieldAddr 51 (Operand.tmp 9) 1, type := 0, pos := "power.go:58", after := #[{ on := 2, ground := Ground.data }], guard := none },
  { dst := some 11, op := Op.call { callee := Callee.value (Operand.func 15), args := #[Operand.tmp 10], argTypes := #[46] }, type := 46, pos := "power.go:58", after := #[{ on := 3, ground := Ground.data }], guard := none },
  { dst := some 12, op := Op.nilCheck (Operand.tmp 7), type := 0, pos := "power.go:58", after := #[{ on := 0, ground := Ground.data }, { on := 0, ground := Ground.phase }, { on := 1, ground := Ground.phase }, { on := 2, ground := Ground.phase }, { on := 3, ground := Ground.phase }, { on := 4, ground := Ground.phase }], guard := none },
  { dst := some 13, op := Op.fieldAddr 51 (Operand.tmp 12) 0, type := 0, pos := "power.go:58", after := #[{ on := 5, ground := Ground.data }, { on := 0, ground := Ground.phase }, { on := 1, ground := Ground.phase }, { on := 2, ground := Ground.phase }, { on := 3, ground := Ground.phase }, { on := 4, ground := Ground.phase }], guard := none },
  { dst := none, op := Op.store 46 (Operand.tmp 13) (Operand.tmp 11), type := 0, pos := "power.go:58", after := #[{ on := 6, ground := Ground.data }, { on := 4, ground := Ground.data }, { on := 4, ground := Ground.chain }, { on := 0, ground := Ground.phase }, { on := 1, ground := Ground.phase }, { on := 2, ground := Ground.phase }, { on := 3, ground := Ground.phase }, { on := 4, ground := Ground.phase }], guard := none }]
def rON3 : Array Oper := #[{ dst := some 14, op := Op.move (Operand.tmp 0), type := 27, pos := "power.go:59", after := #[], guard := none },
  { dst := some 15, op := Op.nilCheck (Operand.tmp 14), type := 0, pos := "power.go:59", after := #[{ on := 0, ground := Ground.data }, { on := 0, ground := Ground.phase }], guard := none },
  { dst := some 16, op := Op.fieldAddr 51 (Operand.tmp 15) 5, type := 0, pos := "power.go:59", after := #[{ on := 1, ground := Ground.data }, { on := 0, ground := Ground.phase }], guard := none },
  { dst := none, op := Op.store 49 (Operand.tmp 16) (Operand.const (Value.slice none 0 0)), type := 0, pos := "power.go:59", after := #[{ on := 2, ground := Ground.data }, { on := 0, ground := Ground.phase }], guard := none }]
def rON4 : Array Oper := #[{ dst := some 17, op := Op.move (Operand.tmp 0), type := 27, pos := "power.go:60", after := #[], guard := none },
  { dst := some 18, op := Op.nilCheck (Operand.tmp 17), type := 0, pos := "power.go:60", after := #[{ on := 0, ground := Ground.data }, { on := 0, ground := Ground.phase }], guard := none },
  { dst := some 19, op := Op.fieldAddr 51 (Operand.tmp 18) 3, type := 0, pos := "power.go:60", after := #[{ on := 1, ground := Ground.data }, { on := 0, ground := Ground.phase }], guard := none },
  { dst := none, op := Op.store 4 (Operand.tmp 19) (Operand.const (Value.bool true)), type := 0, pos := "power.go:60", after := #[{ on := 2, ground := Ground.data }, { on := 0, ground := Ground.phase }], guard := none }]
def rON5 : Array Oper := #[{ dst := some 20, op := Op.move (Operand.tmp 0), type := 27, pos := "power.go:61", after := #[], guard := none },
  { dst := some 21, op := Op.nilCheck (Operand.tmp 20), type := 0, pos := "power.go:61", after := #[{ on := 0, ground := Ground.data }], guard := none },
  { dst := some 22, op := Op.fieldAddr 51 (Operand.tmp 21) 8, type := 0, pos := "power.go:61", after := #[{ on := 1, ground := Ground.data }], guard := none },
  { dst := some 23, op := Op.load 3 (Operand.tmp 22), type := 3, pos := "power.go:61", after := #[{ on := 2, ground := Ground.data }], guard := none },
  { dst := some 24, op := Op.binOp BinOp.add 3 (Operand.tmp 23) (Operand.const (Value.int IntKind.i64 1)) 3, type := 3, pos := "power.go:61", after := #[{ on := 3, ground := Ground.data }], guard := none },
  { dst := some 25, op := Op.nilCheck (Operand.tmp 20), type := 0, pos := "power.go:61", after := #[{ on := 0, ground := Ground.data }, { on := 0, ground := Ground.phase }, { on := 1, ground := Ground.phase }, { on := 2, ground := Ground.phase }, { on := 3, ground := Ground.phase }, { on := 4, ground := Ground.phase }], guard := none },
  { dst := some 26, op := Op.fieldAddr 51 (Operand.tmp 25) 8, type := 0, pos := "power.go:61", after := #[{ on := 5, ground := Ground.data }, { on := 0, ground := Ground.phase }, { on := 1, ground := Ground.phase }, { on := 2, ground := Ground.phase }, { on := 3, ground := Ground.phase }, { on := 4, ground := Ground.phase }], guard := none },
  { dst := none, op := Op.store 3 (Operand.tmp 26) (Operand.tmp 24), type := 0, pos := "power.go:61", after := #[{ on := 6, ground := Ground.data }, { on := 4, ground := Ground.data }, { on := 0, ground := Ground.phase }, { on := 1, ground := Ground.phase }, { on := 2, ground := Ground.phase }, { on := 3, ground := Ground.phase }, { on := 4, ground := Ground.phase }], guard := none }]
def cON : Code := (Code.seq (Code.region 0 rON0 false) (Code.seq (Code.region 1 rON1 false) (Code.seq (Code.region 2 rON2 false) (Code.seq (Code.region 3 rON3 false) (Code.seq (Code.region 4 rON4 false) (Code.region 5 rON5 false))))))
theorem DkO.noArms {w : World} {b : Nat} {D : Dk} {S : Nat → Prop} {pa ia wa aa : Option Addr} {pc ic wc ac : Nat} (h : DkO w b D S pa ia wa aa pc ic wc ac) : DkO (w.setCell ⟨b, 7, none⟩ (.slice none 0 0)) b D S pa ia wa none pc ic wc 0 ∧ Fr S w (w.setCell ⟨b, 7, none⟩ (.slice none 0 0)) := by
  have f : Fr (fun k => k = b) w (w.setCell ⟨b, 7, none⟩ (.slice none 0 0)) := Fr.setCell (S := fun k => k = b) (Fr.refl _ w) (p := ⟨b, 7, none⟩) (fun _ => rfl) _
  refine ⟨⟨?_, own_frameB h.rP f (fun k hk e => own_neT h.rP h.row (by decide) k hk e), own_frameB h.rI f (fun k hk e => own_neT h.rI h.row (by decide) k hk e), own_frameB h.rW f (fun k hk e => own_neT h.rW h.row (by decide) k hk e), h.sP, h.sI, h.sW, h.ne, h.mem, fun k hk => Nat.lt_of_lt_of_le (h.lt k hk) f.size⟩, f.mono (fun k _ e => e ▸ h.mem)⟩
  rw [heap_setCell_same w b 7 _ _ _ h.row]; rfl
set_option maxRecDepth 100000 in
set_option maxHeartbeats 1000000 in
theorem lose_calls {b fc : Nat} {fa : Option Addr} {F : List Nat} {D : Dk} {S : Nat → Prop} {pa ia wa aa : Option Addr} {pc ic wc ac : Nat} (w : World) (h : DkO w b D S pa ia wa aa pc ic wc ac) (hk : DkOk D) (hm : DkSm D 1048576) (hmI : (setP D.page (fateF F) 0 D.W D.I).length ≤ 1048576) (hft : FtRow w fa F) (hfs : ∀ g o, fa = some ⟨g, o, none⟩ → ¬ S g) :
    Calls Try.prog 41 #[.pointer (some ⟨b, 0, none⟩), .slice fa F.length fc] w fun e w' => e = .returned (.tuple #[]) ∧ (∃ pa' ia' wa' pc' ic' wc', DkO w' b (dkLose D F) (Land S w w') pa' ia' wa' none pc' ic' wc' 0) ∧ Fr S w w' := by
  have ht := hm.taken
  have wt1 : IntKind.i64.wrap ((D.taken : Int) + 1) = (D.taken : Int) + 1 := by rw [IntKind.wrap_i64]; omega
  clear ht
  refine calls_abs (c := cON) Try.func41 (by kernel_rfl) 27 rfl (by simp) (fun a0 hsz hd ha => ?_)
  have fa0_0 := Fe.refl a0
  unfold cON
  refine wp_seq ?_
  refine wp_region_list ?_
  unfold rON0
  have r_a0_1 : (execOp a0.eval { dst := some 3, op := Op.box 80 (Operand.tmp 1), type := 0, pos := "power.go:51", after := #[], guard := none }).run Try.prog (w) = .ok (.value (.pointer (some ⟨w.heap.size, 0, none⟩))) (w.alloc (.cells #[.slice fa F.length fc] 80)) := by
    have e1 := (show a0.eval (.tmp 1) = .slice fa F.length fc from ((fa0_0.at_ 1).trans (ha 1 _ rfl)))
    clear fa0_0 ha
    generalize a0.eval = ρ at *
    go_simp
  refine fa0_0.stepW 3 (.pointer (some ⟨w.heap.size, 0, none⟩)) rfl (lb_ hsz) (wanted_none rfl) r_a0_1 (fun a0_1 fa0_1 => ?_)
  clear r_a0_1
  obtain ⟨V, hV⟩ : ∃ V, V = w.alloc (.cells #[.slice fa F.length fc] 80) := ⟨_, rfl⟩
  rw [← hV]
  have sV : Same w V := by rw [hV]; exact (Fr.refl _ w).alloc _
  have hVr : V.heap[w.heap.size]? = some (.cells #[.slice fa F.length fc] 80 (0, 0)) := by rw [hV]; exact heap_alloc_new w _
  clear hV
  have hF : ∀ W (i : Nat), i < D.W.length → Fr S V W → Calls Try.prog 49 #[.int .i64 (i : Int), .pointer (some ⟨w.heap.size, 0, none⟩)] W fun e w' => e = .returned (.int .u8 (fateF F i : Int)) ∧ w' = W := fun W i _ f => by
      have hn : ¬ S w.heap.size := fun e => by have := h.lt _ e; omega
      exact lose1_calls W ((cell_of_row _ _ _ _ _ _ (heap_fr hVr f hn)).trans rfl) ((hft.fr (S := fun _ => False) sV (fun _ _ _ f => f)).fr f hfs)
  clear fa0_0
  refine wpList_nil ?_
  change Code.wp _ _ _ _ _
  refine wp_seq ?_
  refine wp_region_list ?_
  unfold rON1
  refine fa0_1.move 4 (.pointer (some ⟨b, 0, none⟩)) _ (Or.inl rfl) rfl (lb_ hsz) (wanted_none rfl) ((fa0_1.at_ 0).trans (ha 0 _ rfl)) (fun a0_2 fa0_2 => ?_)
  clear fa0_1
  have r_a0_3 : (execOp a0_2.eval { dst := some 5, op := Op.makeFunc (Go.Fn.func 49) #[] #[Operand.tmp 3], type := 87, pos := "power.go:52", after := #[], guard := none }).run Try.prog (V) = .ok (.value (.func (.func 49) #[] #[.pointer (some ⟨w.heap.size, 0, none⟩)])) (V) := by
    have e3 := (show a0_2.eval (.tmp 3) = .pointer (some ⟨w.heap.size, 0, none⟩) from (fa0_2.at_ 3))
    clear fa0_2 ha
    generalize a0_2.eval = ρ at *
    go_simp
  refine fa0_2.step 5 (.func (.func 49) #[] #[.pointer (some ⟨w.heap.size, 0, none⟩)]) rfl (lb_ hsz) (wanted_none rfl) r_a0_3 (fun a0_3 fa0_3 => ?_)
  clear r_a0_3
  clear fa0_2
  have r_a0_4 : (execOp a0_3.eval { dst := some 6, op := Op.call { callee := Callee.value (Operand.func 42), args := #[Operand.tmp 4, Operand.tmp 5], argTypes := #[27, 87] }, type := 0, pos := "power.go:52", after := #[{ on := 0, ground := Ground.data }, { on := 1, ground := Ground.data }], guard := none }).run Try.prog (V) = .ok (.enter 42 #[.pointer (some ⟨b, 0, none⟩), .func (.func 49) #[] #[.pointer (some ⟨w.heap.size, 0, none⟩)]]) (V) := by
    have kf : ∀ f, a0_3.eval (.func f) = .func (.func f) #[] #[] := fun _ => rfl
    have e4 := (show a0_3.eval (.tmp 4) = .pointer (some ⟨b, 0, none⟩) from (fa0_3.at_ 4))
    have e5 := (show a0_3.eval (.tmp 5) = .func (.func 49) #[] #[.pointer (some ⟨w.heap.size, 0, none⟩)] from (fa0_3.at_ 5))
    clear fa0_3 ha
    generalize a0_3.eval = ρ at *
    go_simp
  refine fa0_3.call 6 rfl (lb_ hsz) (wanted_none rfl) r_a0_4 (settleL_calls (fb := w.heap.size) V (h.same sV) hk.h8 hk.hp0 hk.hp1 hk.I hk.W hm.W hF) (fun e V1 hR => ?_)
  obtain ⟨rfl, ⟨ia2, ic2, d1⟩, f1⟩ := hR
  clear r_a0_4
  have g0 := d1.cell 2 rfl
  have g1 := d1.cell 3 rfl
  obtain ⟨pb, hr⟩ := trow_own d1.rI
  have hlen : (setP D.page (fateF F) 0 D.W D.I).length ≤ 1048576 := hmI
  refine ⟨_, rfl, fun a0_4 fa0_4 => ?_⟩
  clear fa0_3
  refine wpList_nil ?_
  change Code.wp _ _ _ _ _
  refine wp_seq ?_
  refine wp_region_list ?_
  unfold rON2
  refine fa0_4.move 7 (.pointer (some ⟨b, 0, none⟩)) _ (Or.inl rfl) rfl (lb_ hsz) (wanted_none rfl) ((fa0_4.at_ 0).trans (ha 0 _ rfl)) (fun a0_5 fa0_5 => ?_)
  clear fa0_4
  refine fa0_5.move 8 (.pointer (some ⟨b, 0, none⟩)) _ (Or.inl rfl) rfl (lb_ hsz) (wanted_none rfl) ((fa0_5.at_ 0).trans (ha 0 _ rfl)) (fun a0_6 fa0_6 => ?_)
  clear fa0_5
  have r_a0_7 : (execOp a0_6.eval { dst := some 9, op := Op.nilCheck (Operand.tmp 8), type := 0, pos := "power.go:58", after := #[{ on := 1, ground := Ground.data }], guard := none }).run Try.prog (V1) = .ok (.value (.pointer (some ⟨b, 0, none⟩))) (V1) := by
    have e8 := (show a0_6.eval (.tmp 8) = .pointer (some ⟨b, 0, none⟩) from (fa0_6.at_ 8))
    clear fa0_6 ha
    generalize a0_6.eval = ρ at *
    go_simp
  refine fa0_6.step 9 (.pointer (some ⟨b, 0, none⟩)) rfl (lb_ hsz) (wanted_none rfl) r_a0_7 (fun a0_7 fa0_7 => ?_)
  clear r_a0_7
  clear fa0_6
  have r_a0_8 : (execOp a0_7.eval { dst := some 10, op := Op.fieldAddr 51 (Operand.tmp 9) 1, type := 0, pos := "power.go:58", after := #[{ on := 2, ground := Ground.data }], guard := none }).run Try.prog (V1) = .ok (.value (.pointer (some ⟨b, 2, none⟩))) (V1) := by
    have e9 := (show a0_7.eval (.tmp 9) = .pointer (some ⟨b, 0, none⟩) from (fa0_7.at_ 9))
    clear fa0_7 ha
    generalize a0_7.eval = ρ at *
    go_simp
  refine fa0_7.step 10 (.pointer (some ⟨b, 2, none⟩)) rfl (lb_ hsz) (wanted_none rfl) r_a0_8 (fun a0_8 fa0_8 => ?_)
  clear r_a0_8
  clear fa0_7
  have r_a0_9 : (execOp a0_8.eval { dst := some 11, op := Op.call { callee := Callee.value (Operand.func 15), args := #[Operand.tmp 10], argTypes := #[46] }, type := 46, pos := "power.go:58", after := #[{ on := 3, ground := Ground.data }], guard := none }).run Try.prog (V1) = .ok (.enter 15 #[.pointer (some ⟨b, 2, none⟩)]) (V1) := by
    have kf : ∀ f, a0_8.eval (.func f) = .func (.func f) #[] #[] := fun _ => rfl
    have e10 := (show a0_8.eval (.tmp 10) = .pointer (some ⟨b, 2, none⟩) from (fa0_8.at_ 10))
    clear fa0_8 ha
    generalize a0_8.eval = ρ at *
    go_simp
  refine fa0_8.call 11 rfl (lb_ hsz) (wanted_none rfl) r_a0_9 (sclone_calls (o := 2) (l := setP D.page (fateF F) 0 D.W D.I) V1 g0 g1 hr hlen) (fun e V2 hR => ?_)
  obtain ⟨ao, c, rfl, o2, s2⟩ := hR
  clear r_a0_9
  have d2 := d1.same s2
  refine ⟨_, rfl, fun a0_9 fa0_9 => ?_⟩
  clear fa0_8
  have r_a0_10 : (execOp a0_9.eval { dst := some 12, op := Op.nilCheck (Operand.tmp 7), type := 0, pos := "power.go:58", after := #[{ on := 0, ground := Ground.data }, { on := 0, ground := Ground.phase }, { on := 1, ground := Ground.phase }, { on := 2, ground := Ground.phase }, { on := 3, ground := Ground.phase }, { on := 4, ground := Ground.phase }], guard := none }).run Try.prog (V2) = .ok (.value (.pointer (some ⟨b, 0, none⟩))) (V2) := by
    have e7 := (show a0_9.eval (.tmp 7) = .pointer (some ⟨b, 0, none⟩) from (fa0_9.at_ 7))
    clear fa0_9 ha
    generalize a0_9.eval = ρ at *
    go_simp
  refine fa0_9.step 12 (.pointer (some ⟨b, 0, none⟩)) rfl (lb_ hsz) (wanted_none rfl) r_a0_10 (fun a0_10 fa0_10 => ?_)
  clear r_a0_10
  clear fa0_9
  have r_a0_11 : (execOp a0_10.eval { dst := some 13, op := Op.fieldAddr 51 (Operand.tmp 12) 0, type := 0, pos := "power.go:58", after := #[{ on := 5, ground := Ground.data }, { on := 0, ground := Ground.phase }, { on := 1, ground := Ground.phase }, { on := 2, ground := Ground.phase }, { on := 3, ground := Ground.phase }, { on := 4, ground := Ground.phase }], guard := none }).run Try.prog (V2) = .ok (.value (.pointer (some ⟨b, 0, none⟩))) (V2) := by
    have e12 := (show a0_10.eval (.tmp 12) = .pointer (some ⟨b, 0, none⟩) from (fa0_10.at_ 12))
    clear fa0_10 ha
    generalize a0_10.eval = ρ at *
    go_simp
  refine fa0_10.step 13 (.pointer (some ⟨b, 0, none⟩)) rfl (lb_ hsz) (wanted_none rfl) r_a0_11 (fun a0_11 fa0_11 => ?_)
  clear r_a0_11
  clear fa0_10
  have r_a0_12 : (execOp a0_11.eval { dst := none, op := Op.store 46 (Operand.tmp 13) (Operand.tmp 11), type := 0, pos := "power.go:58", after := #[{ on := 6, ground := Ground.data }, { on := 4, ground := Ground.data }, { on := 4, ground := Ground.chain }, { on := 0, ground := Ground.phase }, { on := 1, ground := Ground.phase }, { on := 2, ground := Ground.phase }, { on := 3, ground := Ground.phase }, { on := 4, ground := Ground.phase }], guard := none }).run Try.prog (V2) = .ok .skip (World.setCells V2 b 0 [.int .i64 (D.page : Int), .slice ao (setP D.page (fateF F) 0 D.W D.I).length c]) := by
    exact exec_store_mid 46 _ _ rfl b 0 #[.int .i64 (D.page : Int), .slice ao (setP D.page (fateF F) 0 D.W D.I).length c] (show a0_11.eval (.tmp 13) = .pointer (some ⟨b, 0, none⟩) from (fa0_11.at_ 13)) (show a0_11.eval (.tmp 11) = .agg #[.int .i64 (D.page : Int), .slice ao (setP D.page (fateF F) 0 D.W D.I).length c] from (fa0_11.at_ 11)) (there_mid d2.row (Nat.le_of_ble_eq_true rfl)) (by kernel_rfl) (by kernel_rfl)
  refine fa0_11.store rfl (wanted_none rfl) r_a0_12 (fun a0_12 fa0_12 => ?_)
  clear r_a0_12
  have hAO : ∀ k, (Value.slice ao (setP D.page (fateF F) 0 D.W D.I).length c).ownBlock = some k → V1.heap.size ≤ k ∧ k < V2.heap.size := fun k hk => ⟨by cases ao with | none => cases hk | some z => exact (by have := (own_ge o2).1; simp [Value.ownBlock] at hk; omega), by obtain ⟨_, hc⟩ := own_cellsB o2 hk; exact lt_of_heap hc⟩
  have d2b := d2.land (T := Land S w V2) (fun k hk => by rcases hk with e | e; exact Or.inl e; exact Or.inr ⟨Nat.le_trans sV.size e.1, Nat.lt_of_lt_of_le e.2 s2.size⟩) (fun k hk => land_lt h.lt (Nat.le_trans sV.size (Nat.le_trans f1.size s2.size)) hk)
  have d3 := DkO.newP (P' := setP D.page (fateF F) 0 D.W D.I) (pa' := ao) (pc' := c) d2b (w0 := V2) (Fr.refl _ _) (own_base o2 (Nat.zero_le _)) (fun k hk => Or.inr ⟨Nat.le_trans (Nat.le_trans sV.size f1.size) (hAO k hk).1, (hAO k hk).2⟩) (fun k hk hk2 => by have := (hAO k hk).1; have := d1.lt k (d1.sI k hk2); omega)
  have fv2 : Fr S w V2 := Fr.trans (Fr.trans (sV.mono (fun _ _ f => f.elim)) f1 (fun _ _ e => e)) s2 (fun _ _ f => f.elim)
  generalize World.setCells V2 b 0 [.int .i64 (D.page : Int), .slice ao (setP D.page (fateF F) 0 D.W D.I).length c] = V3 at *
  obtain ⟨d3, f3⟩ := d3
  clear fa0_11
  refine wpList_nil ?_
  change Code.wp _ _ _ _ _
  refine wp_seq ?_
  have c7 := d3.cell 7 rfl
  have z7 := d3.frozen 7
  refine wp_region_list ?_
  unfold rON3
  refine fa0_12.move 14 (.pointer (some ⟨b, 0, none⟩)) _ (Or.inl rfl) rfl (lb_ hsz) (wanted_none rfl) ((fa0_12.at_ 0).trans (ha 0 _ rfl)) (fun a0_13 fa0_13 => ?_)
  clear fa0_12
  have r_a0_14 : (execOp a0_13.eval { dst := some 15, op := Op.nilCheck (Operand.tmp 14), type := 0, pos := "power.go:59", after := #[{ on := 0, ground := Ground.data }, { on := 0, ground := Ground.phase }], guard := none }).run Try.prog (V3) = .ok (.value (.pointer (some ⟨b, 0, none⟩))) (V3) := by
    have e14 := (show a0_13.eval (.tmp 14) = .pointer (some ⟨b, 0, none⟩) from (fa0_13.at_ 14))
    clear fa0_13 ha
    generalize a0_13.eval = ρ at *
    go_simp
  refine fa0_13.step 15 (.pointer (some ⟨b, 0, none⟩)) rfl (lb_ hsz) (wanted_none rfl) r_a0_14 (fun a0_14 fa0_14 => ?_)
  clear r_a0_14
  clear fa0_13
  have r_a0_15 : (execOp a0_14.eval { dst := some 16, op := Op.fieldAddr 51 (Operand.tmp 15) 5, type := 0, pos := "power.go:59", after := #[{ on := 1, ground := Ground.data }, { on := 0, ground := Ground.phase }], guard := none }).run Try.prog (V3) = .ok (.value (.pointer (some ⟨b, 7, none⟩))) (V3) := by
    have e15 := (show a0_14.eval (.tmp 15) = .pointer (some ⟨b, 0, none⟩) from (fa0_14.at_ 15))
    clear fa0_14 ha
    generalize a0_14.eval = ρ at *
    go_simp
  refine fa0_14.step 16 (.pointer (some ⟨b, 7, none⟩)) rfl (lb_ hsz) (wanted_none rfl) r_a0_15 (fun a0_15 fa0_15 => ?_)
  clear r_a0_15
  clear fa0_14
  have r_a0_16 : (execOp a0_15.eval { dst := none, op := Op.store 49 (Operand.tmp 16) (Operand.const (Value.slice none 0 0)), type := 0, pos := "power.go:59", after := #[{ on := 2, ground := Ground.data }, { on := 0, ground := Ground.phase }], guard := none }).run Try.prog (V3) = .ok .skip (World.setCell V3 ⟨b, 7, none⟩ (.slice none 0 0)) := by
    have kc : ∀ v, a0_15.eval (.const v) = v := fun _ => rfl
    have e16 := (show a0_15.eval (.tmp 16) = .pointer (some ⟨b, 7, none⟩) from (fa0_15.at_ 16))
    clear fa0_15 ha
    generalize a0_15.eval = ρ at *
    go_simp
  refine fa0_15.store rfl (wanted_none rfl) r_a0_16 (fun a0_16 fa0_16 => ?_)
  clear r_a0_16
  have d4 := d3.noArms
  generalize World.setCell V3 ⟨b, 7, none⟩ (.slice none 0 0) = V4 at *
  obtain ⟨d4, f4⟩ := d4
  clear fa0_15
  refine wpList_nil ?_
  change Code.wp _ _ _ _ _
  refine wp_seq ?_
  have c5 := d4.cell 5 rfl
  have z5 := d4.frozen 5
  refine wp_region_list ?_
  unfold rON4
  refine fa0_16.move 17 (.pointer (some ⟨b, 0, none⟩)) _ (Or.inl rfl) rfl (lb_ hsz) (wanted_none rfl) ((fa0_16.at_ 0).trans (ha 0 _ rfl)) (fun a0_17 fa0_17 => ?_)
  clear fa0_16
  have r_a0_18 : (execOp a0_17.eval { dst := some 18, op := Op.nilCheck (Operand.tmp 17), type := 0, pos := "power.go:60", after := #[{ on := 0, ground := Ground.data }, { on := 0, ground := Ground.phase }], guard := none }).run Try.prog (V4) = .ok (.value (.pointer (some ⟨b, 0, none⟩))) (V4) := by
    have e17 := (show a0_17.eval (.tmp 17) = .pointer (some ⟨b, 0, none⟩) from (fa0_17.at_ 17))
    clear fa0_17 ha
    generalize a0_17.eval = ρ at *
    go_simp
  refine fa0_17.step 18 (.pointer (some ⟨b, 0, none⟩)) rfl (lb_ hsz) (wanted_none rfl) r_a0_18 (fun a0_18 fa0_18 => ?_)
  clear r_a0_18
  clear fa0_17
  have r_a0_19 : (execOp a0_18.eval { dst := some 19, op := Op.fieldAddr 51 (Operand.tmp 18) 3, type := 0, pos := "power.go:60", after := #[{ on := 1, ground := Ground.data }, { on := 0, ground := Ground.phase }], guard := none }).run Try.prog (V4) = .ok (.value (.pointer (some ⟨b, 5, none⟩))) (V4) := by
    have e18 := (show a0_18.eval (.tmp 18) = .pointer (some ⟨b, 0, none⟩) from (fa0_18.at_ 18))
    clear fa0_18 ha
    generalize a0_18.eval = ρ at *
    go_simp
  refine fa0_18.step 19 (.pointer (some ⟨b, 5, none⟩)) rfl (lb_ hsz) (wanted_none rfl) r_a0_19 (fun a0_19 fa0_19 => ?_)
  clear r_a0_19
  clear fa0_18
  have r_a0_20 : (execOp a0_19.eval { dst := none, op := Op.store 4 (Operand.tmp 19) (Operand.const (Value.bool true)), type := 0, pos := "power.go:60", after := #[{ on := 2, ground := Ground.data }, { on := 0, ground := Ground.phase }], guard := none }).run Try.prog (V4) = .ok .skip (World.setCell V4 ⟨b, 5, none⟩ (.bool true)) := by
    have kc : ∀ v, a0_19.eval (.const v) = v := fun _ => rfl
    have e19 := (show a0_19.eval (.tmp 19) = .pointer (some ⟨b, 5, none⟩) from (fa0_19.at_ 19))
    clear fa0_19 ha
    generalize a0_19.eval = ρ at *
    go_simp
  refine fa0_19.store rfl (wanted_none rfl) r_a0_20 (fun a0_20 fa0_20 => ?_)
  clear r_a0_20
  have d5 := d4.setS (D' := { D with P := setP D.page (fateF F) 0 D.W D.I, I := setP D.page (fateF F) 0 D.W D.I, W := [], off := true }) 5 (.bool true) rfl rfl rfl (fun _ _ _ _ => rfl)
  generalize World.setCell V4 ⟨b, 5, none⟩ (.bool true) = V5 at *
  obtain ⟨d5, f5⟩ := d5
  clear fa0_19
  refine wpList_nil ?_
  change Code.wp _ _ _ _ _
  have c12 := d5.cell (v := .int .i64 (D.taken : Int)) 12 rfl
  have z12 := d5.frozen 12
  refine wp_region_list ?_
  unfold rON5
  refine fa0_20.move 20 (.pointer (some ⟨b, 0, none⟩)) _ (Or.inl rfl) rfl (lb_ hsz) (wanted_none rfl) ((fa0_20.at_ 0).trans (ha 0 _ rfl)) (fun a0_21 fa0_21 => ?_)
  clear fa0_20
  have r_a0_22 : (execOp a0_21.eval { dst := some 21, op := Op.nilCheck (Operand.tmp 20), type := 0, pos := "power.go:61", after := #[{ on := 0, ground := Ground.data }], guard := none }).run Try.prog (V5) = .ok (.value (.pointer (some ⟨b, 0, none⟩))) (V5) := by
    have e20 := (show a0_21.eval (.tmp 20) = .pointer (some ⟨b, 0, none⟩) from (fa0_21.at_ 20))
    clear fa0_21 ha
    generalize a0_21.eval = ρ at *
    go_simp
  refine fa0_21.step 21 (.pointer (some ⟨b, 0, none⟩)) rfl (lb_ hsz) (wanted_none rfl) r_a0_22 (fun a0_22 fa0_22 => ?_)
  clear r_a0_22
  clear fa0_21
  have r_a0_23 : (execOp a0_22.eval { dst := some 22, op := Op.fieldAddr 51 (Operand.tmp 21) 8, type := 0, pos := "power.go:61", after := #[{ on := 1, ground := Ground.data }], guard := none }).run Try.prog (V5) = .ok (.value (.pointer (some ⟨b, 12, none⟩))) (V5) := by
    have e21 := (show a0_22.eval (.tmp 21) = .pointer (some ⟨b, 0, none⟩) from (fa0_22.at_ 21))
    clear fa0_22 ha
    generalize a0_22.eval = ρ at *
    go_simp
  refine fa0_22.step 22 (.pointer (some ⟨b, 12, none⟩)) rfl (lb_ hsz) (wanted_none rfl) r_a0_23 (fun a0_23 fa0_23 => ?_)
  clear r_a0_23
  clear fa0_22
  have r_a0_24 : (execOp a0_23.eval { dst := some 23, op := Op.load 3 (Operand.tmp 22), type := 3, pos := "power.go:61", after := #[{ on := 2, ground := Ground.data }], guard := none }).run Try.prog (V5) = .ok (.value (.int .i64 (D.taken : Int))) (V5) := by
    have e22 := (show a0_23.eval (.tmp 22) = .pointer (some ⟨b, 12, none⟩) from (fa0_23.at_ 22))
    clear fa0_23 ha
    generalize a0_23.eval = ρ at *
    go_simp
  refine fa0_23.step 23 (.int .i64 (D.taken : Int)) rfl (lb_ hsz) (wanted_none rfl) r_a0_24 (fun a0_24 fa0_24 => ?_)
  clear r_a0_24
  clear fa0_23
  have r_a0_25 : (execOp a0_24.eval { dst := some 24, op := Op.binOp BinOp.add 3 (Operand.tmp 23) (Operand.const (Value.int IntKind.i64 1)) 3, type := 3, pos := "power.go:61", after := #[{ on := 3, ground := Ground.data }], guard := none }).run Try.prog (V5) = .ok (.value (.int .i64 ((D.taken : Int) + 1))) (V5) := by
    have kc : ∀ v, a0_24.eval (.const v) = v := fun _ => rfl
    have e23 := (show a0_24.eval (.tmp 23) = .int .i64 (D.taken : Int) from (fa0_24.at_ 23))
    clear fa0_24 ha
    generalize a0_24.eval = ρ at *
    go_simp
  refine fa0_24.step 24 (.int .i64 ((D.taken : Int) + 1)) rfl (lb_ hsz) (wanted_none rfl) r_a0_25 (fun a0_25 fa0_25 => ?_)
  clear r_a0_25
  clear fa0_24
  have r_a0_26 : (execOp a0_25.eval { dst := some 25, op := Op.nilCheck (Operand.tmp 20), type := 0, pos := "power.go:61", after := #[{ on := 0, ground := Ground.data }, { on := 0, ground := Ground.phase }, { on := 1, ground := Ground.phase }, { on := 2, ground := Ground.phase }, { on := 3, ground := Ground.phase }, { on := 4, ground := Ground.phase }], guard := none }).run Try.prog (V5) = .ok (.value (.pointer (some ⟨b, 0, none⟩))) (V5) := by
    have e20 := (show a0_25.eval (.tmp 20) = .pointer (some ⟨b, 0, none⟩) from (fa0_25.at_ 20))
    clear fa0_25 ha
    generalize a0_25.eval = ρ at *
    go_simp
  refine fa0_25.step 25 (.pointer (some ⟨b, 0, none⟩)) rfl (lb_ hsz) (wanted_none rfl) r_a0_26 (fun a0_26 fa0_26 => ?_)
  clear r_a0_26
  clear fa0_25
  have r_a0_27 : (execOp a0_26.eval { dst := some 26, op := Op.fieldAddr 51 (Operand.tmp 25) 8, type := 0, pos := "power.go:61", after := #[{ on := 5, ground := Ground.data }, { on := 0, ground := Ground.phase }, { on := 1, ground := Ground.phase }, { on := 2, ground := Ground.phase }, { on := 3, ground := Ground.phase }, { on := 4, ground := Ground.phase }], guard := none }).run Try.prog (V5) = .ok (.value (.pointer (some ⟨b, 12, none⟩))) (V5) := by
    have e25 := (show a0_26.eval (.tmp 25) = .pointer (some ⟨b, 0, none⟩) from (fa0_26.at_ 25))
    clear fa0_26 ha
    generalize a0_26.eval = ρ at *
    go_simp
  refine fa0_26.step 26 (.pointer (some ⟨b, 12, none⟩)) rfl (lb_ hsz) (wanted_none rfl) r_a0_27 (fun a0_27 fa0_27 => ?_)
  clear r_a0_27
  clear fa0_26
  have r_a0_28 : (execOp a0_27.eval { dst := none, op := Op.store 3 (Operand.tmp 26) (Operand.tmp 24), type := 0, pos := "power.go:61", after := #[{ on := 6, ground := Ground.data }, { on := 4, ground := Ground.data }, { on := 0, ground := Ground.phase }, { on := 1, ground := Ground.phase }, { on := 2, ground := Ground.phase }, { on := 3, ground := Ground.phase }, { on := 4, ground := Ground.phase }], guard := none }).run Try.prog (V5) = .ok .skip (World.setCell V5 ⟨b, 12, none⟩ (.int .i64 ((D.taken : Int) + 1))) := by
    have e26 := (show a0_27.eval (.tmp 26) = .pointer (some ⟨b, 12, none⟩) from (fa0_27.at_ 26))
    have e24 := (show a0_27.eval (.tmp 24) = .int .i64 ((D.taken : Int) + 1) from (fa0_27.at_ 24))
    clear fa0_27 ha
    generalize a0_27.eval = ρ at *
    go_simp
  refine fa0_27.store rfl (wanted_none rfl) r_a0_28 (fun a0_28 fa0_28 => ?_)
  clear r_a0_28
  have d6 := d5.setS (D' := dkLose D F) 12 (.int .i64 ((D.taken : Int) + 1)) rfl rfl rfl (fun _ _ _ _ => rfl)
  generalize World.setCell V5 ⟨b, 12, none⟩ (.int .i64 ((D.taken : Int) + 1)) = V6 at *
  obtain ⟨d6, f6⟩ := d6
  clear fa0_27
  refine wpList_nil ?_
  have fAll : Fr (Land S w V2) V2 V6 := ((f3.trans f4 (fun _ _ e => e)).trans f5 (fun _ _ e => e)).trans f6 (fun _ _ e => e)
  have fw : Fr S w V6 := Fr.trans fv2 fAll (fun k hk e => by rcases e with e | e; exact e; omega)
  refine end_none rfl (fa0_28.defers.trans hd) ⟨rfl, ⟨_, _, _, _, _, _, d6.land (fun k hk => land_same hk fAll.size) (fun k hk => land_lt h.lt fw.size hk)⟩, fw⟩
set_option maxRecDepth 100000 in
theorem crash_calls {b fc : Nat} {fa : Option Addr} {F : List Nat} {D : Dk} {S : Nat → Prop} (w : World) (h : DkAt w b D S) (hk : DkOk D) (hm : DkSm D 1048576) (hmI : (setP D.page (fateF F) 0 D.W D.I).length ≤ 1048576) (hft : FtRow w fa F) (hfs : ∀ g o, fa = some ⟨g, o, none⟩ → ¬ S g) :
    Calls Try.prog 32 #[.pointer (some ⟨b, 0, none⟩), .slice fa F.length fc] w fun e w' => e = .returned (.int .i64 (if D.off then 7 else 0)) ∧ DkAt w' b (if D.off then D else dkLose D F) (Land S w w') ∧ Fr S w w' := by
  obtain ⟨h1, _, h3, _⟩ := h.cells
  have hR := ready_core w h1 h3 (by have := hk.hp0; omega)
  have hL0 : DkAt w b D (Land S w w) := h.land (fun k hk => Or.inl hk) (fun k hk => land_lt h.lt (Nat.le_refl _) hk)
  obtain ⟨pa, ia, wa, aa, pc, ic, wc, ac, ho⟩ := h.open
  have hL := lose_calls (fc := fc) w ho hk hm hmI hft hfs
  have HL : Hid (DkAt w b D (Land S w w)) := hL0
  clear h h1 h3 ho hk hm hmI hft hfs hL0
  cases hoff : D.off with
  | true =>
    rw [hoff] at hR
    go_enter Try.func32, Try.ntmps32
    go_wp2_with fail
    refine hR.mono ?_
    rintro e w' ⟨rfl, hw⟩
    rw [hw]
    go_wp2_with fail
    go_ret
    exact ⟨rfl, HL.out, Fr.refl _ _⟩
  | false =>
    rw [hoff] at hR
    go_enter Try.func32, Try.ntmps32
    go_wp2_with fail
    refine hR.mono ?_
    rintro e w' ⟨rfl, hw⟩
    rw [hw]
    go_wp2_with fail
    refine hL.mono ?_
    rintro e W1 ⟨rfl, ⟨_, _, _, _, _, _, d1⟩, f1⟩
    have H1 : Hid (DkAt W1 b (dkLose D F) (Land S w W1) ∧ Fr S w W1) := ⟨d1.dk, f1⟩
    clear d1 f1 hL
    go_wp2_with fail
    go_ret
    exact ⟨rfl, H1.out⟩
def rOY0 : Array Oper := #[{ dst := some 2, op := Op.assign (Operand.const (Value.int IntKind.i64 0)), type := 24, pos := "acts.go:61", after := #[], guard := none }]
def rOY1 : Array Oper := #[{ dst := some 6, op := Op.move (Operand.tmp 0), type := 27, pos := "acts.go:62", after := #[], guard := none },
  { dst := some 7, op := Op.call { callee := Callee.value (Operand.func 37), args := #[Operand.tmp 6], argTypes := #[27] }, type := 24, pos := "acts.go:62", after := #[{ on := 0, ground := Ground.data }], guard := none },
  { dst := some 3, op := Op.assign (Operand.tmp 7), type := 24, pos := "acts.go:62", after := #[{ on := 1, ground := Ground.data }, { on := 1, ground := Ground.chain }, { on := 0, ground := Ground.phase }, { on := 1, ground := Ground.phase }], guard := none }]
def rOY2 : Array Oper := #[{ dst := some 8, op := Op.move (Operand.tmp 3), type := 24, pos := "acts.go:62", after := #[], guard := none },
  { dst := some 9, op := Op.binOp BinOp.neq 24 (Operand.tmp 8) (Operand.const (Value.int IntKind.i64 0)) 24, type := 4, pos := "acts.go:62", after := #[{ on := 0, ground := Ground.data }], guard := none }]
def rOY3 : Array Oper := #[{ dst := some 10, op := Op.move (Operand.tmp 3), type := 24, pos := "acts.go:63", after := #[], guard := none },
  { dst := some 2, op := Op.assign (Operand.tmp 10), type := 24, pos := "acts.go:63", after := #[{ on := 0, ground := Ground.data }, { on := 0, ground := Ground.phase }], guard := none }]
def rOY4 : Array Oper := #[{ dst := some 12, op := Op.move (Operand.tmp 0), type := 27, pos := "acts.go:65", after := #[], guard := none },
  { dst := some 13, op := Op.call { callee := Callee.value (Operand.func 40), args := #[Operand.tmp 12, Operand.const (Value.int IntKind.u8 3)], argTypes := #[27, 73] }, type := 83, pos := "acts.go:65", after := #[{ on := 0, ground := Ground.data }], guard := none },
  { dst := some 11, op := Op.move (Operand.tmp 13), type := 83, pos := "acts.go:65", after := #[{ on := 1, ground := Ground.data }], guard := none },
  { dst := some 14, op := Op.extract (Operand.tmp 11) 0, type := 82, pos := "acts.go:65", after := #[{ on := 2, ground := Ground.data }], guard := none },
  { dst := some 15, op := Op.extract (Operand.tmp 11) 1, type := 4, pos := "acts.go:65", after := #[{ on := 2, ground := Ground.data }, { on := 6, ground := Ground.gcOnly Go.Departure.lateStores }], guard := none },
  { dst := some 4, op := Op.alloc 82, type := 0, pos := "acts.go:65", after := #[], guard := none },
  { dst := none, op := Op.store 82 (Operand.tmp 4) (Operand.tmp 14), type := 0, pos := "acts.go:65", after := #[{ on := 5, ground := Ground.data }, { on := 3, ground := Ground.data }, { on := 1, ground := Ground.chain }, { on := 0, ground := Ground.phase }, { on := 1, ground := Ground.phase }, { on := 2, ground := Ground.phase }, { on := 3, ground := Ground.phase }, { on := 4, ground := Ground.textOnly Go.Departure.lateStores }, { on := 5, ground := Ground.phase }], guard := none },
  { dst := some 5, op := Op.assign (Operand.tmp 15), type := 4, pos := "acts.go:65", after := #[{ on := 4, ground := Ground.data }, { on := 6, ground := Ground.chain }, { on := 0, ground := Ground.phase }, { on := 1, ground := Ground.phase }, { on := 2, ground := Ground.phase }, { on := 3, ground := Ground.phase }, { on := 4, ground := Ground.phase }, { on := 5, ground := Ground.phase }, { on := 6, ground := Ground.phase }], guard := none }]
def rOY5 : Array Oper := #[{ dst := some 16, op := Op.move (Operand.tmp 5), type := 4, pos := "acts.go:66", after := #[], guard := none },
  { dst := some 17, op := Op.move (Operand.tmp 16), type := 4, pos := "acts.go:66", after := #[{ on := 0, ground := Ground.data }], guard := none },
  { dst := some 18, op := Op.fieldAddr 82 (Operand.tmp 4) 2, type := 0, pos := "acts.go:66", after := #[{ on := 1, ground := Ground.guard }], guard := some (1, true) },
  { dst := some 19, op := Op.load 4 (Operand.tmp 18), type := 4, pos := "acts.go:66", after := #[{ on := 2, ground := Ground.data }, { on := 1, ground := Ground.guard }], guard := some (1, true) },
  { dst := some 20, op := Op.unOp UnOp.not 4 (Operand.tmp 19), type := 4, pos := "acts.go:66", after := #[{ on := 3, ground := Ground.data }, { on := 1, ground := Ground.guard }], guard := some (1, true) },
  { dst := some 21, op := Op.pick (Operand.tmp 17) (Operand.tmp 20) (Operand.const (Value.bool false)), type := 4, pos := "acts.go:66", after := #[{ on := 1, ground := Ground.data }, { on := 4, ground := Ground.data }], guard := none }]
def rOY6 : Array Oper := #[{ dst := some 2, op := Op.assign (Operand.const (Value.int IntKind.i64 6)), type := 24, pos := "acts.go:67", after := #[], guard := none }]
def rOY7 : Array Oper := #[{ dst := some 22, op := Op.move (Operand.tmp 5), type := 4, pos := "acts.go:69", after := #[], guard := none }]
def rOY8 : Array Oper := #[{ dst := some 23, op := Op.move (Operand.tmp 0), type := 27, pos := "acts.go:70", after := #[], guard := none },
  { dst := some 24, op := Op.fieldAddr 82 (Operand.tmp 4) 3, type := 0, pos := "acts.go:70", after := #[], guard := none },
  { dst := some 25, op := Op.load 80 (Operand.tmp 24), type := 80, pos := "acts.go:70", after := #[{ on := 1, ground := Ground.data }], guard := none },
  { dst := some 26, op := Op.call { callee := Callee.value (Operand.func 41), args := #[Operand.tmp 23, Operand.tmp 25], argTypes := #[27, 80] }, type := 0, pos := "acts.go:70", after := #[{ on := 0, ground := Ground.data }, { on := 2, ground := Ground.data }], guard := none }]
def rOY9 : Array Oper := #[{ dst := some 2, op := Op.assign (Operand.const (Value.int IntKind.i64 7)), type := 24, pos := "acts.go:71", after := #[], guard := none }]
def rOY10 : Array Oper := #[{ dst := some 27, op := Op.move (Operand.tmp 0), type := 27, pos := "acts.go:73", after := #[], guard := none },
  { dst := some 28, op := Op.call { callee := Callee.value (Operand.func 42), args := #[Operand.tmp 27, Operand.func 43], argTypes := #[27, 87] }, type := 0, pos := "acts.go:73", after := #[{ on := 0, ground := Ground.data }], guard := none }]
def rOY11 : Array Oper := #[{ dst := some 29, op := Op.move (Operand.tmp 0), type := 27, pos := "acts.go:74", after := #[], guard := none },
  { dst := some 30, op := Op.nilCheck (Operand.tmp 29), type := 0, pos := "acts.go:74", after := #[{ on := 0, ground := Ground.data }], guard := none },
  { dst := some 31, op := Op.fieldAddr 51 (Operand.tmp 30) 6, type := 0, pos := "acts.go:74", after := #[{ on := 1, ground := Ground.data }], guard := none },
  { dst := some 32, op := Op.fieldAddr 40 (Operand.tmp 31) 2, type := 0, pos := "acts.go:74", after := #[{ on := 2, ground := Ground.data }], guard := none },
  { dst := some 33, op := Op.load 3 (Operand.tmp 32), type := 3, pos := "acts.go:74", after := #[{ on := 3, ground := Ground.data }], guard := none },
  { dst := some 34, op := Op.binOp BinOp.add 3 (Operand.tmp 33) (Operand.const (Value.int IntKind.i64 1)) 3, type := 3, pos := "acts.go:74", after := #[{ on := 4, ground := Ground.data }], guard := none },
  { dst := some 35, op := Op.nilCheck (Operand.tmp 29), type := 0, pos := "acts.go:74", after := #[{ on := 0, ground := Ground.data }, { on := 0, ground := Ground.phase }, { on := 1, ground := Ground.phase }, { on := 2, ground := Ground.phase }, { on := 3, ground := Ground.phase }, { on := 4, ground := Ground.phase }, { on := 5, ground := Ground.phase }], guard := none },
  { dst := some 36, op := Op.fieldAddr 51 (Operand.tmp 35) 6, type := 0, pos := "acts.go:74", after := #[{ on := 6, ground := Ground.data }, { on := 0, ground := Ground.phase }, { on := 1, ground := Ground.phase }, { on := 2, ground := Ground.phase }, { on := 3, ground := Ground.phase }, { on := 4, ground := Ground.phase }, { on := 5, ground := Ground.phase }], guard := none },
  { dst := some 37, op := Op.fieldAddr 40 (Operand.tmp 36) 2, type := 0, pos := "acts.go:74", after := #[{ on := 7, ground := Ground.data }, { on := 0, ground := Ground.phase }, { on := 1, ground := Ground.phase }, { on := 2, ground := Ground.phase }, { on := 3, ground := Ground.phase }, { on := 4, ground := Ground.phase }, { on := 5, ground := Ground.phase }], guard := none },
  { dst := none, op := Op.store 3 (Operand.tmp 37) (Operand.tmp 34), type := 0, pos := "acts.go:74", after := #[{ on := 8, ground := Ground.data }, { on := 5, ground := Ground.data }, { on := 0, ground := Ground.phase }, { on := 1, ground := Ground.phase }, { on := 2, ground := Ground.phase }, { on := 3, ground := Ground.phase }, { on := 4, ground := Ground.phase }, { on := 5, ground := Ground.phase }], guard := none }]
def rOY12 : Array Oper := #[{ dst := some 2, op := Op.assign (Operand.const (Value.int IntKind.i64 0)), type := 24, pos := "acts.go:75", after := #[], guard := none }]
def cOY : Code := (Code.seq (Code.region 0 rOY0 false) (Code.seq (Code.seq (Code.region 1 rOY1 false) (Code.seq (Code.region 2 rOY2 false) (Code.cond (Operand.tmp 9) (Code.seq (Code.region 3 rOY3 false) Code.ret) Code.skip))) (Code.seq (Code.region 4 rOY4 false) (Code.seq (Code.seq (Code.region 5 rOY5 false) (Code.cond (Operand.tmp 21) (Code.seq (Code.region 6 rOY6 false) Code.ret) Code.skip)) (Code.seq (Code.seq (Code.region 7 rOY7 false) (Code.cond (Operand.tmp 22) (Code.seq (Code.region 8 rOY8 false) (Code.seq (Code.region 9 rOY9 false) Code.ret)) Code.skip)) (Code.seq (Code.region 10 rOY10 false) (Code.seq (Code.region 11 rOY11 false) (Code.seq (Code.region 12 rOY12 false) Code.ret))))))))
set_option maxRecDepth 100000 in
set_option maxHeartbeats 1000000 in
theorem sync_on {b : Nat} {D : Dk} {S : Nat → Prop} {pa ia wa aa : Option Addr} {pc ic wc ac : Nat} (w : World) (h : DkO w b D S pa ia wa aa pc ic wc ac) (hk : DkOk D) (hm : DkSm D 1048576) (hoff : D.off = false) :
    Calls Try.prog 29 #[.pointer (some ⟨b, 0, none⟩)] w fun e w' => e = .returned (.int .i64 0) ∧ DkAt w' b (dkSync D) (Land S w w') ∧ Fr S w w' := by
  have hR := ready_core w (h.cell 0 rfl) (h.cell 5 rfl) (by have := hk.hp0; omega)
  rw [hoff] at hR
  have hs := hm.sy
  have ws1 : IntKind.i64.wrap ((D.sy : Int) + 1) = (D.sy : Int) + 1 := by rw [IntKind.wrap_i64]; omega
  clear hs
  refine calls_abs (c := cOY) Try.func29 (by kernel_rfl) 38 rfl (by simp) (fun a0 hsz hd ha => ?_)
  have fa0_0 := Fe.refl a0
  unfold cOY
  refine wp_seq ?_
  refine wp_region_list ?_
  unfold rOY0
  refine fa0_0.move 2 (.int .i64 0) _ (Or.inr rfl) rfl (lb_ hsz) (wanted_none rfl) rfl (fun a0_1 fa0_1 => ?_)
  clear fa0_0
  refine wpList_nil ?_
  change Code.wp _ _ _ _ _
  refine wp_seq (wp_seq ?_)
  refine wp_region_list ?_
  unfold rOY1
  refine fa0_1.move 6 (.pointer (some ⟨b, 0, none⟩)) _ (Or.inl rfl) rfl (lb_ hsz) (wanted_none rfl) ((fa0_1.at_ 0).trans (ha 0 _ rfl)) (fun a0_2 fa0_2 => ?_)
  clear fa0_1
  have r_a0_3 : (execOp a0_2.eval { dst := some 7, op := Op.call { callee := Callee.value (Operand.func 37), args := #[Operand.tmp 6], argTypes := #[27] }, type := 24, pos := "acts.go:62", after := #[{ on := 0, ground := Ground.data }], guard := none }).run Try.prog (w) = .ok (.enter 37 #[.pointer (some ⟨b, 0, none⟩)]) (w) := by
    have kf : ∀ f, a0_2.eval (.func f) = .func (.func f) #[] #[] := fun _ => rfl
    have e6 := (show a0_2.eval (.tmp 6) = .pointer (some ⟨b, 0, none⟩) from (fa0_2.at_ 6))
    clear fa0_2 ha
    generalize a0_2.eval = ρ at *
    go_simp
  refine fa0_2.call 7 rfl (lb_ hsz) (wanted_none rfl) r_a0_3 (hR) (fun e w1 hR => ?_)
  obtain ⟨rfl, hw1⟩ := hR
  clear r_a0_3
  have hw1 := hw1.symm
  subst hw1
  refine ⟨_, rfl, fun a0_3 fa0_3 => ?_⟩
  clear fa0_2
  refine fa0_3.move 3 (.int .i64 0) _ (Or.inr rfl) rfl (lb_ hsz) (wanted_none rfl) (fa0_3.at_ 7) (fun a0_4 fa0_4 => ?_)
  clear fa0_3
  refine wpList_nil ?_
  change Code.wp _ _ _ _ _
  refine wp_seq ?_
  refine wp_region_list ?_
  unfold rOY2
  refine fa0_4.move 8 (.int .i64 0) _ (Or.inl rfl) rfl (lb_ hsz) (wanted_none rfl) (fa0_4.at_ 3) (fun a0_5 fa0_5 => ?_)
  clear fa0_4
  have r_a0_6 : (execOp a0_5.eval { dst := some 9, op := Op.binOp BinOp.neq 24 (Operand.tmp 8) (Operand.const (Value.int IntKind.i64 0)) 24, type := 4, pos := "acts.go:62", after := #[{ on := 0, ground := Ground.data }], guard := none }).run Try.prog (w) = .ok (.value (.bool false)) (w) := by
    have kc : ∀ v, a0_5.eval (.const v) = v := fun _ => rfl
    have e8 := (show a0_5.eval (.tmp 8) = .int .i64 0 from (fa0_5.at_ 8))
    clear fa0_5 ha
    generalize a0_5.eval = ρ at *
    go_simp
  refine fa0_5.step 9 (.bool false) rfl (lb_ hsz) (wanted_none rfl) r_a0_6 (fun a0_6 fa0_6 => ?_)
  clear r_a0_6
  clear fa0_5
  refine wpList_nil ?_
  change Code.wp _ _ _ _ _
  refine wp_cond_false (show a0_6.eval (.tmp 9) = .bool false from (fa0_6.at_ 9)) (wp_skip ?_)
  change Code.wp _ _ _ _ _
  refine wp_seq ?_
  refine wp_region_list ?_
  unfold rOY4
  refine fa0_6.move 12 (.pointer (some ⟨b, 0, none⟩)) _ (Or.inl rfl) rfl (lb_ hsz) (wanted_none rfl) ((fa0_6.at_ 0).trans (ha 0 _ rfl)) (fun a0_7 fa0_7 => ?_)
  clear fa0_6
  have r_a0_8 : (execOp a0_7.eval { dst := some 13, op := Op.call { callee := Callee.value (Operand.func 40), args := #[Operand.tmp 12, Operand.const (Value.int IntKind.u8 3)], argTypes := #[27, 73] }, type := 83, pos := "acts.go:65", after := #[{ on := 0, ground := Ground.data }], guard := none }).run Try.prog (w) = .ok (.enter 40 #[.pointer (some ⟨b, 0, none⟩), Value.int IntKind.u8 3]) (w) := by
    have kc : ∀ v, a0_7.eval (.const v) = v := fun _ => rfl
    have kf : ∀ f, a0_7.eval (.func f) = .func (.func f) #[] #[] := fun _ => rfl
    have e12 := (show a0_7.eval (.tmp 12) = .pointer (some ⟨b, 0, none⟩) from (fa0_7.at_ 12))
    clear fa0_7 ha
    generalize a0_7.eval = ρ at *
    go_simp
  refine fa0_7.call 13 rfl (lb_ hsz) (wanted_none rfl) r_a0_8 (count_none w h.dk) (fun e V hR => ?_)
  obtain ⟨rfl, s1⟩ := hR
  clear r_a0_8
  refine ⟨_, rfl, fun a0_8 fa0_8 => ?_⟩
  clear fa0_7
  refine fa0_8.move 11 (.tuple #[.agg #[.int .u8 0, .int .i64 0, .bool false, .slice none 0 0], .bool false]) _ (Or.inl rfl) rfl (lb_ hsz) (wanted_none rfl) (fa0_8.at_ 13) (fun a0_9 fa0_9 => ?_)
  clear fa0_8
  have r_a0_10 : (execOp a0_9.eval { dst := some 14, op := Op.extract (Operand.tmp 11) 0, type := 82, pos := "acts.go:65", after := #[{ on := 2, ground := Ground.data }], guard := none }).run Try.prog (V) = .ok (.value (.agg #[.int .u8 0, .int .i64 0, .bool false, .slice none 0 0])) (V) := by
    have e11 := (show a0_9.eval (.tmp 11) = .tuple #[.agg #[.int .u8 0, .int .i64 0, .bool false, .slice none 0 0], .bool false] from (fa0_9.at_ 11))
    clear fa0_9 ha
    generalize a0_9.eval = ρ at *
    go_simp
  refine fa0_9.step 14 (.agg #[.int .u8 0, .int .i64 0, .bool false, .slice none 0 0]) rfl (lb_ hsz) (wanted_none rfl) r_a0_10 (fun a0_10 fa0_10 => ?_)
  clear r_a0_10
  clear fa0_9
  have r_a0_11 : (execOp a0_10.eval { dst := some 15, op := Op.extract (Operand.tmp 11) 1, type := 4, pos := "acts.go:65", after := #[{ on := 2, ground := Ground.data }, { on := 6, ground := Ground.gcOnly Go.Departure.lateStores }], guard := none }).run Try.prog (V) = .ok (.value (.bool false)) (V) := by
    have e11 := (show a0_10.eval (.tmp 11) = .tuple #[.agg #[.int .u8 0, .int .i64 0, .bool false, .slice none 0 0], .bool false] from (fa0_10.at_ 11))
    clear fa0_10 ha
    generalize a0_10.eval = ρ at *
    go_simp
  refine fa0_10.step 15 (.bool false) rfl (lb_ hsz) (wanted_none rfl) r_a0_11 (fun a0_11 fa0_11 => ?_)
  clear r_a0_11
  clear fa0_10
  have r_a0_12 : (execOp a0_11.eval { dst := some 4, op := Op.alloc 82, type := 0, pos := "acts.go:65", after := #[], guard := none }).run Try.prog (V) = .ok (.value (.pointer (some ⟨V.heap.size, 0, none⟩))) (V.alloc (.cells #[.int .u8 0, .int .i64 0, .bool false, .slice none 0 0] 82)) := by
    clear fa0_11 ha
    generalize a0_11.eval = ρ at *
    go_simp
  refine fa0_11.stepW 4 (.pointer (some ⟨V.heap.size, 0, none⟩)) rfl (lb_ hsz) (wanted_none rfl) r_a0_12 (fun a0_12 fa0_12 => ?_)
  clear r_a0_12
  have s2 : Same w (V.alloc (.cells #[.int .u8 0, .int .i64 0, .bool false, .slice none 0 0] 82)) := s1.alloc _
  have r1 : (V.alloc (.cells #[.int .u8 0, .int .i64 0, .bool false, .slice none 0 0] 82)).heap[V.heap.size]? = some (.cells #[.int .u8 0, .int .i64 0, .bool false, .slice none 0 0] 82 (0, 0)) := heap_alloc_new V _
  generalize V.alloc (.cells #[.int .u8 0, .int .i64 0, .bool false, .slice none 0 0] 82) = V1 at *
  clear fa0_11
  have r_a0_13 : (execOp a0_12.eval { dst := none, op := Op.store 82 (Operand.tmp 4) (Operand.tmp 14), type := 0, pos := "acts.go:65", after := #[{ on := 5, ground := Ground.data }, { on := 3, ground := Ground.data }, { on := 1, ground := Ground.chain }, { on := 0, ground := Ground.phase }, { on := 1, ground := Ground.phase }, { on := 2, ground := Ground.phase }, { on := 3, ground := Ground.phase }, { on := 4, ground := Ground.textOnly Go.Departure.lateStores }, { on := 5, ground := Ground.phase }], guard := none }).run Try.prog (V1) = .ok .skip (World.setCells V1 V.heap.size 0 [.int .u8 0, .int .i64 0, .bool false, .slice none 0 0]) := by
    exact exec_store_mid 82 _ _ rfl V.heap.size 0 #[.int .u8 0, .int .i64 0, .bool false, .slice none 0 0] (show a0_12.eval (.tmp 4) = .pointer (some ⟨V.heap.size, 0, none⟩) from (fa0_12.at_ 4)) (show a0_12.eval (.tmp 14) = .agg #[.int .u8 0, .int .i64 0, .bool false, .slice none 0 0] from (fa0_12.at_ 14)) (there_row r1 rfl) (by kernel_rfl) (by kernel_rfl)
  refine fa0_12.store rfl (wanted_none rfl) r_a0_13 (fun a0_13 fa0_13 => ?_)
  clear r_a0_13
  have r2 : (World.setCells V1 V.heap.size 0 [.int .u8 0, .int .i64 0, .bool false, .slice none 0 0]).heap[V.heap.size]? = some (.cells #[.int .u8 0, .int .i64 0, .bool false, .slice none 0 0] 82 (0, 0)) := setCells_whole [.int .u8 0, .int .i64 0, .bool false, .slice none 0 0] _ r1 rfl (there_row r1 rfl)
  have s3 : Same w (World.setCells V1 V.heap.size 0 [.int .u8 0, .int .i64 0, .bool false, .slice none 0 0]) := Fr.trans s2 (Fr.setCells (S := fun k => k = V.heap.size) (fun _ => rfl) _ 0 V1 (Fr.refl _ V1)) (fun k hk e => by have e2 : k = V.heap.size := e; have := s1.size; omega)
  generalize World.setCells V1 V.heap.size 0 [.int .u8 0, .int .i64 0, .bool false, .slice none 0 0] = V2 at *
  clear fa0_12
  refine fa0_13.move 5 (.bool false) _ (Or.inr rfl) rfl (lb_ hsz) (wanted_none rfl) (fa0_13.at_ 15) (fun a0_14 fa0_14 => ?_)
  clear fa0_13
  refine wpList_nil ?_
  change Code.wp _ _ _ _ _
  refine wp_seq (wp_seq ?_)
  refine wp_region_list ?_
  unfold rOY5
  refine fa0_14.move 16 (.bool false) _ (Or.inl rfl) rfl (lb_ hsz) (wanted_none rfl) (fa0_14.at_ 5) (fun a0_15 fa0_15 => ?_)
  clear fa0_14
  refine fa0_15.move 17 (.bool false) _ (Or.inl rfl) rfl (lb_ hsz) (wanted_none rfl) (fa0_15.at_ 16) (fun a0_16 fa0_16 => ?_)
  clear fa0_15
  refine fa0_16.skip 18 rfl (lb_ hsz) ((wanted_at (t := 17) (c := false) (b := true) rfl rfl rfl (lb_ (fa0_16.size.trans hsz)) (fa0_16.at_ 17)).trans (by rfl)) (fun a0_17 fa0_17 => ?_)
  clear fa0_16
  refine fa0_17.skip 19 rfl (lb_ hsz) ((wanted_at (t := 17) (c := false) (b := true) rfl rfl rfl (lb_ (fa0_17.size.trans hsz)) (fa0_17.at_ 17)).trans (by rfl)) (fun a0_18 fa0_18 => ?_)
  clear fa0_17
  refine fa0_18.skip 20 rfl (lb_ hsz) ((wanted_at (t := 17) (c := false) (b := true) rfl rfl rfl (lb_ (fa0_18.size.trans hsz)) (fa0_18.at_ 17)).trans (by rfl)) (fun a0_19 fa0_19 => ?_)
  clear fa0_18
  have r_a0_20 : (execOp a0_19.eval { dst := some 21, op := Op.pick (Operand.tmp 17) (Operand.tmp 20) (Operand.const (Value.bool false)), type := 4, pos := "acts.go:66", after := #[{ on := 1, ground := Ground.data }, { on := 4, ground := Ground.data }], guard := none }).run Try.prog (V2) = .ok (.value (.bool false)) (V2) := by
    have kc : ∀ v, a0_19.eval (.const v) = v := fun _ => rfl
    have e17 := (show a0_19.eval (.tmp 17) = .bool false from (fa0_19.at_ 17))
    have e20 := (show a0_19.eval (.tmp 20) = undef from (fa0_19.at_ 20))
    clear fa0_19 ha
    generalize a0_19.eval = ρ at *
    go_simp
  refine fa0_19.step 21 (.bool false) rfl (lb_ hsz) (wanted_none rfl) r_a0_20 (fun a0_20 fa0_20 => ?_)
  clear r_a0_20
  clear fa0_19
  refine wpList_nil ?_
  change Code.wp _ _ _ _ _
  refine wp_cond_false (show a0_20.eval (.tmp 21) = .bool false from (fa0_20.at_ 21)) (wp_skip ?_)
  change Code.wp _ _ _ _ _
  refine wp_seq (wp_seq ?_)
  refine wp_region_list ?_
  unfold rOY7
  refine fa0_20.move 22 (.bool false) _ (Or.inl rfl) rfl (lb_ hsz) (wanted_none rfl) (fa0_20.at_ 5) (fun a0_21 fa0_21 => ?_)
  clear fa0_20
  refine wpList_nil ?_
  change Code.wp _ _ _ _ _
  refine wp_cond_false (show a0_21.eval (.tmp 22) = .bool false from (fa0_21.at_ 22)) (wp_skip ?_)
  change Code.wp _ _ _ _ _
  refine wp_seq ?_
  refine wp_region_list ?_
  unfold rOY10
  refine fa0_21.move 27 (.pointer (some ⟨b, 0, none⟩)) _ (Or.inl rfl) rfl (lb_ hsz) (wanted_none rfl) ((fa0_21.at_ 0).trans (ha 0 _ rfl)) (fun a0_22 fa0_22 => ?_)
  clear fa0_21
  have r_a0_23 : (execOp a0_22.eval { dst := some 28, op := Op.call { callee := Callee.value (Operand.func 42), args := #[Operand.tmp 27, Operand.func 43], argTypes := #[27, 87] }, type := 0, pos := "acts.go:73", after := #[{ on := 0, ground := Ground.data }], guard := none }).run Try.prog (V2) = .ok (.enter 42 #[.pointer (some ⟨b, 0, none⟩), .func (.func 43) #[] #[]]) (V2) := by
    have kf : ∀ f, a0_22.eval (.func f) = .func (.func f) #[] #[] := fun _ => rfl
    have e27 := (show a0_22.eval (.tmp 27) = .pointer (some ⟨b, 0, none⟩) from (fa0_22.at_ 27))
    clear fa0_22 ha
    generalize a0_22.eval = ρ at *
    go_simp
  refine fa0_22.call 28 rfl (lb_ hsz) (wanted_none rfl) r_a0_23 (settleS_calls (f := fun _ => 255) V2 (h.same s3) hk.h8 hk.hp0 hk.hp1 hk.I hk.W hm.W (fun W i _ _ => sync1_calls W)) (fun e V3 hR => ?_)
  obtain ⟨rfl, ⟨ia2, ic2, d1⟩, f1⟩ := hR
  clear r_a0_23
  have c10 := d1.cell (v := .int .i64 (D.sy : Int)) 10 rfl
  have z10 := d1.frozen 10
  refine ⟨_, rfl, fun a0_23 fa0_23 => ?_⟩
  clear fa0_22
  refine wpList_nil ?_
  change Code.wp _ _ _ _ _
  refine wp_seq ?_
  refine wp_region_list ?_
  unfold rOY11
  refine fa0_23.move 29 (.pointer (some ⟨b, 0, none⟩)) _ (Or.inl rfl) rfl (lb_ hsz) (wanted_none rfl) ((fa0_23.at_ 0).trans (ha 0 _ rfl)) (fun a0_24 fa0_24 => ?_)
  clear fa0_23
  have r_a0_25 : (execOp a0_24.eval { dst := some 30, op := Op.nilCheck (Operand.tmp 29), type := 0, pos := "acts.go:74", after := #[{ on := 0, ground := Ground.data }], guard := none }).run Try.prog (V3) = .ok (.value (.pointer (some ⟨b, 0, none⟩))) (V3) := by
    have e29 := (show a0_24.eval (.tmp 29) = .pointer (some ⟨b, 0, none⟩) from (fa0_24.at_ 29))
    clear fa0_24 ha
    generalize a0_24.eval = ρ at *
    go_simp
  refine fa0_24.step 30 (.pointer (some ⟨b, 0, none⟩)) rfl (lb_ hsz) (wanted_none rfl) r_a0_25 (fun a0_25 fa0_25 => ?_)
  clear r_a0_25
  clear fa0_24
  have r_a0_26 : (execOp a0_25.eval { dst := some 31, op := Op.fieldAddr 51 (Operand.tmp 30) 6, type := 0, pos := "acts.go:74", after := #[{ on := 1, ground := Ground.data }], guard := none }).run Try.prog (V3) = .ok (.value (.pointer (some ⟨b, 8, none⟩))) (V3) := by
    have e30 := (show a0_25.eval (.tmp 30) = .pointer (some ⟨b, 0, none⟩) from (fa0_25.at_ 30))
    clear fa0_25 ha
    generalize a0_25.eval = ρ at *
    go_simp
  refine fa0_25.step 31 (.pointer (some ⟨b, 8, none⟩)) rfl (lb_ hsz) (wanted_none rfl) r_a0_26 (fun a0_26 fa0_26 => ?_)
  clear r_a0_26
  clear fa0_25
  have r_a0_27 : (execOp a0_26.eval { dst := some 32, op := Op.fieldAddr 40 (Operand.tmp 31) 2, type := 0, pos := "acts.go:74", after := #[{ on := 2, ground := Ground.data }], guard := none }).run Try.prog (V3) = .ok (.value (.pointer (some ⟨b, 10, none⟩))) (V3) := by
    have e31 := (show a0_26.eval (.tmp 31) = .pointer (some ⟨b, 8, none⟩) from (fa0_26.at_ 31))
    clear fa0_26 ha
    generalize a0_26.eval = ρ at *
    go_simp
  refine fa0_26.step 32 (.pointer (some ⟨b, 10, none⟩)) rfl (lb_ hsz) (wanted_none rfl) r_a0_27 (fun a0_27 fa0_27 => ?_)
  clear r_a0_27
  clear fa0_26
  have r_a0_28 : (execOp a0_27.eval { dst := some 33, op := Op.load 3 (Operand.tmp 32), type := 3, pos := "acts.go:74", after := #[{ on := 3, ground := Ground.data }], guard := none }).run Try.prog (V3) = .ok (.value (.int .i64 (D.sy : Int))) (V3) := by
    have e32 := (show a0_27.eval (.tmp 32) = .pointer (some ⟨b, 10, none⟩) from (fa0_27.at_ 32))
    clear fa0_27 ha
    generalize a0_27.eval = ρ at *
    go_simp
  refine fa0_27.step 33 (.int .i64 (D.sy : Int)) rfl (lb_ hsz) (wanted_none rfl) r_a0_28 (fun a0_28 fa0_28 => ?_)
  clear r_a0_28
  clear fa0_27
  have r_a0_29 : (execOp a0_28.eval { dst := some 34, op := Op.binOp BinOp.add 3 (Operand.tmp 33) (Operand.const (Value.int IntKind.i64 1)) 3, type := 3, pos := "acts.go:74", after := #[{ on := 4, ground := Ground.data }], guard := none }).run Try.prog (V3) = .ok (.value (.int .i64 ((D.sy : Int) + 1))) (V3) := by
    have kc : ∀ v, a0_28.eval (.const v) = v := fun _ => rfl
    have e33 := (show a0_28.eval (.tmp 33) = .int .i64 (D.sy : Int) from (fa0_28.at_ 33))
    clear fa0_28 ha
    generalize a0_28.eval = ρ at *
    go_simp
  refine fa0_28.step 34 (.int .i64 ((D.sy : Int) + 1)) rfl (lb_ hsz) (wanted_none rfl) r_a0_29 (fun a0_29 fa0_29 => ?_)
  clear r_a0_29
  clear fa0_28
  have r_a0_30 : (execOp a0_29.eval { dst := some 35, op := Op.nilCheck (Operand.tmp 29), type := 0, pos := "acts.go:74", after := #[{ on := 0, ground := Ground.data }, { on := 0, ground := Ground.phase }, { on := 1, ground := Ground.phase }, { on := 2, ground := Ground.phase }, { on := 3, ground := Ground.phase }, { on := 4, ground := Ground.phase }, { on := 5, ground := Ground.phase }], guard := none }).run Try.prog (V3) = .ok (.value (.pointer (some ⟨b, 0, none⟩))) (V3) := by
    have e29 := (show a0_29.eval (.tmp 29) = .pointer (some ⟨b, 0, none⟩) from (fa0_29.at_ 29))
    clear fa0_29 ha
    generalize a0_29.eval = ρ at *
    go_simp
  refine fa0_29.step 35 (.pointer (some ⟨b, 0, none⟩)) rfl (lb_ hsz) (wanted_none rfl) r_a0_30 (fun a0_30 fa0_30 => ?_)
  clear r_a0_30
  clear fa0_29
  have r_a0_31 : (execOp a0_30.eval { dst := some 36, op := Op.fieldAddr 51 (Operand.tmp 35) 6, type := 0, pos := "acts.go:74", after := #[{ on := 6, ground := Ground.data }, { on := 0, ground := Ground.phase }, { on := 1, ground := Ground.phase }, { on := 2, ground := Ground.phase }, { on := 3, ground := Ground.phase }, { on := 4, ground := Ground.phase }, { on := 5, ground := Ground.phase }], guard := none }).run Try.prog (V3) = .ok (.value (.pointer (some ⟨b, 8, none⟩))) (V3) := by
    have e35 := (show a0_30.eval (.tmp 35) = .pointer (some ⟨b, 0, none⟩) from (fa0_30.at_ 35))
    clear fa0_30 ha
    generalize a0_30.eval = ρ at *
    go_simp
  refine fa0_30.step 36 (.pointer (some ⟨b, 8, none⟩)) rfl (lb_ hsz) (wanted_none rfl) r_a0_31 (fun a0_31 fa0_31 => ?_)
  clear r_a0_31
  clear fa0_30
  have r_a0_32 : (execOp a0_31.eval { dst := some 37, op := Op.fieldAddr 40 (Operand.tmp 36) 2, type := 0, pos := "acts.go:74", after := #[{ on := 7, ground := Ground.data }, { on := 0, ground := Ground.phase }, { on := 1, ground := Ground.phase }, { on := 2, ground := Ground.phase }, { on := 3, ground := Ground.phase }, { on := 4, ground := Ground.phase }, { on := 5, ground := Ground.phase }], guard := none }).run Try.prog (V3) = .ok (.value (.pointer (some ⟨b, 10, none⟩))) (V3) := by
    have e36 := (show a0_31.eval (.tmp 36) = .pointer (some ⟨b, 8, none⟩) from (fa0_31.at_ 36))
    clear fa0_31 ha
    generalize a0_31.eval = ρ at *
    go_simp
  refine fa0_31.step 37 (.pointer (some ⟨b, 10, none⟩)) rfl (lb_ hsz) (wanted_none rfl) r_a0_32 (fun a0_32 fa0_32 => ?_)
  clear r_a0_32
  clear fa0_31
  have r_a0_33 : (execOp a0_32.eval { dst := none, op := Op.store 3 (Operand.tmp 37) (Operand.tmp 34), type := 0, pos := "acts.go:74", after := #[{ on := 8, ground := Ground.data }, { on := 5, ground := Ground.data }, { on := 0, ground := Ground.phase }, { on := 1, ground := Ground.phase }, { on := 2, ground := Ground.phase }, { on := 3, ground := Ground.phase }, { on := 4, ground := Ground.phase }, { on := 5, ground := Ground.phase }], guard := none }).run Try.prog (V3) = .ok .skip (World.setCell V3 ⟨b, 10, none⟩ (.int .i64 ((D.sy : Int) + 1))) := by
    have e37 := (show a0_32.eval (.tmp 37) = .pointer (some ⟨b, 10, none⟩) from (fa0_32.at_ 37))
    have e34 := (show a0_32.eval (.tmp 34) = .int .i64 ((D.sy : Int) + 1) from (fa0_32.at_ 34))
    clear fa0_32 ha
    generalize a0_32.eval = ρ at *
    go_simp
  refine fa0_32.store rfl (wanted_none rfl) r_a0_33 (fun a0_33 fa0_33 => ?_)
  clear r_a0_33
  have d2 := d1.setS (D' := dkSync D) 10 (.int .i64 ((D.sy : Int) + 1)) rfl rfl rfl (fun _ _ _ _ => rfl)
  generalize World.setCell V3 ⟨b, 10, none⟩ (.int .i64 ((D.sy : Int) + 1)) = V4 at *
  obtain ⟨d2, f2⟩ := d2
  clear fa0_32
  refine wpList_nil ?_
  change Code.wp _ _ _ _ _
  refine wp_seq ?_
  refine wp_region_list ?_
  unfold rOY12
  refine fa0_33.move 2 (.int .i64 0) _ (Or.inr rfl) rfl (lb_ hsz) (wanted_none rfl) rfl (fun a0_34 fa0_34 => ?_)
  clear fa0_33
  refine wpList_nil ?_
  change Code.wp _ _ _ _ _
  refine wp_ret ?_
  have f13 : Fr S w V3 := Fr.trans (s3.mono (fun _ _ f => f.elim)) f1 (fun _ _ e => e)
  have fw : Fr S w V4 := Fr.trans f13 f2 (fun k hk e => by rcases e with e | e; exact e; have := s3.size; omega)
  refine ret_abs rfl (fa0_34.defers.trans hd) (show a0_34.eval (.tmp 2) = .int .i64 0 from (fa0_34.at_ 2)) ⟨rfl, (d2.land (T := Land S w V4) (fun k hk => ?_) (fun k hk => land_lt h.lt fw.size hk)).dk, fw⟩
  rcases hk with e | e
  · exact Or.inl e
  · exact Or.inr ⟨Nat.le_trans s3.size e.1, Nat.lt_of_lt_of_le e.2 f2.size⟩
set_option maxRecDepth 100000 in
theorem sync_calls {b : Nat} {D : Dk} {S : Nat → Prop} (w : World) (h : DkAt w b D S) (hk : DkOk D) (hm : DkSm D 1048576) :
    Calls Try.prog 29 #[.pointer (some ⟨b, 0, none⟩)] w fun e w' => e = .returned (.int .i64 (if D.off then 7 else 0)) ∧ DkAt w' b (if D.off then D else dkSync D) (Land S w w') ∧ Fr S w w' := by
  cases hoff : D.off with
  | false =>
    obtain ⟨pa, ia, wa, aa, pc, ic, wc, ac, ho⟩ := h.open
    exact sync_on w ho hk hm hoff
  | true =>
    obtain ⟨h1, _, h3, _⟩ := h.cells
    have hR := ready_core w h1 h3 (by have := hk.hp0; omega)
    have HL : Hid (DkAt w b D (Land S w w)) := h.land (fun k hk => Or.inl hk) (fun k hk => land_lt h.lt (Nat.le_refl _) hk)
    rw [hoff] at hR
    clear h h1 h3 hk hm
    go_enter Try.func29, Try.ntmps29
    go_wp2_with fail
    refine hR.mono ?_
    rintro e w' ⟨rfl, hw⟩
    rw [hw]
    go_wp2_with fail
    go_ret
    exact ⟨rfl, HL.out, Fr.refl _ _⟩
end Go.Proofs.Ytljlkcmjbjnihaa
