/- free: rows of numbers that grow; FromBody. -/
import Derived.Test.YtajbifblbmlffaaEC
import Derived.Test.YtajbifblbmlffaaEE
namespace Go.Proofs.Ytajbifblbmlffaa
open Go.RowKit

theorem Try.infU32 : (Try.prog.info? 28).map (fun i => (i.zero, i.size, i.bytes)) = some (some (.int .u32 0), 1, 4) := by kernel_rfl
theorem run_partNums (w : World) (ty : TypeId) {B n : Nat} {v : Value} {xs : List Value} (hown : w.ownsRow B 28 1 v n xs) {x : Part} (hx : PartOk w 1 x) (hb : n + x.n ≤ 1099511627776) (hB : B ≤ w.heap.size) :
    ∃ v' w', (Builtin.append_ #[51, 51] ty #[v, .slice x.ao x.n x.c]).run Try.prog w = .ok v' w' ∧ w'.ownsRow B 28 1 v' (n + x.n) (xs ++ x.cells) ∧ w.grownBy w' v.ownBlock := by
  obtain ⟨i0, hi, hz0, hz1, hz2⟩ := info_parts Try.infU32
  obtain ⟨ao, m, c, cs⟩ := x
  cases ao with
  | none =>
    obtain ⟨e1, e2⟩ := hx.none rfl
    have e3 := hx.len
    simp only at e1 e2 e3
    subst e1 e2
    have e4 : cs = [] := List.eq_nil_of_length_eq_zero (by omega)
    subst e4
    refine ⟨v, w, run_append_owned_none (P := Try.prog) (w := w) B 51 ty 28 i0 1 Try.underlying51 hi v n xs hown, ?_, ⟨rfl, rfl, rfl, Nat.le_refl _, fun _ _ _ => rfl⟩⟩
    rw [List.append_nil]; exact hown
  | some a =>
    simp only at hb
    obtain ⟨v', w', h1, h2, h3, _⟩ := run_append_own (P := Try.prog) w B 51 ty 28 i0 (.int .u32 0) 1 4 Try.underlying51 hi hz0 hz1 hz2 rfl (by decide) v n xs hown a m c cs hx.len (hx.at_ a rfl) hx.one (by unfold maxLen; omega) (by omega) hB
    exact ⟨v', w', h1, h2, h3⟩
theorem wpList_partNums (w : World) {ops : Array Oper} {rest : List Oper} {o : Oper} {a : Act} {Q : Exit → Act → World → Prop} (hgd : o.guard = none) (sl y : Operand)
    (ho : o.op = .call { callee := .builtin .append, args := #[sl, y], argTypes := #[51, 51] }) {B n : Nat} {v : Value} {xs : List Value} (hs : a.eval sl = v) (hown : w.ownsRow B 28 1 v n xs) {x : Part} (hy : a.eval y = .slice x.ao x.n x.c) (hx : PartOk w 1 x) (hb : n + x.n ≤ 1099511627776) (hB : B ≤ w.heap.size)
    (hk : ∀ ao c w', w'.ownsRow B 28 1 (.slice ao (n + x.n) c) (n + x.n) (xs ++ x.cells) → w.grownBy w' v.ownBlock → wpList Try.prog ops Q rest (a.put o.dst (.slice ao (n + x.n) c)) w') : wpList Try.prog ops Q (o :: rest) a w := by
  obtain ⟨v', w', hr, h2, h3⟩ := run_partNums w o.type hown hx hb hB
  obtain ⟨ao, c, rfl⟩ := own_shape h2
  exact Lib.wpList_append_run w hgd sl y _ _ ho _ _ hs hy _ _ hr (hk ao c w' h2 h3)
theorem part_oneN {W : World} {g : Nat} {x : Value} (t : TypeId) (fr : Nat × Nat) (h : W.heap[g]? = some (.cells #[x] t fr)) (hx : x.oneCell' = true) : PartOk W 1 ⟨some ⟨g, 0, none⟩, 1, 1, [x]⟩ :=
  ⟨rfl, fun e => (by cases e), fun a ha j u hj => by
    cases ha
    rw [WideShapes.add_plain, Nat.zero_add, cell_of_row _ _ _ _ _ _ h, ← Array.getElem?_toList]
    exact hj, fun u hu => by
      simp only [List.mem_cons, List.not_mem_nil, or_false] at hu
      rw [hu]
      exact hx⟩
def ncells (ns : List Nat) : List Value := ns.map fun (x : Nat) => Value.int .u32 (x : Int)
theorem ncells_app (a b : List Nat) : ncells (a ++ b) = ncells a ++ ncells b := List.map_append
theorem own_nrow {W : World} {e : TypeId} {B n cap : Nat} {ns : List Nat} {ao : Option Addr} (h : W.ownsRow B e 1 (.slice ao n cap) n (ncells ns)) (hn : n = ns.length) : ∃ g, NRow W ao g 0 ns := by
  by_cases h0 : ns = []
  · subst h0
    exact ⟨0, fun e => absurd rfl e, fun j x hx => by simp at hx⟩
  · obtain ⟨g, rfl, hg⟩ := own_some (own_base h (Nat.zero_le _)) (by rw [hn]; intro e; exact h0 (List.eq_nil_of_length_eq_zero e))
    refine ⟨g, fun _ => ⟨rfl, (own_ge (own_base h (Nat.zero_le _))).2⟩, fun j x hx => ?_⟩
    rw [Nat.zero_add]
    exact own_cell (own_base h (Nat.zero_le _)) (by unfold ncells; rw [List.getElem?_map, hx]; rfl)
theorem own_neT {W : World} {B n c sz g : Nat} {e t : TypeId} {ao : Option Addr} {xs : List Value} {cs : Array Value} {fr : Nat × Nat} (h : W.ownsRow B e sz (.slice ao n c) n xs) (hg : W.heap[g]? = some (.cells cs t fr)) (hne : e ≠ t) : ∀ k, (Value.slice ao n c).ownBlock = some k → k ≠ g := by
  obtain ⟨hl, h0 | ⟨g2, c2, cur, hv, _, hh, _⟩⟩ := h
  · intro k hk e
    have hn := h0.1
    injection hn with e1 _ _
    rw [e1] at hk
    cases hk
  · intro k hk e2
    injection hv with e1 _ _
    rw [e1] at hk
    simp [Value.ownBlock] at hk
    rw [← hk] at e2
    rw [← e2, hh] at hg
    injection hg with hg
    injection hg with _ h2 _
    exact hne h2
theorem own_blk {W : World} {B n c sz : Nat} {e : TypeId} {ao : Option Addr} {xs : List Value} (h : W.ownsRow B e sz (.slice ao n c) n xs) : ∀ k, (Value.slice ao n c).ownBlock = some k → B ≤ k := by
  intro k hk
  cases ao with
  | none => cases hk
  | some a =>
    have := own_ge h
    simp [Value.ownBlock] at hk
    omega
theorem beq_toList {a b : ByteArray} (h : ¬ a = b) : (a.toList == b.toList) = false := by
  rw [beq_eq_false_iff_ne, ByteArray.toList_eq, ByteArray.toList_eq]
  intro e
  exact h (WideShapes.bytes_inj e)
def tkV (s : ByteArray) (pc : Nat × Nat) : Nat := beN (rRaw s pc.1 pc.2 4).1.data.toList
def tkN (s : ByteArray) (pc : Nat × Nat) : Nat × Nat := (rRaw s pc.1 pc.2 4).2
def itN (s : ByteArray) (pc : Nat × Nat) : Nat → Nat × Nat
  | 0 => pc
  | k + 1 => tkN s (itN s pc k)
def readK (s : ByteArray) (pc : Nat × Nat) (k : Nat) : List Nat := (List.range k).map fun i => tkV s (itN s pc i)
theorem readK_len (s : ByteArray) (pc : Nat × Nat) (k : Nat) : (readK s pc k).length = k := by simp [readK]
theorem readK_succ (s : ByteArray) (pc : Nat × Nat) (k : Nat) : readK s pc (k + 1) = readK s pc k ++ [tkV s (itN s pc k)] := by
  unfold readK; rw [List.range_succ, List.map_append]; rfl
theorem tkV_lt (s : ByteArray) (pc : Nat × Nat) : tkV s pc < 4294967296 := by
  have h1 := beN_lt (rRaw s pc.1 pc.2 4).1.data.toList
  have h2 := rRaw_size s pc.1 pc.2 4
  have h3 : (rRaw s pc.1 pc.2 4).1.data.toList.length ≤ 4 := h2
  have h4 : 256 ^ (rRaw s pc.1 pc.2 4).1.data.toList.length ≤ 256 ^ 4 := Nat.pow_le_pow_right (by omega) h3
  unfold tkV
  omega
theorem takeU_calls {w : World} {b : Nat} {s : ByteArray} (pc : Nat × Nat) (h : RdAt w b s pc.1 pc.2) :
    Calls Try.prog 33 #[.pointer (some ⟨b, 0, none⟩)] w fun e w' => e = .returned (.int .u32 (tkV s pc : Int)) ∧ RdAt w' b s (tkN s pc).1 (tkN s pc).2 ∧ RdStep b w w' := by
  refine (take_u32 h).mono fun e w' ⟨h1, h2, h3⟩ => ⟨h1.trans ?_, h2, h3⟩
  have := tkV_lt s pc
  unfold tkV at this ⊢
  rw [IntKind.wrap_u32]
  congr 2
  omega
/-- What is read out of a body. -/
def frNx (s : ByteArray) : Nat := tkV s (0, 0)
def frK (p q : Int) (s : ByteArray) : Nat := min (tkV s (tkN s (0, 0))) (entN p q)
def frNs (p q : Int) (s : ByteArray) : List Nat := readK s (itN s (0, 0) 2) (frK p q s)
def frOk (p q : Int) (s : ByteArray) : Bool := frameP p q && (bodyE p q (frNx s) (frNs p q s) == 0) && decide (bodyS p q (frNx s) (frNs p q s) = s)
def FromIs (p q : Int) (s : ByteArray) (w : World) (e : Ending) (w' : World) : Prop :=
  (frOk p q s = true ∧ ∃ ao c, e = .returned (.tuple #[.int .u32 (frNx s : Int), .slice ao (frNs p q s).length c, .int .i64 0]) ∧ w'.ownsRow w.heap.size 28 1 (.slice ao (frNs p q s).length c) (frNs p q s).length (ncells (frNs p q s))) ∨
  (frOk p q s = false ∧ e = .returned (.tuple #[.int .u32 0, .slice none 0 0, .int .i64 (if frameP p q then 90 else 2)]))
set_option maxRecDepth 100000 in
set_option maxHeartbeats 1000000 in
theorem ffrom_calls {p q : Int} (s : ByteArray) (hs : s.size ≤ 281474976710656) (w : World) :
    Calls Try.prog 16 #[frameV p q, .string s] w fun e w' => FromIs p q s w e w' ∧ Same w w' := by
  have HM : Hid (∀ W, Calls Try.prog 25 #[.agg #[.int .i64 p, .int .i64 q]] W fun e w' => e = .returned (.bool (frameP p q)) ∧ Same W w') := may_calls p q
  have HE : Hid (∀ W, Calls Try.prog 20 #[.agg #[.int .i64 p, .int .i64 q]] W fun e w' => e = .returned (.int .i64 (entN p q : Int)) ∧ Same W w') := entries_calls p q
  have HO : Hid (∀ W, Calls Try.prog 32 #[.string s] W fun e w' => e = .returned (.pointer (some ⟨W.heap.size, 0, none⟩)) ∧ RdAt w' W.heap.size s 0 0 ∧ Same W w') := fun W => (open_calls W s).mono fun e w' ⟨h1, h2⟩ => ⟨h1, by rw [h2]; exact ⟨heap_alloc_new W _, Nat.zero_le _, hs⟩, by rw [h2]; exact (Fr.refl _ W).alloc _⟩
  have HT : Hid (∀ W b pc, RdAt W b s pc.1 pc.2 → Calls Try.prog 33 #[.pointer (some ⟨b, 0, none⟩)] W fun e w' => e = .returned (.int .u32 (tkV s pc : Int)) ∧ RdAt w' b s (tkN s pc).1 (tkN s pc).2 ∧ RdStep b W w') := fun W b pc h => takeU_calls pc h
  have HBd : Hid (∀ W pa pb po cp next ns, NRow W pa pb po ns → ns.length ≤ 4611686018427387904 → next < 4294967296 → Calls Try.prog 14 #[.agg #[.int .i64 p, .int .i64 q], .int .u32 ((next : Nat) : Int), .slice pa ns.length cp] W fun e w' => e = .returned (.tuple #[.string (bodyS p q next ns), .int .i64 (bodyE p q next ns)]) ∧ Same W w') := fun W pa pb po cp next ns h1 h2 h3 => fbody_calls W h1 h2 h3
  obtain ⟨V, hV⟩ : ∃ V, V = w.alloc (.cells #[.int .i64 p, .int .i64 q] 23) := ⟨_, rfl⟩
  have sx : Same w V := by rw [hV]; exact (Fr.refl _ w).alloc _
  have c0 : V.cell? ⟨w.heap.size, 0, none⟩ = some (.int .i64 p) := by rw [hV]; simp
  have c1 : V.cell? ⟨w.heap.size, 1, none⟩ = some (.int .i64 q) := by rw [hV]; simp
  have HC : Hid (∀ W, Same V W → W.cell? ⟨w.heap.size, 0, none⟩ = some (.int .i64 p) ∧ W.cell? ⟨w.heap.size, 1, none⟩ = some (.int .i64 q)) := fun W h => ⟨h.keep c0, h.keep c1⟩
  have HVZ : Hid (w.heap.size ≤ V.heap.size) := sx.size
  clear c0 c1 hs
  cases hfp : frameP p q with
  | false =>
    rw [hfp] at HM
    have HNo : Hid (frOk p q s = false) := by show _ = _; unfold frOk; rw [hfp]; rfl
    go_enter Try.func16, Try.ntmps16
    go_wp2_with fail
    rw [← hV]
    clear hV
    refine (HM.out _).mono ?_
    rintro e W0 ⟨rfl, s0⟩
    go_wp2_with fail
    go_ret3
    exact ⟨.inr ⟨HNo.out, by rw [hfp]; rfl⟩, sx.trans s0⟩
  | true =>
    rw [hfp] at HM
    have hen : entN p q ≤ 2038 := by
      rcases entN_cases p q with ⟨_, h2⟩ | ⟨_, _, h3, _⟩ <;> omega
    have HEN : Hid (entN p q ≤ 2038) := hen
    have HFP : Hid (frameP p q = true) := hfp
    obtain ⟨en, hen2⟩ : ∃ en, en = entN p q := ⟨_, rfl⟩
    have HE2 : Hid (en = entN p q) := hen2
    rw [← hen2] at HE HEN
    clear hen hen2 hfp
    have hwe : IntKind.u32.wrap (en : Int) = (en : Int) := by have := HEN.out; rw [IntKind.wrap_u32]; omega
    go_enter Try.func16, Try.ntmps16
    go_wp2_with fail
    rw [← hV]
    clear hV
    refine (HM.out _).mono ?_
    rintro e W0 ⟨rfl, s0⟩
    go_wp2_with fail
    refine (HO.out _).mono ?_
    rintro e W1 ⟨rfl, r1, s1⟩
    obtain ⟨rb, hrb⟩ : ∃ rb, rb = W0.heap.size := ⟨_, rfl⟩
    rw [← hrb] at r1 ⊢
    have HRB : Hid (V.heap.size ≤ rb) := by rw [hrb]; exact s0.size
    clear hrb
    have t1 := s0.trans s1
    clear s0 s1
    go_wp2_with fail
    refine (HT.out _ _ (0, 0) r1).mono ?_
    rintro e W2 ⟨rfl, r2, s2⟩
    have t2 : Same V W2 := Fr.trans t1 s2 (fun k hk e => by have := HRB.out; omega)
    clear s2 r1 t1
    go_wp2_with fail
    refine (HT.out _ _ (tkN s (0, 0)) r2).mono ?_
    rintro e W3 ⟨rfl, r3, s3⟩
    have t3 : Same V W3 := Fr.trans t2 s3 (fun k hk e => by have := HRB.out; omega)
    clear s3 r2 t2
    obtain ⟨c0, c1⟩ := HC.out _ t3
    obtain ⟨mn, hmn⟩ : ∃ mn, mn = tkV s (tkN s (0, 0)) := ⟨_, rfl⟩
    rw [← hmn]
    have HMN : Hid (mn = tkV s (tkN s (0, 0)) ∧ mn < 4294967296) := ⟨hmn, by rw [hmn]; exact tkV_lt _ _⟩
    obtain ⟨nx, hnx⟩ : ∃ nx, nx = frNx s := ⟨_, rfl⟩
    have HNX : Hid (nx = frNx s ∧ nx < 4294967296) := ⟨hnx, by rw [hnx]; exact tkV_lt _ _⟩
    rw [show tkV s (0, 0) = nx from hnx.symm]
    clear hmn hnx
    go_wp2_with fail
    refine (HE.out _).mono ?_
    rintro e W4 ⟨rfl, s4⟩
    have t4 := t3.trans s4
    have r4 : RdAt W4 rb s (itN s (0, 0) 2).1 (itN s (0, 0) 2).2 := r3.same s4
    have hmin : min (mn : Int) (en : Int) = ((min mn en : Nat) : Int) := by omega
    obtain ⟨k0, hk0⟩ : ∃ k0, k0 = min mn en := ⟨_, rfl⟩
    have HK0 : Hid (k0 = frK p q s ∧ k0 ≤ 2038) := ⟨by rw [hk0, HMN.out.1, HE2.out]; rfl, by have := HEN.out; omega⟩
    clear r3 s4 t3 c0 c1
    go_wp2_with fail
    rw [← hk0]
    have HR4 : Hid (RdAt W4 rb s (itN s (0, 0) 2).1 (itN s (0, 0) 2).2) := r4
    have HT4 : Hid (Same V W4) := t4
    obtain ⟨pc, hpc⟩ : ∃ pc, pc = itN s (0, 0) 2 := ⟨_, rfl⟩
    rw [← hpc] at HR4
    have HNs : Hid (readK s pc k0 = frNs p q s) := by show _ = _; rw [hpc, HK0.out.1]; rfl
    clear hmin hk0 r4 t4 hpc
    go_loopg [10, 27] k0 (fun g lv iv wr => ∃ (j : Nat) (ao : Option Addr) (c : Nat), lv = .slice ao j c ∧ iv = .int .u32 (j : Int) ∧ j ≤ k0 ∧ g = k0 - j ∧ Hid (wr.ownsRow V.heap.size 28 1 (.slice ao j c) j (ncells (readK s pc j))) ∧ Hid (RdAt wr rb s (itN s pc j).1 (itN s pc j).2) ∧ Hid (Same V wr))
    case atStart => exact ⟨0, none, 0, rfl, rfl, by omega, rfl, own_nil, HR4, HT4⟩
    case round =>
      obtain ⟨j, ao, c, rfl, rfl, hj, hg, HO1, HR1, HS1⟩ := hrel
      by_cases hgo : j < k0
      · have hgi : (j : Int) < (k0 : Int) := by omega
        have hwj : IntKind.u32.wrap ((j : Int) + 1) = (j : Int) + 1 := by have := HK0.out.2; rw [IntKind.wrap_u32]; omega
        go_wp2_with fail
        refine (HT.out _ _ _ HR1.out).mono ?_
        rintro e X1 ⟨rfl, r1, x1⟩
        have y1 : Same V X1 := Fr.trans HS1.out x1 (fun k hk e => by have := HRB.out; omega)
        have o1 : X1.ownsRow V.heap.size 28 1 (.slice ao j c) j (ncells (readK s pc j)) := own_frameB HO1.out x1 (own_neT HO1.out HR1.out.1 (by decide))
        obtain ⟨v, hv⟩ : ∃ v, v = tkV s (itN s pc j) := ⟨_, rfl⟩
        rw [← hv]
        have HV : Hid (v = tkV s (itN s pc j)) := hv
        have oa : (X1.alloc (.cells #[.int .u32 (v : Int)] 28)).ownsRow V.heap.size 28 1 (.slice ao j c) j (ncells (readK s pc j)) := own_frameB o1 ((Fr.refl (fun _ => False) X1).alloc _) (fun kk hk e => e)
        have HOA : Hid ((X1.alloc (.cells #[.int .u32 (v : Int)] 28)).ownsRow V.heap.size 28 1 (.slice ao j c) j (ncells (readK s pc j))) := oa
        have HRA : Hid (RdAt (X1.alloc (.cells #[.int .u32 (v : Int)] 28)) rb s (itN s pc (j + 1)).1 (itN s pc (j + 1)).2) := RdAt.same r1 ((Fr.refl _ X1).alloc _)
        have HYA : Hid (Same V (X1.alloc (.cells #[.int .u32 (v : Int)] 28))) := Fr.alloc y1 _
        have hjb : j + 1 ≤ 1099511627776 := by have := HK0.out.2; omega
        have hvb : V.heap.size ≤ (X1.alloc (.cells #[.int .u32 (v : Int)] 28)).heap.size := HYA.out.size
        clear hv x1 y1 o1 oa r1
        go_wp2_with (at_builtin; go_must (refine wpList_partNums _ (by rfl) _ _ (by rfl) (by rfl) HOA.out (x := ⟨some ⟨X1.heap.size, 0, none⟩, 1, 1, [.int .u32 (v : Int)]⟩) (by rfl) (part_oneN _ _ (heap_alloc_new X1 _) rfl) hjb hvb ?_; intro ao2 c2 X2 o2 g2))
        have f2 : Fr (fun k => (Value.slice ao j c).ownBlock = some k) (X1.alloc (.cells #[.int .u32 (v : Int)] 28)) X2 := Fr.grown (Fr.refl _ _) g2 (fun k e _ => e)
        have HO2 : Hid (X2.ownsRow V.heap.size 28 1 (.slice ao2 (j + 1) c2) (j + 1) (ncells (readK s pc (j + 1)))) := by
          show World.ownsRow _ _ _ _ _ _ _
          rw [readK_succ, ncells_app, ← HV.out]
          exact o2
        have HR2 : Hid (RdAt X2 rb s (itN s pc (j + 1)).1 (itN s pc (j + 1)).2) := ⟨(f2.block _ (lt_of_heap HRA.out.1) (fun e => own_neT HOA.out HRA.out.1 (by decide) _ e rfl)).trans HRA.out.1, HRA.out.2⟩
        have HS2 : Hid (Same V X2) := Fr.trans HYA.out f2 (fun k hk e => by have := own_blk HOA.out k e; omega)
        clear f2 o2 g2 hjb hvb
        go_wp2_with fail
        go_roundg (k0 - (j + 1))
        case measure => omega
        case rel => exact ⟨j + 1, ao2, c2, rfl, by go_num, by omega, rfl, HO2, HR2, HS2⟩
      · have hgi : ¬ (j : Int) < (k0 : Int) := by omega
        have hjk : j = k0 := by omega
        subst hjk
        rw [HNs.out] at HO1
        obtain ⟨g0, hrow⟩ := own_nrow HO1.out (by rw [← HNs.out, readK_len])
        have HRow : Hid (NRow wr ao g0 0 (frNs p q s)) := hrow
        have HLn : Hid (j = (frNs p q s).length) := by show _ = _; rw [← HNs.out, readK_len]
        obtain ⟨c0, c1⟩ := HC.out _ HS1.out
        obtain ⟨bs, hbs⟩ : ∃ bs, bs = bodyS p q nx (frNs p q s) := ⟨_, rfl⟩
        obtain ⟨be, hbe⟩ : ∃ be, be = bodyE p q nx (frNs p q s) := ⟨_, rfl⟩
        have HB1 : Hid (Calls Try.prog 14 #[.agg #[.int .i64 p, .int .i64 q], .int .u32 (nx : Int), .slice ao j c] wr fun e w' => e = .returned (.tuple #[.string bs, .int .i64 be]) ∧ Same wr w') := by
          have := HBd.out wr ao g0 0 c nx (frNs p q s) HRow.out (by rw [← HLn.out]; have := HK0.out.2; omega) HNX.out.2
          rw [← HLn.out, ← hbs, ← hbe] at this
          exact this
        have HOk : Hid (frOk p q s = ((be == 0) && decide (bs = s))) := by
          show _ = _
          unfold frOk
          rw [HFP.out, ← HNX.out.1, ← hbs, ← hbe]
          simp
        clear hbs hbe hrow hgi
        go_wp2_with fail
        refine HB1.out.mono ?_
        rintro e X3 ⟨rfl, s3⟩
        have HS3 : Hid (Same w X3) := sx.trans (HS1.out.trans s3)
        have HO3 : Hid (X3.ownsRow w.heap.size 28 1 (.slice ao j c) j (ncells (frNs p q s))) := own_base (own_frameB HO1.out s3 (fun kk hk e => e)) HVZ.out
        clear c0 c1 s3
        by_cases hbe : be = 0
        · subst hbe
          by_cases hss : bs = s
          · subst hss
            have hok : Hid (frOk p q bs = true) := by show _ = _; rw [HOk.out]; simp
            go_wp2_with fail
            go_ret3
            exact ⟨.inl ⟨hok.out, ao, c, by rw [← HNX.out.1, ← HLn.out]; rfl, by rw [← HLn.out]; exact HO3.out⟩, HS3.out⟩
          · have hok : Hid (frOk p q s = false) := by show _ = _; rw [HOk.out]; simp [hss]
            have hb2 := beq_toList hss
            go_wp2_with fail
            go_ret3
            exact ⟨.inr ⟨hok.out, by rw [HFP.out]; rfl⟩, HS3.out⟩
        · have hok : Hid (frOk p q s = false) := by show _ = _; rw [HOk.out]; simp [hbe]
          go_wp2_with fail
          go_ret3
          exact ⟨.inr ⟨hok.out, by rw [HFP.out]; rfl⟩, HS3.out⟩
end Go.Proofs.Ytajbifblbmlffaa
