/- The forms of a node: bytes. -/
import Derived.Test.YtjlbkagkmcelgaaNA
namespace Go.Proofs.Ytjlbkagkmcelgaa
open Go.RowKit

set_option maxRecDepth 100000 in
theorem new_wst (w : World) : Calls Try.prog 41 #[] w fun e w' => e = .returned (.pointer (some ⟨w.heap.size, 0, none⟩)) ∧ WSt w w' w.heap.size [] := by
  have h := wst_new w
  go_enter Try.func41, Try.ntmps41
  go_wp2
  go_ret
  exact ⟨rfl, h⟩
/-- A form: how a kid is laid, how it is read. -/
abbrev pageV : Value := .agg #[.func (.func 39) #[] #[], .func (.func 40) #[] #[]]
abbrev plainV : Value := .agg #[.func (.func 50) #[] #[], .func (.func 51) #[] #[]]
set_option maxRecDepth 100000 in
theorem pageForm_calls (w : World) : Calls Try.prog 26 #[] w fun e w' => e = .returned pageV ∧ Same w w' := by
  go_enter Try.func26, Try.ntmps26
  have hz : (Try.prog.info? 59).map (·.size) = some (#[Value.func (.func 39) #[] #[], Value.func (.func 40) #[] #[]] : Array Value).size := by kernel_rfl
  have ho : (#[Value.func (.func 39) #[] #[], Value.func (.func 40) #[] #[]] : Array Value).all (·.oneCell') = true := by kernel_rfl
  go_wp2_with (refine wpList_store_whole (by rfl) 59 _ _ (by rfl) w.heap.size #[.func (.func 39) #[] #[], .func (.func 40) #[] #[]] #[.nilFunc, .nilFunc] 59 (by rfl) (by rfl) (heap_alloc_new w _) rfl hz ho ?_; intro W1 r1 f1)
  exact bodyPost_ret (results_cell_row (p := 0) (ty := 59) (by kernel_rfl) _ _ w.heap.size 59 _ (0, 0) _ rfl r1 Try.underlying59 rfl (by kernel_rfl)) rfl ⟨rfl, Fr.trans ((Fr.refl _ w).alloc _) f1 (fun i hi e => by omega)⟩
set_option maxRecDepth 100000 in
theorem plainForm_calls (w : World) : Calls Try.prog 33 #[] w fun e w' => e = .returned plainV ∧ Same w w' := by
  go_enter Try.func33, Try.ntmps33
  have hz : (Try.prog.info? 59).map (·.size) = some (#[Value.func (.func 50) #[] #[], Value.func (.func 51) #[] #[]] : Array Value).size := by kernel_rfl
  have ho : (#[Value.func (.func 50) #[] #[], Value.func (.func 51) #[] #[]] : Array Value).all (·.oneCell') = true := by kernel_rfl
  go_wp2_with (refine wpList_store_whole (by rfl) 59 _ _ (by rfl) w.heap.size #[.func (.func 50) #[] #[], .func (.func 51) #[] #[]] #[.nilFunc, .nilFunc] 59 (by rfl) (by rfl) (heap_alloc_new w _) rfl hz ho ?_; intro W1 r1 f1)
  exact bodyPost_ret (results_cell_row (p := 0) (ty := 59) (by kernel_rfl) _ _ w.heap.size 59 _ (0, 0) _ rfl r1 Try.underlying59 rfl (by kernel_rfl)) rfl ⟨rfl, Fr.trans ((Fr.refl _ w).alloc _) f1 (fun i hi e => by omega)⟩
theorem heap3 (w : World) (a b c : Obj) : (((w.alloc a).alloc b).alloc c).heap[w.heap.size]? = some a ∧ (((w.alloc a).alloc b).alloc c).heap[w.heap.size + 1]? = some b ∧ (((w.alloc a).alloc b).alloc c).heap[w.heap.size + 1 + 1]? = some c := by
  refine ⟨?_, ?_, ?_⟩
  · rw [Below.heap_alloc _ _ _ (by simp; omega)]; exact heap_alloc2_old w _ _
  · rw [Below.heap_alloc _ _ _ (by simp)]; exact heap_alloc2_new w _ _
  · have := heap_alloc2_new (w.alloc a) b c
    rw [show (w.alloc a).heap.size = w.heap.size + 1 from by simp] at this
    exact this
/-- A node's bytes. -/
def formN (pages : Bool) (q : Int) (N : Nd) : List UInt8 := if leafB N = true then 1 :: (freeB N.ps.length ++ pairsB N.ps) else 2 :: (freeB N.ks.length ++ kidsB pages q true N.ss N.ks)
theorem kidsB_many {pages : Bool} {q : Int} (ss : List ByteArray) (ks : List Kid) (h : ss.length + 1 = ks.length) : ks.length ≤ (kidsB pages q true ss ks).length + 1 := by
  have hf : ∀ (ss : List ByteArray) (ks : List Kid), ss.length = ks.length → ks.length ≤ (kidsB pages q false ss ks).length := by
    intro ss
    induction ss with
    | nil => intro ks h; cases ks with
      | nil => simp
      | cons k ks => simp at h
    | cons s ss ih => intro ks h; cases ks with
      | nil => simp
      | cons k ks =>
        have h2 := ih ks (by simpa using h)
        have h1 : 1 ≤ (textB s).length := by
          unfold textB
          have : 1 ≤ (freeB s.size).length := by unfold freeB freeF; split <;> simp
          rw [List.length_append]; omega
        show (k :: ks).length ≤ (textB s ++ kidB pages q k ++ kidsB pages q false ss ks).length
        simp only [List.length_append, List.length_cons]
        omega
  cases ks with
  | nil => simp
  | cons k ks =>
    have := hf ss ks (by simpa using h)
    show (k :: ks).length ≤ (kidB pages q k ++ kidsB pages q false ss ks).length + 1
    rw [List.length_append, List.length_cons]; omega
theorem kst_new {w W : World} {b : Nat} {bs : List UInt8} (h : WSt w W b bs) (sv : Value) : KSt w ((W.alloc (.cells #[sv] 23)).alloc (.cells #[.bool true] 4)) b bs (W.heap.size + 1) W.heap.size true sv := by
  obtain ⟨g, hw, h2, h3, h4⟩ := h
  obtain ⟨lb, lg⟩ := hw.ltb
  have hs := h4.size
  refine ⟨⟨g, hw.same1 (((Fr.refl _ W).alloc _).alloc _), fun k hk => ⟨h3 k hk, by have := lg k hk; omega, by have := lg k hk; omega⟩⟩, ⟨h2, by omega, by omega, by omega, by omega, by omega⟩, ?_, ?_, (h4.alloc _).alloc _⟩
  · exact heap_alloc2_new W _ _
  · exact heap_alloc2_old W _ _
structure NdCap (r : Nr) (N : Nd) : Prop where
  cs : N.ss.length ≤ r.cs
  cm : r.cs ≤ 9223372036854775807
set_option maxRecDepth 100000 in
set_option maxHeartbeats 1000000 in
theorem bytes_page {p q : Int} {r : Nr} {N : Nd} (w : World) (h : NdAt w r N) (hc : NdCap r N) (hsl : leafB N = false → N.ss.length + 1 = N.ks.length) (hlen : (formN true q N).length ≤ 50000000000) :
    Calls Try.prog 27 #[pageV, frameV p q, ndV r N] w fun e w' => e = .returned (.string ⟨(formN true q N).toArray⟩) ∧ Same w w' := by
  obtain ⟨V, hV⟩ : ∃ V, V = ((w.alloc (.cells #[.func (.func 39) #[] #[], .func (.func 40) #[] #[]] 59)).alloc (.cells #[.int .i64 p, .int .i64 q] 48)).alloc (.cells #[.slice r.pa N.ps.length r.cp, .slice r.sa N.ss.length r.cs, .slice r.ka N.ks.length r.ck] 26) := ⟨_, rfl⟩
  have sx : Same w V := by rw [hV]; exact (((Fr.refl _ w).alloc _).alloc _).alloc _
  have x0 : V.cell? ⟨w.heap.size, 0, none⟩ = some (.func (.func 39) #[] #[]) := by rw [hV, cell_of_row _ _ _ _ _ _ (heap3 w _ _ _).1]; rfl
  have a1 : V.cell? ⟨w.heap.size + 1, 1, none⟩ = some (.int .i64 q) := by rw [hV, cell_of_row _ _ _ _ _ _ (heap3 w _ _ _).2.1]; rfl
  have n0 : V.cell? ⟨w.heap.size + 1 + 1, 0, none⟩ = some (.slice r.pa N.ps.length r.cp) := by rw [hV, cell_of_row _ _ _ _ _ _ (heap3 w _ _ _).2.2]; rfl
  have n1 : V.cell? ⟨w.heap.size + 1 + 1, 1, none⟩ = some (.slice r.sa N.ss.length r.cs) := by rw [hV, cell_of_row _ _ _ _ _ _ (heap3 w _ _ _).2.2]; rfl
  have n2 : V.cell? ⟨w.heap.size + 1 + 1, 2, none⟩ = some (.slice r.ka N.ks.length r.ck) := by rw [hV, cell_of_row _ _ _ _ _ _ (heap3 w _ _ _).2.2]; rfl
  have hv := h.same sx
  have HN : Hid (Calls Try.prog 41 #[] V fun e w' => e = .returned (.pointer (some ⟨V.heap.size, 0, none⟩)) ∧ WSt V w' V.heap.size []) := new_wst V
  have HI : Hid (∀ W, Calls Try.prog 36 #[ndV r N] W fun e w' => e = .returned (.bool (leafB N)) ∧ Same W w') := fun W => isLeaf_calls W
  by_cases hlf : leafB N = true
  · have hf : formN true q N = 1 :: (freeB N.ps.length ++ pairsB N.ps) := by unfold formN; rw [if_pos hlf]
    rw [hlf] at HI
    rw [hf] at hlen ⊢
    have HE : Hid (∀ W, WSt V W V.heap.size [1] → Calls Try.prog 43 #[.pointer (some ⟨V.heap.size, 0, none⟩), .slice r.pa N.ps.length r.cp, .func (.func 44) #[] #[]] W fun e w' => e = .returned (.tuple #[]) ∧ WSt V w' V.heap.size ([1] ++ (freeB N.ps.length ++ pairsB N.ps))) := by
      intro W hW
      obtain ⟨g, h1, h2, h3, h4⟩ := hW
      have hp := hv.hp.same h4
      have hlt : N.ps ≠ [] → r.pb < V.heap.size := fun e => (hv.hp.place e).2
      simp only [List.length_cons, List.length_append] at hlen
      have hpl : N.ps.length ≤ (pairsB N.ps).length := by
        clear hlen hf HI hlf hv h hp hlt n0 n1 n2
        induction N.ps with
        | nil => simp
        | cons x l ih =>
          have e : pairsB (x :: l) = pairB x ++ pairsB l := rfl
          have h1 : 1 ≤ (pairB x).length := by
            unfold pairB textB
            have : 1 ≤ (freeB x.1.size).length := by
              unfold freeB freeF; split <;> simp
            simp only [List.length_append]; omega
          rw [e, List.length_append, List.length_cons]; omega
      exact (eachPair_calls N.ps r.pa r.pb r.po r.cp hp (fun e => by have := hlt e; omega) (fun e e2 => by have := h3 _ e2.symm; have := hlt e; omega) (by omega) h1 (by simp only [List.length_cons, List.length_nil]; omega)).mono fun e w' ⟨he, g', hw', st⟩ => ⟨he, WSt.keep h2 h3 h4 hw' st⟩
    have HP : Hid (∀ W, WSt V W V.heap.size [] → Calls Try.prog 42 #[.pointer (some ⟨V.heap.size, 0, none⟩), .int .u8 1] W fun e w' => e = .returned (.tuple #[]) ∧ WSt V w' V.heap.size [1]) := fun W hW => wst_u8 1 (by decide) hW (by simp)
    generalize (freeB N.ps.length ++ pairsB N.ps) = BS at *
    clear h hv hf hlen hsl hc
    go_enter Try.func27, Try.ntmps27
    go_wp2_with fail
    rw [← hV]
    clear hV
    refine HN.out.mono ?_
    rintro e W1 ⟨rfl, h1⟩
    have m0 := h1.base.keep n0
    have m1 := h1.base.keep n1
    have m2 := h1.base.keep n2
    go_wp2_with fail
    refine (HI.out _).mono ?_
    rintro e W2 ⟨rfl, s2⟩
    have h2 := h1.same s2
    clear h1 s2 m0 m1 m2
    go_wp2_with fail
    refine (HP.out _ h2).mono ?_
    rintro e W3 ⟨rfl, h3⟩
    have m0 := h3.base.keep n0
    clear h2
    go_wp2_with fail
    refine (HE.out _ h3).mono ?_
    rintro e W4 ⟨rfl, h4⟩
    have HSt : Hid (Calls Try.prog 45 #[.pointer (some ⟨V.heap.size, 0, none⟩)] W4 fun e w' => e = .returned (.string ⟨([1] ++ BS).toArray⟩) ∧ W4 = w') := wst_string h4
    have hb4 := h4.base
    clear h3 h4
    go_wp2_with fail
    refine HSt.out.mono ?_
    rintro e W5 ⟨rfl, hW5⟩
    rw [← hW5]
    clear hW5
    go_wp2_with fail
    go_ret
    exact ⟨rfl, sx.trans hb4⟩
  · have hlf' : leafB N = false := by simpa using hlf
    have hf : formN true q N = 2 :: (freeB N.ks.length ++ kidsB true q true N.ss N.ks) := by unfold formN; rw [if_neg hlf]
    have hsl := hsl hlf'
    rw [hlf'] at HI
    rw [hf] at hlen ⊢
    have HP : Hid (∀ W, WSt V W V.heap.size [] → Calls Try.prog 42 #[.pointer (some ⟨V.heap.size, 0, none⟩), .int .u8 2] W fun e w' => e = .returned (.tuple #[]) ∧ WSt V w' V.heap.size [2]) := fun W hW => wst_u8 2 (by decide) hW (by simp)
    have HE : Hid (∀ W fb sb, KSt V W V.heap.size [2] fb sb true (.slice r.sa N.ss.length r.cs) → Calls Try.prog 46 #[.pointer (some ⟨V.heap.size, 0, none⟩), .slice r.ka N.ks.length r.ck, .func (.func 47) #[] #[.pointer (some ⟨fb, 0, none⟩), .pointer (some ⟨sb, 0, none⟩), .pointer (some ⟨w.heap.size, 0, none⟩), .pointer (some ⟨w.heap.size + 1, 0, none⟩)]] W fun e w' => e = .returned (.tuple #[]) ∧ WSt V w' V.heap.size ([2] ++ (freeB N.ks.length ++ kidsB true q true N.ss N.ks))) := by
      intro W fb sb hW
      simp only [List.length_cons, List.length_append] at hlen
      refine eachKid_page hv.hs hv.hk hv.ok hsl hc.cs hc.cm ?_ hW (by simp only [List.length_cons, List.length_nil]; omega) x0 a1
      have := kidsB_many (pages := true) (q := q) N.ss N.ks (by omega)
      omega
    have HKS : Hid (∀ W, WSt V W V.heap.size [2] → KSt V ((W.alloc (.cells #[.slice r.sa N.ss.length r.cs] 23)).alloc (.cells #[.bool true] 4)) V.heap.size [2] (W.heap.size + 1) W.heap.size true (.slice r.sa N.ss.length r.cs)) := fun W hW => kst_new hW _
    generalize (freeB N.ks.length ++ kidsB true q true N.ss N.ks) = BS at *
    clear h hv hf hlen hsl hc hlf hlf'
    go_enter Try.func27, Try.ntmps27
    go_wp2_with fail
    rw [← hV]
    clear hV
    refine HN.out.mono ?_
    rintro e W1 ⟨rfl, h1⟩
    have m0 := h1.base.keep n0
    have m1 := h1.base.keep n1
    have m2 := h1.base.keep n2
    go_wp2_with fail
    refine (HI.out _).mono ?_
    rintro e W2 ⟨rfl, s2⟩
    have h2 := h1.same s2
    clear h1 s2 m0 m1 m2
    go_wp2_with fail
    refine (HP.out _ h2).mono ?_
    rintro e W3 ⟨rfl, h3⟩
    have m1 := h3.base.keep n1
    have hk3 := HKS.out _ h3
    have m2 := hk3.base.keep n2
    have hlt3 := h3.base.size
    clear h2
    go_wp2_with fail
    refine (HE.out _ _ _ hk3).mono ?_
    rintro e W4 ⟨rfl, h4⟩
    have HSt : Hid (Calls Try.prog 45 #[.pointer (some ⟨V.heap.size, 0, none⟩)] W4 fun e w' => e = .returned (.string ⟨([2] ++ BS).toArray⟩) ∧ W4 = w') := wst_string h4
    have hb4 := h4.base
    clear h3 h4 hk3 m1 m2
    go_wp2_with fail
    refine HSt.out.mono ?_
    rintro e W5 ⟨rfl, hW5⟩
    rw [← hW5]
    clear hW5
    go_wp2_with fail
    go_ret
    exact ⟨rfl, sx.trans hb4⟩
set_option maxRecDepth 100000 in
set_option maxHeartbeats 1000000 in
theorem bytes_plain {p q : Int} {r : Nr} {N : Nd} (w : World) (h : NdAt w r N) (hc : NdCap r N) (hsl : leafB N = false → N.ss.length + 1 = N.ks.length) (hlen : (formN false q N).length ≤ 50000000000) :
    Calls Try.prog 27 #[plainV, frameV p q, ndV r N] w fun e w' => e = .returned (.string ⟨(formN false q N).toArray⟩) ∧ Same w w' := by
  obtain ⟨V, hV⟩ : ∃ V, V = ((w.alloc (.cells #[.func (.func 50) #[] #[], .func (.func 51) #[] #[]] 59)).alloc (.cells #[.int .i64 p, .int .i64 q] 48)).alloc (.cells #[.slice r.pa N.ps.length r.cp, .slice r.sa N.ss.length r.cs, .slice r.ka N.ks.length r.ck] 26) := ⟨_, rfl⟩
  have sx : Same w V := by rw [hV]; exact (((Fr.refl _ w).alloc _).alloc _).alloc _
  have x0 : V.cell? ⟨w.heap.size, 0, none⟩ = some (.func (.func 50) #[] #[]) := by rw [hV, cell_of_row _ _ _ _ _ _ (heap3 w _ _ _).1]; rfl
  have a1 : V.cell? ⟨w.heap.size + 1, 1, none⟩ = some (.int .i64 q) := by rw [hV, cell_of_row _ _ _ _ _ _ (heap3 w _ _ _).2.1]; rfl
  have n0 : V.cell? ⟨w.heap.size + 1 + 1, 0, none⟩ = some (.slice r.pa N.ps.length r.cp) := by rw [hV, cell_of_row _ _ _ _ _ _ (heap3 w _ _ _).2.2]; rfl
  have n1 : V.cell? ⟨w.heap.size + 1 + 1, 1, none⟩ = some (.slice r.sa N.ss.length r.cs) := by rw [hV, cell_of_row _ _ _ _ _ _ (heap3 w _ _ _).2.2]; rfl
  have n2 : V.cell? ⟨w.heap.size + 1 + 1, 2, none⟩ = some (.slice r.ka N.ks.length r.ck) := by rw [hV, cell_of_row _ _ _ _ _ _ (heap3 w _ _ _).2.2]; rfl
  have hv := h.same sx
  have HN : Hid (Calls Try.prog 41 #[] V fun e w' => e = .returned (.pointer (some ⟨V.heap.size, 0, none⟩)) ∧ WSt V w' V.heap.size []) := new_wst V
  have HI : Hid (∀ W, Calls Try.prog 36 #[ndV r N] W fun e w' => e = .returned (.bool (leafB N)) ∧ Same W w') := fun W => isLeaf_calls W
  by_cases hlf : leafB N = true
  · have hf : formN false q N = 1 :: (freeB N.ps.length ++ pairsB N.ps) := by unfold formN; rw [if_pos hlf]
    rw [hlf] at HI
    rw [hf] at hlen ⊢
    have HE : Hid (∀ W, WSt V W V.heap.size [1] → Calls Try.prog 43 #[.pointer (some ⟨V.heap.size, 0, none⟩), .slice r.pa N.ps.length r.cp, .func (.func 44) #[] #[]] W fun e w' => e = .returned (.tuple #[]) ∧ WSt V w' V.heap.size ([1] ++ (freeB N.ps.length ++ pairsB N.ps))) := by
      intro W hW
      obtain ⟨g, h1, h2, h3, h4⟩ := hW
      have hp := hv.hp.same h4
      have hlt : N.ps ≠ [] → r.pb < V.heap.size := fun e => (hv.hp.place e).2
      simp only [List.length_cons, List.length_append] at hlen
      have hpl : N.ps.length ≤ (pairsB N.ps).length := by
        clear hlen hf HI hlf hv h hp hlt n0 n1 n2
        induction N.ps with
        | nil => simp
        | cons x l ih =>
          have e : pairsB (x :: l) = pairB x ++ pairsB l := rfl
          have h1 : 1 ≤ (pairB x).length := by
            unfold pairB textB
            have : 1 ≤ (freeB x.1.size).length := by
              unfold freeB freeF; split <;> simp
            simp only [List.length_append]; omega
          rw [e, List.length_append, List.length_cons]; omega
      exact (eachPair_calls N.ps r.pa r.pb r.po r.cp hp (fun e => by have := hlt e; omega) (fun e e2 => by have := h3 _ e2.symm; have := hlt e; omega) (by omega) h1 (by simp only [List.length_cons, List.length_nil]; omega)).mono fun e w' ⟨he, g', hw', st⟩ => ⟨he, WSt.keep h2 h3 h4 hw' st⟩
    have HP : Hid (∀ W, WSt V W V.heap.size [] → Calls Try.prog 42 #[.pointer (some ⟨V.heap.size, 0, none⟩), .int .u8 1] W fun e w' => e = .returned (.tuple #[]) ∧ WSt V w' V.heap.size [1]) := fun W hW => wst_u8 1 (by decide) hW (by simp)
    generalize (freeB N.ps.length ++ pairsB N.ps) = BS at *
    clear h hv hf hlen hsl hc
    go_enter Try.func27, Try.ntmps27
    go_wp2_with fail
    rw [← hV]
    clear hV
    refine HN.out.mono ?_
    rintro e W1 ⟨rfl, h1⟩
    have m0 := h1.base.keep n0
    have m1 := h1.base.keep n1
    have m2 := h1.base.keep n2
    go_wp2_with fail
    refine (HI.out _).mono ?_
    rintro e W2 ⟨rfl, s2⟩
    have h2 := h1.same s2
    clear h1 s2 m0 m1 m2
    go_wp2_with fail
    refine (HP.out _ h2).mono ?_
    rintro e W3 ⟨rfl, h3⟩
    have m0 := h3.base.keep n0
    clear h2
    go_wp2_with fail
    refine (HE.out _ h3).mono ?_
    rintro e W4 ⟨rfl, h4⟩
    have HSt : Hid (Calls Try.prog 45 #[.pointer (some ⟨V.heap.size, 0, none⟩)] W4 fun e w' => e = .returned (.string ⟨([1] ++ BS).toArray⟩) ∧ W4 = w') := wst_string h4
    have hb4 := h4.base
    clear h3 h4
    go_wp2_with fail
    refine HSt.out.mono ?_
    rintro e W5 ⟨rfl, hW5⟩
    rw [← hW5]
    clear hW5
    go_wp2_with fail
    go_ret
    exact ⟨rfl, sx.trans hb4⟩
  · have hlf' : leafB N = false := by simpa using hlf
    have hf : formN false q N = 2 :: (freeB N.ks.length ++ kidsB false q true N.ss N.ks) := by unfold formN; rw [if_neg hlf]
    have hsl := hsl hlf'
    rw [hlf'] at HI
    rw [hf] at hlen ⊢
    have HP : Hid (∀ W, WSt V W V.heap.size [] → Calls Try.prog 42 #[.pointer (some ⟨V.heap.size, 0, none⟩), .int .u8 2] W fun e w' => e = .returned (.tuple #[]) ∧ WSt V w' V.heap.size [2]) := fun W hW => wst_u8 2 (by decide) hW (by simp)
    have HE : Hid (∀ W fb sb, KSt V W V.heap.size [2] fb sb true (.slice r.sa N.ss.length r.cs) → Calls Try.prog 46 #[.pointer (some ⟨V.heap.size, 0, none⟩), .slice r.ka N.ks.length r.ck, .func (.func 47) #[] #[.pointer (some ⟨fb, 0, none⟩), .pointer (some ⟨sb, 0, none⟩), .pointer (some ⟨w.heap.size, 0, none⟩), .pointer (some ⟨w.heap.size + 1, 0, none⟩)]] W fun e w' => e = .returned (.tuple #[]) ∧ WSt V w' V.heap.size ([2] ++ (freeB N.ks.length ++ kidsB false q true N.ss N.ks))) := by
      intro W fb sb hW
      simp only [List.length_cons, List.length_append] at hlen
      refine eachKid_plain hv.hs hv.hk hv.ok hsl hc.cs hc.cm ?_ hW (by simp only [List.length_cons, List.length_nil]; omega) x0 a1
      have := kidsB_many (pages := false) (q := q) N.ss N.ks (by omega)
      omega
    have HKS : Hid (∀ W, WSt V W V.heap.size [2] → KSt V ((W.alloc (.cells #[.slice r.sa N.ss.length r.cs] 23)).alloc (.cells #[.bool true] 4)) V.heap.size [2] (W.heap.size + 1) W.heap.size true (.slice r.sa N.ss.length r.cs)) := fun W hW => kst_new hW _
    generalize (freeB N.ks.length ++ kidsB false q true N.ss N.ks) = BS at *
    clear h hv hf hlen hsl hc hlf hlf'
    go_enter Try.func27, Try.ntmps27
    go_wp2_with fail
    rw [← hV]
    clear hV
    refine HN.out.mono ?_
    rintro e W1 ⟨rfl, h1⟩
    have m0 := h1.base.keep n0
    have m1 := h1.base.keep n1
    have m2 := h1.base.keep n2
    go_wp2_with fail
    refine (HI.out _).mono ?_
    rintro e W2 ⟨rfl, s2⟩
    have h2 := h1.same s2
    clear h1 s2 m0 m1 m2
    go_wp2_with fail
    refine (HP.out _ h2).mono ?_
    rintro e W3 ⟨rfl, h3⟩
    have m1 := h3.base.keep n1
    have hk3 := HKS.out _ h3
    have m2 := hk3.base.keep n2
    have hlt3 := h3.base.size
    clear h2
    go_wp2_with fail
    refine (HE.out _ _ _ hk3).mono ?_
    rintro e W4 ⟨rfl, h4⟩
    have HSt : Hid (Calls Try.prog 45 #[.pointer (some ⟨V.heap.size, 0, none⟩)] W4 fun e w' => e = .returned (.string ⟨([2] ++ BS).toArray⟩) ∧ W4 = w') := wst_string h4
    have hb4 := h4.base
    clear h3 h4 hk3 m1 m2
    go_wp2_with fail
    refine HSt.out.mono ?_
    rintro e W5 ⟨rfl, hW5⟩
    rw [← hW5]
    clear hW5
    go_wp2_with fail
    go_ret
    exact ⟨rfl, sx.trans hb4⟩
end Go.Proofs.Ytjlbkagkmcelgaa
