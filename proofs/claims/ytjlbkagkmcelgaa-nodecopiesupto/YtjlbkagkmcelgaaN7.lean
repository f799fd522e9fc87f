/- Pairs laid: layPair, Each over pairs. -/
import Derived.Test.YtjlbkagkmcelgaaN6
import Derived.Test.YtjlbkagkmcelgaaNW
namespace Go.Proofs.Ytjlbkagkmcelgaa
open Go.RowKit

theorem wst_there {w W : World} {b : Nat} {bs : List UInt8} (h : WSt w W b bs) : Calls Try.prog 64 #[.pointer (some ⟨b, 0, none⟩)] W fun e w' => e = .returned (.bool true) ∧ W = w' := by
  obtain ⟨g, ⟨ao, c, hblk, _, _⟩, _⟩ := h
  exact there_calls (cell_of_two hblk).1

def pairB (x : ByteArray × ByteArray) : List UInt8 := textB x.1 ++ textB x.2
def pairsB (ps : List (ByteArray × ByteArray)) : List UInt8 := ps.flatMap pairB
theorem pairsB_take_succ (ps : List (ByteArray × ByteArray)) (k : Nat) (x : ByteArray × ByteArray) (h : ps[k]? = some x) : pairsB (ps.take (k + 1)) = pairsB (ps.take k) ++ pairB x := by
  rw [List.take_add_one, h]
  simp [pairsB]
theorem pairsB_take_le (ps : List (ByteArray × ByteArray)) (k : Nat) : (pairsB (ps.take k)).length ≤ (pairsB ps).length := by
  have : pairsB ps = pairsB (ps.take k) ++ pairsB (ps.drop k) := by
    unfold pairsB
    rw [← List.flatMap_append, List.take_append_drop]
  rw [this, List.length_append]; omega
theorem textB_len (s : ByteArray) : s.size ≤ (textB s).length := by unfold textB; rw [List.length_append, bytes_length]; omega

theorem WrAt.ltb {w : World} {b : Nat} {g : Option Nat} {bs : List UInt8} (h : WrAt w b g bs) : b < w.heap.size ∧ ∀ k, g = some k → k < w.heap.size := by
  obtain ⟨ao, c, hb, ho, rfl⟩ := h
  exact ⟨lt_of_heap hb, fun k hk => own_lt ho (by cases ao <;> simp_all [Value.ownBlock])⟩
theorem WrStep.alloc (b : Nat) (g : Option Nat) (w : World) (o : Obj) : WrStep b g g w (w.alloc o) := ⟨(Fr.refl _ w).alloc _, fun _ h => Or.inl h⟩
/-- A block that is neither the Writer's nor its bytes' is as it was. -/
theorem WrStep.keep {b : Nat} {g g' : Option Nat} {w w' : World} (st : WrStep b g g' w w') {k : Nat} {o : Obj} (hk : w.heap[k]? = some o) (h1 : k ≠ b) (h2 : some k ≠ g) : w'.heap[k]? = some o :=
  (st.1.block k (lt_of_heap hk) (by rintro (e | e); exact h1 e; exact h2 e)).trans hk
set_option maxRecDepth 100000 in
set_option maxHeartbeats 400000 in
theorem layPair_calls {w : World} {b : Nat} {g : Option Nat} {bs : List UInt8} (x : ByteArray × ByteArray) (h : WrAt w b g bs) (hl : bs.length + (pairB x).length ≤ 999999998000) :
    Calls Try.prog 44 #[.pointer (some ⟨b, 0, none⟩), .agg #[.string x.1, .string x.2]] w fun e w' => e = .returned (.tuple #[]) ∧ ∃ g', WrAt w' b g' (bs ++ pairB x) ∧ WrStep b g g' w w' := by
  obtain ⟨k, v⟩ := x
  unfold pairB at hl ⊢
  simp only at hl ⊢
  have l1 := textB_len k
  have l2 := textB_len v
  rw [List.length_append] at hl
  obtain ⟨lb, lg⟩ := h.ltb
  obtain ⟨V, hV⟩ : ∃ V, V = w.alloc (.cells #[.string k, .string v] 33) := ⟨_, rfl⟩
  have hv : WrAt V b g bs := by rw [hV]; exact h.same1 ((Fr.refl _ w).alloc _)
  have s0 : WrStep b g g w V := by rw [hV]; exact WrStep.alloc b g w _
  have r0 : V.heap[w.heap.size]? = some (.cells #[.string k, .string v] 33 (0, 0)) := by rw [hV]; exact heap_alloc_new w _
  have hne : w.heap.size ≠ b := by omega
  have hng : some w.heap.size ≠ g := by intro e; have := lg _ e.symm; omega
  have HT1 : Hid (Calls Try.prog 48 #[.pointer (some ⟨b, 0, none⟩), .string k] V fun e w' => e = .returned (.tuple #[]) ∧ ∃ g', WrAt w' b g' (bs ++ textB k) ∧ WrStep b g g' V w') := wtext_calls k hv (by omega)
  obtain ⟨c0, c1, _, _⟩ := cell_of_two r0
  have HL : Hid (bs.length + (textB k).length + (textB v).length ≤ 999999998000) := by show _ ≤ _; omega
  clear l1 hl h hv lb lg
  go_enter Try.func44, Try.ntmps44
  go_wp2_with fail
  rw [← hV]
  clear hV
  refine HT1.out.mono ?_
  rintro e w1 ⟨rfl, g1, h1, st1⟩
  have r1 := st1.keep r0 hne hng
  obtain ⟨c0, c1, _, _⟩ := cell_of_two r1
  have HT2 : Hid (Calls Try.prog 48 #[.pointer (some ⟨b, 0, none⟩), .string v] w1 fun e w' => e = .returned (.tuple #[]) ∧ ∃ g', WrAt w' b g' (bs ++ textB k ++ textB v) ∧ WrStep b g1 g' w1 w') := wtext_calls v h1 (by rw [List.length_append]; have := HL.out; omega)
  clear HT1 r0 r1 h1
  go_wp2_with fail
  refine HT2.out.mono ?_
  rintro e w2 ⟨rfl, g2, h2, st2⟩
  go_wp2_with fail
  go_end0
  exact ⟨rfl, g2, by rw [← List.append_assoc]; exact h2, (s0.trans st1).trans st2⟩

theorem eql_layPair (W : World) : (binOp .eql 76 (.func (.func 44) #[] #[]) .nilFunc).run Try.prog W = .ok (.bool false) W := by kernel_rfl
set_option maxRecDepth 100000 in
set_option maxHeartbeats 1000000 in
theorem eachPair_calls {w : World} {b : Nat} {g : Option Nat} {bs : List UInt8} (ps : List (ByteArray × ByteArray)) (pa : Option Addr) (pb po cp : Nat) (hr : PRow w pa pb po ps) (hb : ps ≠ [] → pb ≠ b) (hbg : ps ≠ [] → some pb ≠ g)
    (hss : ps.length ≤ 100000000000) (h : WrAt w b g bs) (hl : bs.length + (pairsB ps).length ≤ 900000000000) :
    Calls Try.prog 43 #[.pointer (some ⟨b, 0, none⟩), .slice pa ps.length cp, .func (.func 44) #[] #[]] w fun e w' => e = .returned (.tuple #[]) ∧ ∃ g', WrAt w' b g' (bs ++ (freeB ps.length ++ pairsB ps)) ∧ WrStep b g g' w w' := by
  obtain ⟨ao, c, hblk, hown, hg⟩ := id h
  obtain ⟨c0, c1, f0, f1⟩ := cell_of_two hblk
  have HR : Hid (PRow w pa pb po ps) := hr
  have HB : Hid (ps ≠ [] → pb ≠ b) := hb
  have HBG : Hid (ps ≠ [] → some pb ≠ g) := hbg
  have hef := eql_layPair
  obtain ⟨n, hn⟩ : ∃ n, n = ps.length := ⟨_, rfl⟩
  rw [← hn] at hss ⊢
  have HN : Hid (n = ps.length) := hn
  have HLL : Hid (bs.length + (pairsB ps).length ≤ 900000000000) := hl
  clear hr hn hb hbg
  go_enter Try.func43, Try.ntmps43
  go_wp2_with (go_at_call 64; refine (there_calls c0).mono ?_; rintro e w' ⟨rfl, rfl⟩)
  refine (wfree_calls n (by omega) h (by omega)).mono ?_
  rintro e w1 ⟨rfl, g1, h1, st1⟩
  have hfl := freeB_length n
  clear h hblk hown hg c0 c1 f0 f1 hl
  go_wp2_with fail
  go_loopg [20] n (fun gk iv wr => ∃ (k : Nat) (cur : List UInt8) (g2 : Option Nat), iv = .int .i64 (k : Int) ∧ k ≤ n ∧ gk = n - k ∧ Hid (WrAt wr b g2 cur) ∧ Hid (cur = bs ++ freeB n ++ pairsB (ps.take k)) ∧ Hid (WrStep b g g2 w wr))
  case atStart => exact ⟨0, bs ++ freeB n, g1, rfl, by omega, rfl, h1, by show _ = _; simp [pairsB], st1⟩
  case round =>
    obtain ⟨k, cur, g2, rfl, hk, hgk, HW, HCU, HST⟩ := hrel
    by_cases hgo : k < n
    · obtain ⟨x, hx⟩ : ∃ x, ps[k]? = some x := ⟨_, List.getElem?_eq_getElem (by rw [← HN.out]; exact hgo)⟩
      have hne : ps ≠ [] := by intro e; rw [e] at hx; simp at hx
      obtain ⟨hpa, hplt⟩ := HR.out.place hne
      have hsx := pairsB_take_succ ps k x hx
      have hlen : cur.length + (pairB x).length ≤ 999999997000 := by
        have h2 := pairsB_take_le ps (k + 1)
        rw [hsx, List.length_append] at h2
        have h3 := HLL.out
        rw [HCU.out, List.length_append, List.length_append]; omega
      have hcx := HR.out.cells k x hx
      have hfr : ∀ i, wr.cell? ⟨pb, i, none⟩ = w.cell? ⟨pb, i, none⟩ := fun i => HST.out.1.cell (p := ⟨pb, i, none⟩) hplt (by rintro (e | e); exact HB.out hne e; exact HBG.out hne e)
      have a0 := (hfr (po + k * 2)).trans hcx.1
      have a1 := (hfr (po + k * 2 + 1)).trans hcx.2
      subst hpa
      obtain ⟨V, hV⟩ : ∃ V, V = wr.alloc (.cells #[.string x.1, .string x.2] 33) := ⟨_, rfl⟩
      have hv : WrAt V b g2 cur := by rw [hV]; exact HW.out.same1 ((Fr.refl _ wr).alloc _)
      have s0 : WrStep b g2 g2 wr V := by rw [hV]; exact WrStep.alloc b g2 wr _
      have HLP : Hid (Calls Try.prog 44 #[.pointer (some ⟨b, 0, none⟩), .agg #[.string x.1, .string x.2]] V fun e w' => e = .returned (.tuple #[]) ∧ ∃ g', WrAt w' b g' (cur ++ pairB x) ∧ WrStep b g2 g' V w') := layPair_calls x hv (by omega)
      have HCU2 : Hid (cur ++ pairB x = bs ++ freeB n ++ pairsB (ps.take (k + 1))) := by
        show _ = _
        rw [hsx, HCU.out, List.append_assoc]
      have HS0 : Hid (WrStep b g g2 w V) := HST.out.trans s0
      clear hfr hcx hx hsx hlen hv s0 HCU HST HW hplt
      go_wp2_with fail
      rw [← hV]
      clear hV
      refine HLP.out.mono ?_
      rintro e w2 ⟨rfl, g3, h3, st3⟩
      have HW3 : Hid (WrAt w2 b g3 (cur ++ pairB x)) := h3
      have HS3 : Hid (WrStep b g g3 w w2) := HS0.out.trans st3
      clear h3 st3
      go_wp2_with fail
      go_roundg (n - (k + 1))
      case measure => omega
      case rel => exact ⟨k + 1, cur ++ pairB x, g3, by go_num, by omega, rfl, HW3, HCU2, HS3⟩
    · obtain rfl : k = n := by omega
      have HF : Hid (cur = bs ++ (freeB k ++ pairsB ps)) := by
        show _ = _
        rw [HCU.out, HN.out, List.take_length, List.append_assoc]
      clear HCU
      go_wp2_with fail
      go_end0
      refine ⟨rfl, g2, ?_, HST.out⟩
      rw [← HF.out]; exact HW.out
end Go.Proofs.Ytjlbkagkmcelgaa
