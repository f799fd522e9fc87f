/- Kids read: readSum, readKid. -/
import Derived.Test.YtjlbkagkmcelgaaNE
namespace Go.Proofs.Ytjlbkagkmcelgaa
open Go.RowKit

theorem fold_put (o : Nat) (l : List Value) : ∀ (k : Nat) (pre mid post : List Value), pre.length = o + k → mid.length = l.length → List.foldl (fun (cs : Array Value) (x : Value × Nat) => cs.setIfInBounds (o + x.snd) x.fst) (pre ++ (mid ++ post)).toArray (l.zipIdx k) = (pre ++ (l ++ post)).toArray := by
  induction l with
  | nil => intro k pre mid post _ h; rw [List.length_nil, List.length_eq_zero_iff] at h; subst h; rfl
  | cons x l ih =>
    intro k pre mid post hp hm
    match mid, hm with
    | y :: mid, hm =>
      rw [List.zipIdx_cons, List.foldl_cons]
      have e : ((pre ++ (y :: mid ++ post)).toArray.setIfInBounds (o + k) x) = ((pre ++ [x]) ++ (mid ++ post)).toArray := by
        rw [List.setIfInBounds_toArray, List.set_append_right _ _ (by omega), ← hp, Nat.sub_self]; simp
      simp only
      rw [e, ih (k + 1) (pre ++ [x]) mid post (by simp; omega) (by simpa using hm)]
      simp
theorem kid_laid (d : List UInt8) (hd : d.length = 32) (v : Value) : List.foldl (fun (cs : Array Value) (x : Value × Nat) => cs.setIfInBounds (1 + x.snd) x.fst) #[v, .int .u8 0, .int .u8 0, .int .u8 0, .int .u8 0, .int .u8 0, .int .u8 0, .int .u8 0, .int .u8 0, .int .u8 0, .int .u8 0, .int .u8 0, .int .u8 0, .int .u8 0, .int .u8 0, .int .u8 0, .int .u8 0, .int .u8 0, .int .u8 0, .int .u8 0, .int .u8 0, .int .u8 0, .int .u8 0, .int .u8 0, .int .u8 0, .int .u8 0, .int .u8 0, .int .u8 0, .int .u8 0, .int .u8 0, .int .u8 0, .int .u8 0, .int .u8 0] (bcells d).zipIdx = (v :: bcells d).toArray := by
  have h := fold_put 1 (bcells d) 0 [v] (bcells (List.replicate 32 0)) [] rfl (by rw [bcells_length, bcells_length, hd]; rfl)
  rw [List.append_nil, List.append_nil] at h
  exact h
theorem padD_len (s : ByteArray) (h : s.size ≤ 32) : (padD s).length = 32 := by
  unfold padD; simp; omega
/-- A kid read without its page, with it. -/
def rdSum (q : Int) (s : ByteArray) (p c : Nat) : Kid × Nat × Nat := (⟨0, padD (rRaw s p c (widthN q)).1⟩, (rRaw s p c (widthN q)).2)
set_option maxRecDepth 100000 in
set_option maxHeartbeats 1000000 in
theorem fn_sum {w : World} {b : Nat} {s : ByteArray} {p c : Nat} (h : RdAt w b s p c) (q : Int) :
    Calls Try.prog 51 #[.int .i64 q, .pointer (some ⟨b, 0, none⟩)] w fun e w' => e = .returned (kidV (rdSum q s p c).1) ∧ RdAt w' b s (rdSum q s p c).2.1 (rdSum q s p c).2.2 ∧ RdStep b w w' := by
  have hk := widthN_le q
  have hsz := rRaw_size s p c (widthN q)
  have hpl := padD_len (rRaw s p c (widthN q)).1 (by omega)
  have hbl := h.lt
  have sx : Same w (w.alloc (.cells #[.int .u32 0, .int .u8 0, .int .u8 0, .int .u8 0, .int .u8 0, .int .u8 0, .int .u8 0, .int .u8 0, .int .u8 0, .int .u8 0, .int .u8 0, .int .u8 0, .int .u8 0, .int .u8 0, .int .u8 0, .int .u8 0, .int .u8 0, .int .u8 0, .int .u8 0, .int .u8 0, .int .u8 0, .int .u8 0, .int .u8 0, .int .u8 0, .int .u8 0, .int .u8 0, .int .u8 0, .int .u8 0, .int .u8 0, .int .u8 0, .int .u8 0, .int .u8 0, .int .u8 0] 37)) := (Fr.refl _ w).alloc _
  have hv := h.same sx
  have HD : Hid (∀ W, RdAt W b s p c → Calls Try.prog 69 #[.pointer (some ⟨b, 0, none⟩), .int .i64 q] W fun e w' => e = .returned (.agg (bcells (padD (rRaw s p c (widthN q)).1)).toArray) ∧ RdAt w' b s (rRaw s p c (widthN q)).2.1 (rRaw s p c (widthN q)).2.2 ∧ RdStep b W w') := fun W hW => rdigest_calls hW q
  unfold rdSum
  obtain ⟨t, p1, c1, e1⟩ : ∃ t p1 c1, rRaw s p c (widthN q) = (t, p1, c1) := ⟨_, _, _, rfl⟩
  rw [e1] at HD hpl ⊢
  simp only at HD hpl ⊢
  generalize padD t = D at *
  have hkl := kid_laid D hpl (.int .u32 0)
  have hok : KidOk ⟨0, D⟩ := ⟨by show 0 < 4294967296; omega, hpl⟩
  have hz := Try.infoKid2 hok
  have hks : (kcells ⟨0, D⟩).toArray.size = 33 := by rw [List.size_toArray, kcells_length hpl]
  have hko := kcells_one ⟨0, D⟩
  have HRES : Hid (∀ (tmps : Array Value) (W : World) (cs : Array Value), W.heap[w.heap.size]? = some (.cells cs 37 (0, 0)) → cs.size = 33 → tmps.getD 4 undef = .pointer (some ⟨w.heap.size, 0, none⟩) → (results Try.f51 tmps).run Try.prog W = .ok (.agg cs) W) := fun tmps W cs hh h2 hp => results_cell_row (p := 4) (ty := 37) (by kernel_rfl) tmps _ w.heap.size 37 _ (0, 0) _ hp hh Try.underlying37 rfl (by rw [h2]; exact Try.infoKid)
  have r0 : (w.alloc (.cells #[.int .u32 0, .int .u8 0, .int .u8 0, .int .u8 0, .int .u8 0, .int .u8 0, .int .u8 0, .int .u8 0, .int .u8 0, .int .u8 0, .int .u8 0, .int .u8 0, .int .u8 0, .int .u8 0, .int .u8 0, .int .u8 0, .int .u8 0, .int .u8 0, .int .u8 0, .int .u8 0, .int .u8 0, .int .u8 0, .int .u8 0, .int .u8 0, .int .u8 0, .int .u8 0, .int .u8 0, .int .u8 0, .int .u8 0, .int .u8 0, .int .u8 0, .int .u8 0, .int .u8 0] 37)).heap[w.heap.size]? = some (.cells #[.int .u32 0, .int .u8 0, .int .u8 0, .int .u8 0, .int .u8 0, .int .u8 0, .int .u8 0, .int .u8 0, .int .u8 0, .int .u8 0, .int .u8 0, .int .u8 0, .int .u8 0, .int .u8 0, .int .u8 0, .int .u8 0, .int .u8 0, .int .u8 0, .int .u8 0, .int .u8 0, .int .u8 0, .int .u8 0, .int .u8 0, .int .u8 0, .int .u8 0, .int .u8 0, .int .u8 0, .int .u8 0, .int .u8 0, .int .u8 0, .int .u8 0, .int .u8 0, .int .u8 0] 37 (0, 0)) := heap_alloc_new w _
  have e0 : (Value.int .u32 0 :: bcells D).toArray = (kcells ⟨0, D⟩).toArray := rfl
  have hbs : (bcells D).length = 32 := by rw [bcells_length, hpl]
  rw [e0] at hkl
  unfold kidV
  generalize (kcells ⟨0, D⟩).toArray = KA at *
  clear h e1 hsz hk hok e0
  go_enter Try.func51, Try.ntmps51
  go_wp2_with fail
  generalize w.alloc (.cells #[.int .u32 0, .int .u8 0, .int .u8 0, .int .u8 0, .int .u8 0, .int .u8 0, .int .u8 0, .int .u8 0, .int .u8 0, .int .u8 0, .int .u8 0, .int .u8 0, .int .u8 0, .int .u8 0, .int .u8 0, .int .u8 0, .int .u8 0, .int .u8 0, .int .u8 0, .int .u8 0, .int .u8 0, .int .u8 0, .int .u8 0, .int .u8 0, .int .u8 0, .int .u8 0, .int .u8 0, .int .u8 0, .int .u8 0, .int .u8 0, .int .u8 0, .int .u8 0, .int .u8 0] 37) = V at *
  refine (HD.out _ hv).mono ?_
  rintro e W1 ⟨rfl, g1, st1⟩
  have r1 := (st1.block w.heap.size (lt_of_heap r0) (by omega)).trans r0
  go_wp2_with (refine wpList_store_whole (by rfl) 37 _ _ (by rfl) w.heap.size KA _ 37 (by rfl) (by rfl) r1 (by rw [hks]; rfl) hz hko ?_; intro W2 r2 f2)
  exact bodyPost_ret (HRES.out _ _ _ r2 hks rfl) rfl ⟨rfl, g1.frame f2 (by omega), Fr.trans (Fr.trans (sx.mono (fun _ _ f => f.elim)) st1 (fun i _ e => e)) f2 (fun i hi e => by omega)⟩
def rdKid (q : Int) (s : ByteArray) (p c : Nat) : Kid × Nat × Nat := (⟨beN (rRaw s p c 4).1.data.toList, (rdSum q s (rRaw s p c 4).2.1 (rRaw s p c 4).2.2).1.d⟩, (rdSum q s (rRaw s p c 4).2.1 (rRaw s p c 4).2.2).2)
theorem rdSum_ok (q : Int) (s : ByteArray) (p c : Nat) : KidOk (rdSum q s p c).1 := by
  have hk := widthN_le q
  have hsz := rRaw_size s p c (widthN q)
  exact ⟨by show 0 < 4294967296; omega, padD_len _ (by omega)⟩
theorem rdKid_ok (q : Int) (s : ByteArray) (p c : Nat) : KidOk (rdKid q s p c).1 := by
  have hsz := rRaw_size s p c 4
  have h1 := beN_lt (rRaw s p c 4).1.data.toList
  rw [bytes_length] at h1
  have h2 : 256 ^ (rRaw s p c 4).1.size ≤ 256 ^ 4 := Nat.pow_le_pow_right (by decide) (by omega)
  exact ⟨by show beN _ < 4294967296; omega, (rdSum_ok q s _ _).d⟩
theorem field_sum (W : World) (k : Kid) (h : KidOk k) : (part 35 (kcells k).toArray 1).run Try.prog W = .ok (.agg (bcells k.d).toArray) W := by
  have ha : (isAgg 35).run Try.prog W = .ok true W := by kernel_rfl
  have e : List.take 32 (kcells k).tail = bcells k.d := by
    show List.take 32 (bcells k.d) = _
    exact List.take_of_length_le (by rw [bcells_length, h.d]; omega)
  simp [part, ha, e]
theorem field_kid (W : World) (k : Kid) (h : KidOk k) : (Instr.field 37 (.agg (kcells k).toArray) 1).run Try.prog W = .ok (.agg (bcells k.d).toArray) W := by
  have hu := Try.underlying37
  have := field_sum W k h
  simp [Instr.field, run_underlying hu, asAgg, this]
set_option maxRecDepth 100000 in
set_option maxHeartbeats 1000000 in
theorem fn_kid {w : World} {b : Nat} {s : ByteArray} {p c : Nat} (h : RdAt w b s p c) (q : Int) :
    Calls Try.prog 40 #[.int .i64 q, .pointer (some ⟨b, 0, none⟩)] w fun e w' => e = .returned (kidV (rdKid q s p c).1) ∧ RdAt w' b s (rdKid q s p c).2.1 (rdKid q s p c).2.2 ∧ RdStep b w w' := by
  have hok := rdKid_ok q s p c
  have hbl := h.lt
  have sx : Same w (w.alloc (.cells #[.int .u32 0, .int .u8 0, .int .u8 0, .int .u8 0, .int .u8 0, .int .u8 0, .int .u8 0, .int .u8 0, .int .u8 0, .int .u8 0, .int .u8 0, .int .u8 0, .int .u8 0, .int .u8 0, .int .u8 0, .int .u8 0, .int .u8 0, .int .u8 0, .int .u8 0, .int .u8 0, .int .u8 0, .int .u8 0, .int .u8 0, .int .u8 0, .int .u8 0, .int .u8 0, .int .u8 0, .int .u8 0, .int .u8 0, .int .u8 0, .int .u8 0, .int .u8 0, .int .u8 0] 37)) := (Fr.refl _ w).alloc _
  have hv := h.same sx
  have hwr : IntKind.u32.wrap (beN (rRaw s p c 4).1.data.toList : Int) = ((beN (rRaw s p c 4).1.data.toList : Nat) : Int) := by
    have := hok.page
    rw [IntKind.wrap_u32]
    unfold rdKid at this
    simp only at this
    omega
  have HT : Hid (∀ W, RdAt W b s p c → Calls Try.prog 63 #[.pointer (some ⟨b, 0, none⟩)] W fun e w' => e = .returned (.int .u32 (beN (rRaw s p c 4).1.data.toList)) ∧ RdAt w' b s (rRaw s p c 4).2.1 (rRaw s p c 4).2.2 ∧ RdStep b W w') := fun W hW => by
    have := take_u32 hW
    rw [hwr] at this
    exact this
  have HS : Hid (∀ W, RdAt W b s (rRaw s p c 4).2.1 (rRaw s p c 4).2.2 → Calls Try.prog 51 #[.int .i64 q, .pointer (some ⟨b, 0, none⟩)] W fun e w' => e = .returned (kidV (rdSum q s (rRaw s p c 4).2.1 (rRaw s p c 4).2.2).1) ∧ RdAt w' b s (rdSum q s (rRaw s p c 4).2.1 (rRaw s p c 4).2.2).2.1 (rdSum q s (rRaw s p c 4).2.1 (rRaw s p c 4).2.2).2.2 ∧ RdStep b W w') := fun W hW => fn_sum hW q
  have hso := rdSum_ok q s (rRaw s p c 4).2.1 (rRaw s p c 4).2.2
  unfold rdKid at hok ⊢
  obtain ⟨pgB, p1, c1, e1⟩ : ∃ t p1 c1, rRaw s p c 4 = (t, p1, c1) := ⟨_, _, _, rfl⟩
  rw [e1] at HT HS hok hso ⊢
  simp only at HT HS hok hso ⊢
  obtain ⟨K0, p2, c2, e2⟩ : ∃ t p2 c2, rdSum q s p1 c1 = (t, p2, c2) := ⟨_, _, _, rfl⟩
  rw [e2] at HS hok hso ⊢
  simp only at HS hok hso ⊢
  generalize beN pgB.data.toList = PN at *
  have hfs := fun W => field_kid W K0 hso
  have hkl := kid_laid K0.d hso.d (.int .u32 PN)
  have hz := Try.infoKid2 hok
  have hks : (kcells ⟨PN, K0.d⟩).toArray.size = 33 := by rw [List.size_toArray, kcells_length (k := ⟨PN, K0.d⟩) hso.d]
  have hko := kcells_one ⟨PN, K0.d⟩
  have HRES : Hid (∀ (tmps : Array Value) (W : World) (cs : Array Value), W.heap[w.heap.size]? = some (.cells cs 37 (0, 0)) → cs.size = 33 → tmps.getD 4 undef = .pointer (some ⟨w.heap.size, 0, none⟩) → (results Try.f40 tmps).run Try.prog W = .ok (.agg cs) W) := fun tmps W cs hh h2 hp => results_cell_row (p := 4) (ty := 37) (by kernel_rfl) tmps _ w.heap.size 37 _ (0, 0) _ hp hh Try.underlying37 rfl (by rw [h2]; exact Try.infoKid)
  have r0 : (w.alloc (.cells #[.int .u32 0, .int .u8 0, .int .u8 0, .int .u8 0, .int .u8 0, .int .u8 0, .int .u8 0, .int .u8 0, .int .u8 0, .int .u8 0, .int .u8 0, .int .u8 0, .int .u8 0, .int .u8 0, .int .u8 0, .int .u8 0, .int .u8 0, .int .u8 0, .int .u8 0, .int .u8 0, .int .u8 0, .int .u8 0, .int .u8 0, .int .u8 0, .int .u8 0, .int .u8 0, .int .u8 0, .int .u8 0, .int .u8 0, .int .u8 0, .int .u8 0, .int .u8 0, .int .u8 0] 37)).heap[w.heap.size]? = some (.cells #[.int .u32 0, .int .u8 0, .int .u8 0, .int .u8 0, .int .u8 0, .int .u8 0, .int .u8 0, .int .u8 0, .int .u8 0, .int .u8 0, .int .u8 0, .int .u8 0, .int .u8 0, .int .u8 0, .int .u8 0, .int .u8 0, .int .u8 0, .int .u8 0, .int .u8 0, .int .u8 0, .int .u8 0, .int .u8 0, .int .u8 0, .int .u8 0, .int .u8 0, .int .u8 0, .int .u8 0, .int .u8 0, .int .u8 0, .int .u8 0, .int .u8 0, .int .u8 0, .int .u8 0] 37 (0, 0)) := heap_alloc_new w _
  have e0 : (Value.int .u32 PN :: bcells K0.d).toArray = (kcells ⟨PN, K0.d⟩).toArray := rfl
  have hbs : (bcells K0.d).length = 32 := by rw [bcells_length, hso.d]
  rw [e0] at hkl
  unfold kidV at HS ⊢
  generalize (kcells ⟨PN, K0.d⟩).toArray = KA at *
  generalize (kcells K0).toArray = KB at *
  generalize bcells K0.d = BD at *
  clear h e1 e2 hok e0 hso hwr
  go_enter Try.func40, Try.ntmps40
  go_wp2_with fail
  generalize w.alloc (.cells #[.int .u32 0, .int .u8 0, .int .u8 0, .int .u8 0, .int .u8 0, .int .u8 0, .int .u8 0, .int .u8 0, .int .u8 0, .int .u8 0, .int .u8 0, .int .u8 0, .int .u8 0, .int .u8 0, .int .u8 0, .int .u8 0, .int .u8 0, .int .u8 0, .int .u8 0, .int .u8 0, .int .u8 0, .int .u8 0, .int .u8 0, .int .u8 0, .int .u8 0, .int .u8 0, .int .u8 0, .int .u8 0, .int .u8 0, .int .u8 0, .int .u8 0, .int .u8 0, .int .u8 0] 37) = V at *
  refine (HT.out _ hv).mono ?_
  rintro e W1 ⟨rfl, g1, st1⟩
  go_wp2_with fail
  refine (HS.out _ g1).mono ?_
  rintro e W2 ⟨rfl, g2, st2⟩
  have y2 := RdStep.trans st1 st2
  have r1 := (y2.block w.heap.size (lt_of_heap r0) (by omega)).trans r0
  clear st1 st2 g1
  go_wp2_with (refine wpList_store_whole (by rfl) 37 _ _ (by rfl) w.heap.size KA _ 37 (by rfl) (by rfl) r1 (by rw [hks]; rfl) hz hko ?_; intro W3 r3 f3)
  exact bodyPost_ret (HRES.out _ _ _ r3 hks rfl) rfl ⟨rfl, g2.frame f3 (by omega), Fr.trans (Fr.trans (sx.mono (fun _ _ f => f.elim)) y2 (fun i _ e => e)) f3 (fun i hi e => by omega)⟩
end Go.Proofs.Ytjlbkagkmcelgaa
