/- taken, Unpack, Read. -/
import Derived.Test.YtjlbkagkmcelgaaNL
namespace Go.Proofs.Ytjlbkagkmcelgaa
open Go.RowKit

theorem cell_put {W W5 : World} {b : Nat} {t : TypeId} (hb : W.heap[b]? = some (.cells #[.slice none 0 0, .slice none 0 0, .slice none 0 0] t (0, 0))) (f : Fr (fun i => i = b) W W5) {p o : Nat} {v : Value} (hc : W.cell? ⟨p, o, none⟩ = some v) (hv : v ≠ .slice none 0 0) : W5.cell? ⟨p, o, none⟩ = some v := by
  have hp : p < W.heap.size := by
    apply Classical.byContradiction
    intro hp
    have : W.heap[p]? = none := by simp; omega
    simp [World.cell?, this] at hc
  have hn : p ≠ b := by
    intro e
    subst e
    rw [cell_of_row _ _ _ _ _ _ hb] at hc
    rcases o with _ | _ | _ | o
    · exact hv (by simpa using hc.symm)
    · exact hv (by simpa using hc.symm)
    · exact hv (by simpa using hc.symm)
    · simp at hc
  rw [f.cell (p := ⟨p, o, none⟩) hp hn]; exact hc
theorem kcells_int {k : Kid} {v : Value} (h : v ∈ kcells k) : v ≠ .slice none 0 0 := by
  rcases List.mem_cons.1 h with rfl | h
  · intro e; cases e
  · obtain ⟨x, _, rfl⟩ := List.mem_map.1 h
    intro e; cases e
/-- What is put into the result's block leaves a node's rows as they are. -/
theorem NdOk.put {W W5 : World} {b : Nat} {t : TypeId} {r : Nr} {q : Int} {N : Nd} (h : NdOk W r q N) (hb : W.heap[b]? = some (.cells #[.slice none 0 0, .slice none 0 0, .slice none 0 0] t (0, 0))) (f : Fr (fun i => i = b) W W5) : NdOk W5 r q N := by
  obtain ⟨⟨hp, hs, hk, ok, lp, ls, lk⟩, cap, l1, l0⟩ := h
  refine ⟨⟨⟨fun e => ⟨(hp.place e).1, Nat.lt_of_lt_of_le (hp.place e).2 f.size⟩, fun j x hx => ⟨cell_put hb f (hp.cells j x hx).1 (by intro e; cases e), cell_put hb f (hp.cells j x hx).2 (by intro e; cases e)⟩⟩, ⟨fun e => ⟨(hs.place e).1, Nat.lt_of_lt_of_le (hs.place e).2 f.size⟩, fun j x hx => cell_put hb f (hs.cells j x hx) (by intro e; cases e)⟩, ⟨fun e => ⟨(hk.place e).1, Nat.lt_of_lt_of_le (hk.place e).2 f.size⟩, fun j x hx i v hv => cell_put hb f (hk.cells j x hx i v hv) (kcells_int (List.mem_of_getElem? hv))⟩, ok, lp, ls, lk⟩, cap, l1, l0⟩
set_option maxRecDepth 100000 in
set_option maxHeartbeats 1000000 in
theorem taken_no {p q : Int} {s : ByteArray} {F0 F1 F2 : Value} (w : World) (hf : frameP p q = false) :
    Calls Try.prog 34 #[frameV p q, .string s, .agg #[F0, F1], F2] w fun e w' => e = .returned (.tuple #[.agg #[.slice none 0 0, .slice none 0 0, .slice none 0 0], .int .i64 2]) ∧ Same w w' := by
  have HR : Hid (∀ W, Calls Try.prog 35 #[frameV p q] W fun e w' => e = .returned (.bool false) ∧ Same W w') := fun W => by rw [← hf]; exact right_calls p q W
  clear hf
  obtain ⟨V, hV⟩ : ∃ V, V = ((w.alloc (.cells #[.int .i64 p, .int .i64 q] 48)).alloc (.cells #[F0, F1] 59)).alloc (.cells #[.slice none 0 0, .slice none 0 0, .slice none 0 0] 26) := ⟨_, rfl⟩
  have sx : Same w V := by rw [hV]; exact (((Fr.refl _ w).alloc _).alloc _).alloc _
  have a0 : V.cell? ⟨w.heap.size, 0, none⟩ = some (.int .i64 p) := by rw [hV, cell_of_row _ _ _ _ _ _ (heap3 w _ _ _).1]; rfl
  have a1 : V.cell? ⟨w.heap.size, 1, none⟩ = some (.int .i64 q) := by rw [hV, cell_of_row _ _ _ _ _ _ (heap3 w _ _ _).1]; rfl
  have x0 : V.cell? ⟨w.heap.size + 1, 0, none⟩ = some F0 := by rw [hV, cell_of_row _ _ _ _ _ _ (heap3 w _ _ _).2.1]; rfl
  have x1 : V.cell? ⟨w.heap.size + 1, 1, none⟩ = some F1 := by rw [hV, cell_of_row _ _ _ _ _ _ (heap3 w _ _ _).2.1]; rfl
  have r2 : V.heap[w.heap.size + 1 + 1]? = some (.cells #[.slice none 0 0, .slice none 0 0, .slice none 0 0] 26 (0, 0)) := by rw [hV]; exact (heap3 w _ _ _).2.2
  have HVS : Hid (V.heap.size = w.heap.size + 1 + 1 + 1) := by show _ = _; rw [hV]; simp
  have HRES : Hid (∀ (tmps : Array Value) (W : World) (cs : Array Value), W.heap[w.heap.size + 1 + 1]? = some (.cells cs 26 (0, 0)) → cs.size = 3 → tmps.getD 8 undef = .pointer (some ⟨w.heap.size + 1 + 1, 0, none⟩) → (results Try.f34 tmps).run Try.prog W = .ok (.tuple #[.agg cs, tmps.getD 9 undef]) W) := fun tmps W cs hh h2 hp => results_row_tmp (p := 8) (u := 9) (ty := 26) (by kernel_rfl) tmps _ (w.heap.size + 1 + 1) 26 _ (0, 0) _ hp hh Try.underlying26 rfl (by rw [h2]; kernel_rfl)
  go_enter Try.func34, Try.ntmps34
  go_wp2_with fail
  rw [← hV]
  clear hV
  refine (HR.out _).mono ?_
  rintro e W1 ⟨rfl, s1⟩
  have hR2 := (s1.block (w.heap.size + 1 + 1) (lt_of_heap r2) (fun e => e)).trans r2
  go_wp2_with (refine wpList_store_whole (by rfl) 26 _ _ (by rfl) (w.heap.size + 1 + 1) #[.slice none 0 0, .slice none 0 0, .slice none 0 0] #[.slice none 0 0, .slice none 0 0, .slice none 0 0] 26 (by rfl) (by rfl) hR2 rfl (by kernel_rfl) (by kernel_rfl) ?_; intro W5 r5 f5)
  exact bodyPost_ret (HRES.out _ _ _ r5 rfl rfl) rfl ⟨rfl, Fr.trans (sx.trans s1) f5 (fun i hi e => by omega)⟩
set_option maxRecDepth 100000 in
set_option maxHeartbeats 1000000 in
theorem taken_yes_page {p q : Int} {s S : ByteArray} {E : Int} {F0 F1 : Value} {N : Nd} (w : World) (hf : frameP p q = true)
    (HN : Hid (∀ W, Calls Try.prog 52 #[.agg #[F0, F1], frameV p q, .string s] W fun e w' => ∃ r, e = .returned (ndV r N) ∧ NdOk w' r q N ∧ Same W w'))
    (HL : Hid (∀ W r, NdOk W r q N → Calls Try.prog 21 #[frameV p q, ndV r N] W fun e w' => e = .returned (.tuple #[.string S, .int .i64 E]) ∧ Same W w')) (hE : E = 0) (hS : S = s) :
    Calls Try.prog 34 #[frameV p q, .string s, .agg #[F0, F1], .func (.func 21) #[] #[]] w fun e w' => ∃ r, e = .returned (.tuple #[ndV r N, .int .i64 0]) ∧ NdOk w' r q N ∧ Same w w' := by
  have HR : Hid (∀ W, Calls Try.prog 35 #[frameV p q] W fun e w' => e = .returned (.bool true) ∧ Same W w') := fun W => by rw [← hf]; exact right_calls p q W
  clear hf
  subst hE hS
  obtain ⟨V, hV⟩ : ∃ V, V = ((w.alloc (.cells #[.int .i64 p, .int .i64 q] 48)).alloc (.cells #[F0, F1] 59)).alloc (.cells #[.slice none 0 0, .slice none 0 0, .slice none 0 0] 26) := ⟨_, rfl⟩
  have sx : Same w V := by rw [hV]; exact (((Fr.refl _ w).alloc _).alloc _).alloc _
  have a0 : V.cell? ⟨w.heap.size, 0, none⟩ = some (.int .i64 p) := by rw [hV, cell_of_row _ _ _ _ _ _ (heap3 w _ _ _).1]; rfl
  have a1 : V.cell? ⟨w.heap.size, 1, none⟩ = some (.int .i64 q) := by rw [hV, cell_of_row _ _ _ _ _ _ (heap3 w _ _ _).1]; rfl
  have x0 : V.cell? ⟨w.heap.size + 1, 0, none⟩ = some F0 := by rw [hV, cell_of_row _ _ _ _ _ _ (heap3 w _ _ _).2.1]; rfl
  have x1 : V.cell? ⟨w.heap.size + 1, 1, none⟩ = some F1 := by rw [hV, cell_of_row _ _ _ _ _ _ (heap3 w _ _ _).2.1]; rfl
  have r2 : V.heap[w.heap.size + 1 + 1]? = some (.cells #[.slice none 0 0, .slice none 0 0, .slice none 0 0] 26 (0, 0)) := by rw [hV]; exact (heap3 w _ _ _).2.2
  have HVS : Hid (V.heap.size = w.heap.size + 1 + 1 + 1) := by show _ = _; rw [hV]; simp
  have HRES : Hid (∀ (tmps : Array Value) (W : World) (cs : Array Value), W.heap[w.heap.size + 1 + 1]? = some (.cells cs 26 (0, 0)) → cs.size = 3 → tmps.getD 8 undef = .pointer (some ⟨w.heap.size + 1 + 1, 0, none⟩) → (results Try.f34 tmps).run Try.prog W = .ok (.tuple #[.agg cs, tmps.getD 9 undef]) W) := fun tmps W cs hh h2 hp => results_row_tmp (p := 8) (u := 9) (ty := 26) (by kernel_rfl) tmps _ (w.heap.size + 1 + 1) 26 _ (0, 0) _ hp hh Try.underlying26 rfl (by rw [h2]; kernel_rfl)
  go_enter Try.func34, Try.ntmps34
  go_wp2_with fail
  rw [← hV]
  clear hV
  refine (HR.out _).mono ?_
  rintro e W1 ⟨rfl, s1⟩
  have b0 := s1.keep a0
  have b1 := s1.keep a1
  have y0 := s1.keep x0
  have y1 := s1.keep x1
  go_wp2_with fail
  refine (HN.out _).mono ?_
  rintro e W2 ⟨r, rfl, hN, s2⟩
  have b0 := s2.keep b0
  have b1 := s2.keep b1
  have st : Same W2 (W2.alloc (.cells #[.slice r.pa N.ps.length r.cp, .slice r.sa N.ss.length r.cs, .slice r.ka N.ks.length r.ck] 26)) := (Fr.refl _ W2).alloc _
  have c0 := st.keep b0
  have c1 := st.keep b1
  have hn := heap_alloc_new W2 (.cells #[.slice r.pa N.ps.length r.cp, .slice r.sa N.ss.length r.cs, .slice r.ka N.ks.length r.ck] 26)
  have n0 : (W2.alloc (.cells #[.slice r.pa N.ps.length r.cp, .slice r.sa N.ss.length r.cs, .slice r.ka N.ks.length r.ck] 26)).cell? ⟨W2.heap.size, 0, none⟩ = some (.slice r.pa N.ps.length r.cp) := by rw [cell_of_row _ _ _ _ _ _ hn]; rfl
  have n1 : (W2.alloc (.cells #[.slice r.pa N.ps.length r.cp, .slice r.sa N.ss.length r.cs, .slice r.ka N.ks.length r.ck] 26)).cell? ⟨W2.heap.size, 1, none⟩ = some (.slice r.sa N.ss.length r.cs) := by rw [cell_of_row _ _ _ _ _ _ hn]; rfl
  have n2 : (W2.alloc (.cells #[.slice r.pa N.ps.length r.cp, .slice r.sa N.ss.length r.cs, .slice r.ka N.ks.length r.ck] 26)).cell? ⟨W2.heap.size, 2, none⟩ = some (.slice r.ka N.ks.length r.ck) := by rw [cell_of_row _ _ _ _ _ _ hn]; rfl
  have hN2 := hN.same st
  clear hn
  go_wp2_with fail
  refine (HL.out _ r hN2).mono ?_
  rintro e W3 ⟨rfl, s3⟩
  have m0 := s3.keep n0
  have m1 := s3.keep n1
  have m2 := s3.keep n2
  have hN3 := hN2.same s3
  have s13 := ((sx.trans s1).trans s2).trans (st.trans s3)
  have hR2 := ((s1.trans s2).trans (st.trans s3)).block (w.heap.size + 1 + 1) (lt_of_heap r2) (fun e => e)
  rw [r2] at hR2
  clear n0 n1 n2 c0 c1 hN hN2 s3
  go_wp2_with (refine wpList_store_whole (by rfl) 26 _ _ (by rfl) (w.heap.size + 1 + 1) #[.slice r.pa N.ps.length r.cp, .slice r.sa N.ss.length r.cs, .slice r.ka N.ks.length r.ck] #[.slice none 0 0, .slice none 0 0, .slice none 0 0] 26 (by rfl) (by rfl) hR2 rfl (by kernel_rfl) (by kernel_rfl) ?_; intro W5 r5 f5)
  have hN5 := hN3.put hR2 f5
  have f5' : Same w W5 := Fr.trans s13 f5 (fun i hi e => by omega)
  exact bodyPost_ret (HRES.out _ _ _ r5 rfl rfl) rfl ⟨r, rfl, hN5, f5'⟩
set_option maxRecDepth 100000 in
set_option maxHeartbeats 1000000 in
theorem taken_bad_page {p q : Int} {s S : ByteArray} {E : Int} {F0 F1 : Value} {N : Nd} (w : World) (hf : frameP p q = true)
    (HN : Hid (∀ W, Calls Try.prog 52 #[.agg #[F0, F1], frameV p q, .string s] W fun e w' => ∃ r, e = .returned (ndV r N) ∧ NdOk w' r q N ∧ Same W w'))
    (HL : Hid (∀ W r, NdOk W r q N → Calls Try.prog 21 #[frameV p q, ndV r N] W fun e w' => e = .returned (.tuple #[.string S, .int .i64 E]) ∧ Same W w')) (hE : E ≠ 0 ∨ S ≠ s) :
    Calls Try.prog 34 #[frameV p q, .string s, .agg #[F0, F1], .func (.func 21) #[] #[]] w fun e w' => e = .returned (.tuple #[.agg #[.slice none 0 0, .slice none 0 0, .slice none 0 0], .int .i64 73]) ∧ Same w w' := by
  have HR : Hid (∀ W, Calls Try.prog 35 #[frameV p q] W fun e w' => e = .returned (.bool true) ∧ Same W w') := fun W => by rw [← hf]; exact right_calls p q W
  clear hf
  obtain ⟨V, hV⟩ : ∃ V, V = ((w.alloc (.cells #[.int .i64 p, .int .i64 q] 48)).alloc (.cells #[F0, F1] 59)).alloc (.cells #[.slice none 0 0, .slice none 0 0, .slice none 0 0] 26) := ⟨_, rfl⟩
  have sx : Same w V := by rw [hV]; exact (((Fr.refl _ w).alloc _).alloc _).alloc _
  have a0 : V.cell? ⟨w.heap.size, 0, none⟩ = some (.int .i64 p) := by rw [hV, cell_of_row _ _ _ _ _ _ (heap3 w _ _ _).1]; rfl
  have a1 : V.cell? ⟨w.heap.size, 1, none⟩ = some (.int .i64 q) := by rw [hV, cell_of_row _ _ _ _ _ _ (heap3 w _ _ _).1]; rfl
  have x0 : V.cell? ⟨w.heap.size + 1, 0, none⟩ = some F0 := by rw [hV, cell_of_row _ _ _ _ _ _ (heap3 w _ _ _).2.1]; rfl
  have x1 : V.cell? ⟨w.heap.size + 1, 1, none⟩ = some F1 := by rw [hV, cell_of_row _ _ _ _ _ _ (heap3 w _ _ _).2.1]; rfl
  have r2 : V.heap[w.heap.size + 1 + 1]? = some (.cells #[.slice none 0 0, .slice none 0 0, .slice none 0 0] 26 (0, 0)) := by rw [hV]; exact (heap3 w _ _ _).2.2
  have HVS : Hid (V.heap.size = w.heap.size + 1 + 1 + 1) := by show _ = _; rw [hV]; simp
  have HRES : Hid (∀ (tmps : Array Value) (W : World) (cs : Array Value), W.heap[w.heap.size + 1 + 1]? = some (.cells cs 26 (0, 0)) → cs.size = 3 → tmps.getD 8 undef = .pointer (some ⟨w.heap.size + 1 + 1, 0, none⟩) → (results Try.f34 tmps).run Try.prog W = .ok (.tuple #[.agg cs, tmps.getD 9 undef]) W) := fun tmps W cs hh h2 hp => results_row_tmp (p := 8) (u := 9) (ty := 26) (by kernel_rfl) tmps _ (w.heap.size + 1 + 1) 26 _ (0, 0) _ hp hh Try.underlying26 rfl (by rw [h2]; kernel_rfl)
  go_enter Try.func34, Try.ntmps34
  go_wp2_with fail
  rw [← hV]
  clear hV
  refine (HR.out _).mono ?_
  rintro e W1 ⟨rfl, s1⟩
  have b0 := s1.keep a0
  have b1 := s1.keep a1
  have y0 := s1.keep x0
  have y1 := s1.keep x1
  go_wp2_with fail
  refine (HN.out _).mono ?_
  rintro e W2 ⟨r, rfl, hN, s2⟩
  have b0 := s2.keep b0
  have b1 := s2.keep b1
  have st : Same W2 (W2.alloc (.cells #[.slice r.pa N.ps.length r.cp, .slice r.sa N.ss.length r.cs, .slice r.ka N.ks.length r.ck] 26)) := (Fr.refl _ W2).alloc _
  have c0 := st.keep b0
  have c1 := st.keep b1
  have hn := heap_alloc_new W2 (.cells #[.slice r.pa N.ps.length r.cp, .slice r.sa N.ss.length r.cs, .slice r.ka N.ks.length r.ck] 26)
  have n0 : (W2.alloc (.cells #[.slice r.pa N.ps.length r.cp, .slice r.sa N.ss.length r.cs, .slice r.ka N.ks.length r.ck] 26)).cell? ⟨W2.heap.size, 0, none⟩ = some (.slice r.pa N.ps.length r.cp) := by rw [cell_of_row _ _ _ _ _ _ hn]; rfl
  have n1 : (W2.alloc (.cells #[.slice r.pa N.ps.length r.cp, .slice r.sa N.ss.length r.cs, .slice r.ka N.ks.length r.ck] 26)).cell? ⟨W2.heap.size, 1, none⟩ = some (.slice r.sa N.ss.length r.cs) := by rw [cell_of_row _ _ _ _ _ _ hn]; rfl
  have n2 : (W2.alloc (.cells #[.slice r.pa N.ps.length r.cp, .slice r.sa N.ss.length r.cs, .slice r.ka N.ks.length r.ck] 26)).cell? ⟨W2.heap.size, 2, none⟩ = some (.slice r.ka N.ks.length r.ck) := by rw [cell_of_row _ _ _ _ _ _ hn]; rfl
  have hN2 := hN.same st
  clear hn
  go_wp2_with fail
  refine (HL.out _ r hN2).mono ?_
  rintro e W3 ⟨rfl, s3⟩
  have m0 := s3.keep n0
  have m1 := s3.keep n1
  have m2 := s3.keep n2
  have hN3 := hN2.same s3
  have s13 := ((sx.trans s1).trans s2).trans (st.trans s3)
  have hR2 := ((s1.trans s2).trans (st.trans s3)).block (w.heap.size + 1 + 1) (lt_of_heap r2) (fun e => e)
  rw [r2] at hR2
  clear n0 n1 n2 c0 c1 hN hN2 s3
  clear HL HN HR
  by_cases hE0 : E = 0
  · have hS := hE.resolve_left (fun h => h hE0)
    subst hE0
    clear hE
    have hte : (S.toList == s.toList) = false := by
      rw [beq_eq_false_iff_ne]
      intro e
      rw [ByteArray.toList_eq, ByteArray.toList_eq] at e
      exact hS (by cases S; cases s; simp only [ByteArray.mk.injEq]; exact Array.toList_inj.1 e)
    clear hS
    go_wp2_with (refine wpList_store_whole (by rfl) 26 _ _ (by rfl) (w.heap.size + 1 + 1) #[.slice none 0 0, .slice none 0 0, .slice none 0 0] #[.slice none 0 0, .slice none 0 0, .slice none 0 0] 26 (by rfl) (by rfl) hR2 rfl (by kernel_rfl) (by kernel_rfl) ?_; intro W5 r5 f5)
    exact bodyPost_ret (HRES.out _ _ _ r5 rfl rfl) rfl ⟨rfl, Fr.trans s13 f5 (fun i hi e => by omega)⟩
  · clear hE
    go_wp2_with (refine wpList_store_whole (by rfl) 26 _ _ (by rfl) (w.heap.size + 1 + 1) #[.slice none 0 0, .slice none 0 0, .slice none 0 0] #[.slice none 0 0, .slice none 0 0, .slice none 0 0] 26 (by rfl) (by rfl) hR2 rfl (by kernel_rfl) (by kernel_rfl) ?_; intro W5 r5 f5)
    exact bodyPost_ret (HRES.out _ _ _ r5 rfl rfl) rfl ⟨rfl, Fr.trans s13 f5 (fun i hi e => by omega)⟩
end Go.Proofs.Ytjlbkagkmcelgaa
