/- The document's shaped and Check. -/
import Derived.Test.YtmgkdnejjemfeaaK1
import Derived.Deep.LoopGhost
import Derived.Deep.AppendLies
import Derived.Deep.QuietTactic
namespace Go.Proofs.Ytmgkdnejjemfeaa
open Go.RowKit

set_option maxRecDepth 100000 in
set_option maxHeartbeats 2000000 in
theorem dshaped_leaf {p q : Int} {r : Nr} {N : Nd} (w : World) (h : NdAt w r N) (hn : N.ps.length ≤ 1048576) (hp : p = 1024 ∨ p = 2048 ∨ p = 4096 ∨ p = 8192)
    (HL : Hid (∀ W, Calls Try.prog 17 #[ndV r N] W fun e w' => e = .returned (.bool true) ∧ Same W w'))
    (HK : Hid (∀ W B ao c (l : List ByteArray), l.length ≤ 1048576 → W.ownsRow B 9 1 (.slice ao l.length c) l.length (scells l) → Calls Try.prog 60 #[.slice ao l.length c, .int .i64 (p / 16)] W fun e w' => e = .returned (.bool (risesP (p / 16) ⟨#[]⟩ l)) ∧ Same W w')) :
    Calls Try.prog 34 #[frameV p q, ndV r N] w fun e w' => e = .returned (.bool (leafP p N)) ∧ Same w w' := by
  obtain ⟨V, hV⟩ : ∃ V, V = (w.alloc (.cells #[.int .i64 p, .int .i64 q] 23)).alloc (.cells #[.slice r.pa N.ps.length r.cp, .slice r.sa N.ss.length r.cs, .slice r.ka N.ks.length r.ck] 28) := ⟨_, rfl⟩
  have t1 : Same w V := by rw [hV]; exact ((Fr.refl _ w).alloc _).alloc _
  have a0 : V.cell? ⟨w.heap.size, 0, none⟩ = some (.int .i64 p) := by rw [hV]; simp
  have a1 : V.cell? ⟨w.heap.size, 1, none⟩ = some (.int .i64 q) := by rw [hV]; simp
  have n0 : V.cell? ⟨w.heap.size + 1, 0, none⟩ = some (.slice r.pa N.ps.length r.cp) := by rw [hV]; simp
  have n1 : V.cell? ⟨w.heap.size + 1, 1, none⟩ = some (.slice r.sa N.ss.length r.cs) := by rw [hV]; simp
  have n2 : V.cell? ⟨w.heap.size + 1, 2, none⟩ = some (.slice r.ka N.ks.length r.ck) := by rw [hV]; simp
  have HP : Hid (PRow V r.pa r.pb r.po N.ps) := h.hp.same t1
  clear h
  go_enter Try.func34, Try.ntmps34
  go_wp2_with fail
  rw [← hV]
  clear hV
  refine (HL.out _).mono ?_
  rintro e W1 ⟨rfl, s1⟩
  have HC : Hid (∀ W, Same V W → W.cell? ⟨w.heap.size + 1, 0, none⟩ = some (.slice r.pa N.ps.length r.cp) ∧ W.cell? ⟨w.heap.size, 0, none⟩ = some (.int .i64 p)) := fun W s => ⟨s.keep n0, s.keep a0⟩
  obtain ⟨i0S, hiS, hz0S, hz1S, hz2S⟩ := info_parts Try.infStr
  have hp8 : (0 : Int) ≤ p := by omega
  clear n0 n1 n2 a0 a1
  obtain ⟨n0, a0⟩ := HC.out _ s1
  go_wp2_with fail
  go_loopg [5, 6] N.ps.length (fun g lv iv wr => ∃ (k : Nat) (ao : Option Addr) (c : Nat), lv = .slice ao k c ∧ iv = .int .i64 (k : Int) ∧ k ≤ N.ps.length ∧ g = N.ps.length - k ∧ Hid (wr.ownsRow V.heap.size 9 1 (.slice ao k c) k (scells ((N.ps.map (·.1)).take k))) ∧ Hid (∀ x ∈ N.ps.take k, longB (p / 8) x = false) ∧ Same V wr)
  case atStart => exact ⟨0, none, 0, rfl, rfl, by omega, rfl, by (show World.ownsRow _ _ _ _ _ _ _; simpa [scells] using own_nil), fun x hx => by simp at hx, s1⟩
  case round =>
    clear n0 a0
    obtain ⟨k, ao, c, rfl, rfl, hk, hg, HO, HI, sr⟩ := hrel
    obtain ⟨n0, a0⟩ := HC.out _ sr
    by_cases hgo : k < N.ps.length
    · obtain ⟨x, hx⟩ : ∃ x, N.ps[k]? = some x := ⟨_, List.getElem?_eq_getElem hgo⟩
      obtain ⟨x0, x1⟩ := x
      obtain ⟨c0, c1⟩ := (HP.out.same sr).cells k _ hx
      obtain ⟨hpa, _⟩ := (HP.out.same sr).place (by intro e; rw [e] at hx; simp at hx)
      have HPA : Hid (r.pa = some ⟨r.pb, r.po, none⟩) := hpa
      rw [hpa] at n0
      have HX : Hid (N.ps[k]? = some (x0, x1)) := hx
      have i1 : (k : Int) < (N.ps.length : Int) := by omega
      have i0 : (0 : Int) ≤ (k : Int) := by omega
      clear hx hpa
      go_wp2_with (at_builtin; go_must (refine wpList_append_lies _ (by rfl) _ _ _ (by rfl) V.heap.size 9 i0S (.string ⟨#[]⟩) 1 16 Try.underlying25 hiS hz0S hz1S hz2S rfl (by decide) _ _ _ (by rfl) (HO.out.alloc _) ⟨wr.heap.size, 0, none⟩ 1 1 [.string x0] (by rfl) rfl (World.news_of_block (heap_alloc_new wr _)) (by simp [Value.oneCell']) (by decide) ?_ ?_ ?_ (wr.heap.size + 1) (by simp) ?_))
      · unfold maxLen; omega
      · omega
      · have := sr.size; omega
      intro g2 cap2 w6 own6 grow6 _ _
      have s6 : Same V w6 := Fr.grown (Fr.alloc sr _) grow6 (fun kk hk hl => by have := HO.out.lt kk hk; omega)
      have HO6 : Hid (w6.ownsRow V.heap.size 9 1 (.slice (some ⟨g2, 0, none⟩) (k + 1) cap2) (k + 1) (scells ((N.ps.map (·.1)).take (k + 1)))) := by
        show World.ownsRow _ _ _ _ _ _ _
        have e : scells ((N.ps.map (·.1)).take (k + 1)) = scells ((N.ps.map (·.1)).take k) ++ [.string x0] := by
          rw [List.take_add_one, List.getElem?_map, HX.out]; simp [scells]
        rw [e]; exact own6
      obtain ⟨n0', a0'⟩ := HC.out _ s6
      rw [HPA.out] at n0'
      obtain ⟨d0, d1⟩ := (HP.out.same s6).cells k _ HX.out
      clear own6 grow6 n0 a0 c0 c1 HO
      go_wp2_with fail
      go_quiet (fail)
      have sq : Same V (w6.drewN nq) := ⟨s6.os, s6.tape, s6.output, s6.size, s6.block⟩
      have HO7 : Hid ((w6.drewN nq).ownsRow V.heap.size 9 1 (.slice (some ⟨g2, 0, none⟩) (k + 1) cap2) (k + 1) (scells ((N.ps.map (·.1)).take (k + 1)))) := HO6
      by_cases hlong : p / 8 < (x1.size : Int)
      · have hr : Hid (leafP p N = false) := by
          show _ = _
          unfold leafP
          rw [show N.ps.any (longB (p / 8)) = true from List.any_eq_true.2 ⟨(x0, x1), List.mem_of_getElem? HX.out, by unfold longB; exact decide_eq_true hlong⟩]
          simp
        clear HO6 HO7 HI HX HK
        go_wp2_with fail
        go_ret
        exact ⟨by rw [hr.out]; rfl, t1.trans sq⟩
      · have HI2 : Hid (∀ x ∈ N.ps.take (k + 1), longB (p / 8) x = false) := fun y hy => by
          rw [List.take_add_one, HX.out] at hy
          rcases List.mem_append.1 hy with hy | hy
          · exact HI.out y hy
          · simp at hy; subst hy; unfold longB; exact decide_eq_false hlong
        clear HI HX HK
        go_wp2_with fail
        go_roundg (N.ps.length - (k + 1))
        case measure => omega
        case rel => exact ⟨k + 1, some ⟨g2, 0, none⟩, cap2, rfl, by go_num, by omega, rfl, HO7, HI2, sq⟩
    · obtain rfl : k = N.ps.length := by omega
      have hr : Hid (leafP p N = risesP (p / 16) ⟨#[]⟩ (N.ps.map (·.1))) := by
        show _ = _
        have hh := HI.out
        rw [List.take_length] at hh
        unfold leafP
        rw [show N.ps.any (longB (p / 8)) = false from List.any_eq_false.2 (fun x hx => by simp [hh x hx])]
        simp
      have HK2 : Hid (∀ W, Same wr W → Calls Try.prog 60 #[.slice ao N.ps.length c, .int .i64 (p / 16)] W fun e w' => e = .returned (.bool (leafP p N)) ∧ Same W w') := fun W s => by
        have ho := own_frameB HO.out s (fun _ _ f => f)
        have e1 : (N.ps.map (·.1)).take N.ps.length = N.ps.map (·.1) := by rw [List.take_of_length_le]; simp
        have e2 : N.ps.length = (N.ps.map (·.1)).length := by simp
        rw [e1] at ho
        have := HK.out W V.heap.size ao c (N.ps.map (·.1)) (by simpa using hn) (by rw [List.length_map]; exact ho)
        rw [List.length_map, ← hr.out] at this
        exact this
      clear HI HO HK
      go_wp2_with fail
      refine (HK2.out _ (Fr.refl _ _)).mono ?_
      rintro e Y1 ⟨rfl, y1⟩
      go_wp2_with fail
      go_ret
      exact ⟨rfl, (t1.trans sr).trans y1⟩
set_option maxRecDepth 100000 in
set_option maxHeartbeats 4000000 in
theorem dshaped_branch {p q : Int} {r : Nr} {N : Nd} (w : World) (h : NdAt w r N) (hn : N.ks.length ≤ 1048576) (hp : p = 1024 ∨ p = 2048 ∨ p = 4096 ∨ p = 8192)
    (HL : Hid (∀ W, Calls Try.prog 17 #[ndV r N] W fun e w' => e = .returned (.bool false) ∧ Same W w'))
    (HF : Hid (∀ W (x : Kid), KidOk x → Calls Try.prog 61 #[.int .i64 q, .agg (bcells x.d).toArray] W fun e w' => e = .returned (.bool (fitsP q x.d)) ∧ Same W w'))
    (HK : Hid (∀ W, Same w W → Calls Try.prog 60 #[.slice r.sa N.ss.length r.cs, .int .i64 (p / 16)] W fun e w' => e = .returned (.bool (risesP (p / 16) ⟨#[]⟩ N.ss)) ∧ Same W w')) :
    Calls Try.prog 34 #[frameV p q, ndV r N] w fun e w' => e = .returned (.bool (branchP p q N)) ∧ Same w w' := by
  obtain ⟨V, hV⟩ : ∃ V, V = (w.alloc (.cells #[.int .i64 p, .int .i64 q] 23)).alloc (.cells #[.slice r.pa N.ps.length r.cp, .slice r.sa N.ss.length r.cs, .slice r.ka N.ks.length r.ck] 28) := ⟨_, rfl⟩
  have t1 : Same w V := by rw [hV]; exact ((Fr.refl _ w).alloc _).alloc _
  have a0 : V.cell? ⟨w.heap.size, 0, none⟩ = some (.int .i64 p) := by rw [hV]; simp
  have a1 : V.cell? ⟨w.heap.size, 1, none⟩ = some (.int .i64 q) := by rw [hV]; simp
  have n0 : V.cell? ⟨w.heap.size + 1, 0, none⟩ = some (.slice r.pa N.ps.length r.cp) := by rw [hV]; simp
  have n1 : V.cell? ⟨w.heap.size + 1, 1, none⟩ = some (.slice r.sa N.ss.length r.cs) := by rw [hV]; simp
  have n2 : V.cell? ⟨w.heap.size + 1, 2, none⟩ = some (.slice r.ka N.ks.length r.ck) := by rw [hV]; simp
  have HC : Hid (∀ W, Same V W → W.cell? ⟨w.heap.size, 0, none⟩ = some (.int .i64 p) ∧ W.cell? ⟨w.heap.size, 1, none⟩ = some (.int .i64 q) ∧ W.cell? ⟨w.heap.size + 1, 0, none⟩ = some (.slice r.pa N.ps.length r.cp) ∧ W.cell? ⟨w.heap.size + 1, 1, none⟩ = some (.slice r.sa N.ss.length r.cs) ∧ W.cell? ⟨w.heap.size + 1, 2, none⟩ = some (.slice r.ka N.ks.length r.ck)) := fun W s => ⟨s.keep a0, s.keep a1, s.keep n0, s.keep n1, s.keep n2⟩
  have HKR : Hid (KRow V r.ka r.kb r.ko N.ks) := h.hk.same t1
  have HOK : Hid (∀ x ∈ N.ks, KidOk x) := h.ok
  have hp8 : (0 : Int) ≤ p := by omega
  have w1 : RowKit.wrap64 ((N.ks.length : Int) - 1) = (N.ks.length : Int) - 1 := by unfold RowKit.wrap64; omega
  clear h
  go_enter Try.func34, Try.ntmps34
  go_wp2_with fail
  rw [← hV]
  clear hV
  refine (HL.out _).mono ?_
  rintro e W1 ⟨rfl, s1⟩
  clear a0 a1 n0 n1 n2
  obtain ⟨a0, a1, n0, n1, n2⟩ := HC.out _ s1
  by_cases cA : 0 < N.ps.length
  · have hr : Hid (branchP p q N = false) := by show _ = _; unfold branchP; rw [decide_eq_true cA]; rfl
    have cA' : (0 : Int) < (N.ps.length : Int) := by omega
    clear HF HK HKR HOK
    go_wp2_with fail
    go_ret
    exact ⟨by rw [hr.out]; rfl, t1.trans s1⟩
  · have cA' : ¬ (0 : Int) < (N.ps.length : Int) := by omega
    by_cases cB : N.ks.length < 2
    · have hr : Hid (branchP p q N = false) := by show _ = _; unfold branchP; rw [decide_eq_true cB]; simp
      have cB' : (N.ks.length : Int) < 2 := by omega
      clear HF HK HKR HOK
      go_wp2_with fail
      go_ret
      exact ⟨by rw [hr.out]; rfl, t1.trans s1⟩
    · have cB' : ¬ (N.ks.length : Int) < 2 := by omega
      by_cases cC : N.ss.length + 1 = N.ks.length
      · have cC' : ((N.ss.length : Int) != (N.ks.length : Int) - 1) = false := by rw [bne_eq_false_iff_eq]; omega
        have HB : Hid (branchP p q N = (risesP (p / 16) ⟨#[]⟩ N.ss && !(N.ks.any (looseB q)))) := by
          show _ = _
          unfold branchP
          rw [decide_eq_false cA, decide_eq_false cB, decide_eq_false (fun e => e cC)]; rfl
        go_wp2_with fail
        go_loopg [7] N.ks.length (fun g iv wr => ∃ k : Nat, iv = .int .i64 (k : Int) ∧ k ≤ N.ks.length ∧ g = N.ks.length - k ∧ Hid (∀ x ∈ N.ks.take k, looseB q x = false) ∧ Same V wr)
        case atStart => exact ⟨0, rfl, by omega, rfl, fun x hx => by simp at hx, s1⟩
        case round =>
          clear a0 a1 n0 n1 n2
          obtain ⟨k, rfl, hk, hg, HI, sr⟩ := hrel
          obtain ⟨a0, a1, n0, n1, n2⟩ := HC.out _ sr
          by_cases hgo : k < N.ks.length
          · obtain ⟨x, hx⟩ : ∃ x, N.ks[k]? = some x := ⟨_, List.getElem?_eq_getElem hgo⟩
            have c := (HKR.out.same sr).cells k _ hx
            have hok := HOK.out x (List.mem_of_getElem? hx)
            have c1 : wr.rangeAt r.kb (r.ko + k * 33 + 1) (bcells x.d) := kid_sum c
            obtain ⟨hpa, _⟩ := (HKR.out.same sr).place (by intro e; rw [e] at hx; simp at hx)
            have HPA : Hid (r.ka = some ⟨r.kb, r.ko, none⟩) := hpa
            rw [hpa] at n2
            have HX : Hid (N.ks[k]? = some x) := hx
            have i1 : (k : Int) < (N.ks.length : Int) := by omega
            have i0 : (0 : Int) ≤ (k : Int) := by omega
            have HFx := HF.out
            clear hx hpa c
            have hBl : (Try.prog.info? 57).map (·.size) = some (bcells x.d).length := by rw [bcells_length, hok.d]; kernel_rfl
            have HFx : Hid (∀ W, Calls Try.prog 61 #[.int .i64 q, .agg (bcells x.d).toArray] W fun e w' => e = .returned (.bool (fitsP q x.d)) ∧ Same W w') := fun W => HF.out W x hok
            obtain ⟨BD, hBD⟩ : ∃ BD, BD = bcells x.d := ⟨_, rfl⟩
            rw [← hBD] at c1 hBl HFx
            clear hBD hok
            go_wp2_with fail
            refine wp_region_held_drew (S := fun X => X.cell? ⟨w.heap.size, 1, none⟩ = some (.int .i64 q) ∧ X.cell? ⟨w.heap.size + 1, 2, none⟩ = some (.slice (some ⟨r.kb, r.ko, none⟩) N.ks.length r.ck) ∧ X.rangeAt r.kb (r.ko + k * 33 + 1) BD) (by kernel_rfl) (⟨a1, n2, c1⟩) (fun hHeld => ?_)
            refine wpAnyH_take (i := 0) (oi := { dst := some 69, op := Op.fieldAddr 23 (Operand.tmp 2) 1, type := 0, pos := "ref.go:66", after := #[], guard := none }) (v := .pointer (some ⟨w.heap.size, 1, none⟩)) rfl (by kernel_rfl) (by kernel_rfl) (by kernel_rfl) (fun _ _ _ h => h) (Or.inl ⟨by rfl, fun w hSw => by (obtain ⟨z0, z1, z2⟩ := hSw; go_simp)⟩) (by assumption) ?_
            try simp only [Act.put, List.setIfInBounds_toArray, List.set_cons_zero, List.set_cons_succ]
            refine wpAnyH_take (i := 1) (oi := { dst := some 70, op := Op.load 3 (Operand.tmp 69), type := 3, pos := "ref.go:66", after := #[{ on := 0, ground := Ground.data }], guard := none }) (v := .int .i64 q) rfl (by kernel_rfl) (by kernel_rfl) (by kernel_rfl) (fun _ _ _ h => h) (Or.inl ⟨by rfl, fun w hSw => by (obtain ⟨z0, z1, z2⟩ := hSw; go_simp)⟩) (by assumption) ?_
            try simp only [Act.put, List.setIfInBounds_toArray, List.set_cons_zero, List.set_cons_succ]
            refine wpAnyH_take (i := 2) (oi := { dst := some 71, op := Op.fieldAddr 28 (Operand.tmp 3) 2, type := 0, pos := "ref.go:66", after := #[], guard := none }) (v := .pointer (some ⟨w.heap.size + 1, 2, none⟩)) rfl (by kernel_rfl) (by kernel_rfl) (by kernel_rfl) (fun _ _ _ h => h) (Or.inl ⟨by rfl, fun w hSw => by (obtain ⟨z0, z1, z2⟩ := hSw; go_simp)⟩) (by assumption) ?_
            try simp only [Act.put, List.setIfInBounds_toArray, List.set_cons_zero, List.set_cons_succ]
            refine wpAnyH_take (i := 3) (oi := { dst := some 72, op := Op.load 26 (Operand.tmp 71), type := 26, pos := "ref.go:66", after := #[{ on := 2, ground := Ground.data }], guard := none }) (v := .slice (some ⟨r.kb, r.ko, none⟩) N.ks.length r.ck) rfl (by kernel_rfl) (by kernel_rfl) (by kernel_rfl) (fun _ _ _ h => h) (Or.inl ⟨by rfl, fun w hSw => by (obtain ⟨z0, z1, z2⟩ := hSw; go_simp)⟩) (by assumption) ?_
            try simp only [Act.put, List.setIfInBounds_toArray, List.set_cons_zero, List.set_cons_succ]
            refine wpAnyH_take (i := 4) (oi := { dst := some 73, op := Op.move (Operand.tmp 7), type := 3, pos := "ref.go:66", after := #[], guard := none }) (v := .int .i64 (k : Int)) rfl (by kernel_rfl) (by kernel_rfl) (by kernel_rfl) (fun _ _ _ h => h) (Or.inl ⟨by rfl, fun w hSw => by (obtain ⟨z0, z1, z2⟩ := hSw; go_simp)⟩) (by assumption) ?_
            try simp only [Act.put, List.setIfInBounds_toArray, List.set_cons_zero, List.set_cons_succ]
            refine wpAnyH_take (i := 5) (oi := { dst := some 74, op := Op.indexAddr 26 (Operand.tmp 72) (Operand.tmp 73), type := 0, pos := "ref.go:66", after := #[{ on := 3, ground := Ground.data }, { on := 4, ground := Ground.data }], guard := none }) (v := .pointer (some ⟨r.kb, r.ko + k * 33, none⟩)) rfl (by kernel_rfl) (by kernel_rfl) (by kernel_rfl) (fun _ _ _ h => h) (Or.inl ⟨by rfl, fun w hSw => by (obtain ⟨z0, z1, z2⟩ := hSw; go_simp)⟩) (by assumption) ?_
            try simp only [Act.put, List.setIfInBounds_toArray, List.set_cons_zero, List.set_cons_succ]
            refine wpAnyH_take (i := 6) (oi := { dst := some 75, op := Op.fieldAddr 59 (Operand.tmp 74) 1, type := 0, pos := "ref.go:66", after := #[{ on := 5, ground := Ground.data }], guard := none }) (v := .pointer (some ⟨r.kb, r.ko + k * 33 + 1, none⟩)) rfl (by kernel_rfl) (by kernel_rfl) (by kernel_rfl) (fun _ _ _ h => h) (Or.inl ⟨by rfl, fun w hSw => by (obtain ⟨z0, z1, z2⟩ := hSw; go_simp)⟩) (by assumption) ?_
            try simp only [Act.put, List.setIfInBounds_toArray, List.set_cons_zero, List.set_cons_succ]
            refine wpAnyH_take (i := 7) (oi := { dst := some 76, op := Op.load 57 (Operand.tmp 75), type := 57, pos := "ref.go:66", after := #[{ on := 6, ground := Ground.data }], guard := none }) (v := .agg BD.toArray) rfl (by kernel_rfl) (by kernel_rfl) (by kernel_rfl) (fun _ _ _ h => h) (yieldsIf_load_mid (by rfl) 57 _ rfl (r.kb) (r.ko + k * 33 + 1) rfl BD _ (fun w hSw => hSw.2.2) Try.underlying57 rfl hBl) (by assumption) ?_
            try simp only [Act.put, List.setIfInBounds_toArray, List.set_cons_zero, List.set_cons_succ]
            refine wpAnyH_ready (rs := [8]) (by kernel_rfl) (by simp) ?_
            refine AllReadyH.cons (o := { dst := some 77, op := Op.call { callee := Callee.value (Operand.func 61), args := #[Operand.tmp 70, Operand.tmp 76], argTypes := #[3, 57] }, type := 4, pos := "ref.go:66", after := #[{ on := 1, ground := Ground.data }, { on := 7, ground := Ground.data }], guard := none }) rfl (fun K hK => ?_) AllReadyH.nil
            go_simp
            go_at_call 61
            refine (HFx.out _).mono ?_
            rintro e Z1 ⟨rfl, q1⟩
            try go_wp2_with fail
            have u1 : Same V Z1 := Same.trans (Fr.drew sr) q1
            obtain ⟨_, a1', _, _, n2'⟩ := HC.out _ u1
            rw [HPA.out] at n2'
            have c1' : Z1.rangeAt r.kb (r.ko + k * 33 + 1) BD := fun j v hv => Same.keep (w := wr.drew) q1 (c1 j v hv)
            refine hK.out _ _ (⟨a1', n2', c1'⟩) (fun hHeld => ?_)
            clear hK K
            try simp only [Act.put, List.setIfInBounds_toArray, List.set_cons_zero, List.set_cons_succ]
            refine wpAnyH_take (i := 9) (oi := { dst := some 78, op := Op.unOp UnOp.not 4 (Operand.tmp 77), type := 4, pos := "ref.go:66", after := #[{ on := 8, ground := Ground.data }], guard := none }) (v := .bool (!fitsP q x.d)) rfl (by kernel_rfl) (by kernel_rfl) (by kernel_rfl) (fun _ _ _ h => h) (Or.inl ⟨by rfl, fun w hSw => by (obtain ⟨z0, z1, z2⟩ := hSw; go_simp)⟩) (by assumption) ?_
            try simp only [Act.put, List.setIfInBounds_toArray, List.set_cons_zero, List.set_cons_succ]
            refine wpAnyH_done (by kernel_rfl) ?_ _
            cases hfx : fitsP q x.d with
            | true =>
              have HI2 : Hid (∀ x ∈ N.ks.take (k + 1), looseB q x = false) := fun y hy => by
                rw [List.take_add_one, HX.out] at hy
                rcases List.mem_append.1 hy with hy | hy
                · exact HI.out y hy
                · simp at hy; subst hy; unfold looseB; rw [hfx]; rfl
              clear HI HX HF HFx HK HB c1 c1'
              go_wp2_with fail
              go_roundg (N.ks.length - (k + 1))
              case measure => omega
              case rel => exact ⟨k + 1, by go_num, by omega, rfl, HI2, u1⟩
            | false =>
              have hr : Hid (branchP p q N = false) := by
                show _ = _
                rw [HB.out, show N.ks.any (looseB q) = true from List.any_eq_true.2 ⟨x, List.mem_of_getElem? HX.out, by unfold looseB; rw [hfx]; rfl⟩]
                simp
              clear HI HX HF HFx HK HB c1 c1'
              go_wp2_with fail
              go_ret
              exact ⟨by rw [hr.out]; rfl, t1.trans u1⟩
          · obtain rfl : k = N.ks.length := by omega
            have hr : Hid (branchP p q N = risesP (p / 16) ⟨#[]⟩ N.ss) := by
              show _ = _
              have hh := HI.out
              rw [List.take_length] at hh
              rw [HB.out, show N.ks.any (looseB q) = false from List.any_eq_false.2 (fun x hx => by simp [hh x hx])]; simp
            have HK2 := HK.out
            clear HI HF HKR HOK HB
            go_wp2_with fail
            refine (HK2 _ (t1.trans sr)).mono ?_
            rintro e Y1 ⟨rfl, y1⟩
            go_wp2_with fail
            go_ret
            exact ⟨by rw [hr.out]; rfl, (t1.trans sr).trans y1⟩
      · have hr : Hid (branchP p q N = false) := by show _ = _; unfold branchP; rw [decide_eq_true (p := N.ss.length + 1 ≠ N.ks.length) cC]; simp
        have cC' : ((N.ss.length : Int) != (N.ks.length : Int) - 1) = true := by rw [bne_iff_ne]; omega
        clear HF HK HKR HOK
        go_wp2_with fail
        go_ret
        exact ⟨by rw [hr.out]; rfl, t1.trans s1⟩
end Go.Proofs.Ytmgkdnejjemfeaa
