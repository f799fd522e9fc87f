/-
  Walks: 'again', the kinds of one thing.
-/
import Derived.Test.YtcbbjicoedeioaaWZ
namespace Go.Proofs.Ytcbbjicoedeioaa
open Go.RowKit

theorem zag_le (x : Nat) (h : x < 18446744073709551616) : -9223372036854775808 ≤ zag x ∧ zag x ≤ 9223372036854775807 := by
  unfold zag; split <;> omega
set_option maxRecDepth 100000 in
set_option maxHeartbeats 1000000 in
theorem again_9 {w : World} {r b : Nat} {g : Option Nat} {S : ByteArray} {p : Nat} (n : Nat) (i : Int) (s : ByteArray) (pa : Option Addr) (pl pc : Nat) (na : Option Addr) (nl nc : Nat) (wd : Int) (m : Nat) (bd : Int) (h : RdAt w r S p 0) (hw : WrAt w b g (S.data.toList.take p)) (hrb : r ≠ b) (hgr : g ≠ some r) (hS : S.size ≤ 1048576) (hm : m < 18446744073709551616) :
    Calls Try.prog 33 #[.pointer (some ⟨r, 0, none⟩), .pointer (some ⟨b, 0, none⟩), stepV 9 n i s pa pl pc na nl nc wd m bd] w fun e w' => e = .returned (.tuple #[]) ∧ AgainPost r b g S p w w' := by
  have hrw := h.lt
  have hbl : (S.data.toList.take p).length ≤ 1048576 := by rw [List.length_take, bytes_length]; omega
  obtain ⟨c0, c1, c2, c3, c4, c5, c6, c7, c8⟩ := step_cells9 w 9 n i s pa pl pc na nl nc wd m bd
  have sa : Same w (w.alloc (stepC 9 n i s pa pl pc na nl nc wd m bd)) := (Fr.refl _ w).alloc _
  obtain ⟨x, p', c, hr⟩ : ∃ x p' c, rFree S p 0 m = (x, p', c) := ⟨_, _, _, rfl⟩
  have HX : Hid (∀ W, RdAt W r S p 0 → Calls Try.prog 18 #[.pointer (some ⟨r, 0, none⟩), .int .u64 m] W fun e w' => e = .returned (.int .u64 (x : Int)) ∧ RdAt w' r S p' c ∧ RdStep r W w') := fun W hW => by
    have := rfree_calls hW m hm
    rw [hr] at this; exact this
  have hpl := rFree_place S p 0 m h.2.1
  rw [hr] at hpl
  go_enter Try.func33, Try.ntmps33
  go_wp2_with fail
  refine (lsize_other _ 9 (by omega)).mono ?_
  rintro e W1 ⟨rfl, s1⟩
  have d0 := (s1.cell (World.block_lt_of_cell? _ _ c0) (fun f => f)).trans c0
  have d7 := (s1.cell (World.block_lt_of_cell? _ _ c7) (fun f => f)).trans c7
  have hw1 : Same w W1 := Fr.trans sa s1 (fun _ _ f => f)
  have hwl : w.heap.size < W1.heap.size := World.block_lt_of_cell? _ _ d0
  have hne : ¬ w.heap.size = r := by omega
  have h1 := h.same hw1
  have hwr1 := hw.same hw1
  clear c0 c1 c2 c3 c4 c5 c6 c7 c8 s1 sa
  go_wp2_with fail
  refine (HX.out _ h1).mono ?_
  rintro e W2 ⟨rfl, h2, st2⟩
  have hwr2 := hwr1.rd st2 hrb hgr
  have st02 : RdStep r w W2 := RdStep.trans (Same.rd hw1 r) st2
  by_cases hc : c = 0
  · subst hc
    obtain ⟨hsp, hxl⟩ := rFree_inv h.2.1 hr
    have HSp : Hid (Spans S p (freeB x) p') := hsp
    clear hr hsp
    go_wp2_with fail
    refine (fault_ok h2).mono ?_
    rintro e W3 ⟨rfl, rfl⟩
    go_wp2_with fail
    refine (wfree_calls x hxl hwr2 (by omega)).mono ?_
    rintro e W4 ⟨rfl, g4, hw4, st4⟩
    go_wp2_with fail
    go_end0
    exact ⟨rfl, again_good st02 h2 HSp.out hw4 st4 hrb hgr⟩
  · clear hr
    go_wp2_with fail
    refine (fault_bad h2 (by omega)).mono ?_
    rintro e W3 ⟨rfl, _, s3⟩
    go_wp2_with fail
    go_end0
    exact ⟨rfl, again_bad (RdStep.trans st02 (Same.rd s3 r)) (h2.same s3) hc hpl.1⟩
set_option maxRecDepth 100000 in
set_option maxHeartbeats 1000000 in
theorem again_10 {w : World} {r b : Nat} {g : Option Nat} {S : ByteArray} {p : Nat} (n : Nat) (i : Int) (s : ByteArray) (pa : Option Addr) (pl pc : Nat) (na : Option Addr) (nl nc : Nat) (wd : Int) (m : Nat) (bd : Int) (h : RdAt w r S p 0) (hw : WrAt w b g (S.data.toList.take p)) (hrb : r ≠ b) (hgr : g ≠ some r) (hS : S.size ≤ 1048576) :
    Calls Try.prog 33 #[.pointer (some ⟨r, 0, none⟩), .pointer (some ⟨b, 0, none⟩), stepV 10 n i s pa pl pc na nl nc wd m bd] w fun e w' => e = .returned (.tuple #[]) ∧ AgainPost r b g S p w w' := by
  have hrw := h.lt
  have hbl : (S.data.toList.take p).length ≤ 1048576 := by rw [List.length_take, bytes_length]; omega
  obtain ⟨c0, c1, c2, c3, c4, c5, c6, c7, c8⟩ := step_cells9 w 10 n i s pa pl pc na nl nc wd m bd
  have sa : Same w (w.alloc (stepC 10 n i s pa pl pc na nl nc wd m bd)) := (Fr.refl _ w).alloc _
  obtain ⟨x, p', c, hr⟩ : ∃ x p' c, rFree S p 0 18446744073709551615 = (x, p', c) := ⟨_, _, _, rfl⟩
  obtain ⟨z, hz⟩ : ∃ z, z = zag x := ⟨_, rfl⟩
  have HX : Hid (∀ W, RdAt W r S p 0 → Calls Try.prog 19 #[.pointer (some ⟨r, 0, none⟩)] W fun e w' => e = .returned (.int .i64 z) ∧ RdAt w' r S p' c ∧ RdStep r W w') := fun W hW => by
    have := rsigned_calls hW
    rw [hr] at this; rw [hz]; exact this
  have hpl := rFree_place S p 0 18446744073709551615 h.2.1
  rw [hr] at hpl
  have HZ : Hid (z = zag x) := hz
  clear hz
  go_enter Try.func33, Try.ntmps33
  go_wp2_with fail
  refine (lsize_other _ 10 (by omega)).mono ?_
  rintro e W1 ⟨rfl, s1⟩
  have d0 := (s1.cell (World.block_lt_of_cell? _ _ c0) (fun f => f)).trans c0
  have hw1 : Same w W1 := Fr.trans sa s1 (fun _ _ f => f)
  have hwl : w.heap.size < W1.heap.size := World.block_lt_of_cell? _ _ d0
  have hne : ¬ w.heap.size = r := by omega
  have h1 := h.same hw1
  have hwr1 := hw.same hw1
  clear c0 c1 c2 c3 c4 c5 c6 c7 c8 s1 sa
  go_wp2_with fail
  refine (HX.out _ h1).mono ?_
  rintro e W2 ⟨rfl, h2, st2⟩
  have hwr2 := hwr1.rd st2 hrb hgr
  have st02 : RdStep r w W2 := RdStep.trans (Same.rd hw1 r) st2
  by_cases hc : c = 0
  · subst hc
    obtain ⟨hsp, hxl⟩ := rFree_inv h.2.1 hr
    have HSp : Hid (Spans S p (freeB (zig z)) p') := by
      show Spans _ _ _ _
      rw [HZ.out, zig_zag]; exact hsp
    have hzl := zag_le x hxl
    rw [← HZ.out] at hzl
    clear hr hsp
    go_wp2_with fail
    refine (fault_ok h2).mono ?_
    rintro e W3 ⟨rfl, rfl⟩
    go_wp2_with fail
    refine (wsigned_calls z hzl.1 hzl.2 hwr2 (by omega)).mono ?_
    rintro e W4 ⟨rfl, g4, hw4, st4⟩
    go_wp2_with fail
    go_end0
    exact ⟨rfl, again_good st02 h2 HSp.out hw4 st4 hrb hgr⟩
  · clear hr
    go_wp2_with fail
    refine (fault_bad h2 (by omega)).mono ?_
    rintro e W3 ⟨rfl, _, s3⟩
    go_wp2_with fail
    go_end0
    exact ⟨rfl, again_bad (RdStep.trans st02 (Same.rd s3 r)) (h2.same s3) hc hpl.1⟩
set_option maxRecDepth 100000 in
set_option maxHeartbeats 1000000 in
theorem again_12 {w : World} {r b : Nat} {g : Option Nat} {S : ByteArray} {p : Nat} (n : Nat) (i : Int) (s : ByteArray) (pa : Option Addr) (pl pc : Nat) (na : Option Addr) (nl nc : Nat) (wd : Int) (m : Nat) (bd : Int) (h : RdAt w r S p 0) (hw : WrAt w b g (S.data.toList.take p)) (hrb : r ≠ b) (hgr : g ≠ some r) (hS : S.size ≤ 1048576) (hbd : bd ≤ 9223372036854775807) :
    Calls Try.prog 33 #[.pointer (some ⟨r, 0, none⟩), .pointer (some ⟨b, 0, none⟩), stepV 12 n i s pa pl pc na nl nc wd m bd] w fun e w' => e = .returned (.tuple #[]) ∧ AgainPost r b g S p w w' := by
  have hrw := h.lt
  have hbl : (S.data.toList.take p).length ≤ 1048576 := by rw [List.length_take, bytes_length]; omega
  obtain ⟨c0, c1, c2, c3, c4, c5, c6, c7, c8⟩ := step_cells9 w 12 n i s pa pl pc na nl nc wd m bd
  have sa : Same w (w.alloc (stepC 12 n i s pa pl pc na nl nc wd m bd)) := (Fr.refl _ w).alloc _
  obtain ⟨x, p', c, hr⟩ : ∃ x p' c, rText S p 0 bd = (x, p', c) := ⟨_, _, _, rfl⟩
  have HX : Hid (∀ W, RdAt W r S p 0 → Calls Try.prog 21 #[.pointer (some ⟨r, 0, none⟩), .int .i64 bd] W fun e w' => e = .returned (.string x) ∧ RdAt w' r S p' c ∧ RdStep r W w') := fun W hW => by
    have := rtext_calls hW bd hbd
    rw [hr] at this; exact this
  have hpl := rText_place S p 0 bd h.2.1
  rw [hr] at hpl
  go_enter Try.func33, Try.ntmps33
  go_wp2_with fail
  refine (lsize_other _ 12 (by omega)).mono ?_
  rintro e W1 ⟨rfl, s1⟩
  have d0 := (s1.cell (World.block_lt_of_cell? _ _ c0) (fun f => f)).trans c0
  have d8 := (s1.cell (World.block_lt_of_cell? _ _ c8) (fun f => f)).trans c8
  have hw1 : Same w W1 := Fr.trans sa s1 (fun _ _ f => f)
  have hwl : w.heap.size < W1.heap.size := World.block_lt_of_cell? _ _ d0
  have hne : ¬ w.heap.size = r := by omega
  have h1 := h.same hw1
  have hwr1 := hw.same hw1
  clear c0 c1 c2 c3 c4 c5 c6 c7 c8 s1 sa
  go_wp2_with fail
  refine (HX.out _ h1).mono ?_
  rintro e W2 ⟨rfl, h2, st2⟩
  have hwr2 := hwr1.rd st2 hrb hgr
  have st02 : RdStep r w W2 := RdStep.trans (Same.rd hw1 r) st2
  by_cases hc : c = 0
  · subst hc
    have hsp := rText_inv h.2.1 hr
    have HSp : Hid (Spans S p (textB x) p') := hsp
    have hxl := hsp.len
    unfold textB at hxl
    rw [List.length_append, bytes_length] at hxl
    clear hr hsp
    go_wp2_with fail
    refine (fault_ok h2).mono ?_
    rintro e W3 ⟨rfl, rfl⟩
    go_wp2_with fail
    refine (wtext_calls x hwr2 (by omega)).mono ?_
    rintro e W4 ⟨rfl, g4, hw4, st4⟩
    go_wp2_with fail
    go_end0
    exact ⟨rfl, again_good st02 h2 HSp.out hw4 st4 hrb hgr⟩
  · clear hr
    go_wp2_with fail
    refine (fault_bad h2 (by omega)).mono ?_
    rintro e W3 ⟨rfl, _, s3⟩
    go_wp2_with fail
    go_end0
    exact ⟨rfl, again_bad (RdStep.trans st02 (Same.rd s3 r)) (h2.same s3) hc hpl.1⟩
set_option maxRecDepth 100000 in
set_option maxHeartbeats 1000000 in
theorem again_13 {w : World} {r b : Nat} {g : Option Nat} {S : ByteArray} {p : Nat} (n : Nat) (i : Int) (s : ByteArray) (pa : Option Addr) (pl pc : Nat) (na : Option Addr) (nl nc : Nat) (wd : Int) (m : Nat) (bd : Int) (h : RdAt w r S p 0) (hw : WrAt w b g (S.data.toList.take p)) (hrb : r ≠ b) (hgr : g ≠ some r) (hS : S.size ≤ 1048576) :
    Calls Try.prog 33 #[.pointer (some ⟨r, 0, none⟩), .pointer (some ⟨b, 0, none⟩), stepV 13 n i s pa pl pc na nl nc wd m bd] w fun e w' => e = .returned (.tuple #[]) ∧ AgainPost r b g S p w w' := by
  have hrw := h.lt
  have hbl : (S.data.toList.take p).length ≤ 1048576 := by rw [List.length_take, bytes_length]; omega
  obtain ⟨c0, c1, c2, c3, c4, c5, c6, c7, c8⟩ := step_cells9 w 13 n i s pa pl pc na nl nc wd m bd
  have sa : Same w (w.alloc (stepC 13 n i s pa pl pc na nl nc wd m bd)) := (Fr.refl _ w).alloc _
  obtain ⟨X, p', c, hr⟩ : ∃ X p' c, rRaw S p 0 (widthN wd) = (X, p', c) := ⟨_, _, _, rfl⟩
  have hXz := rRaw_size S p 0 (widthN wd)
  have hwdl := widthN_le wd
  have hpl := rRaw_place S p 0 (widthN wd) h.2.1
  rw [hr] at hpl hXz
  simp only [Int.toNat_natCast] at hXz
  obtain ⟨D, hD⟩ : ∃ D, D = padD X := ⟨_, rfl⟩
  have hDl : D.length = 32 := by rw [hD]; exact padD_length X (by omega)
  obtain ⟨A, hA⟩ : ∃ A, A = (bcells D).toArray := ⟨_, rfl⟩
  have hAs : A.size = 32 := by rw [hA]; simp [bcells, hDl]
  have hone : A.all (·.oneCell') = true := by
    rw [hA]
    exact all_oneCell_toArray (by intro v hv; simp only [bcells, List.mem_map] at hv; obtain ⟨c, _, rfl⟩ := hv; rfl)
  have hsz : (Try.prog.info? 51).map (·.size) = some A.size := by rw [Try.ainfo, hAs]
  have HX : Hid (∀ W, RdAt W r S p 0 → Calls Try.prog 22 #[.pointer (some ⟨r, 0, none⟩), .int .i64 wd] W fun e w' => e = .returned (.agg A) ∧ RdAt w' r S p' c ∧ RdStep r W w') := fun W hW => by
    have := rdigest_calls hW wd
    rw [hr] at this; rw [hA, hD]; exact this
  have HDG : Hid (∀ (W : World) (g : Option Nat) (bs : List UInt8), WrAt W b g bs → bs.length ≤ 900000000000 → Calls Try.prog 47 #[.pointer (some ⟨b, 0, none⟩), .int .i64 wd, .agg A] W fun e w' => e = .returned (.tuple #[]) ∧ ∃ g', WrAt w' b g' (bs ++ D.take (widthN wd)) ∧ WrStep b g g' W w') := fun W g bs h1 h2 => by
    rw [hA]; exact wdigest_calls wd D hDl h1 h2
  have HD : Hid (D = padD X) := hD
  have HAs : Hid (A.size = 32) := hAs
  clear hD hA hAs
  go_enter Try.func33, Try.ntmps33
  go_wp2_with fail
  refine (lsize_other _ 13 (by omega)).mono ?_
  rintro e W1 ⟨rfl, s1⟩
  have d0 := (s1.cell (World.block_lt_of_cell? _ _ c0) (fun f => f)).trans c0
  have d6 := (s1.cell (World.block_lt_of_cell? _ _ c6) (fun f => f)).trans c6
  have hw1 : Same w W1 := Fr.trans sa s1 (fun _ _ f => f)
  have hwl : w.heap.size < W1.heap.size := World.block_lt_of_cell? _ _ d0
  have hne : ¬ w.heap.size = r := by omega
  have h1 := h.same hw1
  have hwr1 := hw.same hw1
  clear c0 c1 c2 c3 c4 c5 c6 c7 c8 s1 sa
  go_wp2_with fail
  refine (HX.out _ h1).mono ?_
  rintro e W2 ⟨rfl, h2, st2⟩
  have hwr2 := hwr1.rd st2 hrb hgr
  have st02 : RdStep r w W2 := RdStep.trans (Same.rd hw1 r) st2
  have e6 := (Fr.cell (S := fun k => k = r) st2 (p := ⟨w.heap.size, 6, none⟩) (World.block_lt_of_cell? _ _ d6) hne).trans d6
  go_wp2_with (first | (refine wpList_store_whole (by rfl) 51 _ _ (by rfl) W2.heap.size A _ 51 (by rfl) (by rfl) (heap_alloc_new W2 _) (by rw [HAs.out]; rfl) hsz hone ?_; intro W5 r5 f5; have s5 : Same W2 W5 := Fr.trans ((Fr.refl _ W2).alloc _) f5 (fun i hi e => by omega); have g6 := (s5.cell (World.block_lt_of_cell? _ _ e6) (fun f => f)).trans e6; clear f5))
  have h5 := h2.same s5
  have hwr5 := hwr2.same s5
  have st05 : RdStep r w W5 := RdStep.trans st02 (Same.rd s5 r)
  by_cases hc : c = 0
  · subst hc
    obtain ⟨hsp, hXs⟩ := rRaw_inv h.2.1 hr
    rw [Int.toNat_natCast] at hXs
    have HSp : Hid (Spans S p (D.take (widthN wd)) p') := by
      show Spans _ _ _ _
      have e : D.take (widthN wd) = X.data.toList := by
        rw [HD.out]
        unfold padD
        rw [← hXs, ← bytes_length, List.take_left]
      rw [e]; exact hsp
    clear hr hsp
    refine (fault_ok h5).mono ?_
    rintro e W3 ⟨rfl, rfl⟩
    go_wp2_with (first | (refine wpList_load_row (by rfl) 51 _ (by rfl) W2.heap.size (by rfl) 51 A (0, 0) _ r5 Try.underlying51 rfl hsz ?_))
    refine (HDG.out _ _ _ hwr5 (by omega)).mono ?_
    rintro e W4 ⟨rfl, g4, hw4, st4⟩
    go_wp2_with fail
    go_end0
    exact ⟨rfl, again_good st05 h5 HSp.out hw4 st4 hrb hgr⟩
  · clear hr
    refine (fault_bad h5 (by omega)).mono ?_
    rintro e W3 ⟨rfl, _, s3⟩
    go_wp2_with fail
    go_end0
    exact ⟨rfl, again_bad (RdStep.trans st05 (Same.rd s3 r)) (h5.same s3) hc hpl.1⟩
set_option maxRecDepth 100000 in
set_option maxHeartbeats 1000000 in
theorem again_11 {w : World} {r b : Nat} {g : Option Nat} {S : ByteArray} {p : Nat} (n : Nat) (i : Int) (s : ByteArray) (pa : Option Addr) (pl pc : Nat) (na : Option Addr) (nl nc : Nat) (wd : Int) (m : Nat) (bd : Int) (h : RdAt w r S p 0) (hw : WrAt w b g (S.data.toList.take p)) (hrb : r ≠ b) (hgr : g ≠ some r) (hS : S.size ≤ 1048576) (hi : i ≤ 9223372036854775807) :
    Calls Try.prog 33 #[.pointer (some ⟨r, 0, none⟩), .pointer (some ⟨b, 0, none⟩), stepV 11 n i s pa pl pc na nl nc wd m bd] w fun e w' => e = .returned (.tuple #[]) ∧ AgainPost r b g S p w w' := by
  have hrw := h.lt
  have hbl : (S.data.toList.take p).length ≤ 1048576 := by rw [List.length_take, bytes_length]; omega
  obtain ⟨c0, c1, c2, c3, c4, c5, c6, c7, c8⟩ := step_cells9 w 11 n i s pa pl pc na nl nc wd m bd
  have sa : Same w (w.alloc (stepC 11 n i s pa pl pc na nl nc wd m bd)) := (Fr.refl _ w).alloc _
  obtain ⟨X, p', c, hr⟩ : ∃ X p' c, rRaw S p 0 i = (X, p', c) := ⟨_, _, _, rfl⟩
  have HX : Hid (∀ W, RdAt W r S p 0 → Calls Try.prog 20 #[.pointer (some ⟨r, 0, none⟩), .int .i64 i] W fun e w' => e = .returned (.string X) ∧ RdAt w' r S p' c ∧ RdStep r W w') := fun W hW => by
    have := rraw_calls hW i hi
    rw [hr] at this; exact this
  have hpl := rRaw_place S p 0 i h.2.1
  rw [hr] at hpl
  have hXb : X.size ≤ 1048576 := by
    unfold rRaw at hr
    rw [if_pos rfl] at hr
    split at hr
    · simp only [Prod.mk.injEq] at hr; rw [← hr.1]; show 0 ≤ _; omega
    · simp only [Prod.mk.injEq] at hr; rw [← hr.1, ← bytes_length, Lib.extract_eq, List.length_take, List.length_drop, bytes_length]; omega
  go_enter Try.func33, Try.ntmps33
  go_wp2_with fail
  refine (lsize_other _ 11 (by omega)).mono ?_
  rintro e W1 ⟨rfl, s1⟩
  have d0 := (s1.cell (World.block_lt_of_cell? _ _ c0) (fun f => f)).trans c0
  have d2 := (s1.cell (World.block_lt_of_cell? _ _ c2) (fun f => f)).trans c2
  have hw1 : Same w W1 := Fr.trans sa s1 (fun _ _ f => f)
  have hwl : w.heap.size < W1.heap.size := World.block_lt_of_cell? _ _ d0
  have hne : ¬ w.heap.size = r := by omega
  have h1 := h.same hw1
  have hwr1 := hw.same hw1
  clear c0 c1 c2 c3 c4 c5 c6 c7 c8 s1 sa
  go_wp2_with fail
  refine (HX.out _ h1).mono ?_
  rintro e W2 ⟨rfl, h2, st2⟩
  have hwr2 := hwr1.rd st2 hrb hgr
  have st02 : RdStep r w W2 := RdStep.trans (Same.rd hw1 r) st2
  have hcw : ∀ j s, ([X] : List ByteArray)[j]? = some s → (W2.alloc (.cells #[.string X] 9)).cell? ⟨W2.heap.size, 0 + j, none⟩ = some (.string s) := by
    intro j s hj
    cases j with
    | zero => simp at hj; subst hj; simp
    | succ j => simp at hj
  have sal : Same W2 (W2.alloc (.cells #[.string X] 9)) := (Fr.refl _ W2).alloc _
  have hwl2 := hwr2.lt
  have HRW := wraw_some [X] W2.heap.size 0 1 hcw (by simp) (by omega) (by intro e; have := hwl2.2 _ e.symm; omega) (by simp) (hwr2.same sal) (by simp [flat]; omega)
  go_wp2_with fail
  refine HRW.mono ?_
  rintro e W4 ⟨rfl, g4, hw4, st4⟩
  go_wp2_with fail
  go_end0
  refine ⟨rfl, ?_⟩
  by_cases hc : c = 0
  · subst hc
    obtain ⟨hsp, _⟩ := rRaw_inv h.2.1 hr
    exact again_good (RdStep.trans st02 (Same.rd sal r)) (h2.same sal) (X := flat [X]) (by simpa [flat] using hsp) hw4 st4 hrb hgr
  · exact again_bad2 (RdStep.trans st02 (Same.rd sal r)) (h2.same sal) hc hpl.1 st4 hrb hgr
set_option maxRecDepth 100000 in
set_option maxHeartbeats 1000000 in
theorem again_none {w : World} {r b : Nat} {g : Option Nat} {S : ByteArray} {p : Nat} (n : Nat) (i : Int) (s : ByteArray) (pa : Option Addr) (pl pc : Nat) (na : Option Addr) (nl nc : Nat) (wd : Int) (m : Nat) (bd : Int) (h : RdAt w r S p 0) (hw : WrAt w b g (S.data.toList.take p)) (hrb : r ≠ b) (hgr : g ≠ some r) (hS : S.size ≤ 1048576) (kd : Int) (hk : kd < 0 ∨ 15 < kd) :
    Calls Try.prog 33 #[.pointer (some ⟨r, 0, none⟩), .pointer (some ⟨b, 0, none⟩), stepV kd n i s pa pl pc na nl nc wd m bd] w fun e w' => e = .returned (.tuple #[]) ∧ AgainPost r b g S p w w' := by
  have n9 : ¬ kd = 9 := by omega
  have n10 : ¬ kd = 10 := by omega
  have n11 : ¬ kd = 11 := by omega
  have n12 : ¬ kd = 12 := by omega
  have n13 : ¬ kd = 13 := by omega
  have n14 : ¬ kd = 14 := by omega
  have n15 : ¬ kd = 15 := by omega
  have hrw := h.lt
  have hbl : (S.data.toList.take p).length ≤ 1048576 := by rw [List.length_take, bytes_length]; omega
  obtain ⟨c0, c1, c2, c3, c4, c5, c6, c7, c8⟩ := step_cells9 w kd n i s pa pl pc na nl nc wd m bd
  have sa : Same w (w.alloc (stepC kd n i s pa pl pc na nl nc wd m bd)) := (Fr.refl _ w).alloc _
  go_enter Try.func33, Try.ntmps33
  go_wp2_with fail
  refine (lsize_other _ kd (by omega)).mono ?_
  rintro e W1 ⟨rfl, s1⟩
  have d0 := (s1.cell (World.block_lt_of_cell? _ _ c0) (fun f => f)).trans c0
  have hw1 : Same w W1 := Fr.trans sa s1 (fun _ _ f => f)
  have hwl : w.heap.size < W1.heap.size := World.block_lt_of_cell? _ _ d0
  have hne : ¬ w.heap.size = r := by omega
  have h1 := h.same hw1
  have hwr1 := hw.same hw1
  clear hk c0 c1 c2 c3 c4 c5 c6 c7 c8 s1 sa
  go_wp2_with fail
  go_end0
  refine ⟨rfl, again_good (X := []) (Same.rd hw1 r) h1 (Spans.nil S p h.2.1) (by simpa using hwr1) (WrStep.refl _ _ _) hrb hgr⟩
end Go.Proofs.Ytcbbjicoedeioaa
