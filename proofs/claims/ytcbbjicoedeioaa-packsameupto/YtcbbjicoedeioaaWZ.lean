/-
  Walks: a step read, and what was read laid again ('again').
-/
import Derived.Test.YtcbbjicoedeioaaQ2
namespace Go.Proofs.Ytcbbjicoedeioaa
open Go.RowKit

def PStep (r b : Nat) (g g' : Option Nat) (w w' : World) : Prop := Fr (fun k => k = r ∨ k = b ∨ some k = g) w w' ∧ (∀ k, g' = some k → g = some k ∨ w.heap.size ≤ k)
def AgainPost (r b : Nat) (g : Option Nat) (S : ByteArray) (p : Nat) (w w' : World) : Prop :=
  ∃ p' c g', RdAt w' r S p' c ∧ p ≤ p' ∧ (c = 0 → WrAt w' b g' (S.data.toList.take p')) ∧ PStep r b g g' w w'
theorem again_bad {r b : Nat} {g : Option Nat} {S : ByteArray} {p p' c : Nat} {w w' : World} (st : RdStep r w w') (h : RdAt w' r S p' c) (hc : c ≠ 0) (hp : p ≤ p') : AgainPost r b g S p w w' :=
  ⟨p', c, g, h, hp, fun e => absurd e hc, st.mono (fun _ _ e => Or.inl e), fun _ e => Or.inl e⟩
theorem again_good {r b : Nat} {g g' : Option Nat} {S : ByteArray} {p p' : Nat} {X : List UInt8} {w w1 w2 : World} (st : RdStep r w w1) (h : RdAt w1 r S p' 0) (hx : Spans S p X p') (hw : WrAt w2 b g' (S.data.toList.take p ++ X)) (sw : WrStep b g g' w1 w2) (hrb : r ≠ b) (hgr : g ≠ some r) : AgainPost r b g S p w w2 := by
  refine ⟨p', 0, g', h.frame sw.1 ?_, ?_, fun _ => by rw [hx.take]; exact hw, ?_, ?_⟩
  · rintro (e | e)
    · exact hrb e
    · exact hgr e.symm
  · obtain ⟨_, _, e⟩ := hx
    omega
  · exact Fr.trans (st.mono (fun _ _ e => Or.inl e)) sw.1 (fun _ _ e => Or.inr e)
  · intro k hk
    rcases sw.2 k hk with h' | h'
    · exact Or.inl h'
    · exact Or.inr (Nat.le_trans st.size h')
theorem again_bad2 {r b : Nat} {g g' : Option Nat} {S : ByteArray} {p p' c : Nat} {w w1 w2 : World} (st : RdStep r w w1) (h : RdAt w1 r S p' c) (hc : c ≠ 0) (hp : p ≤ p') (sw : WrStep b g g' w1 w2) (hrb : r ≠ b) (hgr : g ≠ some r) : AgainPost r b g S p w w2 := by
  refine ⟨p', c, g', h.frame sw.1 ?_, hp, fun e => absurd e hc, ?_, ?_⟩
  · rintro (e | e)
    · exact hrb e
    · exact hgr e.symm
  · exact Fr.trans (st.mono (fun _ _ e => Or.inl e)) sw.1 (fun _ _ e => Or.inr e)
  · intro k hk
    rcases sw.2 k hk with h' | h'
    · exact Or.inl h'
    · exact Or.inr (Nat.le_trans st.size h')
theorem Spans.len {S : ByteArray} {p p' : Nat} {X : List UInt8} (h : Spans S p X p') : p + X.length ≤ S.size := by
  obtain ⟨r, h, rfl⟩ := h
  exact h.len.2
theorem again_same {r b : Nat} {g : Option Nat} {S : ByteArray} {p : Nat} {w w1 w2 : World} (s : Same w w1) (h : AgainPost r b g S p w1 w2) : AgainPost r b g S p w w2 := by
  obtain ⟨p', c, g', h1, h2, h3, h4, h5⟩ := h
  exact ⟨p', c, g', h1, h2, h3, Fr.trans (s.mono (fun _ _ f => f.elim)) h4 (fun _ _ e => e), fun k hk => by rcases h5 k hk with e | e; exact Or.inl e; exact Or.inr (Nat.le_trans s.size e)⟩
theorem WrAt.rd {r b : Nat} {g : Option Nat} {w w' : World} {bs : List UInt8} (h : WrAt w b g bs) (st : RdStep r w w') (hrb : r ≠ b) (hgr : g ≠ some r) : WrAt w' b g bs :=
  h.frame st (fun e => hrb e.symm) (fun i hi e => hgr (by rw [hi, e]))

theorem step_cells9 (w : World) (kd : Int) (n : Nat) (i : Int) (s : ByteArray) (pa : Option Addr) (pl pc : Nat) (na : Option Addr) (nl nc : Nat) (wd : Int) (m : Nat) (bd : Int) :
    (w.alloc (stepC kd n i s pa pl pc na nl nc wd m bd)).cell? ⟨w.heap.size, 0, none⟩ = some (.int .i64 kd) ∧ (w.alloc (stepC kd n i s pa pl pc na nl nc wd m bd)).cell? ⟨w.heap.size, 1, none⟩ = some (.int .u64 n) ∧ (w.alloc (stepC kd n i s pa pl pc na nl nc wd m bd)).cell? ⟨w.heap.size, 2, none⟩ = some (.int .i64 i) ∧
    (w.alloc (stepC kd n i s pa pl pc na nl nc wd m bd)).cell? ⟨w.heap.size, 3, none⟩ = some (.string s) ∧ (w.alloc (stepC kd n i s pa pl pc na nl nc wd m bd)).cell? ⟨w.heap.size, 4, none⟩ = some (.slice pa pl pc) ∧ (w.alloc (stepC kd n i s pa pl pc na nl nc wd m bd)).cell? ⟨w.heap.size, 5, none⟩ = some (.slice na nl nc) ∧
    (w.alloc (stepC kd n i s pa pl pc na nl nc wd m bd)).cell? ⟨w.heap.size, 6, none⟩ = some (.int .i64 wd) ∧ (w.alloc (stepC kd n i s pa pl pc na nl nc wd m bd)).cell? ⟨w.heap.size, 7, none⟩ = some (.int .u64 m) ∧ (w.alloc (stepC kd n i s pa pl pc na nl nc wd m bd)).cell? ⟨w.heap.size, 8, none⟩ = some (.int .i64 bd) := by
  refine ⟨?_, ?_, ?_, ?_, ?_, ?_, ?_, ?_, ?_⟩ <;> simp

set_option maxRecDepth 100000 in
set_option maxHeartbeats 1000000 in
theorem again_0 {w : World} {r b : Nat} {g : Option Nat} {S : ByteArray} {p : Nat} (n : Nat) (i : Int) (s : ByteArray) (pa : Option Addr) (pl pc : Nat) (na : Option Addr) (nl nc : Nat) (wd : Int) (m : Nat) (bd : Int) (h : RdAt w r S p 0) (hw : WrAt w b g (S.data.toList.take p)) (hrb : r ≠ b) (hgr : g ≠ some r) (hS : S.size ≤ 1048576) :
    Calls Try.prog 33 #[.pointer (some ⟨r, 0, none⟩), .pointer (some ⟨b, 0, none⟩), stepV 0 n i s pa pl pc na nl nc wd m bd] w fun e w' => e = .returned (.tuple #[]) ∧ AgainPost r b g S p w w' := by
  have hrw := h.lt
  have hbl : (S.data.toList.take p).length ≤ 1048576 := by rw [List.length_take, bytes_length]; omega
  obtain ⟨c0, c1, c2, c3, c4, c5, c6, c7, c8⟩ := step_cells9 w 0 n i s pa pl pc na nl nc wd m bd
  have sa : Same w (w.alloc (stepC 0 n i s pa pl pc na nl nc wd m bd)) := (Fr.refl _ w).alloc _
  have HX0 : Hid (∀ W, RdAt W r S p 0 → Calls Try.prog 17 #[.pointer (some ⟨r, 0, none⟩), .int .i64 0] W fun e w' => e = .returned (.int .u64 (beN (rRaw S p 0 1).1.data.toList : Int)) ∧ RdAt w' r S (rRaw S p 0 1).2.1 (rRaw S p 0 1).2.2 ∧ RdStep r W w') := fun W hW => fixed_0 hW
  obtain ⟨X, p', c, hr⟩ : ∃ X p' c, rRaw S p 0 1 = (X, p', c) := ⟨_, _, _, rfl⟩
  have hpl := rRaw_place S p 0 1 h.2.1
  have hsz := rRaw_size S p 0 1
  rw [hr] at HX0 hpl hsz
  simp only at hpl hsz
  have hbe := beN_lt X.data.toList
  have hbe2 : 256 ^ X.data.toList.length ≤ 256 ^ 8 := Nat.pow_le_pow_right (by decide) (by rw [bytes_length]; exact Nat.le_trans hsz (by decide))
  have hbe3 : (256 : Nat) ^ 8 = 18446744073709551616 := by decide
  obtain ⟨x, hx⟩ : ∃ x, x = beN X.data.toList := ⟨_, rfl⟩
  have hxl : x < 18446744073709551616 := by omega
  have HX : Hid (∀ W, RdAt W r S p 0 → Calls Try.prog 17 #[.pointer (some ⟨r, 0, none⟩), .int .i64 0] W fun e w' => e = .returned (.int .u64 (x : Int)) ∧ RdAt w' r S p' c ∧ RdStep r W w') := by rw [hx]; exact HX0
  have HXX : Hid (x = beN X.data.toList) := hx
  clear HX0 hbe hbe2 hbe3 hx
  go_enter Try.func33, Try.ntmps33
  go_wp2_with fail
  refine (lsize_0 _).mono ?_
  rintro e W1 ⟨rfl, s1⟩
  have d0 := (s1.cell (World.block_lt_of_cell? _ _ c0) (fun f => f)).trans c0
  have hw1 : Same w W1 := Fr.trans sa s1 (fun _ _ f => f)
  have hwl : w.heap.size < W1.heap.size := World.block_lt_of_cell? _ _ d0
  have hne : ¬ w.heap.size = r := by omega
  have h1 := h.same hw1
  have hwr1 := hw.same hw1
  clear c0 c1 c2 c3 c4 c5 c6 c7 c8 s1 sa
  go_wp2_with fail
  refine (HX.out _ h1).mono ?_
  rintro e W2 ⟨rfl, h2, st2⟩
  have hwr2 := hwr1.rd st2 hrb hgr
  have e0 := (Fr.cell (S := fun k => k = r) st2 (p := ⟨w.heap.size, 0, none⟩) (World.block_lt_of_cell? _ _ d0) hne).trans d0
  have st02 : RdStep r w W2 := RdStep.trans (Same.rd hw1 r) st2
  by_cases hc : c = 0
  · subst hc
    obtain ⟨hsp, hXs⟩ := rRaw_inv h.2.1 hr
    have HSp : Hid (Spans S p (fixB 1 (x : Int)) p') := by
      show Spans _ _ _ _
      have e : fixB 1 (x : Int) = X.data.toList := by
        have := fix_beN X.data.toList
        rw [bytes_length, hXs] at this
        rw [HXX.out]; exact this
      rw [e]; exact hsp
    clear hr hsp hXs
    go_wp2_with fail
    refine (fault_ok h2).mono ?_
    rintro e W3 ⟨rfl, rfl⟩
    go_wp2_with fail
    refine (lay_0 x hxl 0 ⟨#[]⟩ none 0 0 none 0 0 0 0 0 hwr2 (by omega)).mono ?_
    rintro e W4 ⟨rfl, g4, hw4, st4⟩
    go_wp2_with fail
    ((try simp only [Exit.inBlock, Exit.then]); refine bodyPost_ret (results_none rfl _ _ _) rfl ?_)
    exact ⟨rfl, again_good st02 h2 HSp.out hw4 st4 hrb hgr⟩
  · clear hr
    go_wp2_with fail
    refine (fault_bad h2 (by omega)).mono ?_
    rintro e W3 ⟨rfl, _, s3⟩
    go_wp2_with fail
    ((try simp only [Exit.inBlock, Exit.then]); refine bodyPost_ret (results_none rfl _ _ _) rfl ?_)
    exact ⟨rfl, again_bad (RdStep.trans st02 (Same.rd s3 r)) (h2.same s3) hc hpl.1⟩
set_option maxRecDepth 100000 in
set_option maxHeartbeats 1000000 in
theorem again_1 {w : World} {r b : Nat} {g : Option Nat} {S : ByteArray} {p : Nat} (n : Nat) (i : Int) (s : ByteArray) (pa : Option Addr) (pl pc : Nat) (na : Option Addr) (nl nc : Nat) (wd : Int) (m : Nat) (bd : Int) (h : RdAt w r S p 0) (hw : WrAt w b g (S.data.toList.take p)) (hrb : r ≠ b) (hgr : g ≠ some r) (hS : S.size ≤ 1048576) :
    Calls Try.prog 33 #[.pointer (some ⟨r, 0, none⟩), .pointer (some ⟨b, 0, none⟩), stepV 1 n i s pa pl pc na nl nc wd m bd] w fun e w' => e = .returned (.tuple #[]) ∧ AgainPost r b g S p w w' := by
  have hrw := h.lt
  have hbl : (S.data.toList.take p).length ≤ 1048576 := by rw [List.length_take, bytes_length]; omega
  obtain ⟨c0, c1, c2, c3, c4, c5, c6, c7, c8⟩ := step_cells9 w 1 n i s pa pl pc na nl nc wd m bd
  have sa : Same w (w.alloc (stepC 1 n i s pa pl pc na nl nc wd m bd)) := (Fr.refl _ w).alloc _
  have HX0 : Hid (∀ W, RdAt W r S p 0 → Calls Try.prog 17 #[.pointer (some ⟨r, 0, none⟩), .int .i64 1] W fun e w' => e = .returned (.int .u64 (beN (rRaw S p 0 2).1.data.toList : Int)) ∧ RdAt w' r S (rRaw S p 0 2).2.1 (rRaw S p 0 2).2.2 ∧ RdStep r W w') := fun W hW => fixed_1 hW
  obtain ⟨X, p', c, hr⟩ : ∃ X p' c, rRaw S p 0 2 = (X, p', c) := ⟨_, _, _, rfl⟩
  have hpl := rRaw_place S p 0 2 h.2.1
  have hsz := rRaw_size S p 0 2
  rw [hr] at HX0 hpl hsz
  simp only at hpl hsz
  have hbe := beN_lt X.data.toList
  have hbe2 : 256 ^ X.data.toList.length ≤ 256 ^ 8 := Nat.pow_le_pow_right (by decide) (by rw [bytes_length]; exact Nat.le_trans hsz (by decide))
  have hbe3 : (256 : Nat) ^ 8 = 18446744073709551616 := by decide
  obtain ⟨x, hx⟩ : ∃ x, x = beN X.data.toList := ⟨_, rfl⟩
  have hxl : x < 18446744073709551616 := by omega
  have HX : Hid (∀ W, RdAt W r S p 0 → Calls Try.prog 17 #[.pointer (some ⟨r, 0, none⟩), .int .i64 1] W fun e w' => e = .returned (.int .u64 (x : Int)) ∧ RdAt w' r S p' c ∧ RdStep r W w') := by rw [hx]; exact HX0
  have HXX : Hid (x = beN X.data.toList) := hx
  clear HX0 hbe hbe2 hbe3 hx
  go_enter Try.func33, Try.ntmps33
  go_wp2_with fail
  refine (lsize_1 _).mono ?_
  rintro e W1 ⟨rfl, s1⟩
  have d0 := (s1.cell (World.block_lt_of_cell? _ _ c0) (fun f => f)).trans c0
  have hw1 : Same w W1 := Fr.trans sa s1 (fun _ _ f => f)
  have hwl : w.heap.size < W1.heap.size := World.block_lt_of_cell? _ _ d0
  have hne : ¬ w.heap.size = r := by omega
  have h1 := h.same hw1
  have hwr1 := hw.same hw1
  clear c0 c1 c2 c3 c4 c5 c6 c7 c8 s1 sa
  go_wp2_with fail
  refine (HX.out _ h1).mono ?_
  rintro e W2 ⟨rfl, h2, st2⟩
  have hwr2 := hwr1.rd st2 hrb hgr
  have e0 := (Fr.cell (S := fun k => k = r) st2 (p := ⟨w.heap.size, 0, none⟩) (World.block_lt_of_cell? _ _ d0) hne).trans d0
  have st02 : RdStep r w W2 := RdStep.trans (Same.rd hw1 r) st2
  by_cases hc : c = 0
  · subst hc
    obtain ⟨hsp, hXs⟩ := rRaw_inv h.2.1 hr
    have HSp : Hid (Spans S p (fixB 2 (x : Int)) p') := by
      show Spans _ _ _ _
      have e : fixB 2 (x : Int) = X.data.toList := by
        have := fix_beN X.data.toList
        rw [bytes_length, hXs] at this
        rw [HXX.out]; exact this
      rw [e]; exact hsp
    clear hr hsp hXs
    go_wp2_with fail
    refine (fault_ok h2).mono ?_
    rintro e W3 ⟨rfl, rfl⟩
    go_wp2_with fail
    refine (lay_1 x hxl 0 ⟨#[]⟩ none 0 0 none 0 0 0 0 0 hwr2 (by omega)).mono ?_
    rintro e W4 ⟨rfl, g4, hw4, st4⟩
    go_wp2_with fail
    ((try simp only [Exit.inBlock, Exit.then]); refine bodyPost_ret (results_none rfl _ _ _) rfl ?_)
    exact ⟨rfl, again_good st02 h2 HSp.out hw4 st4 hrb hgr⟩
  · clear hr
    go_wp2_with fail
    refine (fault_bad h2 (by omega)).mono ?_
    rintro e W3 ⟨rfl, _, s3⟩
    go_wp2_with fail
    ((try simp only [Exit.inBlock, Exit.then]); refine bodyPost_ret (results_none rfl _ _ _) rfl ?_)
    exact ⟨rfl, again_bad (RdStep.trans st02 (Same.rd s3 r)) (h2.same s3) hc hpl.1⟩
set_option maxRecDepth 100000 in
set_option maxHeartbeats 1000000 in
theorem again_2 {w : World} {r b : Nat} {g : Option Nat} {S : ByteArray} {p : Nat} (n : Nat) (i : Int) (s : ByteArray) (pa : Option Addr) (pl pc : Nat) (na : Option Addr) (nl nc : Nat) (wd : Int) (m : Nat) (bd : Int) (h : RdAt w r S p 0) (hw : WrAt w b g (S.data.toList.take p)) (hrb : r ≠ b) (hgr : g ≠ some r) (hS : S.size ≤ 1048576) :
    Calls Try.prog 33 #[.pointer (some ⟨r, 0, none⟩), .pointer (some ⟨b, 0, none⟩), stepV 2 n i s pa pl pc na nl nc wd m bd] w fun e w' => e = .returned (.tuple #[]) ∧ AgainPost r b g S p w w' := by
  have hrw := h.lt
  have hbl : (S.data.toList.take p).length ≤ 1048576 := by rw [List.length_take, bytes_length]; omega
  obtain ⟨c0, c1, c2, c3, c4, c5, c6, c7, c8⟩ := step_cells9 w 2 n i s pa pl pc na nl nc wd m bd
  have sa : Same w (w.alloc (stepC 2 n i s pa pl pc na nl nc wd m bd)) := (Fr.refl _ w).alloc _
  have HX0 : Hid (∀ W, RdAt W r S p 0 → Calls Try.prog 17 #[.pointer (some ⟨r, 0, none⟩), .int .i64 2] W fun e w' => e = .returned (.int .u64 (beN (rRaw S p 0 4).1.data.toList : Int)) ∧ RdAt w' r S (rRaw S p 0 4).2.1 (rRaw S p 0 4).2.2 ∧ RdStep r W w') := fun W hW => fixed_2 hW
  obtain ⟨X, p', c, hr⟩ : ∃ X p' c, rRaw S p 0 4 = (X, p', c) := ⟨_, _, _, rfl⟩
  have hpl := rRaw_place S p 0 4 h.2.1
  have hsz := rRaw_size S p 0 4
  rw [hr] at HX0 hpl hsz
  simp only at hpl hsz
  have hbe := beN_lt X.data.toList
  have hbe2 : 256 ^ X.data.toList.length ≤ 256 ^ 8 := Nat.pow_le_pow_right (by decide) (by rw [bytes_length]; exact Nat.le_trans hsz (by decide))
  have hbe3 : (256 : Nat) ^ 8 = 18446744073709551616 := by decide
  obtain ⟨x, hx⟩ : ∃ x, x = beN X.data.toList := ⟨_, rfl⟩
  have hxl : x < 18446744073709551616 := by omega
  have HX : Hid (∀ W, RdAt W r S p 0 → Calls Try.prog 17 #[.pointer (some ⟨r, 0, none⟩), .int .i64 2] W fun e w' => e = .returned (.int .u64 (x : Int)) ∧ RdAt w' r S p' c ∧ RdStep r W w') := by rw [hx]; exact HX0
  have HXX : Hid (x = beN X.data.toList) := hx
  clear HX0 hbe hbe2 hbe3 hx
  go_enter Try.func33, Try.ntmps33
  go_wp2_with fail
  refine (lsize_2 _).mono ?_
  rintro e W1 ⟨rfl, s1⟩
  have d0 := (s1.cell (World.block_lt_of_cell? _ _ c0) (fun f => f)).trans c0
  have hw1 : Same w W1 := Fr.trans sa s1 (fun _ _ f => f)
  have hwl : w.heap.size < W1.heap.size := World.block_lt_of_cell? _ _ d0
  have hne : ¬ w.heap.size = r := by omega
  have h1 := h.same hw1
  have hwr1 := hw.same hw1
  clear c0 c1 c2 c3 c4 c5 c6 c7 c8 s1 sa
  go_wp2_with fail
  refine (HX.out _ h1).mono ?_
  rintro e W2 ⟨rfl, h2, st2⟩
  have hwr2 := hwr1.rd st2 hrb hgr
  have e0 := (Fr.cell (S := fun k => k = r) st2 (p := ⟨w.heap.size, 0, none⟩) (World.block_lt_of_cell? _ _ d0) hne).trans d0
  have st02 : RdStep r w W2 := RdStep.trans (Same.rd hw1 r) st2
  by_cases hc : c = 0
  · subst hc
    obtain ⟨hsp, hXs⟩ := rRaw_inv h.2.1 hr
    have HSp : Hid (Spans S p (fixB 4 (x : Int)) p') := by
      show Spans _ _ _ _
      have e : fixB 4 (x : Int) = X.data.toList := by
        have := fix_beN X.data.toList
        rw [bytes_length, hXs] at this
        rw [HXX.out]; exact this
      rw [e]; exact hsp
    clear hr hsp hXs
    go_wp2_with fail
    refine (fault_ok h2).mono ?_
    rintro e W3 ⟨rfl, rfl⟩
    go_wp2_with fail
    refine (lay_2 x hxl 0 ⟨#[]⟩ none 0 0 none 0 0 0 0 0 hwr2 (by omega)).mono ?_
    rintro e W4 ⟨rfl, g4, hw4, st4⟩
    go_wp2_with fail
    ((try simp only [Exit.inBlock, Exit.then]); refine bodyPost_ret (results_none rfl _ _ _) rfl ?_)
    exact ⟨rfl, again_good st02 h2 HSp.out hw4 st4 hrb hgr⟩
  · clear hr
    go_wp2_with fail
    refine (fault_bad h2 (by omega)).mono ?_
    rintro e W3 ⟨rfl, _, s3⟩
    go_wp2_with fail
    ((try simp only [Exit.inBlock, Exit.then]); refine bodyPost_ret (results_none rfl _ _ _) rfl ?_)
    exact ⟨rfl, again_bad (RdStep.trans st02 (Same.rd s3 r)) (h2.same s3) hc hpl.1⟩
set_option maxRecDepth 100000 in
set_option maxHeartbeats 1000000 in
theorem again_3 {w : World} {r b : Nat} {g : Option Nat} {S : ByteArray} {p : Nat} (n : Nat) (i : Int) (s : ByteArray) (pa : Option Addr) (pl pc : Nat) (na : Option Addr) (nl nc : Nat) (wd : Int) (m : Nat) (bd : Int) (h : RdAt w r S p 0) (hw : WrAt w b g (S.data.toList.take p)) (hrb : r ≠ b) (hgr : g ≠ some r) (hS : S.size ≤ 1048576) :
    Calls Try.prog 33 #[.pointer (some ⟨r, 0, none⟩), .pointer (some ⟨b, 0, none⟩), stepV 3 n i s pa pl pc na nl nc wd m bd] w fun e w' => e = .returned (.tuple #[]) ∧ AgainPost r b g S p w w' := by
  have hrw := h.lt
  have hbl : (S.data.toList.take p).length ≤ 1048576 := by rw [List.length_take, bytes_length]; omega
  obtain ⟨c0, c1, c2, c3, c4, c5, c6, c7, c8⟩ := step_cells9 w 3 n i s pa pl pc na nl nc wd m bd
  have sa : Same w (w.alloc (stepC 3 n i s pa pl pc na nl nc wd m bd)) := (Fr.refl _ w).alloc _
  have HX0 : Hid (∀ W, RdAt W r S p 0 → Calls Try.prog 17 #[.pointer (some ⟨r, 0, none⟩), .int .i64 3] W fun e w' => e = .returned (.int .u64 (beN (rRaw S p 0 8).1.data.toList : Int)) ∧ RdAt w' r S (rRaw S p 0 8).2.1 (rRaw S p 0 8).2.2 ∧ RdStep r W w') := fun W hW => fixed_3 hW
  obtain ⟨X, p', c, hr⟩ : ∃ X p' c, rRaw S p 0 8 = (X, p', c) := ⟨_, _, _, rfl⟩
  have hpl := rRaw_place S p 0 8 h.2.1
  have hsz := rRaw_size S p 0 8
  rw [hr] at HX0 hpl hsz
  simp only at hpl hsz
  have hbe := beN_lt X.data.toList
  have hbe2 : 256 ^ X.data.toList.length ≤ 256 ^ 8 := Nat.pow_le_pow_right (by decide) (by rw [bytes_length]; exact Nat.le_trans hsz (by decide))
  have hbe3 : (256 : Nat) ^ 8 = 18446744073709551616 := by decide
  obtain ⟨x, hx⟩ : ∃ x, x = beN X.data.toList := ⟨_, rfl⟩
  have hxl : x < 18446744073709551616 := by omega
  have HX : Hid (∀ W, RdAt W r S p 0 → Calls Try.prog 17 #[.pointer (some ⟨r, 0, none⟩), .int .i64 3] W fun e w' => e = .returned (.int .u64 (x : Int)) ∧ RdAt w' r S p' c ∧ RdStep r W w') := by rw [hx]; exact HX0
  have HXX : Hid (x = beN X.data.toList) := hx
  clear HX0 hbe hbe2 hbe3 hx
  go_enter Try.func33, Try.ntmps33
  go_wp2_with fail
  refine (lsize_3 _).mono ?_
  rintro e W1 ⟨rfl, s1⟩
  have d0 := (s1.cell (World.block_lt_of_cell? _ _ c0) (fun f => f)).trans c0
  have hw1 : Same w W1 := Fr.trans sa s1 (fun _ _ f => f)
  have hwl : w.heap.size < W1.heap.size := World.block_lt_of_cell? _ _ d0
  have hne : ¬ w.heap.size = r := by omega
  have h1 := h.same hw1
  have hwr1 := hw.same hw1
  clear c0 c1 c2 c3 c4 c5 c6 c7 c8 s1 sa
  go_wp2_with fail
  refine (HX.out _ h1).mono ?_
  rintro e W2 ⟨rfl, h2, st2⟩
  have hwr2 := hwr1.rd st2 hrb hgr
  have e0 := (Fr.cell (S := fun k => k = r) st2 (p := ⟨w.heap.size, 0, none⟩) (World.block_lt_of_cell? _ _ d0) hne).trans d0
  have st02 : RdStep r w W2 := RdStep.trans (Same.rd hw1 r) st2
  by_cases hc : c = 0
  · subst hc
    obtain ⟨hsp, hXs⟩ := rRaw_inv h.2.1 hr
    have HSp : Hid (Spans S p (fixB 8 (x : Int)) p') := by
      show Spans _ _ _ _
      have e : fixB 8 (x : Int) = X.data.toList := by
        have := fix_beN X.data.toList
        rw [bytes_length, hXs] at this
        rw [HXX.out]; exact this
      rw [e]; exact hsp
    clear hr hsp hXs
    go_wp2_with fail
    refine (fault_ok h2).mono ?_
    rintro e W3 ⟨rfl, rfl⟩
    go_wp2_with fail
    refine (lay_3 x hxl 0 ⟨#[]⟩ none 0 0 none 0 0 0 0 0 hwr2 (by omega)).mono ?_
    rintro e W4 ⟨rfl, g4, hw4, st4⟩
    go_wp2_with fail
    ((try simp only [Exit.inBlock, Exit.then]); refine bodyPost_ret (results_none rfl _ _ _) rfl ?_)
    exact ⟨rfl, again_good st02 h2 HSp.out hw4 st4 hrb hgr⟩
  · clear hr
    go_wp2_with fail
    refine (fault_bad h2 (by omega)).mono ?_
    rintro e W3 ⟨rfl, _, s3⟩
    go_wp2_with fail
    ((try simp only [Exit.inBlock, Exit.then]); refine bodyPost_ret (results_none rfl _ _ _) rfl ?_)
    exact ⟨rfl, again_bad (RdStep.trans st02 (Same.rd s3 r)) (h2.same s3) hc hpl.1⟩
set_option maxRecDepth 100000 in
set_option maxHeartbeats 1000000 in
theorem again_4 {w : World} {r b : Nat} {g : Option Nat} {S : ByteArray} {p : Nat} (n : Nat) (i : Int) (s : ByteArray) (pa : Option Addr) (pl pc : Nat) (na : Option Addr) (nl nc : Nat) (wd : Int) (m : Nat) (bd : Int) (h : RdAt w r S p 0) (hw : WrAt w b g (S.data.toList.take p)) (hrb : r ≠ b) (hgr : g ≠ some r) (hS : S.size ≤ 1048576) :
    Calls Try.prog 33 #[.pointer (some ⟨r, 0, none⟩), .pointer (some ⟨b, 0, none⟩), stepV 4 n i s pa pl pc na nl nc wd m bd] w fun e w' => e = .returned (.tuple #[]) ∧ AgainPost r b g S p w w' := by
  have hrw := h.lt
  have hbl : (S.data.toList.take p).length ≤ 1048576 := by rw [List.length_take, bytes_length]; omega
  obtain ⟨c0, c1, c2, c3, c4, c5, c6, c7, c8⟩ := step_cells9 w 4 n i s pa pl pc na nl nc wd m bd
  have sa : Same w (w.alloc (stepC 4 n i s pa pl pc na nl nc wd m bd)) := (Fr.refl _ w).alloc _
  have HX0 : Hid (∀ W, RdAt W r S p 0 → Calls Try.prog 17 #[.pointer (some ⟨r, 0, none⟩), .int .i64 4] W fun e w' => e = .returned (.int .u64 (beN (rRaw S p 0 1).1.data.toList : Int)) ∧ RdAt w' r S (rRaw S p 0 1).2.1 (rRaw S p 0 1).2.2 ∧ RdStep r W w') := fun W hW => fixed_4 hW
  obtain ⟨X, p', c, hr⟩ : ∃ X p' c, rRaw S p 0 1 = (X, p', c) := ⟨_, _, _, rfl⟩
  have hpl := rRaw_place S p 0 1 h.2.1
  have hsz := rRaw_size S p 0 1
  rw [hr] at HX0 hpl hsz
  simp only at hpl hsz
  have hbe := beN_lt X.data.toList
  have hbe2 : 256 ^ X.data.toList.length ≤ 256 ^ 8 := Nat.pow_le_pow_right (by decide) (by rw [bytes_length]; exact Nat.le_trans hsz (by decide))
  have hbe3 : (256 : Nat) ^ 8 = 18446744073709551616 := by decide
  obtain ⟨x, hx⟩ : ∃ x, x = beN X.data.toList := ⟨_, rfl⟩
  have hxl : x < 18446744073709551616 := by omega
  have HX : Hid (∀ W, RdAt W r S p 0 → Calls Try.prog 17 #[.pointer (some ⟨r, 0, none⟩), .int .i64 4] W fun e w' => e = .returned (.int .u64 (x : Int)) ∧ RdAt w' r S p' c ∧ RdStep r W w') := by rw [hx]; exact HX0
  have HXX : Hid (x = beN X.data.toList) := hx
  clear HX0 hbe hbe2 hbe3 hx
  go_enter Try.func33, Try.ntmps33
  go_wp2_with fail
  refine (lsize_4 _).mono ?_
  rintro e W1 ⟨rfl, s1⟩
  have d0 := (s1.cell (World.block_lt_of_cell? _ _ c0) (fun f => f)).trans c0
  have hw1 : Same w W1 := Fr.trans sa s1 (fun _ _ f => f)
  have hwl : w.heap.size < W1.heap.size := World.block_lt_of_cell? _ _ d0
  have hne : ¬ w.heap.size = r := by omega
  have h1 := h.same hw1
  have hwr1 := hw.same hw1
  clear c0 c1 c2 c3 c4 c5 c6 c7 c8 s1 sa
  go_wp2_with fail
  refine (HX.out _ h1).mono ?_
  rintro e W2 ⟨rfl, h2, st2⟩
  have hwr2 := hwr1.rd st2 hrb hgr
  have e0 := (Fr.cell (S := fun k => k = r) st2 (p := ⟨w.heap.size, 0, none⟩) (World.block_lt_of_cell? _ _ d0) hne).trans d0
  have st02 : RdStep r w W2 := RdStep.trans (Same.rd hw1 r) st2
  by_cases hc : c = 0
  · subst hc
    obtain ⟨hsp, hXs⟩ := rRaw_inv h.2.1 hr
    have HSp : Hid (Spans S p (fixB 1 (x : Int)) p') := by
      show Spans _ _ _ _
      have e : fixB 1 (x : Int) = X.data.toList := by
        have := fix_beN X.data.toList
        rw [bytes_length, hXs] at this
        rw [HXX.out]; exact this
      rw [e]; exact hsp
    clear hr hsp hXs
    go_wp2_with fail
    refine (fault_ok h2).mono ?_
    rintro e W3 ⟨rfl, rfl⟩
    go_wp2_with fail
    refine (lay_4 x hxl 0 ⟨#[]⟩ none 0 0 none 0 0 0 0 0 hwr2 (by omega)).mono ?_
    rintro e W4 ⟨rfl, g4, hw4, st4⟩
    go_wp2_with fail
    ((try simp only [Exit.inBlock, Exit.then]); refine bodyPost_ret (results_none rfl _ _ _) rfl ?_)
    exact ⟨rfl, again_good st02 h2 HSp.out hw4 st4 hrb hgr⟩
  · clear hr
    go_wp2_with fail
    refine (fault_bad h2 (by omega)).mono ?_
    rintro e W3 ⟨rfl, _, s3⟩
    go_wp2_with fail
    ((try simp only [Exit.inBlock, Exit.then]); refine bodyPost_ret (results_none rfl _ _ _) rfl ?_)
    exact ⟨rfl, again_bad (RdStep.trans st02 (Same.rd s3 r)) (h2.same s3) hc hpl.1⟩
set_option maxRecDepth 100000 in
set_option maxHeartbeats 1000000 in
theorem again_5 {w : World} {r b : Nat} {g : Option Nat} {S : ByteArray} {p : Nat} (n : Nat) (i : Int) (s : ByteArray) (pa : Option Addr) (pl pc : Nat) (na : Option Addr) (nl nc : Nat) (wd : Int) (m : Nat) (bd : Int) (h : RdAt w r S p 0) (hw : WrAt w b g (S.data.toList.take p)) (hrb : r ≠ b) (hgr : g ≠ some r) (hS : S.size ≤ 1048576) :
    Calls Try.prog 33 #[.pointer (some ⟨r, 0, none⟩), .pointer (some ⟨b, 0, none⟩), stepV 5 n i s pa pl pc na nl nc wd m bd] w fun e w' => e = .returned (.tuple #[]) ∧ AgainPost r b g S p w w' := by
  have hrw := h.lt
  have hbl : (S.data.toList.take p).length ≤ 1048576 := by rw [List.length_take, bytes_length]; omega
  obtain ⟨c0, c1, c2, c3, c4, c5, c6, c7, c8⟩ := step_cells9 w 5 n i s pa pl pc na nl nc wd m bd
  have sa : Same w (w.alloc (stepC 5 n i s pa pl pc na nl nc wd m bd)) := (Fr.refl _ w).alloc _
  have HX0 : Hid (∀ W, RdAt W r S p 0 → Calls Try.prog 17 #[.pointer (some ⟨r, 0, none⟩), .int .i64 5] W fun e w' => e = .returned (.int .u64 (beN (rRaw S p 0 2).1.data.toList : Int)) ∧ RdAt w' r S (rRaw S p 0 2).2.1 (rRaw S p 0 2).2.2 ∧ RdStep r W w') := fun W hW => fixed_5 hW
  obtain ⟨X, p', c, hr⟩ : ∃ X p' c, rRaw S p 0 2 = (X, p', c) := ⟨_, _, _, rfl⟩
  have hpl := rRaw_place S p 0 2 h.2.1
  have hsz := rRaw_size S p 0 2
  rw [hr] at HX0 hpl hsz
  simp only at hpl hsz
  have hbe := beN_lt X.data.toList
  have hbe2 : 256 ^ X.data.toList.length ≤ 256 ^ 8 := Nat.pow_le_pow_right (by decide) (by rw [bytes_length]; exact Nat.le_trans hsz (by decide))
  have hbe3 : (256 : Nat) ^ 8 = 18446744073709551616 := by decide
  obtain ⟨x, hx⟩ : ∃ x, x = beN X.data.toList := ⟨_, rfl⟩
  have hxl : x < 18446744073709551616 := by omega
  have HX : Hid (∀ W, RdAt W r S p 0 → Calls Try.prog 17 #[.pointer (some ⟨r, 0, none⟩), .int .i64 5] W fun e w' => e = .returned (.int .u64 (x : Int)) ∧ RdAt w' r S p' c ∧ RdStep r W w') := by rw [hx]; exact HX0
  have HXX : Hid (x = beN X.data.toList) := hx
  clear HX0 hbe hbe2 hbe3 hx
  go_enter Try.func33, Try.ntmps33
  go_wp2_with fail
  refine (lsize_5 _).mono ?_
  rintro e W1 ⟨rfl, s1⟩
  have d0 := (s1.cell (World.block_lt_of_cell? _ _ c0) (fun f => f)).trans c0
  have hw1 : Same w W1 := Fr.trans sa s1 (fun _ _ f => f)
  have hwl : w.heap.size < W1.heap.size := World.block_lt_of_cell? _ _ d0
  have hne : ¬ w.heap.size = r := by omega
  have h1 := h.same hw1
  have hwr1 := hw.same hw1
  clear c0 c1 c2 c3 c4 c5 c6 c7 c8 s1 sa
  go_wp2_with fail
  refine (HX.out _ h1).mono ?_
  rintro e W2 ⟨rfl, h2, st2⟩
  have hwr2 := hwr1.rd st2 hrb hgr
  have e0 := (Fr.cell (S := fun k => k = r) st2 (p := ⟨w.heap.size, 0, none⟩) (World.block_lt_of_cell? _ _ d0) hne).trans d0
  have st02 : RdStep r w W2 := RdStep.trans (Same.rd hw1 r) st2
  by_cases hc : c = 0
  · subst hc
    obtain ⟨hsp, hXs⟩ := rRaw_inv h.2.1 hr
    have HSp : Hid (Spans S p (fixB 2 (x : Int)) p') := by
      show Spans _ _ _ _
      have e : fixB 2 (x : Int) = X.data.toList := by
        have := fix_beN X.data.toList
        rw [bytes_length, hXs] at this
        rw [HXX.out]; exact this
      rw [e]; exact hsp
    clear hr hsp hXs
    go_wp2_with fail
    refine (fault_ok h2).mono ?_
    rintro e W3 ⟨rfl, rfl⟩
    go_wp2_with fail
    refine (lay_5 x hxl 0 ⟨#[]⟩ none 0 0 none 0 0 0 0 0 hwr2 (by omega)).mono ?_
    rintro e W4 ⟨rfl, g4, hw4, st4⟩
    go_wp2_with fail
    ((try simp only [Exit.inBlock, Exit.then]); refine bodyPost_ret (results_none rfl _ _ _) rfl ?_)
    exact ⟨rfl, again_good st02 h2 HSp.out hw4 st4 hrb hgr⟩
  · clear hr
    go_wp2_with fail
    refine (fault_bad h2 (by omega)).mono ?_
    rintro e W3 ⟨rfl, _, s3⟩
    go_wp2_with fail
    ((try simp only [Exit.inBlock, Exit.then]); refine bodyPost_ret (results_none rfl _ _ _) rfl ?_)
    exact ⟨rfl, again_bad (RdStep.trans st02 (Same.rd s3 r)) (h2.same s3) hc hpl.1⟩
set_option maxRecDepth 100000 in
set_option maxHeartbeats 1000000 in
theorem again_6 {w : World} {r b : Nat} {g : Option Nat} {S : ByteArray} {p : Nat} (n : Nat) (i : Int) (s : ByteArray) (pa : Option Addr) (pl pc : Nat) (na : Option Addr) (nl nc : Nat) (wd : Int) (m : Nat) (bd : Int) (h : RdAt w r S p 0) (hw : WrAt w b g (S.data.toList.take p)) (hrb : r ≠ b) (hgr : g ≠ some r) (hS : S.size ≤ 1048576) :
    Calls Try.prog 33 #[.pointer (some ⟨r, 0, none⟩), .pointer (some ⟨b, 0, none⟩), stepV 6 n i s pa pl pc na nl nc wd m bd] w fun e w' => e = .returned (.tuple #[]) ∧ AgainPost r b g S p w w' := by
  have hrw := h.lt
  have hbl : (S.data.toList.take p).length ≤ 1048576 := by rw [List.length_take, bytes_length]; omega
  obtain ⟨c0, c1, c2, c3, c4, c5, c6, c7, c8⟩ := step_cells9 w 6 n i s pa pl pc na nl nc wd m bd
  have sa : Same w (w.alloc (stepC 6 n i s pa pl pc na nl nc wd m bd)) := (Fr.refl _ w).alloc _
  have HX0 : Hid (∀ W, RdAt W r S p 0 → Calls Try.prog 17 #[.pointer (some ⟨r, 0, none⟩), .int .i64 6] W fun e w' => e = .returned (.int .u64 (beN (rRaw S p 0 4).1.data.toList : Int)) ∧ RdAt w' r S (rRaw S p 0 4).2.1 (rRaw S p 0 4).2.2 ∧ RdStep r W w') := fun W hW => fixed_6 hW
  obtain ⟨X, p', c, hr⟩ : ∃ X p' c, rRaw S p 0 4 = (X, p', c) := ⟨_, _, _, rfl⟩
  have hpl := rRaw_place S p 0 4 h.2.1
  have hsz := rRaw_size S p 0 4
  rw [hr] at HX0 hpl hsz
  simp only at hpl hsz
  have hbe := beN_lt X.data.toList
  have hbe2 : 256 ^ X.data.toList.length ≤ 256 ^ 8 := Nat.pow_le_pow_right (by decide) (by rw [bytes_length]; exact Nat.le_trans hsz (by decide))
  have hbe3 : (256 : Nat) ^ 8 = 18446744073709551616 := by decide
  obtain ⟨x, hx⟩ : ∃ x, x = beN X.data.toList := ⟨_, rfl⟩
  have hxl : x < 18446744073709551616 := by omega
  have HX : Hid (∀ W, RdAt W r S p 0 → Calls Try.prog 17 #[.pointer (some ⟨r, 0, none⟩), .int .i64 6] W fun e w' => e = .returned (.int .u64 (x : Int)) ∧ RdAt w' r S p' c ∧ RdStep r W w') := by rw [hx]; exact HX0
  have HXX : Hid (x = beN X.data.toList) := hx
  clear HX0 hbe hbe2 hbe3 hx
  go_enter Try.func33, Try.ntmps33
  go_wp2_with fail
  refine (lsize_6 _).mono ?_
  rintro e W1 ⟨rfl, s1⟩
  have d0 := (s1.cell (World.block_lt_of_cell? _ _ c0) (fun f => f)).trans c0
  have hw1 : Same w W1 := Fr.trans sa s1 (fun _ _ f => f)
  have hwl : w.heap.size < W1.heap.size := World.block_lt_of_cell? _ _ d0
  have hne : ¬ w.heap.size = r := by omega
  have h1 := h.same hw1
  have hwr1 := hw.same hw1
  clear c0 c1 c2 c3 c4 c5 c6 c7 c8 s1 sa
  go_wp2_with fail
  refine (HX.out _ h1).mono ?_
  rintro e W2 ⟨rfl, h2, st2⟩
  have hwr2 := hwr1.rd st2 hrb hgr
  have e0 := (Fr.cell (S := fun k => k = r) st2 (p := ⟨w.heap.size, 0, none⟩) (World.block_lt_of_cell? _ _ d0) hne).trans d0
  have st02 : RdStep r w W2 := RdStep.trans (Same.rd hw1 r) st2
  by_cases hc : c = 0
  · subst hc
    obtain ⟨hsp, hXs⟩ := rRaw_inv h.2.1 hr
    have HSp : Hid (Spans S p (fixB 4 (x : Int)) p') := by
      show Spans _ _ _ _
      have e : fixB 4 (x : Int) = X.data.toList := by
        have := fix_beN X.data.toList
        rw [bytes_length, hXs] at this
        rw [HXX.out]; exact this
      rw [e]; exact hsp
    clear hr hsp hXs
    go_wp2_with fail
    refine (fault_ok h2).mono ?_
    rintro e W3 ⟨rfl, rfl⟩
    go_wp2_with fail
    refine (lay_6 x hxl 0 ⟨#[]⟩ none 0 0 none 0 0 0 0 0 hwr2 (by omega)).mono ?_
    rintro e W4 ⟨rfl, g4, hw4, st4⟩
    go_wp2_with fail
    ((try simp only [Exit.inBlock, Exit.then]); refine bodyPost_ret (results_none rfl _ _ _) rfl ?_)
    exact ⟨rfl, again_good st02 h2 HSp.out hw4 st4 hrb hgr⟩
  · clear hr
    go_wp2_with fail
    refine (fault_bad h2 (by omega)).mono ?_
    rintro e W3 ⟨rfl, _, s3⟩
    go_wp2_with fail
    ((try simp only [Exit.inBlock, Exit.then]); refine bodyPost_ret (results_none rfl _ _ _) rfl ?_)
    exact ⟨rfl, again_bad (RdStep.trans st02 (Same.rd s3 r)) (h2.same s3) hc hpl.1⟩
set_option maxRecDepth 100000 in
set_option maxHeartbeats 1000000 in
theorem again_7 {w : World} {r b : Nat} {g : Option Nat} {S : ByteArray} {p : Nat} (n : Nat) (i : Int) (s : ByteArray) (pa : Option Addr) (pl pc : Nat) (na : Option Addr) (nl nc : Nat) (wd : Int) (m : Nat) (bd : Int) (h : RdAt w r S p 0) (hw : WrAt w b g (S.data.toList.take p)) (hrb : r ≠ b) (hgr : g ≠ some r) (hS : S.size ≤ 1048576) :
    Calls Try.prog 33 #[.pointer (some ⟨r, 0, none⟩), .pointer (some ⟨b, 0, none⟩), stepV 7 n i s pa pl pc na nl nc wd m bd] w fun e w' => e = .returned (.tuple #[]) ∧ AgainPost r b g S p w w' := by
  have hrw := h.lt
  have hbl : (S.data.toList.take p).length ≤ 1048576 := by rw [List.length_take, bytes_length]; omega
  obtain ⟨c0, c1, c2, c3, c4, c5, c6, c7, c8⟩ := step_cells9 w 7 n i s pa pl pc na nl nc wd m bd
  have sa : Same w (w.alloc (stepC 7 n i s pa pl pc na nl nc wd m bd)) := (Fr.refl _ w).alloc _
  have HX0 : Hid (∀ W, RdAt W r S p 0 → Calls Try.prog 17 #[.pointer (some ⟨r, 0, none⟩), .int .i64 7] W fun e w' => e = .returned (.int .u64 (beN (rRaw S p 0 8).1.data.toList : Int)) ∧ RdAt w' r S (rRaw S p 0 8).2.1 (rRaw S p 0 8).2.2 ∧ RdStep r W w') := fun W hW => fixed_7 hW
  obtain ⟨X, p', c, hr⟩ : ∃ X p' c, rRaw S p 0 8 = (X, p', c) := ⟨_, _, _, rfl⟩
  have hpl := rRaw_place S p 0 8 h.2.1
  have hsz := rRaw_size S p 0 8
  rw [hr] at HX0 hpl hsz
  simp only at hpl hsz
  have hbe := beN_lt X.data.toList
  have hbe2 : 256 ^ X.data.toList.length ≤ 256 ^ 8 := Nat.pow_le_pow_right (by decide) (by rw [bytes_length]; exact Nat.le_trans hsz (by decide))
  have hbe3 : (256 : Nat) ^ 8 = 18446744073709551616 := by decide
  obtain ⟨x, hx⟩ : ∃ x, x = beN X.data.toList := ⟨_, rfl⟩
  have hxl : x < 18446744073709551616 := by omega
  have HX : Hid (∀ W, RdAt W r S p 0 → Calls Try.prog 17 #[.pointer (some ⟨r, 0, none⟩), .int .i64 7] W fun e w' => e = .returned (.int .u64 (x : Int)) ∧ RdAt w' r S p' c ∧ RdStep r W w') := by rw [hx]; exact HX0
  have HXX : Hid (x = beN X.data.toList) := hx
  clear HX0 hbe hbe2 hbe3 hx
  go_enter Try.func33, Try.ntmps33
  go_wp2_with fail
  refine (lsize_7 _).mono ?_
  rintro e W1 ⟨rfl, s1⟩
  have d0 := (s1.cell (World.block_lt_of_cell? _ _ c0) (fun f => f)).trans c0
  have hw1 : Same w W1 := Fr.trans sa s1 (fun _ _ f => f)
  have hwl : w.heap.size < W1.heap.size := World.block_lt_of_cell? _ _ d0
  have hne : ¬ w.heap.size = r := by omega
  have h1 := h.same hw1
  have hwr1 := hw.same hw1
  clear c0 c1 c2 c3 c4 c5 c6 c7 c8 s1 sa
  go_wp2_with fail
  refine (HX.out _ h1).mono ?_
  rintro e W2 ⟨rfl, h2, st2⟩
  have hwr2 := hwr1.rd st2 hrb hgr
  have e0 := (Fr.cell (S := fun k => k = r) st2 (p := ⟨w.heap.size, 0, none⟩) (World.block_lt_of_cell? _ _ d0) hne).trans d0
  have st02 : RdStep r w W2 := RdStep.trans (Same.rd hw1 r) st2
  by_cases hc : c = 0
  · subst hc
    obtain ⟨hsp, hXs⟩ := rRaw_inv h.2.1 hr
    have HSp : Hid (Spans S p (fixB 8 (x : Int)) p') := by
      show Spans _ _ _ _
      have e : fixB 8 (x : Int) = X.data.toList := by
        have := fix_beN X.data.toList
        rw [bytes_length, hXs] at this
        rw [HXX.out]; exact this
      rw [e]; exact hsp
    clear hr hsp hXs
    go_wp2_with fail
    refine (fault_ok h2).mono ?_
    rintro e W3 ⟨rfl, rfl⟩
    go_wp2_with fail
    refine (lay_7 x hxl 0 ⟨#[]⟩ none 0 0 none 0 0 0 0 0 hwr2 (by omega)).mono ?_
    rintro e W4 ⟨rfl, g4, hw4, st4⟩
    go_wp2_with fail
    ((try simp only [Exit.inBlock, Exit.then]); refine bodyPost_ret (results_none rfl _ _ _) rfl ?_)
    exact ⟨rfl, again_good st02 h2 HSp.out hw4 st4 hrb hgr⟩
  · clear hr
    go_wp2_with fail
    refine (fault_bad h2 (by omega)).mono ?_
    rintro e W3 ⟨rfl, _, s3⟩
    go_wp2_with fail
    ((try simp only [Exit.inBlock, Exit.then]); refine bodyPost_ret (results_none rfl _ _ _) rfl ?_)
    exact ⟨rfl, again_bad (RdStep.trans st02 (Same.rd s3 r)) (h2.same s3) hc hpl.1⟩
set_option maxRecDepth 100000 in
set_option maxHeartbeats 1000000 in
theorem again_8 {w : World} {r b : Nat} {g : Option Nat} {S : ByteArray} {p : Nat} (n : Nat) (i : Int) (s : ByteArray) (pa : Option Addr) (pl pc : Nat) (na : Option Addr) (nl nc : Nat) (wd : Int) (m : Nat) (bd : Int) (h : RdAt w r S p 0) (hw : WrAt w b g (S.data.toList.take p)) (hrb : r ≠ b) (hgr : g ≠ some r) (hS : S.size ≤ 1048576) :
    Calls Try.prog 33 #[.pointer (some ⟨r, 0, none⟩), .pointer (some ⟨b, 0, none⟩), stepV 8 n i s pa pl pc na nl nc wd m bd] w fun e w' => e = .returned (.tuple #[]) ∧ AgainPost r b g S p w w' := by
  have hrw := h.lt
  have hbl : (S.data.toList.take p).length ≤ 1048576 := by rw [List.length_take, bytes_length]; omega
  obtain ⟨c0, c1, c2, c3, c4, c5, c6, c7, c8⟩ := step_cells9 w 8 n i s pa pl pc na nl nc wd m bd
  have sa : Same w (w.alloc (stepC 8 n i s pa pl pc na nl nc wd m bd)) := (Fr.refl _ w).alloc _
  have HX0 : Hid (∀ W, RdAt W r S p 0 → Calls Try.prog 17 #[.pointer (some ⟨r, 0, none⟩), .int .i64 8] W fun e w' => e = .returned (.int .u64 (beN (rRaw S p 0 2).1.data.toList : Int)) ∧ RdAt w' r S (rRaw S p 0 2).2.1 (rRaw S p 0 2).2.2 ∧ RdStep r W w') := fun W hW => fixed_8 hW
  obtain ⟨X, p', c, hr⟩ : ∃ X p' c, rRaw S p 0 2 = (X, p', c) := ⟨_, _, _, rfl⟩
  have hpl := rRaw_place S p 0 2 h.2.1
  have hsz := rRaw_size S p 0 2
  rw [hr] at HX0 hpl hsz
  simp only at hpl hsz
  have hbe := beN_lt X.data.toList
  have hbe2 : 256 ^ X.data.toList.length ≤ 256 ^ 8 := Nat.pow_le_pow_right (by decide) (by rw [bytes_length]; exact Nat.le_trans hsz (by decide))
  have hbe3 : (256 : Nat) ^ 8 = 18446744073709551616 := by decide
  obtain ⟨x, hx⟩ : ∃ x, x = beN X.data.toList := ⟨_, rfl⟩
  have hxl : x < 18446744073709551616 := by omega
  have HX : Hid (∀ W, RdAt W r S p 0 → Calls Try.prog 17 #[.pointer (some ⟨r, 0, none⟩), .int .i64 8] W fun e w' => e = .returned (.int .u64 (x : Int)) ∧ RdAt w' r S p' c ∧ RdStep r W w') := by rw [hx]; exact HX0
  have HXX : Hid (x = beN X.data.toList) := hx
  clear HX0 hbe hbe2 hbe3 hx
  go_enter Try.func33, Try.ntmps33
  go_wp2_with fail
  refine (lsize_8 _).mono ?_
  rintro e W1 ⟨rfl, s1⟩
  have d0 := (s1.cell (World.block_lt_of_cell? _ _ c0) (fun f => f)).trans c0
  have hw1 : Same w W1 := Fr.trans sa s1 (fun _ _ f => f)
  have hwl : w.heap.size < W1.heap.size := World.block_lt_of_cell? _ _ d0
  have hne : ¬ w.heap.size = r := by omega
  have h1 := h.same hw1
  have hwr1 := hw.same hw1
  clear c0 c1 c2 c3 c4 c5 c6 c7 c8 s1 sa
  go_wp2_with fail
  refine (HX.out _ h1).mono ?_
  rintro e W2 ⟨rfl, h2, st2⟩
  have hwr2 := hwr1.rd st2 hrb hgr
  have e0 := (Fr.cell (S := fun k => k = r) st2 (p := ⟨w.heap.size, 0, none⟩) (World.block_lt_of_cell? _ _ d0) hne).trans d0
  have st02 : RdStep r w W2 := RdStep.trans (Same.rd hw1 r) st2
  by_cases hc : c = 0
  · subst hc
    obtain ⟨hsp, hXs⟩ := rRaw_inv h.2.1 hr
    have HSp : Hid (Spans S p (fixB 2 (x : Int)) p') := by
      show Spans _ _ _ _
      have e : fixB 2 (x : Int) = X.data.toList := by
        have := fix_beN X.data.toList
        rw [bytes_length, hXs] at this
        rw [HXX.out]; exact this
      rw [e]; exact hsp
    clear hr hsp hXs
    go_wp2_with fail
    refine (fault_ok h2).mono ?_
    rintro e W3 ⟨rfl, rfl⟩
    go_wp2_with fail
    refine (lay_8 x hxl 0 ⟨#[]⟩ none 0 0 none 0 0 0 0 0 hwr2 (by omega)).mono ?_
    rintro e W4 ⟨rfl, g4, hw4, st4⟩
    go_wp2_with fail
    ((try simp only [Exit.inBlock, Exit.then]); refine bodyPost_ret (results_none rfl _ _ _) rfl ?_)
    exact ⟨rfl, again_good st02 h2 HSp.out hw4 st4 hrb hgr⟩
  · clear hr
    go_wp2_with fail
    refine (fault_bad h2 (by omega)).mono ?_
    rintro e W3 ⟨rfl, _, s3⟩
    go_wp2_with fail
    ((try simp only [Exit.inBlock, Exit.then]); refine bodyPost_ret (results_none rfl _ _ _) rfl ?_)
    exact ⟨rfl, again_bad (RdStep.trans st02 (Same.rd s3 r)) (h2.same s3) hc hpl.1⟩
end Go.Proofs.Ytcbbjicoedeioaa
