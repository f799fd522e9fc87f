/- free: the walk of FreeFromBodies. -/
import Derived.Test.YtadmkeadggcipaaIQ
import Derived.Test.YtadmkeadggcipaaIP
import Derived.Test.YtadmkeadggcipaaIC
namespace Go.Proofs.Ytadmkeadggcipaa
open Go.RowKit Go.Maps

theorem own_some_nrow {W : World} {B n c : Nat} {ao : Option Addr} {zs : List Nat} (h : W.ownsRow B 27 1 (.slice ao n c) n (ncells zs)) (hn : n = zs.length) : ∃ pb, NRow W ao pb 0 zs := by
  subst hn
  obtain ⟨pb, h1, _⟩ := own_nrowB h
  exact ⟨pb, h1⟩
/-- What two lists are before they are marked. -/
structure Two (V W : World) (B : Nat) (n c1 c2 : Nat) (a1 a2 : Option Addr) (ns : List Nat) : Prop where
  r1 : W.ownsRow V.heap.size 27 1 (.slice a1 n c1) n (ncells ns)
  r2 : W.ownsRow B 27 1 (.slice a2 n c2) n (ncells ns)
  le : V.heap.size ≤ B
  lt : ∀ a, a1 = some a → a.block < B
set_option maxRecDepth 100000 in
set_option maxHeartbeats 2000000 in
theorem ffroms_walk {p q : Int} (s : ByteArray) (hs : s.size ≤ 281474976710656) (w : World) :
    Calls Try.prog 5 #[frameV p q, .string s] w fun e w' => e = .returned (.bool true) ∧ Same w w' := by
  obtain ⟨V, hV⟩ : ∃ V, V = w.alloc (.cells #[.int .i64 p, .int .i64 q] 23) := ⟨_, rfl⟩
  have sx : Same w V := by rw [hV]; exact (Fr.refl _ w).alloc _
  have c0 : V.cell? ⟨w.heap.size, 0, none⟩ = some (.int .i64 p) := by rw [hV]; simp
  have c1 : V.cell? ⟨w.heap.size, 1, none⟩ = some (.int .i64 q) := by rw [hV]; simp
  have HVz : Hid (w.heap.size < V.heap.size) := by show _ < _; rw [hV, World.size_alloc]; omega
  have HC : Hid (∀ (S : Nat → Prop) W, Fr S V W → ¬ S w.heap.size → W.cell? ⟨w.heap.size, 0, none⟩ = some (.int .i64 p) ∧ W.cell? ⟨w.heap.size, 1, none⟩ = some (.int .i64 q)) := fun S W h hn => ⟨(h.cell (World.block_lt_of_cell? _ _ c0) hn).trans c0, (h.cell (World.block_lt_of_cell? _ _ c1) hn).trans c1⟩
  have HD : Hid (∀ W, Calls Try.prog 14 #[.agg #[.int .i64 p, .int .i64 q], .string s] W fun e w' => FbIs (fbNx p q s) (fbNs p q s) (fbE p q s) W e w' ∧ Same W w') := fun W => (rfrom_calls s hs W).mono fun e w' h => ⟨fb_doc h.1, h.2⟩
  have HF : Hid (∀ W, Calls Try.prog 15 #[.agg #[.int .i64 p, .int .i64 q], .string s] W fun e w' => FbIs (fbNx p q s) (fbNs p q s) (fbE p q s) W e w' ∧ Same W w') := fun W => (ffrom_calls s hs W).mono fun e w' h => ⟨fb_code h.1, h.2⟩
  have hle := fbNs_len p q s
  generalize fbNx p q s = nx at *
  generalize fbE p q s = er at *
  generalize fbNs p q s = ns at *
  have HS : Hid (∀ W ao c ao2 c2, (∃ pb, NRow W ao pb 0 ns) → (∃ pb, NRow W ao2 pb 0 ns) → Calls Try.prog 16 #[.slice ao ns.length c, .slice ao2 ns.length c2] W fun e w' => e = .returned (.bool true) ∧ Same W w') := fun W ao c ao2 c2 ⟨pb, h1⟩ ⟨pb2, h2⟩ => sameNumbers_true W h1 h2 (by omega)
  have HA : Hid (∀ W, Calls Try.prog 9 #[] W fun e w' => e = .returned (.bool true) ∧ Same W w') := awake9_calls
  have HP : Hid (∀ (W : World) (U : World) B a1 a2 k1 k2, Two U W B ns.length k1 k2 a1 a2 ns → Calls Try.prog 17 #[.slice (some ⟨W.heap.size, 0, none⟩) 2 2, .slice none 0 0] (W.alloc (.cells #[.slice a1 ns.length k1, .slice a2 ns.length k2] 28)) fun e w' => e = .returned (.bool true) ∧ Fr (fun k => U.heap.size ≤ k) W w') := fun W U B a1 a2 k1 k2 h => by
    obtain ⟨W2, hW2⟩ : ∃ W2, W2 = W.alloc (.cells #[.slice a1 ns.length k1, .slice a2 ns.length k2] 28) := ⟨_, rfl⟩
    rw [← hW2]
    have sA : Same W W2 := by rw [hW2]; exact (Fr.refl _ W).alloc _
    have hh : W2.heap[W.heap.size]? = some (.cells #[.slice a1 ns.length k1, .slice a2 ns.length k2] 28 (0, 0)) := by rw [hW2]; exact heap_alloc_new W _
    have q1 := own_frameB h.r1 sA (fun _ _ f => f)
    have q2 := own_frameB h.r2 sA (fun _ _ f => f)
    have ap : Apt W2 [⟨a1, ns.length, k1⟩, ⟨a2, ns.length, k2⟩] := two_apt rfl rfl q1 q2 h.lt (by omega)
    have oa : OutAt W2 (some ⟨W.heap.size, 0, none⟩) W.heap.size 0 [⟨a1, ns.length, k1⟩, ⟨a2, ns.length, k2⟩] := ⟨fun _ => ⟨rfl, _, _, hh⟩, fun i x hx => by
      match i, hx with
      | 0, hx => obtain rfl := Option.some.inj hx; simp [World.cell?, hh]
      | 1, hx => obtain rfl := Option.some.inj hx; simp [World.cell?, hh]⟩
    refine (apartN_true (lc := 2) W2 oa ap (by simp) (by simp)).mono fun e w' ⟨e1, f1⟩ => ⟨e1, Fr.trans (Fr.mono sA (fun _ _ f => f.elim)) f1 (fun k hk ⟨i, x, hx, hb⟩ => ?_)⟩
    match i, hx with
    | 0, hx =>
      obtain rfl := Option.some.inj hx
      rw [Rw.blk_map] at hb
      cases a1 with
      | none => cases hb
      | some a => obtain rfl := Option.some.inj hb; exact (own_ge h.r1).1
    | 1, hx =>
      obtain rfl := Option.some.inj hx
      rw [Rw.blk_map] at hb
      cases a2 with
      | none => cases hb
      | some a => obtain rfl := Option.some.inj hb; exact Nat.le_trans h.le (own_ge h.r2).1
  obtain ⟨n, hnn⟩ : ∃ n, n = ns.length := ⟨_, rfl⟩
  have HNn : Hid (n = ns.length) := hnn
  have HSX : Hid (Same w V) := sx
  unfold FbIs at HD HF
  rw [← hnn] at HD HF HS HP
  rw [hV] at c0 c1
  clear hnn sx hle hs
  go_enter Try.func5, Try.ntmps5
  go_wp2_with fail
  rw [← hV]
  clear hV c0 c1
  refine (HD.out _).mono ?_
  rintro e W1 ⟨⟨a0, k0, rfl, o1⟩, s1⟩
  have HO1 : Hid (W1.ownsRow V.heap.size 27 1 (.slice a0 n k0) n (ncells ns)) := o1
  have HS1 : Hid (Same V W1) := s1
  clear s1 o1
  obtain ⟨c0, c1⟩ := HC.out _ _ HS1.out (fun f => f)
  go_wp2_with fail
  refine (HF.out _).mono ?_
  rintro e W2 ⟨⟨a1, k1, rfl, o2⟩, s2⟩
  have HO2 : Hid (W2.ownsRow W1.heap.size 27 1 (.slice a1 n k1) n (ncells ns)) := o2
  have HS2 : Hid (Same W1 W2) := s2
  clear s2 o2 c0 c1
  obtain ⟨c0, c1⟩ := HC.out _ _ (HS1.out.trans HS2.out) (fun f => f)
  go_wp2_with fail
  refine (HF.out _).mono ?_
  rintro e W3 ⟨⟨a2, k2, rfl, o3⟩, s3⟩
  have HO3 : Hid (W3.ownsRow W2.heap.size 27 1 (.slice a2 n k2) n (ncells ns)) := o3
  have HS3 : Hid (Same W2 W3) := s3
  clear s3 o3 c0 c1
  have HQ0 : Hid (∀ W, Same W3 W → ∃ pb, NRow W a0 pb 0 ns) := fun W s => own_some_nrow (own_frameB HO1.out ((HS2.out.trans HS3.out).trans s) (fun _ _ f => f)) HNn.out
  have HQ1 : Hid (∀ W, Same W3 W → ∃ pb, NRow W a1 pb 0 ns) := fun W s => own_some_nrow (own_frameB HO2.out (HS3.out.trans s) (fun _ _ f => f)) HNn.out
  have HQ2 : Hid (∀ W, Same W3 W → ∃ pb, NRow W a2 pb 0 ns) := fun W s => own_some_nrow (own_frameB HO3.out s (fun _ _ f => f)) HNn.out
  go_wp2_with fail
  refine (HS.out _ _ _ _ _ (HQ1.out _ (Fr.refl _ _)) (HQ0.out _ (Fr.refl _ _))).mono ?_
  rintro e W4 ⟨rfl, s4⟩
  have HS4 : Hid (Same W3 W4) := s4
  clear s4
  go_wp2_with fail
  refine (HS.out _ _ _ _ _ (HQ2.out _ HS4.out) (HQ0.out _ HS4.out)).mono ?_
  rintro e W5 ⟨rfl, s5⟩
  have HS5 : Hid (Same W3 W5) := HS4.out.trans s5
  have HT : Hid (Two W1 W5 W2.heap.size n k1 k2 a1 a2 ns) := ⟨own_frameB HO2.out (HS3.out.trans (HS4.out.trans s5)) (fun _ _ f => f), own_frameB HO3.out (HS4.out.trans s5) (fun _ _ f => f), HS2.out.size, fun a ha => by subst ha; exact (own_ge HO2.out).2⟩
  clear s5
  go_wp2_with fail
  refine (HP.out _ _ _ _ _ _ _ HT.out).mono ?_
  rintro e W6 ⟨rfl, f6⟩
  have HF6 : Hid (Fr (fun k => W1.heap.size ≤ k) V W6) := Fr.trans (Fr.mono (HS1.out.trans (HS2.out.trans (HS3.out.trans HS5.out))) (fun _ _ f => f.elim)) f6 (fun _ _ h => h)
  have HF16 : Hid (Fr (fun k => W1.heap.size ≤ k) W1 W6) := Fr.trans (Fr.mono (HS2.out.trans (HS3.out.trans HS5.out)) (fun _ _ f => f.elim)) f6 (fun _ _ h => h)
  clear f6
  obtain ⟨c0, c1⟩ := HC.out _ _ HF6.out (fun h => by have := HVz.out; have := HS1.out.size; omega)
  go_wp2_with fail
  refine (HF.out _).mono ?_
  rintro e W7 ⟨⟨a3, k3, rfl, o7⟩, s7⟩
  have HQ3 : Hid (∃ pb, NRow W7 a3 pb 0 ns) := own_some_nrow o7 HNn.out
  have HQ4 : Hid (∃ pb, NRow W7 a0 pb 0 ns) := own_some_nrow (own_frameB (own_frameB HO1.out HF16.out (fun k hk h => by
    have e0 : ∀ a, a0 = some a → a.block < W1.heap.size := fun a ha => by subst ha; exact (own_ge HO1.out).2
    cases a0 with
    | none => cases hk
    | some a => have hk2 : a.block = k := by simpa [Value.ownBlock] using hk
                have := e0 a rfl; omega)) s7 (fun _ _ f => f)) HNn.out
  have HS7 : Hid (Same w W7) := HSX.out.trans (Fr.trans (Fr.trans HF6.out s7 (fun _ _ f => f.elim)) (Fr.refl (fun _ => False) _) (fun _ _ f => f.elim) |>.mono (fun k hk h => by have := HS1.out.size; omega))
  clear s7 o7 c0 c1
  go_wp2_with fail
  refine (HS.out _ _ _ _ _ HQ3.out HQ4.out).mono ?_
  rintro e W8 ⟨rfl, s8⟩
  have HS8 : Hid (Same w W8) := HS7.out.trans s8
  clear s8
  go_wp2_with fail
  refine (HA.out _).mono ?_
  rintro e W9 ⟨rfl, s9⟩
  have HS9 : Hid (Same w W9) := HS8.out.trans s9
  clear s9
  go_wp2_with fail
  go_ret
  exact ⟨rfl, HS9.out⟩
end Go.Proofs.Ytadmkeadggcipaa
