/- The document's Reader: Free whole, Count. -/
import Derived.Test.YtpcdpdagcigigaaHN4
namespace Go.Proofs.Ytpcdpdagcigigaa
open Go.RowKit

def kOfR (a : Act) (t : Nat) : Nat := match a.eval (.tmp t) with | .int _ x => x.toNat | _ => 0
theorem kOfR_eq {a : Act} {t k : Nat} (h : a.eval (.tmp t) = .int .i64 (k : Int)) : kOfR a t = k := by unfold kOfR; rw [h]; simp
theorem freeR_cons (k n : Nat) (x : UInt8) (r : List UInt8) : freeR (k + 1) n (x :: r) = if k = 0 ∧ 1 < x.toNat then (0, 0, 11) else if 127 < x.toNat then freeR k (n + x.toNat % 128 * 128 ^ (9 - k)) r else if x.toNat = 0 ∧ k < 9 then (0, 0, 11) else (n + x.toNat % 128 * 128 ^ (9 - k), 10 - k, 0) := by rw [freeR]
theorem rFree_of {s : ByteArray} {p most : Nat} {v l c : Nat} (h : freeR 10 0 (s.data.toList.drop p) = (v, l, c)) : rFree s p 0 most = if c = 0 then (if most < v then (0, p, 12) else (v, p + l, 0)) else (0, p, c) := by
  unfold rFree
  rw [if_pos rfl, h]
theorem drop_at {s : ByteArray} {q : Nat} (h : q < s.size) : s.data.toList.drop q = s[q] :: s.data.toList.drop (q + 1) := by
  have hl : q < s.data.toList.length := by rw [Array.length_toList]; exact h
  rw [List.drop_eq_getElem_cons hl]
  rfl
theorem pow9 {i : Nat} (h : i ≤ 9) : 128 ^ i ≤ 9223372036854775808 ∧ 0 < 128 ^ i := ⟨Nat.le_trans (Nat.pow_le_pow_right (by decide) h) (by decide), Nat.pow_pos (by decide)⟩
theorem hcL {b p most : Nat} {s : ByteArray} {Q : Exit → Act → World → Prop} (hQp : ∀ c (a : Act) d v w, Q (.panic c) (a.put d v) w → Q (.panic c) a w) (a0 : Act) (w : World) (I0 : IHC (.pointer (some ⟨b, 0, none⟩)) (.int .u64 (most : Int)) (.int .i64 (p : Int)) a0) (h6 : a0.eval (.tmp 6) = .int .u64 ((0 : Nat) : Int)) (h7 : a0.eval (.tmp 7) = .int .u64 ((1 : Nat) : Int)) (h8 : a0.eval (.tmp 8) = .int .i64 ((0 : Nat) : Int)) (hr : RRAt w b s p 0) (hp : p ≤ s.size) (hsz : s.size ≤ 1000000000000)
    (hQ : ∀ (a : Act) W n' q' c', rFree s p 0 most = (n', q', c') → a.defers = [] → a.eval (.tmp 4) = .int .u64 ((n' : Nat) : Int) → RRAt W b s q' c' → Fr (fun k => k = b) w W → Q .ret a W) : (Code.loop cHC1).wp Try.prog Q a0 w := by
  refine wp_loop (fun a W => ∃ i n : Nat, i ≤ 9 ∧ p + i ≤ s.size ∧ n < 128 ^ i ∧ IHC (.pointer (some ⟨b, 0, none⟩)) (.int .u64 (most : Int)) (.int .i64 (p : Int)) a ∧ a.eval (.tmp 6) = .int .u64 (n : Int) ∧ a.eval (.tmp 7) = .int .u64 ((128 ^ i : Nat) : Int) ∧ a.eval (.tmp 8) = .int .i64 (i : Int) ∧ RRAt W b s (p + i) 0 ∧ Fr (fun k => k = b) w W ∧ freeR (10 - i) n (s.data.toList.drop (p + i)) = freeR 10 0 (s.data.toList.drop p)) (fun a _ => 20 - kOfR a 8) ⟨0, 0, Nat.zero_le _, hp, by decide, I0, h6, h7, h8, hr, Fr.refl _ _, rfl⟩ ?_
  rintro a W ⟨i, n, hi, hpi, hn, I1, g6, g7, g8, r1, f1, he⟩
  obtain ⟨hP1, hP0⟩ := pow9 hi
  have hk : 10 - i = (9 - i) + 1 := by omega
  have h9 : 9 - (9 - i) = i := by omega
  have h10 : 10 - (9 - i) = i + 1 := by omega
  have out : ∀ {W' : World}, Fr (fun k => k = b) W W' → Fr (fun k => k = b) w W' := fun f => Fr.trans f1 f (fun _ _ e => e)
  by_cases hend : p + i = s.size
  · have hd : s.data.toList.drop (p + i) = [] := List.drop_eq_nil_of_le (by rw [Array.length_toList]; exact Nat.le_of_eq hend.symm)
    have hf : freeR 10 0 (s.data.toList.drop p) = (0, 0, 10) := by rw [← he, hd, hk]; rfl
    refine hcE (Q := Exit.then _ Q) (fun c a d v w h => hQp c a d v w h) a W I1 g6 g7 g8 r1 hsz hend (fun a' W' hda h4 hh ff => hQ a' W' 0 p 10 ?_ hda h4 hh (out ff))
    rw [rFree_of hf]
    rfl
  · have hlt : p + i < s.size := by omega
    have hd := drop_at hlt
    obtain ⟨x, hx⟩ : ∃ x, (s[p + i]).toNat = x := ⟨_, rfl⟩
    have he2 := he
    rw [hd, hk, freeR_cons, hx, h9, h10] at he2
    generalize hP : 128 ^ i = u at *
    obtain ⟨y, hy⟩ : ∃ y, x % 128 = y := ⟨_, rfl⟩
    rw [hy] at he2
    obtain ⟨z, hz⟩ : ∃ z, y * u = z := ⟨_, rfl⟩
    rw [hz] at he2
    have hy127 : y ≤ 127 := by omega
    have hzb : z ≤ 127 * u := by rw [← hz]; exact Nat.mul_le_mul_right _ hy127
    have bad : ∀ {c' : Nat}, freeR 10 0 (s.data.toList.drop p) = (0, 0, c') → c' ≠ 0 → rFree s p 0 most = (0, p, c') := fun hf hc => by rw [rFree_of hf, if_neg hc]
    by_cases hX : i = 9 ∧ 1 < x
    · rw [if_pos ⟨by omega, hX.2⟩] at he2
      exact hcX (Q := Exit.then _ Q) (fun c a d v w h => hQp c a d v w h) a W I1 g6 g7 g8 r1 hsz hlt hx hX.1 hX.2 (fun a' W' hda h4 hh ff => hQ a' W' 0 p 11 (bad he2.symm (by decide)) hda h4 hh (out ff))
    · rw [if_neg (fun h => hX ⟨by omega, h.2⟩)] at he2
      by_cases hC : 127 < x
      · rw [if_pos hC] at he2
        have hi9 : i < 9 := by
          by_cases h : i = 9
          · exact absurd ⟨h, by omega⟩ hX
          · omega
        have hu2 : u * 128 = 128 ^ (i + 1) := by rw [Nat.pow_succ, hP]
        have hu3 := (pow9 (i := i + 1) (by omega)).1
        refine hcC (Q := Exit.then _ Q) (fun c a d v w h => hQp c a d v w h) a W I1 g6 g7 g8 r1 hsz hlt hx hy hz rfl (by omega) (Nat.mod_eq_of_lt (by omega)) hi9 hC (fun a' W' i2 j6 j7 j8 r2 f2 => ?_)
        have h4 : a'.eval (.tmp 8) = .int .i64 ((i + 1 : Nat) : Int) := j8
        refine ⟨⟨i + 1, n + z, by omega, by omega, by rw [← hu2]; omega, i2, j6, by rw [← hu2]; exact j7, h4, r2, out f2, ?_⟩, ?_⟩
        · rw [show 10 - (i + 1) = 9 - i by omega, show p + (i + 1) = p + i + 1 by omega]
          exact he2
        · show 20 - kOfR a' 8 < 20 - kOfR a 8
          rw [kOfR_eq h4, kOfR_eq g8]
          omega
      · rw [if_neg hC] at he2
        have hn2 : n + z < 18446744073709551616 := by
          by_cases h : i = 9
          · have hx1 : x ≤ 1 := by
              by_cases h2 : 1 < x
              · exact absurd ⟨h, h2⟩ hX
              · omega
            have : z ≤ 1 * u := by rw [← hz]; exact Nat.mul_le_mul_right _ (by omega)
            omega
          · have h8' := (pow9 (i := i + 1) (by omega)).1
            rw [Nat.pow_succ, hP] at h8'
            omega
        by_cases hZ : x = 0 ∧ 0 < i
        · rw [if_pos ⟨hZ.1, by omega⟩] at he2
          by_cases h : i = 9
          · exact hcZ1 (Q := Exit.then _ Q) (fun c a d v w h => hQp c a d v w h) a W I1 g6 g7 g8 r1 hsz hlt hx hy hz rfl hn2 rfl h hZ.1 (fun a' W' hda h4 hh ff => hQ a' W' 0 p 11 (bad he2.symm (by decide)) hda h4 hh (out ff))
          · exact hcZ0 (Q := Exit.then _ Q) (fun c a d v w h => hQp c a d v w h) a W I1 g6 g7 g8 r1 hsz hlt hx hy hz rfl hn2 rfl (by omega) hZ.2 hZ.1 (fun a' W' hda h4 hh ff => hQ a' W' 0 p 11 (bad he2.symm (by decide)) hda h4 hh (out ff))
        · rw [if_neg (fun h => hZ ⟨h.1, by omega⟩)] at he2
          have hfin := rFree_of (most := most) he2.symm
          rw [if_pos rfl] at hfin
          have hq : p + i + 1 = p + (i + 1) := by omega
          by_cases hm : most < n + z
          · rw [if_pos hm] at hfin
            have k : ∀ (a' : Act) (W' : World), a'.defers = [] → a'.eval (.tmp 4) = .int .u64 0 → RRAt W' b s p 12 → Fr (fun k => k = b) W W' → Q .ret a' W' := fun a' W' hda h4 hh ff => hQ a' W' 0 p 12 hfin hda h4 hh (out ff)
            by_cases h : i = 9
            · have hx0 : x = 1 := by
                by_cases h2 : 1 < x
                · exact absurd ⟨h, h2⟩ hX
                · by_cases h3 : x = 0
                  · exact absurd ⟨h3, by omega⟩ hZ
                  · omega
              exact hcM10 (Q := Exit.then _ Q) (fun c a d v w h => hQp c a d v w h) a W I1 g6 g7 g8 r1 hsz hlt hx hy hz rfl hn2 rfl h hx0 hm k
            · by_cases h3 : x = 0
              · have h0 : i = 0 := by
                  by_cases h4 : 0 < i
                  · exact absurd ⟨h3, h4⟩ hZ
                  · omega
                exact hcM01 (Q := Exit.then _ Q) (fun c a d v w h => hQp c a d v w h) a W I1 g6 g7 g8 r1 hsz hlt hx hy hz rfl hn2 rfl h0 h3 hm k
              · exact hcM00 (Q := Exit.then _ Q) (fun c a d v w h => hQp c a d v w h) a W I1 g6 g7 g8 r1 hsz hlt hx hy hz rfl hn2 rfl (by omega) ⟨by omega, by omega⟩ hm k
          · rw [if_neg hm] at hfin
            have k : ∀ (a' : Act) (W' : World), a'.defers = [] → a'.eval (.tmp 4) = .int .u64 ((n + z : Nat) : Int) → RRAt W' b s (p + i + 1) 0 → Fr (fun k => k = b) W W' → Q .ret a' W' := fun a' W' hda h4 hh ff => hQ a' W' (n + z) (p + (i + 1)) 0 hfin hda h4 (by rw [← hq]; exact hh) (out ff)
            by_cases h : i = 9
            · have hx0 : x = 1 := by
                by_cases h2 : 1 < x
                · exact absurd ⟨h, h2⟩ hX
                · by_cases h3 : x = 0
                  · exact absurd ⟨h3, by omega⟩ hZ
                  · omega
              exact hcR10 (Q := Exit.then _ Q) (fun c a d v w h => hQp c a d v w h) a W I1 g6 g7 g8 r1 hsz hlt hx hy hz rfl hn2 rfl h hx0 hm k
            · by_cases h3 : x = 0
              · have h0 : i = 0 := by
                  by_cases h4 : 0 < i
                  · exact absurd ⟨h3, h4⟩ hZ
                  · omega
                exact hcR01 (Q := Exit.then _ Q) (fun c a d v w h => hQp c a d v w h) a W I1 g6 g7 g8 r1 hsz hlt hx hy hz rfl hn2 rfl h0 h3 hm k
              · exact hcR00 (Q := Exit.then _ Q) (fun c a d v w h => hQp c a d v w h) a W I1 g6 g7 g8 r1 hsz hlt hx hy hz rfl hn2 rfl (by omega) ⟨by omega, by omega⟩ hm k
set_option maxRecDepth 100000 in
set_option maxHeartbeats 1000000 in
theorem rrfree_calls {b p most : Nat} {s : ByteArray} (w : World) (h : RRAt w b s p 0) (hp : p ≤ s.size) (hs : s.size ≤ 1000000000000) :
    Calls Try.prog 63 #[.pointer (some ⟨b, 0, none⟩), .int .u64 (most : Int)] w fun e w' => e = .returned (.int .u64 (((rFree s p 0 most).1 : Nat) : Int)) ∧ RRAt w' b s (rFree s p 0 most).2.1 (rFree s p 0 most).2.2 ∧ Fr (fun k => k = b) w w' := by
  refine calls_abs (c := cHC) Try.func63 (by kernel_rfl) 86 rfl (by simp) (fun a0 hsz hd ha => ?_)
  have fa0_0 := Fe.refl a0
  have k1 := h.c1
  have k2 := h.c2
  unfold cHC
  refine wp_seq ?_
  refine wp_region_list ?_
  unfold rHC0
  refine fa0_0.move 4 (.int .u64 0) _ (Or.inr rfl) rfl (lb_ hsz) (wanted_none rfl) rfl (fun a0_1 fa0_1 => ?_)
  clear fa0_0
  refine wpList_nil ?_
  change Code.wp _ _ _ _ _
  refine wp_seq (wp_seq ?_)
  refine wp_region_list ?_
  unfold rHC1
  refine fa0_1.move 10 (.pointer (some ⟨b, 0, none⟩)) _ (Or.inl rfl) rfl (lb_ hsz) (wanted_none rfl) ((fa0_1.at_ 0).trans (ha 0 _ rfl)) (fun a0_2 fa0_2 => ?_)
  clear fa0_1
  have r_a0_3 : (execOp a0_2.eval { dst := some 11, op := Op.nilCheck (Operand.tmp 10), type := 0, pos := "ref.go:107", after := #[{ on := 0, ground := Ground.data }], guard := none }).run Try.prog (w) = .ok (.value (.pointer (some ⟨b, 0, none⟩))) (w) := by
    have e10 := (show a0_2.eval (.tmp 10) = .pointer (some ⟨b, 0, none⟩) from (fa0_2.at_ 10))
    clear fa0_2 ha h hp hs
    generalize a0_2.eval = ρ at *
    go_simp
  refine fa0_2.step 11 (.pointer (some ⟨b, 0, none⟩)) rfl (lb_ hsz) (wanted_none rfl) r_a0_3 (fun a0_3 fa0_3 => ?_)
  clear r_a0_3
  clear fa0_2
  have r_a0_4 : (execOp a0_3.eval { dst := some 12, op := Op.fieldAddr 37 (Operand.tmp 11) 2, type := 0, pos := "ref.go:107", after := #[{ on := 1, ground := Ground.data }], guard := none }).run Try.prog (w) = .ok (.value (.pointer (some ⟨b, 2, none⟩))) (w) := by
    have e11 := (show a0_3.eval (.tmp 11) = .pointer (some ⟨b, 0, none⟩) from (fa0_3.at_ 11))
    clear fa0_3 ha h hp hs
    generalize a0_3.eval = ρ at *
    go_simp
  refine fa0_3.step 12 (.pointer (some ⟨b, 2, none⟩)) rfl (lb_ hsz) (wanted_none rfl) r_a0_4 (fun a0_4 fa0_4 => ?_)
  clear r_a0_4
  clear fa0_3
  have r_a0_5 : (execOp a0_4.eval { dst := some 13, op := Op.load 35 (Operand.tmp 12), type := 35, pos := "ref.go:107", after := #[{ on := 2, ground := Ground.data }], guard := none }).run Try.prog (w) = .ok (.value (.int .i64 ((0 : Nat) : Int))) (w) := by
    have e12 := (show a0_4.eval (.tmp 12) = .pointer (some ⟨b, 2, none⟩) from (fa0_4.at_ 12))
    clear fa0_4 ha h hp hs
    generalize a0_4.eval = ρ at *
    go_simp
  refine fa0_4.step 13 (.int .i64 ((0 : Nat) : Int)) rfl (lb_ hsz) (wanted_none rfl) r_a0_5 (fun a0_5 fa0_5 => ?_)
  clear r_a0_5
  clear fa0_4
  have r_a0_6 : (execOp a0_5.eval { dst := some 14, op := Op.binOp BinOp.neq 35 (Operand.tmp 13) (Operand.const (Value.int IntKind.i64 0)) 35, type := 4, pos := "ref.go:107", after := #[{ on := 3, ground := Ground.data }], guard := none }).run Try.prog (w) = .ok (.value (.bool false)) (w) := by
    have kc : ∀ v, a0_5.eval (.const v) = v := fun _ => rfl
    have e13 := (show a0_5.eval (.tmp 13) = .int .i64 ((0 : Nat) : Int) from (fa0_5.at_ 13))
    clear fa0_5 ha h hp hs
    generalize a0_5.eval = ρ at *
    go_simp
  refine fa0_5.step 14 (.bool false) rfl (lb_ hsz) (wanted_none rfl) r_a0_6 (fun a0_6 fa0_6 => ?_)
  clear r_a0_6
  clear fa0_5
  refine wpList_nil ?_
  change Code.wp _ _ _ _ _
  refine wp_cond_false (show a0_6.eval (.tmp 14) = .bool false from (fa0_6.at_ 14)) (wp_skip ?_)
  change Code.wp _ _ _ _ _
  refine wp_seq ?_
  refine wp_region_list ?_
  unfold rHC3
  refine fa0_6.move 15 (.pointer (some ⟨b, 0, none⟩)) _ (Or.inl rfl) rfl (lb_ hsz) (wanted_none rfl) ((fa0_6.at_ 0).trans (ha 0 _ rfl)) (fun a0_7 fa0_7 => ?_)
  clear fa0_6
  have r_a0_8 : (execOp a0_7.eval { dst := some 16, op := Op.nilCheck (Operand.tmp 15), type := 0, pos := "ref.go:110", after := #[{ on := 0, ground := Ground.data }], guard := none }).run Try.prog (w) = .ok (.value (.pointer (some ⟨b, 0, none⟩))) (w) := by
    have e15 := (show a0_7.eval (.tmp 15) = .pointer (some ⟨b, 0, none⟩) from (fa0_7.at_ 15))
    clear fa0_7 ha h hp hs
    generalize a0_7.eval = ρ at *
    go_simp
  refine fa0_7.step 16 (.pointer (some ⟨b, 0, none⟩)) rfl (lb_ hsz) (wanted_none rfl) r_a0_8 (fun a0_8 fa0_8 => ?_)
  clear r_a0_8
  clear fa0_7
  have r_a0_9 : (execOp a0_8.eval { dst := some 17, op := Op.fieldAddr 37 (Operand.tmp 16) 1, type := 0, pos := "ref.go:110", after := #[{ on := 1, ground := Ground.data }], guard := none }).run Try.prog (w) = .ok (.value (.pointer (some ⟨b, 1, none⟩))) (w) := by
    have e16 := (show a0_8.eval (.tmp 16) = .pointer (some ⟨b, 0, none⟩) from (fa0_8.at_ 16))
    clear fa0_8 ha h hp hs
    generalize a0_8.eval = ρ at *
    go_simp
  refine fa0_8.step 17 (.pointer (some ⟨b, 1, none⟩)) rfl (lb_ hsz) (wanted_none rfl) r_a0_9 (fun a0_9 fa0_9 => ?_)
  clear r_a0_9
  clear fa0_8
  have r_a0_10 : (execOp a0_9.eval { dst := some 18, op := Op.load 3 (Operand.tmp 17), type := 3, pos := "ref.go:110", after := #[{ on := 2, ground := Ground.data }], guard := none }).run Try.prog (w) = .ok (.value (.int .i64 (p : Int))) (w) := by
    have e17 := (show a0_9.eval (.tmp 17) = .pointer (some ⟨b, 1, none⟩) from (fa0_9.at_ 17))
    clear fa0_9 ha h hp hs
    generalize a0_9.eval = ρ at *
    go_simp
  refine fa0_9.step 18 (.int .i64 (p : Int)) rfl (lb_ hsz) (wanted_none rfl) r_a0_10 (fun a0_10 fa0_10 => ?_)
  clear r_a0_10
  clear fa0_9
  refine fa0_10.move 5 (.int .i64 (p : Int)) _ (Or.inr rfl) rfl (lb_ hsz) (wanted_none rfl) (fa0_10.at_ 18) (fun a0_11 fa0_11 => ?_)
  clear fa0_10
  refine wpList_nil ?_
  change Code.wp _ _ _ _ _
  refine wp_seq ?_
  refine wp_region_list ?_
  unfold rHC4
  refine fa0_11.move 6 (.int .u64 ((0 : Nat) : Int)) _ (Or.inr rfl) rfl (lb_ hsz) (wanted_none rfl) rfl (fun a0_12 fa0_12 => ?_)
  clear fa0_11
  refine wpList_nil ?_
  change Code.wp _ _ _ _ _
  refine wp_seq ?_
  refine wp_region_list ?_
  unfold rHC5
  refine fa0_12.move 7 (.int .u64 ((1 : Nat) : Int)) _ (Or.inr rfl) rfl (lb_ hsz) (wanted_none rfl) rfl (fun a0_13 fa0_13 => ?_)
  clear fa0_12
  refine wpList_nil ?_
  change Code.wp _ _ _ _ _
  refine wp_seq ?_
  refine wp_region_list ?_
  unfold rHC6
  refine fa0_13.move 8 (.int .i64 ((0 : Nat) : Int)) _ (Or.inr rfl) rfl (lb_ hsz) (wanted_none rfl) rfl (fun a0_14 fa0_14 => ?_)
  clear fa0_13
  refine wpList_nil ?_
  refine wp_block ?_
  refine hcL (p := p) (most := most) (by intro c a d v w h; cases d <;> exact h) a0_14 w ⟨fa0_14.size.trans hsz, fa0_14.defers.trans hd, (show a0_14.eval (.tmp 0) = .pointer (some ⟨b, 0, none⟩) from ((fa0_14.at_ 0).trans (ha 0 _ rfl))), (show a0_14.eval (.tmp 1) = .int .u64 (most : Int) from ((fa0_14.at_ 1).trans (ha 1 _ rfl))), (show a0_14.eval (.tmp 5) = .int .i64 (p : Int) from (fa0_14.at_ 5))⟩ (show a0_14.eval (.tmp 6) = .int .u64 ((0 : Nat) : Int) from (fa0_14.at_ 6)) (show a0_14.eval (.tmp 7) = .int .u64 ((1 : Nat) : Int) from (fa0_14.at_ 7)) (show a0_14.eval (.tmp 8) = .int .i64 ((0 : Nat) : Int) from (fa0_14.at_ 8)) h hp hs (fun a W n q c he hda h4 hh ff => ?_)
  simp only [Exit.inBlock]
  rw [he]
  exact ret_abs rfl hda h4 ⟨rfl, hh, ff⟩
def rHD0 : Array Oper := #[{ dst := some 4, op := Op.assign (Operand.const (Value.int IntKind.i64 0)), type := 3, pos := "ref.go:196", after := #[], guard := none }]
def rHD1 : Array Oper := #[{ dst := some 7, op := Op.move (Operand.tmp 0), type := 34, pos := "ref.go:197", after := #[], guard := none },
  { dst := some 8, op := Op.nilCheck (Operand.tmp 7), type := 0, pos := "ref.go:197", after := #[{ on := 0, ground := Ground.data }], guard := none },
  { dst := some 9, op := Op.fieldAddr 37 (Operand.tmp 8) 1, type := 0, pos := "ref.go:197", after := #[{ on := 1, ground := Ground.data }], guard := none },
  { dst := some 10, op := Op.load 3 (Operand.tmp 9), type := 3, pos := "ref.go:197", after := #[{ on := 2, ground := Ground.data }], guard := none },
  { dst := some 5, op := Op.assign (Operand.tmp 10), type := 3, pos := "ref.go:197", after := #[{ on := 3, ground := Ground.data }, { on := 0, ground := Ground.phase }, { on := 1, ground := Ground.phase }, { on := 2, ground := Ground.phase }, { on := 3, ground := Ground.phase }], guard := none }]
def rHD2 : Array Oper := #[{ dst := some 11, op := Op.move (Operand.tmp 0), type := 34, pos := "ref.go:198", after := #[], guard := none },
  { dst := some 12, op := Op.move (Operand.tmp 1), type := 3, pos := "ref.go:198", after := #[], guard := none },
  { dst := some 13, op := Op.call { callee := Callee.value (Operand.func 64), args := #[Operand.tmp 12], argTypes := #[3] }, type := 22, pos := "ref.go:198", after := #[{ on := 1, ground := Ground.data }], guard := none },
  { dst := some 14, op := Op.call { callee := Callee.value (Operand.func 63), args := #[Operand.tmp 11, Operand.tmp 13], argTypes := #[34, 22] }, type := 22, pos := "ref.go:198", after := #[{ on := 0, ground := Ground.data }, { on := 2, ground := Ground.data }, { on := 2, ground := Ground.chain }], guard := none },
  { dst := some 6, op := Op.assign (Operand.tmp 14), type := 22, pos := "ref.go:198", after := #[{ on := 3, ground := Ground.data }, { on := 3, ground := Ground.chain }, { on := 0, ground := Ground.phase }, { on := 1, ground := Ground.phase }, { on := 2, ground := Ground.phase }, { on := 3, ground := Ground.phase }], guard := none }]
def rHD3 : Array Oper := #[{ dst := some 15, op := Op.move (Operand.tmp 0), type := 34, pos := "ref.go:199", after := #[], guard := none },
  { dst := some 16, op := Op.nilCheck (Operand.tmp 15), type := 0, pos := "ref.go:199", after := #[{ on := 0, ground := Ground.data }], guard := none },
  { dst := some 17, op := Op.fieldAddr 37 (Operand.tmp 16) 2, type := 0, pos := "ref.go:199", after := #[{ on := 1, ground := Ground.data }], guard := none },
  { dst := some 18, op := Op.load 35 (Operand.tmp 17), type := 35, pos := "ref.go:199", after := #[{ on := 2, ground := Ground.data }], guard := none },
  { dst := some 19, op := Op.binOp BinOp.neq 35 (Operand.tmp 18) (Operand.const (Value.int IntKind.i64 0)) 35, type := 4, pos := "ref.go:199", after := #[{ on := 3, ground := Ground.data }], guard := none }]
def rHD4 : Array Oper := #[{ dst := some 4, op := Op.assign (Operand.const (Value.int IntKind.i64 0)), type := 3, pos := "ref.go:200", after := #[], guard := none }]
def rHD5 : Array Oper := #[{ dst := some 20, op := Op.move (Operand.tmp 6), type := 22, pos := "ref.go:202", after := #[], guard := none },
  { dst := some 21, op := Op.move (Operand.tmp 0), type := 34, pos := "ref.go:202", after := #[], guard := none },
  { dst := some 22, op := Op.call { callee := Callee.value (Operand.func 21), args := #[Operand.tmp 21], argTypes := #[34] }, type := 3, pos := "ref.go:202", after := #[{ on := 1, ground := Ground.data }], guard := none },
  { dst := some 23, op := Op.convert 3 22 (Operand.tmp 22), type := 22, pos := "ref.go:202", after := #[{ on := 2, ground := Ground.data }], guard := none },
  { dst := some 24, op := Op.binOp BinOp.gtr 22 (Operand.tmp 20) (Operand.tmp 23) 22, type := 4, pos := "ref.go:202", after := #[{ on := 0, ground := Ground.data }, { on := 3, ground := Ground.data }], guard := none }]
def rHD6 : Array Oper := #[{ dst := some 25, op := Op.move (Operand.tmp 0), type := 34, pos := "ref.go:203", after := #[], guard := none },
  { dst := some 26, op := Op.move (Operand.tmp 5), type := 3, pos := "ref.go:203", after := #[], guard := none },
  { dst := some 27, op := Op.call { callee := Callee.value (Operand.func 65), args := #[Operand.tmp 25, Operand.const (Value.int IntKind.i64 12), Operand.tmp 26], argTypes := #[34, 35, 3] }, type := 0, pos := "ref.go:203", after := #[{ on := 0, ground := Ground.data }, { on := 1, ground := Ground.data }], guard := none }]
def rHD7 : Array Oper := #[{ dst := some 4, op := Op.assign (Operand.const (Value.int IntKind.i64 0)), type := 3, pos := "ref.go:204", after := #[], guard := none }]
def rHD8 : Array Oper := #[{ dst := some 28, op := Op.move (Operand.tmp 6), type := 22, pos := "ref.go:206", after := #[], guard := none },
  { dst := some 29, op := Op.convert 22 3 (Operand.tmp 28), type := 3, pos := "ref.go:206", after := #[{ on := 0, ground := Ground.data }], guard := none },
  { dst := some 4, op := Op.assign (Operand.tmp 29), type := 3, pos := "ref.go:206", after := #[{ on := 1, ground := Ground.data }, { on := 0, ground := Ground.phase }, { on := 1, ground := Ground.phase }], guard := none }]
def cHD : Code := (Code.seq (Code.region 0 rHD0 false) (Code.seq (Code.region 1 rHD1 false) (Code.seq (Code.region 2 rHD2 false) (Code.seq (Code.seq (Code.region 3 rHD3 false) (Code.cond (Operand.tmp 19) (Code.seq (Code.region 4 rHD4 false) Code.ret) Code.skip)) (Code.seq (Code.seq (Code.region 5 rHD5 false) (Code.cond (Operand.tmp 24) (Code.seq (Code.region 6 rHD6 false) (Code.seq (Code.region 7 rHD7 false) Code.ret)) Code.skip)) (Code.seq (Code.region 8 rHD8 false) Code.ret))))))
set_option maxRecDepth 100000 in
set_option maxHeartbeats 1000000 in
theorem rrcount_F {b p m n q : Nat} {s : ByteArray} (w : World) (h : RRAt w b s p 0) (hp : p ≤ s.size) (hs : s.size ≤ 1000000000000) (hm : m ≤ 9223372036854775807) {c : Nat} (hc : ¬ c = 0) (hF : rFree s p 0 m = (n, q, c)) :
    Calls Try.prog 24 #[.pointer (some ⟨b, 0, none⟩), .int .i64 (m : Int)] w fun e w' => e = .returned (.int .i64 0) ∧ RRAt w' b s q c ∧ Fr (fun k => k = b) w w' := by
  have hc2 : ¬ (c : Int) = 0 := by omega
  refine calls_abs (c := cHD) Try.func24 (by kernel_rfl) 30 rfl (by simp) (fun a0 hsz hd ha => ?_)
  have fa0_0 := Fe.refl a0
  have k1 := h.c1
  unfold cHD
  refine wp_seq ?_
  refine wp_region_list ?_
  unfold rHD0
  refine fa0_0.move 4 (.int .i64 0) _ (Or.inr rfl) rfl (lb_ hsz) (wanted_none rfl) rfl (fun a0_1 fa0_1 => ?_)
  clear fa0_0
  refine wpList_nil ?_
  change Code.wp _ _ _ _ _
  refine wp_seq ?_
  refine wp_region_list ?_
  unfold rHD1
  refine fa0_1.move 7 (.pointer (some ⟨b, 0, none⟩)) _ (Or.inl rfl) rfl (lb_ hsz) (wanted_none rfl) ((fa0_1.at_ 0).trans (ha 0 _ rfl)) (fun a0_2 fa0_2 => ?_)
  clear fa0_1
  have r_a0_3 : (execOp a0_2.eval { dst := some 8, op := Op.nilCheck (Operand.tmp 7), type := 0, pos := "ref.go:197", after := #[{ on := 0, ground := Ground.data }], guard := none }).run Try.prog (w) = .ok (.value (.pointer (some ⟨b, 0, none⟩))) (w) := by
    have e7 := (show a0_2.eval (.tmp 7) = .pointer (some ⟨b, 0, none⟩) from (fa0_2.at_ 7))
    clear fa0_2 ha h hp hs hF
    generalize a0_2.eval = ρ at *
    go_simp
  refine fa0_2.step 8 (.pointer (some ⟨b, 0, none⟩)) rfl (lb_ hsz) (wanted_none rfl) r_a0_3 (fun a0_3 fa0_3 => ?_)
  clear r_a0_3
  clear fa0_2
  have r_a0_4 : (execOp a0_3.eval { dst := some 9, op := Op.fieldAddr 37 (Operand.tmp 8) 1, type := 0, pos := "ref.go:197", after := #[{ on := 1, ground := Ground.data }], guard := none }).run Try.prog (w) = .ok (.value (.pointer (some ⟨b, 1, none⟩))) (w) := by
    have e8 := (show a0_3.eval (.tmp 8) = .pointer (some ⟨b, 0, none⟩) from (fa0_3.at_ 8))
    clear fa0_3 ha h hp hs hF
    generalize a0_3.eval = ρ at *
    go_simp
  refine fa0_3.step 9 (.pointer (some ⟨b, 1, none⟩)) rfl (lb_ hsz) (wanted_none rfl) r_a0_4 (fun a0_4 fa0_4 => ?_)
  clear r_a0_4
  clear fa0_3
  have r_a0_5 : (execOp a0_4.eval { dst := some 10, op := Op.load 3 (Operand.tmp 9), type := 3, pos := "ref.go:197", after := #[{ on := 2, ground := Ground.data }], guard := none }).run Try.prog (w) = .ok (.value (.int .i64 (p : Int))) (w) := by
    have e9 := (show a0_4.eval (.tmp 9) = .pointer (some ⟨b, 1, none⟩) from (fa0_4.at_ 9))
    clear fa0_4 ha h hp hs hF
    generalize a0_4.eval = ρ at *
    go_simp
  refine fa0_4.step 10 (.int .i64 (p : Int)) rfl (lb_ hsz) (wanted_none rfl) r_a0_5 (fun a0_5 fa0_5 => ?_)
  clear r_a0_5
  clear fa0_4
  refine fa0_5.move 5 (.int .i64 (p : Int)) _ (Or.inr rfl) rfl (lb_ hsz) (wanted_none rfl) (fa0_5.at_ 10) (fun a0_6 fa0_6 => ?_)
  clear fa0_5
  refine wpList_nil ?_
  change Code.wp _ _ _ _ _
  refine wp_seq ?_
  refine wp_region_list ?_
  unfold rHD2
  refine fa0_6.move 11 (.pointer (some ⟨b, 0, none⟩)) _ (Or.inl rfl) rfl (lb_ hsz) (wanted_none rfl) ((fa0_6.at_ 0).trans (ha 0 _ rfl)) (fun a0_7 fa0_7 => ?_)
  clear fa0_6
  refine fa0_7.move 12 (.int .i64 (m : Int)) _ (Or.inl rfl) rfl (lb_ hsz) (wanted_none rfl) ((fa0_7.at_ 1).trans (ha 1 _ rfl)) (fun a0_8 fa0_8 => ?_)
  clear fa0_7
  have r_a0_9 : (execOp a0_8.eval { dst := some 13, op := Op.call { callee := Callee.value (Operand.func 64), args := #[Operand.tmp 12], argTypes := #[3] }, type := 22, pos := "ref.go:198", after := #[{ on := 1, ground := Ground.data }], guard := none }).run Try.prog (w) = .ok (.enter 64 #[.int .i64 (m : Int)]) (w) := by
    have kf : ∀ f, a0_8.eval (.func f) = .func (.func f) #[] #[] := fun _ => rfl
    have e12 := (show a0_8.eval (.tmp 12) = .int .i64 (m : Int) from (fa0_8.at_ 12))
    clear fa0_8 ha h hp hs hF
    generalize a0_8.eval = ρ at *
    go_simp
  refine fa0_8.call 13 rfl (lb_ hsz) (wanted_none rfl) r_a0_9 (rbound_calls w m hm) (fun e w1 hR => ?_)
  obtain ⟨rfl, hw1⟩ := hR
  clear r_a0_9
  have hw1 := hw1.symm
  subst hw1
  refine ⟨_, rfl, fun a0_9 fa0_9 => ?_⟩
  clear fa0_8
  have r_a0_10 : (execOp a0_9.eval { dst := some 14, op := Op.call { callee := Callee.value (Operand.func 63), args := #[Operand.tmp 11, Operand.tmp 13], argTypes := #[34, 22] }, type := 22, pos := "ref.go:198", after := #[{ on := 0, ground := Ground.data }, { on := 2, ground := Ground.data }, { on := 2, ground := Ground.chain }], guard := none }).run Try.prog (w) = .ok (.enter 63 #[.pointer (some ⟨b, 0, none⟩), .int .u64 (m : Int)]) (w) := by
    have kf : ∀ f, a0_9.eval (.func f) = .func (.func f) #[] #[] := fun _ => rfl
    have e11 := (show a0_9.eval (.tmp 11) = .pointer (some ⟨b, 0, none⟩) from (fa0_9.at_ 11))
    have e13 := (show a0_9.eval (.tmp 13) = .int .u64 (m : Int) from (fa0_9.at_ 13))
    clear fa0_9 ha h hp hs hF
    generalize a0_9.eval = ρ at *
    go_simp
  refine fa0_9.call 14 rfl (lb_ hsz) (wanted_none rfl) r_a0_10 (rrfree_calls (most := m) w h hp hs) (fun e W1 hR => ?_)
  obtain ⟨he, h1, f1⟩ := hR
  clear r_a0_10
  rw [hF] at he h1
  subst he
  have k2 := h1.c2
  refine ⟨_, rfl, fun a0_10 fa0_10 => ?_⟩
  clear fa0_9
  refine fa0_10.move 6 (.int .u64 (n : Int)) _ (Or.inr rfl) rfl (lb_ hsz) (wanted_none rfl) (fa0_10.at_ 14) (fun a0_11 fa0_11 => ?_)
  clear fa0_10
  refine wpList_nil ?_
  change Code.wp _ _ _ _ _
  refine wp_seq (wp_seq ?_)
  refine wp_region_list ?_
  unfold rHD3
  refine fa0_11.move 15 (.pointer (some ⟨b, 0, none⟩)) _ (Or.inl rfl) rfl (lb_ hsz) (wanted_none rfl) ((fa0_11.at_ 0).trans (ha 0 _ rfl)) (fun a0_12 fa0_12 => ?_)
  clear fa0_11
  have r_a0_13 : (execOp a0_12.eval { dst := some 16, op := Op.nilCheck (Operand.tmp 15), type := 0, pos := "ref.go:199", after := #[{ on := 0, ground := Ground.data }], guard := none }).run Try.prog (W1) = .ok (.value (.pointer (some ⟨b, 0, none⟩))) (W1) := by
    have e15 := (show a0_12.eval (.tmp 15) = .pointer (some ⟨b, 0, none⟩) from (fa0_12.at_ 15))
    clear fa0_12 ha h hp hs hF h1 f1
    generalize a0_12.eval = ρ at *
    go_simp
  refine fa0_12.step 16 (.pointer (some ⟨b, 0, none⟩)) rfl (lb_ hsz) (wanted_none rfl) r_a0_13 (fun a0_13 fa0_13 => ?_)
  clear r_a0_13
  clear fa0_12
  have r_a0_14 : (execOp a0_13.eval { dst := some 17, op := Op.fieldAddr 37 (Operand.tmp 16) 2, type := 0, pos := "ref.go:199", after := #[{ on := 1, ground := Ground.data }], guard := none }).run Try.prog (W1) = .ok (.value (.pointer (some ⟨b, 2, none⟩))) (W1) := by
    have e16 := (show a0_13.eval (.tmp 16) = .pointer (some ⟨b, 0, none⟩) from (fa0_13.at_ 16))
    clear fa0_13 ha h hp hs hF h1 f1
    generalize a0_13.eval = ρ at *
    go_simp
  refine fa0_13.step 17 (.pointer (some ⟨b, 2, none⟩)) rfl (lb_ hsz) (wanted_none rfl) r_a0_14 (fun a0_14 fa0_14 => ?_)
  clear r_a0_14
  clear fa0_13
  have r_a0_15 : (execOp a0_14.eval { dst := some 18, op := Op.load 35 (Operand.tmp 17), type := 35, pos := "ref.go:199", after := #[{ on := 2, ground := Ground.data }], guard := none }).run Try.prog (W1) = .ok (.value (.int .i64 (c : Int))) (W1) := by
    have e17 := (show a0_14.eval (.tmp 17) = .pointer (some ⟨b, 2, none⟩) from (fa0_14.at_ 17))
    clear fa0_14 ha h hp hs hF h1 f1
    generalize a0_14.eval = ρ at *
    go_simp
  refine fa0_14.step 18 (.int .i64 (c : Int)) rfl (lb_ hsz) (wanted_none rfl) r_a0_15 (fun a0_15 fa0_15 => ?_)
  clear r_a0_15
  clear fa0_14
  have r_a0_16 : (execOp a0_15.eval { dst := some 19, op := Op.binOp BinOp.neq 35 (Operand.tmp 18) (Operand.const (Value.int IntKind.i64 0)) 35, type := 4, pos := "ref.go:199", after := #[{ on := 3, ground := Ground.data }], guard := none }).run Try.prog (W1) = .ok (.value (.bool true)) (W1) := by
    have kc : ∀ v, a0_15.eval (.const v) = v := fun _ => rfl
    have e18 := (show a0_15.eval (.tmp 18) = .int .i64 (c : Int) from (fa0_15.at_ 18))
    clear fa0_15 ha h hp hs hF h1 f1
    generalize a0_15.eval = ρ at *
    go_simp
  refine fa0_15.step 19 (.bool true) rfl (lb_ hsz) (wanted_none rfl) r_a0_16 (fun a0_16 fa0_16 => ?_)
  clear r_a0_16
  clear fa0_15
  refine wpList_nil ?_
  change Code.wp _ _ _ _ _
  refine wp_cond_true (show a0_16.eval (.tmp 19) = .bool true from (fa0_16.at_ 19)) (wp_seq ?_)
  refine wp_region_list ?_
  unfold rHD4
  refine fa0_16.move 4 (.int .i64 0) _ (Or.inr rfl) rfl (lb_ hsz) (wanted_none rfl) rfl (fun a0_17 fa0_17 => ?_)
  clear fa0_16
  refine wpList_nil ?_
  change Code.wp _ _ _ _ _
  refine wp_ret ?_
  simp only [Exit.then]
  exact ret_abs rfl (fa0_17.defers.trans hd) (show a0_17.eval (.tmp 4) = .int .i64 0 from (fa0_17.at_ 4)) ⟨rfl, h1, f1⟩
set_option maxRecDepth 100000 in
set_option maxHeartbeats 1000000 in
theorem rrcount_O {b p m n q : Nat} {s : ByteArray} (w : World) (h : RRAt w b s p 0) (hp : p ≤ s.size) (hs : s.size ≤ 1000000000000) (hm : m ≤ 9223372036854775807) (hq : q ≤ s.size) (hF : rFree s p 0 m = (n, q, 0)) (ho : s.size - q < n) :
    Calls Try.prog 24 #[.pointer (some ⟨b, 0, none⟩), .int .i64 (m : Int)] w fun e w' => e = .returned (.int .i64 0) ∧ RRAt w' b s p 12 ∧ Fr (fun k => k = b) w w' := by
  have ho2 : ((s.size - q : Nat) : Int) < (n : Int) := by omega
  obtain ⟨lf, hlf⟩ : ∃ lf, lf = s.size - q := ⟨_, rfl⟩
  have wl : IntKind.u64.wrap (lf : Int) = (lf : Int) := by rw [IntKind.wrap_u64]; omega
  have ho3 : (lf : Int) < (n : Int) := by omega
  have ho4 : lf < n := by omega
  clear ho ho2
  refine calls_abs (c := cHD) Try.func24 (by kernel_rfl) 30 rfl (by simp) (fun a0 hsz hd ha => ?_)
  have fa0_0 := Fe.refl a0
  have k1 := h.c1
  unfold cHD
  refine wp_seq ?_
  refine wp_region_list ?_
  unfold rHD0
  refine fa0_0.move 4 (.int .i64 0) _ (Or.inr rfl) rfl (lb_ hsz) (wanted_none rfl) rfl (fun a0_1 fa0_1 => ?_)
  clear fa0_0
  refine wpList_nil ?_
  change Code.wp _ _ _ _ _
  refine wp_seq ?_
  refine wp_region_list ?_
  unfold rHD1
  refine fa0_1.move 7 (.pointer (some ⟨b, 0, none⟩)) _ (Or.inl rfl) rfl (lb_ hsz) (wanted_none rfl) ((fa0_1.at_ 0).trans (ha 0 _ rfl)) (fun a0_2 fa0_2 => ?_)
  clear fa0_1
  have r_a0_3 : (execOp a0_2.eval { dst := some 8, op := Op.nilCheck (Operand.tmp 7), type := 0, pos := "ref.go:197", after := #[{ on := 0, ground := Ground.data }], guard := none }).run Try.prog (w) = .ok (.value (.pointer (some ⟨b, 0, none⟩))) (w) := by
    have e7 := (show a0_2.eval (.tmp 7) = .pointer (some ⟨b, 0, none⟩) from (fa0_2.at_ 7))
    clear fa0_2 ha h hp hs hF hlf
    generalize a0_2.eval = ρ at *
    go_simp
  refine fa0_2.step 8 (.pointer (some ⟨b, 0, none⟩)) rfl (lb_ hsz) (wanted_none rfl) r_a0_3 (fun a0_3 fa0_3 => ?_)
  clear r_a0_3
  clear fa0_2
  have r_a0_4 : (execOp a0_3.eval { dst := some 9, op := Op.fieldAddr 37 (Operand.tmp 8) 1, type := 0, pos := "ref.go:197", after := #[{ on := 1, ground := Ground.data }], guard := none }).run Try.prog (w) = .ok (.value (.pointer (some ⟨b, 1, none⟩))) (w) := by
    have e8 := (show a0_3.eval (.tmp 8) = .pointer (some ⟨b, 0, none⟩) from (fa0_3.at_ 8))
    clear fa0_3 ha h hp hs hF hlf
    generalize a0_3.eval = ρ at *
    go_simp
  refine fa0_3.step 9 (.pointer (some ⟨b, 1, none⟩)) rfl (lb_ hsz) (wanted_none rfl) r_a0_4 (fun a0_4 fa0_4 => ?_)
  clear r_a0_4
  clear fa0_3
  have r_a0_5 : (execOp a0_4.eval { dst := some 10, op := Op.load 3 (Operand.tmp 9), type := 3, pos := "ref.go:197", after := #[{ on := 2, ground := Ground.data }], guard := none }).run Try.prog (w) = .ok (.value (.int .i64 (p : Int))) (w) := by
    have e9 := (show a0_4.eval (.tmp 9) = .pointer (some ⟨b, 1, none⟩) from (fa0_4.at_ 9))
    clear fa0_4 ha h hp hs hF hlf
    generalize a0_4.eval = ρ at *
    go_simp
  refine fa0_4.step 10 (.int .i64 (p : Int)) rfl (lb_ hsz) (wanted_none rfl) r_a0_5 (fun a0_5 fa0_5 => ?_)
  clear r_a0_5
  clear fa0_4
  refine fa0_5.move 5 (.int .i64 (p : Int)) _ (Or.inr rfl) rfl (lb_ hsz) (wanted_none rfl) (fa0_5.at_ 10) (fun a0_6 fa0_6 => ?_)
  clear fa0_5
  refine wpList_nil ?_
  change Code.wp _ _ _ _ _
  refine wp_seq ?_
  refine wp_region_list ?_
  unfold rHD2
  refine fa0_6.move 11 (.pointer (some ⟨b, 0, none⟩)) _ (Or.inl rfl) rfl (lb_ hsz) (wanted_none rfl) ((fa0_6.at_ 0).trans (ha 0 _ rfl)) (fun a0_7 fa0_7 => ?_)
  clear fa0_6
  refine fa0_7.move 12 (.int .i64 (m : Int)) _ (Or.inl rfl) rfl (lb_ hsz) (wanted_none rfl) ((fa0_7.at_ 1).trans (ha 1 _ rfl)) (fun a0_8 fa0_8 => ?_)
  clear fa0_7
  have r_a0_9 : (execOp a0_8.eval { dst := some 13, op := Op.call { callee := Callee.value (Operand.func 64), args := #[Operand.tmp 12], argTypes := #[3] }, type := 22, pos := "ref.go:198", after := #[{ on := 1, ground := Ground.data }], guard := none }).run Try.prog (w) = .ok (.enter 64 #[.int .i64 (m : Int)]) (w) := by
    have kf : ∀ f, a0_8.eval (.func f) = .func (.func f) #[] #[] := fun _ => rfl
    have e12 := (show a0_8.eval (.tmp 12) = .int .i64 (m : Int) from (fa0_8.at_ 12))
    clear fa0_8 ha h hp hs hF hlf
    generalize a0_8.eval = ρ at *
    go_simp
  refine fa0_8.call 13 rfl (lb_ hsz) (wanted_none rfl) r_a0_9 (rbound_calls w m hm) (fun e w1 hR => ?_)
  obtain ⟨rfl, hw1⟩ := hR
  clear r_a0_9
  have hw1 := hw1.symm
  subst hw1
  refine ⟨_, rfl, fun a0_9 fa0_9 => ?_⟩
  clear fa0_8
  have r_a0_10 : (execOp a0_9.eval { dst := some 14, op := Op.call { callee := Callee.value (Operand.func 63), args := #[Operand.tmp 11, Operand.tmp 13], argTypes := #[34, 22] }, type := 22, pos := "ref.go:198", after := #[{ on := 0, ground := Ground.data }, { on := 2, ground := Ground.data }, { on := 2, ground := Ground.chain }], guard := none }).run Try.prog (w) = .ok (.enter 63 #[.pointer (some ⟨b, 0, none⟩), .int .u64 (m : Int)]) (w) := by
    have kf : ∀ f, a0_9.eval (.func f) = .func (.func f) #[] #[] := fun _ => rfl
    have e11 := (show a0_9.eval (.tmp 11) = .pointer (some ⟨b, 0, none⟩) from (fa0_9.at_ 11))
    have e13 := (show a0_9.eval (.tmp 13) = .int .u64 (m : Int) from (fa0_9.at_ 13))
    clear fa0_9 ha h hp hs hF hlf
    generalize a0_9.eval = ρ at *
    go_simp
  refine fa0_9.call 14 rfl (lb_ hsz) (wanted_none rfl) r_a0_10 (rrfree_calls (most := m) w h hp hs) (fun e W1 hR => ?_)
  obtain ⟨he, h1, f1⟩ := hR
  clear r_a0_10
  rw [hF] at he h1
  subst he
  have k2 := h1.c2
  refine ⟨_, rfl, fun a0_10 fa0_10 => ?_⟩
  clear fa0_9
  refine fa0_10.move 6 (.int .u64 (n : Int)) _ (Or.inr rfl) rfl (lb_ hsz) (wanted_none rfl) (fa0_10.at_ 14) (fun a0_11 fa0_11 => ?_)
  clear fa0_10
  refine wpList_nil ?_
  change Code.wp _ _ _ _ _
  refine wp_seq (wp_seq ?_)
  refine wp_region_list ?_
  unfold rHD3
  refine fa0_11.move 15 (.pointer (some ⟨b, 0, none⟩)) _ (Or.inl rfl) rfl (lb_ hsz) (wanted_none rfl) ((fa0_11.at_ 0).trans (ha 0 _ rfl)) (fun a0_12 fa0_12 => ?_)
  clear fa0_11
  have r_a0_13 : (execOp a0_12.eval { dst := some 16, op := Op.nilCheck (Operand.tmp 15), type := 0, pos := "ref.go:199", after := #[{ on := 0, ground := Ground.data }], guard := none }).run Try.prog (W1) = .ok (.value (.pointer (some ⟨b, 0, none⟩))) (W1) := by
    have e15 := (show a0_12.eval (.tmp 15) = .pointer (some ⟨b, 0, none⟩) from (fa0_12.at_ 15))
    clear fa0_12 ha h hp hs hF hlf h1 f1
    generalize a0_12.eval = ρ at *
    go_simp
  refine fa0_12.step 16 (.pointer (some ⟨b, 0, none⟩)) rfl (lb_ hsz) (wanted_none rfl) r_a0_13 (fun a0_13 fa0_13 => ?_)
  clear r_a0_13
  clear fa0_12
  have r_a0_14 : (execOp a0_13.eval { dst := some 17, op := Op.fieldAddr 37 (Operand.tmp 16) 2, type := 0, pos := "ref.go:199", after := #[{ on := 1, ground := Ground.data }], guard := none }).run Try.prog (W1) = .ok (.value (.pointer (some ⟨b, 2, none⟩))) (W1) := by
    have e16 := (show a0_13.eval (.tmp 16) = .pointer (some ⟨b, 0, none⟩) from (fa0_13.at_ 16))
    clear fa0_13 ha h hp hs hF hlf h1 f1
    generalize a0_13.eval = ρ at *
    go_simp
  refine fa0_13.step 17 (.pointer (some ⟨b, 2, none⟩)) rfl (lb_ hsz) (wanted_none rfl) r_a0_14 (fun a0_14 fa0_14 => ?_)
  clear r_a0_14
  clear fa0_13
  have r_a0_15 : (execOp a0_14.eval { dst := some 18, op := Op.load 35 (Operand.tmp 17), type := 35, pos := "ref.go:199", after := #[{ on := 2, ground := Ground.data }], guard := none }).run Try.prog (W1) = .ok (.value (.int .i64 ((0 : Nat) : Int))) (W1) := by
    have e17 := (show a0_14.eval (.tmp 17) = .pointer (some ⟨b, 2, none⟩) from (fa0_14.at_ 17))
    clear fa0_14 ha h hp hs hF hlf h1 f1
    generalize a0_14.eval = ρ at *
    go_simp
  refine fa0_14.step 18 (.int .i64 ((0 : Nat) : Int)) rfl (lb_ hsz) (wanted_none rfl) r_a0_15 (fun a0_15 fa0_15 => ?_)
  clear r_a0_15
  clear fa0_14
  have r_a0_16 : (execOp a0_15.eval { dst := some 19, op := Op.binOp BinOp.neq 35 (Operand.tmp 18) (Operand.const (Value.int IntKind.i64 0)) 35, type := 4, pos := "ref.go:199", after := #[{ on := 3, ground := Ground.data }], guard := none }).run Try.prog (W1) = .ok (.value (.bool false)) (W1) := by
    have kc : ∀ v, a0_15.eval (.const v) = v := fun _ => rfl
    have e18 := (show a0_15.eval (.tmp 18) = .int .i64 ((0 : Nat) : Int) from (fa0_15.at_ 18))
    clear fa0_15 ha h hp hs hF hlf h1 f1
    generalize a0_15.eval = ρ at *
    go_simp
  refine fa0_15.step 19 (.bool false) rfl (lb_ hsz) (wanted_none rfl) r_a0_16 (fun a0_16 fa0_16 => ?_)
  clear r_a0_16
  clear fa0_15
  refine wpList_nil ?_
  change Code.wp _ _ _ _ _
  refine wp_cond_false (show a0_16.eval (.tmp 19) = .bool false from (fa0_16.at_ 19)) (wp_skip ?_)
  change Code.wp _ _ _ _ _
  refine wp_seq (wp_seq ?_)
  refine wp_region_list ?_
  unfold rHD5
  refine fa0_16.move 20 (.int .u64 (n : Int)) _ (Or.inl rfl) rfl (lb_ hsz) (wanted_none rfl) (fa0_16.at_ 6) (fun a0_17 fa0_17 => ?_)
  clear fa0_16
  refine fa0_17.move 21 (.pointer (some ⟨b, 0, none⟩)) _ (Or.inl rfl) rfl (lb_ hsz) (wanted_none rfl) ((fa0_17.at_ 0).trans (ha 0 _ rfl)) (fun a0_18 fa0_18 => ?_)
  clear fa0_17
  have r_a0_19 : (execOp a0_18.eval { dst := some 22, op := Op.call { callee := Callee.value (Operand.func 21), args := #[Operand.tmp 21], argTypes := #[34] }, type := 3, pos := "ref.go:202", after := #[{ on := 1, ground := Ground.data }], guard := none }).run Try.prog (W1) = .ok (.enter 21 #[.pointer (some ⟨b, 0, none⟩)]) (W1) := by
    have kf : ∀ f, a0_18.eval (.func f) = .func (.func f) #[] #[] := fun _ => rfl
    have e21 := (show a0_18.eval (.tmp 21) = .pointer (some ⟨b, 0, none⟩) from (fa0_18.at_ 21))
    clear fa0_18 ha h hp hs hF hlf h1 f1
    generalize a0_18.eval = ρ at *
    go_simp
  refine fa0_18.call 22 rfl (lb_ hsz) (wanted_none rfl) r_a0_19 (by have hl := rrleft_calls W1 h1 hq hs; rw [← hlf] at hl; exact hl) (fun e W2 hR => ?_)
  obtain ⟨rfl, s2⟩ := hR
  clear r_a0_19
  refine ⟨_, rfl, fun a0_19 fa0_19 => ?_⟩
  clear fa0_18
  have r_a0_20 : (execOp a0_19.eval { dst := some 23, op := Op.convert 3 22 (Operand.tmp 22), type := 22, pos := "ref.go:202", after := #[{ on := 2, ground := Ground.data }], guard := none }).run Try.prog (W2) = .ok (.value (.int .u64 (lf : Int))) (W2) := by
    have e22 := (show a0_19.eval (.tmp 22) = .int .i64 (lf : Int) from (fa0_19.at_ 22))
    clear fa0_19 ha h hp hs hF hlf h1 f1
    generalize a0_19.eval = ρ at *
    go_simp
  refine fa0_19.step 23 (.int .u64 (lf : Int)) rfl (lb_ hsz) (wanted_none rfl) r_a0_20 (fun a0_20 fa0_20 => ?_)
  clear r_a0_20
  clear fa0_19
  have r_a0_21 : (execOp a0_20.eval { dst := some 24, op := Op.binOp BinOp.gtr 22 (Operand.tmp 20) (Operand.tmp 23) 22, type := 4, pos := "ref.go:202", after := #[{ on := 0, ground := Ground.data }, { on := 3, ground := Ground.data }], guard := none }).run Try.prog (W2) = .ok (.value (.bool true)) (W2) := by
    have e20 := (show a0_20.eval (.tmp 20) = .int .u64 (n : Int) from (fa0_20.at_ 20))
    have e23 := (show a0_20.eval (.tmp 23) = .int .u64 (lf : Int) from (fa0_20.at_ 23))
    clear fa0_20 ha h hp hs hF hlf h1 f1
    generalize a0_20.eval = ρ at *
    go_simp
  refine fa0_20.step 24 (.bool true) rfl (lb_ hsz) (wanted_none rfl) r_a0_21 (fun a0_21 fa0_21 => ?_)
  clear r_a0_21
  clear fa0_20
  refine wpList_nil ?_
  change Code.wp _ _ _ _ _
  refine wp_cond_true (show a0_21.eval (.tmp 24) = .bool true from (fa0_21.at_ 24)) (wp_seq ?_)
  refine wp_region_list ?_
  unfold rHD6
  refine fa0_21.move 25 (.pointer (some ⟨b, 0, none⟩)) _ (Or.inl rfl) rfl (lb_ hsz) (wanted_none rfl) ((fa0_21.at_ 0).trans (ha 0 _ rfl)) (fun a0_22 fa0_22 => ?_)
  clear fa0_21
  refine fa0_22.move 26 (.int .i64 (p : Int)) _ (Or.inl rfl) rfl (lb_ hsz) (wanted_none rfl) (fa0_22.at_ 5) (fun a0_23 fa0_23 => ?_)
  clear fa0_22
  have r_a0_24 : (execOp a0_23.eval { dst := some 27, op := Op.call { callee := Callee.value (Operand.func 65), args := #[Operand.tmp 25, Operand.const (Value.int IntKind.i64 12), Operand.tmp 26], argTypes := #[34, 35, 3] }, type := 0, pos := "ref.go:203", after := #[{ on := 0, ground := Ground.data }, { on := 1, ground := Ground.data }], guard := none }).run Try.prog (W2) = .ok (.enter 65 #[.pointer (some ⟨b, 0, none⟩), Value.int IntKind.i64 12, .int .i64 (p : Int)]) (W2) := by
    have kc : ∀ v, a0_23.eval (.const v) = v := fun _ => rfl
    have kf : ∀ f, a0_23.eval (.func f) = .func (.func f) #[] #[] := fun _ => rfl
    have e25 := (show a0_23.eval (.tmp 25) = .pointer (some ⟨b, 0, none⟩) from (fa0_23.at_ 25))
    have e26 := (show a0_23.eval (.tmp 26) = .int .i64 (p : Int) from (fa0_23.at_ 26))
    clear fa0_23 ha h hp hs hF hlf h1 f1 s2
    generalize a0_23.eval = ρ at *
    go_simp
  refine fa0_23.call 27 rfl (lb_ hsz) (wanted_none rfl) r_a0_24 (rrfail_calls (d := 12) (q := p) W2 (h1.fr s2 (fun f => f))) (fun e W3 hR => ?_)
  obtain ⟨rfl, h3, f3⟩ := hR
  clear r_a0_24
  refine ⟨_, rfl, fun a0_24 fa0_24 => ?_⟩
  clear fa0_23
  refine wpList_nil ?_
  change Code.wp _ _ _ _ _
  refine wp_seq ?_
  refine wp_region_list ?_
  unfold rHD7
  refine fa0_24.move 4 (.int .i64 0) _ (Or.inr rfl) rfl (lb_ hsz) (wanted_none rfl) rfl (fun a0_25 fa0_25 => ?_)
  clear fa0_24
  refine wpList_nil ?_
  change Code.wp _ _ _ _ _
  refine wp_ret ?_
  simp only [Exit.then]
  exact ret_abs rfl (fa0_25.defers.trans hd) (show a0_25.eval (.tmp 4) = .int .i64 0 from (fa0_25.at_ 4)) ⟨rfl, h3, Fr.trans (Fr.trans f1 s2 (fun _ _ f => f.elim)) f3 (fun _ _ e => e)⟩
set_option maxRecDepth 100000 in
set_option maxHeartbeats 1000000 in
theorem rrcount_K {b p m n q : Nat} {s : ByteArray} (w : World) (h : RRAt w b s p 0) (hp : p ≤ s.size) (hs : s.size ≤ 1000000000000) (hm : m ≤ 9223372036854775807) (hq : q ≤ s.size) (hF : rFree s p 0 m = (n, q, 0)) (ho : ¬ s.size - q < n) (hn : n ≤ 1000000000000) :
    Calls Try.prog 24 #[.pointer (some ⟨b, 0, none⟩), .int .i64 (m : Int)] w fun e w' => e = .returned (.int .i64 (n : Int)) ∧ RRAt w' b s q 0 ∧ Fr (fun k => k = b) w w' := by
  obtain ⟨lf, hlf⟩ : ∃ lf, lf = s.size - q := ⟨_, rfl⟩
  have wn : IntKind.i64.wrap (n : Int) = (n : Int) := by rw [IntKind.wrap_i64]; omega
  have wl : IntKind.u64.wrap (lf : Int) = (lf : Int) := by rw [IntKind.wrap_u64]; omega
  have ho3 : ¬ (lf : Int) < (n : Int) := by omega
  have ho4 : n ≤ lf := by omega
  clear ho hn
  refine calls_abs (c := cHD) Try.func24 (by kernel_rfl) 30 rfl (by simp) (fun a0 hsz hd ha => ?_)
  have fa0_0 := Fe.refl a0
  have k1 := h.c1
  unfold cHD
  refine wp_seq ?_
  refine wp_region_list ?_
  unfold rHD0
  refine fa0_0.move 4 (.int .i64 0) _ (Or.inr rfl) rfl (lb_ hsz) (wanted_none rfl) rfl (fun a0_1 fa0_1 => ?_)
  clear fa0_0
  refine wpList_nil ?_
  change Code.wp _ _ _ _ _
  refine wp_seq ?_
  refine wp_region_list ?_
  unfold rHD1
  refine fa0_1.move 7 (.pointer (some ⟨b, 0, none⟩)) _ (Or.inl rfl) rfl (lb_ hsz) (wanted_none rfl) ((fa0_1.at_ 0).trans (ha 0 _ rfl)) (fun a0_2 fa0_2 => ?_)
  clear fa0_1
  have r_a0_3 : (execOp a0_2.eval { dst := some 8, op := Op.nilCheck (Operand.tmp 7), type := 0, pos := "ref.go:197", after := #[{ on := 0, ground := Ground.data }], guard := none }).run Try.prog (w) = .ok (.value (.pointer (some ⟨b, 0, none⟩))) (w) := by
    have e7 := (show a0_2.eval (.tmp 7) = .pointer (some ⟨b, 0, none⟩) from (fa0_2.at_ 7))
    clear fa0_2 ha h hp hs hF hlf
    generalize a0_2.eval = ρ at *
    go_simp
  refine fa0_2.step 8 (.pointer (some ⟨b, 0, none⟩)) rfl (lb_ hsz) (wanted_none rfl) r_a0_3 (fun a0_3 fa0_3 => ?_)
  clear r_a0_3
  clear fa0_2
  have r_a0_4 : (execOp a0_3.eval { dst := some 9, op := Op.fieldAddr 37 (Operand.tmp 8) 1, type := 0, pos := "ref.go:197", after := #[{ on := 1, ground := Ground.data }], guard := none }).run Try.prog (w) = .ok (.value (.pointer (some ⟨b, 1, none⟩))) (w) := by
    have e8 := (show a0_3.eval (.tmp 8) = .pointer (some ⟨b, 0, none⟩) from (fa0_3.at_ 8))
    clear fa0_3 ha h hp hs hF hlf
    generalize a0_3.eval = ρ at *
    go_simp
  refine fa0_3.step 9 (.pointer (some ⟨b, 1, none⟩)) rfl (lb_ hsz) (wanted_none rfl) r_a0_4 (fun a0_4 fa0_4 => ?_)
  clear r_a0_4
  clear fa0_3
  have r_a0_5 : (execOp a0_4.eval { dst := some 10, op := Op.load 3 (Operand.tmp 9), type := 3, pos := "ref.go:197", after := #[{ on := 2, ground := Ground.data }], guard := none }).run Try.prog (w) = .ok (.value (.int .i64 (p : Int))) (w) := by
    have e9 := (show a0_4.eval (.tmp 9) = .pointer (some ⟨b, 1, none⟩) from (fa0_4.at_ 9))
    clear fa0_4 ha h hp hs hF hlf
    generalize a0_4.eval = ρ at *
    go_simp
  refine fa0_4.step 10 (.int .i64 (p : Int)) rfl (lb_ hsz) (wanted_none rfl) r_a0_5 (fun a0_5 fa0_5 => ?_)
  clear r_a0_5
  clear fa0_4
  refine fa0_5.move 5 (.int .i64 (p : Int)) _ (Or.inr rfl) rfl (lb_ hsz) (wanted_none rfl) (fa0_5.at_ 10) (fun a0_6 fa0_6 => ?_)
  clear fa0_5
  refine wpList_nil ?_
  change Code.wp _ _ _ _ _
  refine wp_seq ?_
  refine wp_region_list ?_
  unfold rHD2
  refine fa0_6.move 11 (.pointer (some ⟨b, 0, none⟩)) _ (Or.inl rfl) rfl (lb_ hsz) (wanted_none rfl) ((fa0_6.at_ 0).trans (ha 0 _ rfl)) (fun a0_7 fa0_7 => ?_)
  clear fa0_6
  refine fa0_7.move 12 (.int .i64 (m : Int)) _ (Or.inl rfl) rfl (lb_ hsz) (wanted_none rfl) ((fa0_7.at_ 1).trans (ha 1 _ rfl)) (fun a0_8 fa0_8 => ?_)
  clear fa0_7
  have r_a0_9 : (execOp a0_8.eval { dst := some 13, op := Op.call { callee := Callee.value (Operand.func 64), args := #[Operand.tmp 12], argTypes := #[3] }, type := 22, pos := "ref.go:198", after := #[{ on := 1, ground := Ground.data }], guard := none }).run Try.prog (w) = .ok (.enter 64 #[.int .i64 (m : Int)]) (w) := by
    have kf : ∀ f, a0_8.eval (.func f) = .func (.func f) #[] #[] := fun _ => rfl
    have e12 := (show a0_8.eval (.tmp 12) = .int .i64 (m : Int) from (fa0_8.at_ 12))
    clear fa0_8 ha h hp hs hF hlf
    generalize a0_8.eval = ρ at *
    go_simp
  refine fa0_8.call 13 rfl (lb_ hsz) (wanted_none rfl) r_a0_9 (rbound_calls w m hm) (fun e w1 hR => ?_)
  obtain ⟨rfl, hw1⟩ := hR
  clear r_a0_9
  have hw1 := hw1.symm
  subst hw1
  refine ⟨_, rfl, fun a0_9 fa0_9 => ?_⟩
  clear fa0_8
  have r_a0_10 : (execOp a0_9.eval { dst := some 14, op := Op.call { callee := Callee.value (Operand.func 63), args := #[Operand.tmp 11, Operand.tmp 13], argTypes := #[34, 22] }, type := 22, pos := "ref.go:198", after := #[{ on := 0, ground := Ground.data }, { on := 2, ground := Ground.data }, { on := 2, ground := Ground.chain }], guard := none }).run Try.prog (w) = .ok (.enter 63 #[.pointer (some ⟨b, 0, none⟩), .int .u64 (m : Int)]) (w) := by
    have kf : ∀ f, a0_9.eval (.func f) = .func (.func f) #[] #[] := fun _ => rfl
    have e11 := (show a0_9.eval (.tmp 11) = .pointer (some ⟨b, 0, none⟩) from (fa0_9.at_ 11))
    have e13 := (show a0_9.eval (.tmp 13) = .int .u64 (m : Int) from (fa0_9.at_ 13))
    clear fa0_9 ha h hp hs hF hlf
    generalize a0_9.eval = ρ at *
    go_simp
  refine fa0_9.call 14 rfl (lb_ hsz) (wanted_none rfl) r_a0_10 (rrfree_calls (most := m) w h hp hs) (fun e W1 hR => ?_)
  obtain ⟨he, h1, f1⟩ := hR
  clear r_a0_10
  rw [hF] at he h1
  subst he
  have k2 := h1.c2
  refine ⟨_, rfl, fun a0_10 fa0_10 => ?_⟩
  clear fa0_9
  refine fa0_10.move 6 (.int .u64 (n : Int)) _ (Or.inr rfl) rfl (lb_ hsz) (wanted_none rfl) (fa0_10.at_ 14) (fun a0_11 fa0_11 => ?_)
  clear fa0_10
  refine wpList_nil ?_
  change Code.wp _ _ _ _ _
  refine wp_seq (wp_seq ?_)
  refine wp_region_list ?_
  unfold rHD3
  refine fa0_11.move 15 (.pointer (some ⟨b, 0, none⟩)) _ (Or.inl rfl) rfl (lb_ hsz) (wanted_none rfl) ((fa0_11.at_ 0).trans (ha 0 _ rfl)) (fun a0_12 fa0_12 => ?_)
  clear fa0_11
  have r_a0_13 : (execOp a0_12.eval { dst := some 16, op := Op.nilCheck (Operand.tmp 15), type := 0, pos := "ref.go:199", after := #[{ on := 0, ground := Ground.data }], guard := none }).run Try.prog (W1) = .ok (.value (.pointer (some ⟨b, 0, none⟩))) (W1) := by
    have e15 := (show a0_12.eval (.tmp 15) = .pointer (some ⟨b, 0, none⟩) from (fa0_12.at_ 15))
    clear fa0_12 ha h hp hs hF hlf h1 f1
    generalize a0_12.eval = ρ at *
    go_simp
  refine fa0_12.step 16 (.pointer (some ⟨b, 0, none⟩)) rfl (lb_ hsz) (wanted_none rfl) r_a0_13 (fun a0_13 fa0_13 => ?_)
  clear r_a0_13
  clear fa0_12
  have r_a0_14 : (execOp a0_13.eval { dst := some 17, op := Op.fieldAddr 37 (Operand.tmp 16) 2, type := 0, pos := "ref.go:199", after := #[{ on := 1, ground := Ground.data }], guard := none }).run Try.prog (W1) = .ok (.value (.pointer (some ⟨b, 2, none⟩))) (W1) := by
    have e16 := (show a0_13.eval (.tmp 16) = .pointer (some ⟨b, 0, none⟩) from (fa0_13.at_ 16))
    clear fa0_13 ha h hp hs hF hlf h1 f1
    generalize a0_13.eval = ρ at *
    go_simp
  refine fa0_13.step 17 (.pointer (some ⟨b, 2, none⟩)) rfl (lb_ hsz) (wanted_none rfl) r_a0_14 (fun a0_14 fa0_14 => ?_)
  clear r_a0_14
  clear fa0_13
  have r_a0_15 : (execOp a0_14.eval { dst := some 18, op := Op.load 35 (Operand.tmp 17), type := 35, pos := "ref.go:199", after := #[{ on := 2, ground := Ground.data }], guard := none }).run Try.prog (W1) = .ok (.value (.int .i64 ((0 : Nat) : Int))) (W1) := by
    have e17 := (show a0_14.eval (.tmp 17) = .pointer (some ⟨b, 2, none⟩) from (fa0_14.at_ 17))
    clear fa0_14 ha h hp hs hF hlf h1 f1
    generalize a0_14.eval = ρ at *
    go_simp
  refine fa0_14.step 18 (.int .i64 ((0 : Nat) : Int)) rfl (lb_ hsz) (wanted_none rfl) r_a0_15 (fun a0_15 fa0_15 => ?_)
  clear r_a0_15
  clear fa0_14
  have r_a0_16 : (execOp a0_15.eval { dst := some 19, op := Op.binOp BinOp.neq 35 (Operand.tmp 18) (Operand.const (Value.int IntKind.i64 0)) 35, type := 4, pos := "ref.go:199", after := #[{ on := 3, ground := Ground.data }], guard := none }).run Try.prog (W1) = .ok (.value (.bool false)) (W1) := by
    have kc : ∀ v, a0_15.eval (.const v) = v := fun _ => rfl
    have e18 := (show a0_15.eval (.tmp 18) = .int .i64 ((0 : Nat) : Int) from (fa0_15.at_ 18))
    clear fa0_15 ha h hp hs hF hlf h1 f1
    generalize a0_15.eval = ρ at *
    go_simp
  refine fa0_15.step 19 (.bool false) rfl (lb_ hsz) (wanted_none rfl) r_a0_16 (fun a0_16 fa0_16 => ?_)
  clear r_a0_16
  clear fa0_15
  refine wpList_nil ?_
  change Code.wp _ _ _ _ _
  refine wp_cond_false (show a0_16.eval (.tmp 19) = .bool false from (fa0_16.at_ 19)) (wp_skip ?_)
  change Code.wp _ _ _ _ _
  refine wp_seq (wp_seq ?_)
  refine wp_region_list ?_
  unfold rHD5
  refine fa0_16.move 20 (.int .u64 (n : Int)) _ (Or.inl rfl) rfl (lb_ hsz) (wanted_none rfl) (fa0_16.at_ 6) (fun a0_17 fa0_17 => ?_)
  clear fa0_16
  refine fa0_17.move 21 (.pointer (some ⟨b, 0, none⟩)) _ (Or.inl rfl) rfl (lb_ hsz) (wanted_none rfl) ((fa0_17.at_ 0).trans (ha 0 _ rfl)) (fun a0_18 fa0_18 => ?_)
  clear fa0_17
  have r_a0_19 : (execOp a0_18.eval { dst := some 22, op := Op.call { callee := Callee.value (Operand.func 21), args := #[Operand.tmp 21], argTypes := #[34] }, type := 3, pos := "ref.go:202", after := #[{ on := 1, ground := Ground.data }], guard := none }).run Try.prog (W1) = .ok (.enter 21 #[.pointer (some ⟨b, 0, none⟩)]) (W1) := by
    have kf : ∀ f, a0_18.eval (.func f) = .func (.func f) #[] #[] := fun _ => rfl
    have e21 := (show a0_18.eval (.tmp 21) = .pointer (some ⟨b, 0, none⟩) from (fa0_18.at_ 21))
    clear fa0_18 ha h hp hs hF hlf h1 f1
    generalize a0_18.eval = ρ at *
    go_simp
  refine fa0_18.call 22 rfl (lb_ hsz) (wanted_none rfl) r_a0_19 (by have hl := rrleft_calls W1 h1 hq hs; rw [← hlf] at hl; exact hl) (fun e W2 hR => ?_)
  obtain ⟨rfl, s2⟩ := hR
  clear r_a0_19
  refine ⟨_, rfl, fun a0_19 fa0_19 => ?_⟩
  clear fa0_18
  have r_a0_20 : (execOp a0_19.eval { dst := some 23, op := Op.convert 3 22 (Operand.tmp 22), type := 22, pos := "ref.go:202", after := #[{ on := 2, ground := Ground.data }], guard := none }).run Try.prog (W2) = .ok (.value (.int .u64 (lf : Int))) (W2) := by
    have e22 := (show a0_19.eval (.tmp 22) = .int .i64 (lf : Int) from (fa0_19.at_ 22))
    clear fa0_19 ha h hp hs hF hlf h1 f1
    generalize a0_19.eval = ρ at *
    go_simp
  refine fa0_19.step 23 (.int .u64 (lf : Int)) rfl (lb_ hsz) (wanted_none rfl) r_a0_20 (fun a0_20 fa0_20 => ?_)
  clear r_a0_20
  clear fa0_19
  have r_a0_21 : (execOp a0_20.eval { dst := some 24, op := Op.binOp BinOp.gtr 22 (Operand.tmp 20) (Operand.tmp 23) 22, type := 4, pos := "ref.go:202", after := #[{ on := 0, ground := Ground.data }, { on := 3, ground := Ground.data }], guard := none }).run Try.prog (W2) = .ok (.value (.bool false)) (W2) := by
    have e20 := (show a0_20.eval (.tmp 20) = .int .u64 (n : Int) from (fa0_20.at_ 20))
    have e23 := (show a0_20.eval (.tmp 23) = .int .u64 (lf : Int) from (fa0_20.at_ 23))
    clear fa0_20 ha h hp hs hF hlf h1 f1
    generalize a0_20.eval = ρ at *
    go_simp
  refine fa0_20.step 24 (.bool false) rfl (lb_ hsz) (wanted_none rfl) r_a0_21 (fun a0_21 fa0_21 => ?_)
  clear r_a0_21
  clear fa0_20
  refine wpList_nil ?_
  change Code.wp _ _ _ _ _
  refine wp_cond_false (show a0_21.eval (.tmp 24) = .bool false from (fa0_21.at_ 24)) (wp_skip ?_)
  change Code.wp _ _ _ _ _
  refine wp_seq ?_
  refine wp_region_list ?_
  unfold rHD8
  refine fa0_21.move 28 (.int .u64 (n : Int)) _ (Or.inl rfl) rfl (lb_ hsz) (wanted_none rfl) (fa0_21.at_ 6) (fun a0_22 fa0_22 => ?_)
  clear fa0_21
  have r_a0_23 : (execOp a0_22.eval { dst := some 29, op := Op.convert 22 3 (Operand.tmp 28), type := 3, pos := "ref.go:206", after := #[{ on := 0, ground := Ground.data }], guard := none }).run Try.prog (W2) = .ok (.value (.int .i64 (n : Int))) (W2) := by
    have e28 := (show a0_22.eval (.tmp 28) = .int .u64 (n : Int) from (fa0_22.at_ 28))
    clear fa0_22 ha h hp hs hF hlf h1 f1 s2
    generalize a0_22.eval = ρ at *
    go_simp
  refine fa0_22.step 29 (.int .i64 (n : Int)) rfl (lb_ hsz) (wanted_none rfl) r_a0_23 (fun a0_23 fa0_23 => ?_)
  clear r_a0_23
  clear fa0_22
  refine fa0_23.move 4 (.int .i64 (n : Int)) _ (Or.inr rfl) rfl (lb_ hsz) (wanted_none rfl) (fa0_23.at_ 29) (fun a0_24 fa0_24 => ?_)
  clear fa0_23
  refine wpList_nil ?_
  change Code.wp _ _ _ _ _
  refine wp_ret ?_
  exact ret_abs rfl (fa0_24.defers.trans hd) (show a0_24.eval (.tmp 4) = .int .i64 (n : Int) from (fa0_24.at_ 4)) ⟨rfl, h1.fr s2 (fun f => f), Fr.trans f1 s2 (fun _ _ f => f.elim)⟩
theorem rrcount_calls {b p m : Nat} {s : ByteArray} (w : World) (h : RRAt w b s p 0) (hp : p ≤ s.size) (hs : s.size ≤ 1000000000000) (hm : m ≤ 9223372036854775807) :
    Calls Try.prog 24 #[.pointer (some ⟨b, 0, none⟩), .int .i64 (m : Int)] w fun e w' => e = .returned (.int .i64 (((rCount s p 0 m).1 : Nat) : Int)) ∧ RRAt w' b s (rCount s p 0 m).2.1 (rCount s p 0 m).2.2 ∧ Fr (fun k => k = b) w w' := by
  obtain ⟨n, q, c, hF⟩ : ∃ n q c, rFree s p 0 m = (n, q, c) := ⟨_, _, _, rfl⟩
  have hpl := (rFree_place s p 0 m hp).2
  have hc0 := rFree_code s p 0 m
  rw [hF] at hpl hc0
  unfold rCount
  rw [hF]
  by_cases hc : c = 0
  · subst hc
    by_cases ho : s.size - q < n
    · simp only [if_pos ho]
      exact rrcount_O w h hp hs hm hpl hF ho
    · simp only [if_neg ho]
      have hpl : q ≤ s.size := hpl
      exact rrcount_K w h hp hs hm hpl hF ho (by omega)
  · have hn : n = 0 := hc0 hc
    subst hn
    have ho : ¬ s.size - q < 0 := by omega
    simp only [if_neg ho]
    exact rrcount_F w h hp hs hm hc hF
end Go.Proofs.Ytpcdpdagcigigaa
