/-
  Rows of one item; items as values; TupleDeep's first ways.
-/
import Derived.Test.YtjhnehhiahoelaaDoorVD0
import Derived.Test.YtjhnehhiahoelaaDoorVU
import Derived.Test.YtjhnehhiahoelaaDoorTD
import Derived.Deep.LoopGhost
namespace Go.Proofs.YtjhnehhiahoelaaDoor
open Go.ChangeShapes Go.WideShapes Go.ChangeAt Go.RowKit

theorem ItemAt.mono {B B' : Nat} {w : World} {ab o : Nat} {t : ItemP} (h : ItemAt B w ab o t) (hB : B ≤ B') : ItemAt B' w ab o t := by
  induction h with
  | mk ab o kd b i f s l la lc lb lo c0 c1 c2 c3 c4 c5 hi0 hi1 hs hln hf hkd hl hr ih =>
    exact .mk ab o kd b i f s l la lc lb lo c0 c1 c2 c3 c4 c5 hi0 hi1 hs hln hf hkd (fun e => ⟨(hl e).1, Nat.lt_of_lt_of_le (hl e).2 hB⟩) (fun k t hk => ih k t hk)
theorem RowIn.mono {B B' : Nat} {w : World} {v : Value} {l : List ItemP} (h : RowIn B w v l) (hB : B ≤ B') : RowIn B' w v l := by
  obtain ⟨ad, c, lb, lo, hv, hn, hl, hr⟩ := h
  exact ⟨ad, c, lb, lo, hv, hn, fun e => ⟨(hl e).1, Nat.lt_of_lt_of_le (hl e).2 hB⟩, fun k t hk => (hr k t hk).mono hB⟩
theorem RowIn.same {w w' : World} {v : Value} {l : List ItemP} (h : RowIn w.heap.size w v l) (s : Same w w') : RowIn w'.heap.size w' v l :=
  (h.below (Fr.below s (Nat.le_refl _) (fun _ f => f.elim))).mono s.size
theorem row_at {B : Nat} {w : World} {b o cp : Nat} {t : ItemP} (h : ItemAt B w b o t) (hb : b < B) : RowIn B w (.slice (some ⟨b, o, none⟩) 1 cp) [t] := by
  refine ⟨_, cp, b, o, rfl, by simp, fun _ => ⟨rfl, hb⟩, ?_⟩
  intro k t' hk
  cases k with
  | zero => simp at hk; subst hk; simpa using h
  | succ k => simp at hk

/-- What is asked of an item's parts. -/
structure Parts (W : World) (kd : Nat) (i : Int) (f : Nat) (s : ByteArray) (l : List ItemP) (la : Option Addr) (lc : Nat) : Prop where
  i0 : -9223372036854775808 ≤ i
  i1 : i ≤ 9223372036854775807
  sz : s.size ≤ 1048576
  ln : l.length ≤ 1048576
  fl : f < 18446744073709551616
  k : kd < 256
  r : RowIn W.heap.size W (.slice la l.length lc) l
theorem Parts.same {W W' : World} {kd : Nat} {i : Int} {f : Nat} {s : ByteArray} {l : List ItemP} {la : Option Addr} {lc : Nat} (h : Parts W kd i f s l la lc) (k : Same W W') : Parts W' kd i f s l la lc := ⟨h.i0, h.i1, h.sz, h.ln, h.fl, h.k, h.r.same k⟩
theorem Parts.at {W : World} {kd : Nat} {b : Bool} {i : Int} {f : Nat} {s : ByteArray} {l : List ItemP} {la : Option Addr} {lc : Nat} (h : Parts W kd i f s l la lc) {ab o : Nat}
    (c0 : W.cell? ⟨ab, o, none⟩ = some (.int .u8 kd)) (c1 : W.cell? ⟨ab, o + 1, none⟩ = some (.bool b)) (c2 : W.cell? ⟨ab, o + 2, none⟩ = some (.int .i64 i)) (c3 : W.cell? ⟨ab, o + 3, none⟩ = some (.float .f64 f)) (c4 : W.cell? ⟨ab, o + 4, none⟩ = some (.string s)) (c5 : W.cell? ⟨ab, o + 5, none⟩ = some (.slice la l.length lc)) :
    ItemAt W.heap.size W ab o (.mk kd b i f s l) := by
  obtain ⟨ad, c, lb, lo, e, hn, hl, hr⟩ := h.r
  injection e with e1 e2 e3
  subst e1
  exact .mk ab o kd b i f s l la lc lb lo c0 c1 c2 c3 c4 c5 h.i0 h.i1 (by have := h.sz; omega) (by have := h.ln; omega) h.fl h.k hl hr
/-- The row of one item that a call is handed. -/
theorem Parts.row {W : World} {kd : Nat} {i : Int} {f : Nat} {s : ByteArray} {l : List ItemP} {la : Option Addr} {lc : Nat} (h : Parts W kd i f s l la lc) (b : Bool) (cp : Nat) :
    RowIn (W.alloc (itemC kd b i f s la l.length lc)).heap.size (W.alloc (itemC kd b i f s la l.length lc)) (.slice (some ⟨W.heap.size, 0, none⟩) 1 cp) [.mk kd b i f s l] := by
  obtain ⟨c0, c1, c2, c3, c4, c5⟩ := item_cells W kd b i f s la l.length lc
  exact row_at ((h.same ((Fr.refl _ W).alloc _)).at c0 c1 c2 c3 c4 c5) (World.block_lt_of_cell? _ _ c0)

set_option maxRecDepth 100000 in
/-- An item that came in. -/
theorem open_itemV {H : Type} {enc : TypeId × Value → H} {W : World} {v : Value} {d : DataW H} {pl : List MemPlace} {base : Nat}
    (hv : Value.okWide Tryd.prog W .any base 26 v) (h : DataW.Trod enc Tryd.prog W 0 (fun _ => true) true 26 v d pl) (hb : Rows.uptoBulk d ≤ 1048576) :
    ∃ kd b i f s l la lc, v = itemV kd b i f s la l.length lc ∧ Parts W kd i f s l la lc := by
  obtain ⟨cs, rfl, hcs⟩ := okWide_struct Tryd.underlying26 hv
  obtain ⟨fuel, hf⟩ := h
  obtain ⟨t, kd, b, i, f, s, l, la, lc, rfl, e, h1, h2, h3, h4, h5, h6, h7⟩ := open_item hf hb (fun _ hf2 hb2 => open_tree _ (Nat.le_refl _) hf2 hb2)
  refine ⟨kd, b, i, f, s, l, la, lc, ?_, ⟨h1, h2, h3, h4, h5, h6, h7⟩⟩
  simp only [Value.cells] at e
  have : cs = #[.int .u8 (kd : Nat), .bool b, .int .i64 i, .float .f64 f, .string s, .slice la l.length lc] := by
    rw [← Array.toArray_toList (xs := cs), e]
  rw [this]

/-- Some cells, so many times. -/
def reps (k : Nat) (C : List Value) : List Value := (List.replicate k C).flatten
theorem reps_succ (k : Nat) (C : List Value) : reps (k + 1) C = C ++ reps k C := by simp [reps, List.replicate_succ]
theorem reps_snoc (k : Nat) (C : List Value) : reps k C ++ C = reps (k + 1) C := by
  induction k with
  | zero => simp [reps]
  | succ k ih => rw [reps_succ, List.append_assoc, ih, ← reps_succ]
theorem reps_get {C : List Value} (hC : C.length = 6) (k : Nat) : ∀ (j r : Nat), j < k → r < 6 → (reps k C)[j * 6 + r]? = C[r]? := by
  induction k with
  | zero => intro j r h; omega
  | succ k ih =>
    intro j r hj hr
    rw [reps_succ]
    cases j with
    | zero => rw [List.getElem?_append_left (by omega)]; simp
    | succ j =>
      rw [List.getElem?_append_right (by omega), hC, show (j + 1) * 6 + r - 6 = j * 6 + r from by omega]
      exact ih j r (by omega) hr
theorem own_rows {W : World} {base : Nat} {v : Value} {k : Nat} {kd : Nat} {b : Bool} {i : Int} {f : Nat} {s : ByteArray} {l : List ItemP} {la : Option Addr} {lc : Nat} (hk : k ≤ 1000) (hp : Parts W kd i f s l la lc) (h : W.ownsRow base 26 6 v k (reps k [.int .u8 kd, .bool b, .int .i64 i, .float .f64 f, .string s, .slice la l.length lc])) :
    RowIn W.heap.size W v (List.replicate k (.mk kd b i f s l)) := by
  rcases h.2 with ⟨rfl, rfl⟩ | ⟨g, cap, cur, rfl, _, hg, _⟩
  · exact ⟨none, 0, 0, 0, rfl, by simp, by simp, by simp⟩
  · refine ⟨some ⟨g, 0, none⟩, cap, g, 0, by simp, by simp; omega, fun _ => ⟨rfl, lt_of_heap hg⟩, ?_⟩
    intro j t hj
    have hjk : j < k := by
      have := (List.getElem?_eq_some_iff.1 hj).1
      simpa using this
    obtain rfl : t = .mk kd b i f s l := by
      rw [List.getElem?_replicate, if_pos hjk] at hj
      simpa using hj.symm
    have hc : ∀ r u, r < 6 → [Value.int .u8 (kd : Int), .bool b, .int .i64 i, .float .f64 f, .string s, .slice la l.length lc][r]? = some u → W.cell? ⟨g, 0 + j * 6 + r, none⟩ = some u := by
      intro r u hr hu
      have := h.cells (g := g) rfl (j * 6 + r) u (by rw [reps_get rfl k j r hjk hr]; exact hu)
      rw [add_plain] at this
      rw [← this]; congr 2; omega
    exact hp.at (hc 0 _ (by omega) rfl) (hc 1 _ (by omega) rfl) (hc 2 _ (by omega) rfl) (hc 3 _ (by omega) rfl) (hc 4 _ (by omega) rfl) (hc 5 _ (by omega) rfl)
set_option maxRecDepth 100000 in
set_option maxHeartbeats 4000000 in
theorem deep_walk (w : World) (kd : Nat) (b : Bool) (i : Int) (f : Nat) (s : ByteArray) (l : List ItemP) (la : Option Addr) (lc : Nat) (hp : Parts w kd i f s l la lc) (n d : Int) :
    Calls Tryd.prog 4 #[itemV kd b i f s la l.length lc, .int .i64 n, .int .i64 d] w fun e w' => e = .returned (.bool true) ∧ Same w w' := by
  have hsf := store_f64
  obtain ⟨c0, c1, c2, c3, c4, c5⟩ := item_cells w kd b i f s la l.length lc
  have sx : Same w (w.alloc (itemC kd b i f s la l.length lc)) := (Fr.refl _ w).alloc _
  have HPK : Hid (∀ W, Same w W → Calls Tryd.prog 6 #[.slice (some ⟨W.heap.size, 0, none⟩) 1 1] (W.alloc (itemC kd b i f s la l.length lc)) fun e w' => e = .returned (.tuple #[.string ⟨(packB [.mk kd b i f s l]).toArray⟩, .int .i64 (checkP [.mk kd b i f s l])]) ∧ Same (W.alloc (itemC kd b i f s la l.length lc)) w') :=
    fun W hW => pack_calls [.mk kd b i f s l] ((hp.same hW).row b 1) (Nat.le_refl _)
  have HCK : Hid (∀ W, Same w W → Calls Tryd.prog 7 #[.slice (some ⟨W.heap.size, 0, none⟩) 1 1] (W.alloc (itemC kd b i f s la l.length lc)) fun e w' => e = .returned (.int .i64 (checkP [.mk kd b i f s l])) ∧ Same (W.alloc (itemC kd b i f s la l.length lc)) w') :=
    fun W hW => check_calls [.mk kd b i f s l] ((hp.same hW).row b 1) (Nat.le_refl _)
  obtain ⟨E, hE⟩ : ∃ E, E = checkP [.mk kd b i f s l] := ⟨_, rfl⟩
  obtain ⟨PB, hPB⟩ : ∃ PB, PB = packB [.mk kd b i f s l] := ⟨_, rfl⟩
  rw [← hE, ← hPB] at HPK
  rw [← hE] at HCK
  have HE : Hid (E = checkP [.mk kd b i f s l]) := hE
  have HPB : Hid (PB = packB [.mk kd b i f s l]) := hPB
  clear hE hPB
  go_enter Tryd.func4, Tryd.ntmps4
  go_wp2_with fail
  refine (awake_calls _).mono ?_
  rintro e W1 ⟨rfl, s1⟩
  have d0 := s1.keep c0
  have d1 := s1.keep c1
  have d2 := s1.keep c2
  have d3 := s1.keep c3
  have d4 := s1.keep c4
  have d5 := s1.keep c5
  have s01 := sx.trans s1
  clear c0 c1 c2 c3 c4 c5 s1
  go_wp2_with fail
  refine (HPK.out W1 s01).mono ?_
  rintro e W2 ⟨rfl, s2⟩
  have s12 : Same W1 W2 := Same.trans ((Fr.refl _ W1).alloc _) s2
  have e0 := s12.keep d0
  have e1 := s12.keep d1
  have e2 := s12.keep d2
  have e3 := s12.keep d3
  have e4 := s12.keep d4
  have e5 := s12.keep d5
  have s02 := s01.trans s12
  clear d0 d1 d2 d3 d4 d5 s12 s2 HPK
  by_cases hE0 : E = 0
  · subst hE0
    by_cases k6 : kd = 6
    · subst k6
      have e0' : W2.cell? ⟨w.heap.size, 0, none⟩ = some (.int .u8 6) := e0
      have HCK' : Hid (∀ W, Same w W → Calls Tryd.prog 7 #[.slice (some ⟨W.heap.size, 0, none⟩) 1 1] (W.alloc (.cells #[.int .u8 6, .bool b, .int .i64 i, .float .f64 f, .string s, .slice la l.length lc] 26)) fun e w' => e = .returned (.int .i64 (0 : Nat)) ∧ Same (W.alloc (.cells #[.int .u8 6, .bool b, .int .i64 i, .float .f64 f, .string s, .slice la l.length lc] 26)) w') := HCK
      clear e0
      go_wp2_with fail
      refine (HCK'.out W2 s02).mono ?_
      rintro e W3 ⟨rfl, s3⟩
      go_wp2_with fail
      go_ret
      exact ⟨by simp, s02.trans (Same.trans ((Fr.refl _ W2).alloc _) s3)⟩
    have k6' : ¬ (kd : Int) = 6 := by omega
    by_cases n0 : n < 0
    · go_wp2_with fail
      refine (HCK.out W2 s02).mono ?_
      rintro e W3 ⟨rfl, s3⟩
      go_wp2_with fail
      go_ret
      exact ⟨by simp, s02.trans (Same.trans ((Fr.refl _ W2).alloc _) s3)⟩
    have n0' : 0 ≤ n := by omega
    by_cases n1 : 100 < n
    · go_wp2_with fail
      refine (HCK.out W2 s02).mono ?_
      rintro e W3 ⟨rfl, s3⟩
      go_wp2_with fail
      go_ret
      exact ⟨by simp, s02.trans (Same.trans ((Fr.refl _ W2).alloc _) s3)⟩
    have n1' : n ≤ 100 := by omega
    by_cases q0 : d < 0
    · go_wp2_with fail
      refine (HCK.out W2 s02).mono ?_
      rintro e W3 ⟨rfl, s3⟩
      go_wp2_with fail
      go_ret
      exact ⟨by simp, s02.trans (Same.trans ((Fr.refl _ W2).alloc _) s3)⟩
    have q0' : 0 ≤ d := by omega
    by_cases q1 : 20 < d
    · go_wp2_with fail
      refine (HCK.out W2 s02).mono ?_
      rintro e W3 ⟨rfl, s3⟩
      go_wp2_with fail
      go_ret
      exact ⟨by simp, s02.trans (Same.trans ((Fr.refl _ W2).alloc _) s3)⟩
    have q1' : d ≤ 20 := by omega
    clear HCK
    obtain ⟨i0, hi, hz0, hz1, hz2⟩ := info_parts Tryd.infoItem
    obtain ⟨C, hC⟩ : ∃ C : List Value, C = [.int .u8 (kd : Int), .bool b, .int .i64 i, .float .f64 f, .string s, .slice la l.length lc] := ⟨_, rfl⟩
    have HC : Hid (C = [.int .u8 (kd : Int), .bool b, .int .i64 i, .float .f64 f, .string s, .slice la l.length lc]) := hC
    have hlt2 : w.heap.size < W2.heap.size := World.block_lt_of_cell? _ _ e0
    clear hC
    go_wp2_with fail
    · exfalso
      have hbad : (((((kd : Int) == 6) = true ∨ n < 0) ∨ 100 < n) ∨ d < 0) ∨ 20 < d := by assumption
      simp only [beq_iff_eq] at hbad
      omega
    obtain ⟨n, rfl⟩ : ∃ m : Nat, n = (m : Int) := ⟨n.toNat, by omega⟩
    obtain ⟨d, rfl⟩ : ∃ m : Nat, d = (m : Int) := ⟨d.toNat, by omega⟩
    generalize ((kd : Int) == 6) = kb
    go_loopg [9, 10] n (fun g rv iv wr => ∃ (k : Nat) (ao : Option Addr) (cap : Nat), iv = .int .i64 k ∧ k ≤ n ∧ g = n - k ∧ rv = .slice ao k cap ∧ Hid (wr.ownsRow W2.heap.size 26 6 (.slice ao k cap) k (reps k C)) ∧ Same W2 wr)
    case atStart => exact ⟨0, none, 0, rfl, by omega, by omega, rfl, World.ownsRow_nil _ _ _ _, Fr.refl _ _⟩
    case round =>
      obtain ⟨k, ao, cap, rfl, hk, rfl, rfl, hown, sr⟩ := hrel
      have g0 := sr.keep e0
      have g1 := sr.keep e1
      have g2 := sr.keep e2
      have g3 := sr.keep e3
      have g4 := sr.keep e4
      have g5 := sr.keep e5
      by_cases hgo : k < n
      · have hown' := hown.out
        have hsz := sr.size
        clear e0 e1 e2 e3 e4 e5
        go_wp2_with (at_builtin; go_must (refine wpList_append_lies _ (by rfl) _ _ _ (by rfl) W2.heap.size 26 i0 (.agg #[.int .u8 0, .bool false, .int .i64 0, .float .f64 0, .string ⟨#[]⟩, .slice none 0 0]) 6 64 Tryd.underlying24 hi hz0 hz1 hz2 rfl (by decide) _ _ _ (by rfl) (hown'.alloc _) ⟨wr.heap.size, 0, none⟩ 1 1 _ (by rfl) ?_ (World.news_of_block (heap_alloc_new wr _)) ?_ (by decide) ?_ ?_ ?_ (wr.heap.size + 1) (by simp) ?_))
        · exact ⟨rfl, rfl, rfl, rfl, rfl, rfl⟩
        · unfold maxLen; omega
        · omega
        · simp; omega
        · intro gq cap2 w6 hown6 hgrow hat hlt6
          have O6 : Hid (w6.ownsRow W2.heap.size 26 6 (.slice (some ⟨gq, 0, none⟩) (k + 1) cap2) (k + 1) (reps (k + 1) C)) := by
            show World.ownsRow _ _ _ _ _ _ _
            rw [← reps_snoc, HC.out]
            rw [HC.out] at hown6
            exact hown6
          have s6 : Same W2 w6 := by
            refine Fr.grown (sr.alloc _) hgrow ?_
            intro j hj hlt
            have := (hown.out.lt j hj).1
            omega
          clear hown6 hgrow hat hown' hown sr g0 g1 g2 g3 g4 g5
          go_wp2_with fail
          go_roundg (n - (k + 1))
          case measure => omega
          case rel => exact ⟨k + 1, some ⟨gq, 0, none⟩, cap2, by go_num, by omega, rfl, rfl, O6, s6⟩
      · obtain rfl : k = n := by omega
        have hpr := hp.same (s02.trans sr)
        have hrow : RowIn wr.heap.size wr (.slice ao k cap) (List.replicate k (.mk kd b i f s l)) := own_rows (by omega) hpr (by have := hown.out; rw [HC.out] at this; exact this)
        have HROW : Hid (RowIn wr.heap.size wr (.slice ao k cap) (List.replicate k (.mk kd b i f s l))) := hrow
        have s0r := s02.trans sr
        clear e0 e1 e2 e3 e4 e5 g0 g1 g2 g3 g4 g5 hown hrow hpr
        have HDC : Hid (∀ dd, dd = d → checkP (nestP dd (List.replicate k (.mk kd b i f s l))) = if 8 < dd then 32 else if 64 < k + dd then 31 else if 4096 < k * PB.length + 2 * dd then 4 else 0) := by
          intro dd hdd
          have h0 : checkP [.mk kd b i f s l] = 0 := HE.out.symm
          have hpb : PB = itemB (.mk kd b i f s l) := by
            rw [HPB.out, packB, if_pos h0, rowB, rowB, List.append_nil]
          rw [hpb]
          exact deep_check h0 (by omega) k dd
        have hpl : PB.length ≤ 4096 := by
          have h0 : checkP [.mk kd b i f s l] = 0 := HE.out.symm
          have := checkP_size _ h0
          rw [HPB.out, packB, if_pos h0]; exact this
        obtain ⟨l0, hl0⟩ : ∃ l0 : List ItemP, l0 = List.replicate k (.mk kd b i f s l) := ⟨_, rfl⟩
        have hl0n : l0.length = k := by rw [hl0]; simp
        rw [← hl0] at HDC HROW
        have HN : Hid (l0.length = k) := hl0n
        clear hl0 hl0n HPB HE HC hp
        go_wp2_with fail
        go_loopg [9, 11] d (fun g rv iv wq => ∃ (e : Nat) (ao : Option Addr) (cap : Nat), iv = .int .i64 e ∧ e ≤ d ∧ g = d - e ∧ rv = .slice ao (nestP e l0).length cap ∧ RowIn wq.heap.size wq (.slice ao (nestP e l0).length cap) (nestP e l0) ∧ Same w wq)
        case atStart => exact ⟨0, ao, cap, rfl, by omega, by omega, by rw [nestP, HN.out], by rw [nestP, HN.out]; exact HROW.out, s0r⟩
        case round =>
          obtain ⟨e, ao, cap, rfl, he, rfl, rfl, hrow, sq⟩ := hrel
          have hln : (nestP e l0).length ≤ 1048576 := by
            cases e with
            | zero => rw [nestP, HN.out]; omega
            | succ e => simp [nestP]
          by_cases hlt : e < d
          · have HR2 : Hid (Parts wr 6 0 0 ⟨#[]⟩ (nestP e l0) ao cap) := ⟨by omega, by omega, by show (0 : Nat) ≤ _; omega, hln, by omega, by omega, hrow⟩
            obtain ⟨nl, hnl⟩ : ∃ nl, nl = (nestP e l0).length := ⟨_, rfl⟩
            have HNL : Hid (nl = (nestP e l0).length) := hnl
            rw [← hnl]
            clear hnl hrow hln
            go_wp2_with fail
            have hp2 := HR2.out.row false 1
            go_roundg (d - (e + 1))
            case measure => omega
            case rel =>
              refine ⟨e + 1, some ⟨wr.heap.size, 0, none⟩, 1, by go_num, by omega, rfl, rfl, ?_, sq.alloc _⟩
              have h1 : (nestP (e + 1) l0).length = 1 := by rw [nestP]; rfl
              rw [h1]
              rw [HNL.out]
              exact hp2
          · obtain rfl : e = d := by omega
            have hdc := HDC.out e rfl
            have HCH : Hid (Calls Tryd.prog 7 #[.slice ao (nestP e l0).length cap] wr fun x w' => x = .returned (.int .i64 (checkP (nestP e l0))) ∧ Same wr w') := check_calls (nestP e l0) hrow (Nat.le_refl _)
            rw [hdc] at HCH
            generalize (nestP e l0).length = nl at *
            have hpsz : ((ByteArray.mk PB.toArray).size : Int) = (PB.length : Int) := rfl
            have hmul : k * PB.length ≤ 100 * 4096 := Nat.mul_le_mul (by omega) hpl
            have hmul2 : (k : Int) * (PB.length : Int) = ((k * PB.length : Nat) : Int) := by simp
            obtain ⟨kp, hkp⟩ : ∃ kp, kp = k * PB.length := ⟨_, rfl⟩
            rw [← hkp] at HCH hmul hmul2
            clear hdc HDC hrow hkp
            by_cases h8 : 8 < e
            · rw [if_pos h8] at HCH
              have HCH' : Hid (Calls Tryd.prog 7 #[.slice ao nl cap] wr fun x w' => x = .returned (.int .i64 32) ∧ Same wr w') := HCH
              clear HCH
              go_wp2_with fail
              refine HCH'.out.mono ?_
              rintro x W3 ⟨rfl, s3⟩
              go_wp2_with fail
              go_ret
              exact ⟨rfl, sq.trans s3⟩
            rw [if_neg h8] at HCH
            by_cases h64 : 64 < k + e
            · rw [if_pos h64] at HCH
              have HCH' : Hid (Calls Tryd.prog 7 #[.slice ao nl cap] wr fun x w' => x = .returned (.int .i64 31) ∧ Same wr w') := HCH
              clear HCH
              go_wp2_with fail
              refine HCH'.out.mono ?_
              rintro x W3 ⟨rfl, s3⟩
              go_wp2_with fail
              go_ret
              exact ⟨rfl, sq.trans s3⟩
            rw [if_neg h64] at HCH
            by_cases h96 : 4096 < kp + 2 * e
            · rw [if_pos h96] at HCH
              have HCH' : Hid (Calls Tryd.prog 7 #[.slice ao nl cap] wr fun x w' => x = .returned (.int .i64 4) ∧ Same wr w') := HCH
              clear HCH
              go_wp2_with fail
              refine HCH'.out.mono ?_
              rintro x W3 ⟨rfl, s3⟩
              go_wp2_with fail
              go_ret
              exact ⟨rfl, sq.trans s3⟩
            rw [if_neg h96] at HCH
            have HCH' : Hid (Calls Tryd.prog 7 #[.slice ao nl cap] wr fun x w' => x = .returned (.int .i64 0) ∧ Same wr w') := HCH
            clear HCH
            go_wp2_with fail
            refine HCH'.out.mono ?_
            rintro x W3 ⟨rfl, s3⟩
            go_wp2_with fail
            go_ret
            exact ⟨rfl, sq.trans s3⟩
  · have hE0' : ¬ (E : Int) = 0 := by omega
    go_wp2_with fail
    refine (HCK.out W2 s02).mono ?_
    rintro e W3 ⟨rfl, s3⟩
    go_wp2_with fail
    go_ret
    exact ⟨by simp, s02.trans (Same.trans ((Fr.refl _ W2).alloc _) s3)⟩
end Go.Proofs.YtjhnehhiahoelaaDoor
