/- DiskSafe, plain: what a sector of the image is; what waits, and what was written since the last sync. -/
import Derived.Test.YtjiaepeglghheaaPD
namespace Go.Proofs.Ytjiaepeglghheaa
open Go.RowKit

def secL (sc : Nat) (u : List UInt8) (i : Nat) : List UInt8 := (u.drop (i * sc)).take sc
def secS (sc : Nat) (s : ByteArray) (i : Nat) : List UInt8 := secL sc s.data.toList i
theorem secL_get {sc i r : Nat} {u : List UInt8} (h : r < sc) : (secL sc u i)[r]? = u[i * sc + r]? := by
  unfold secL; rw [List.getElem?_take, if_pos h, List.getElem?_drop]
theorem ovl_get {sc m i r : Nat} {u o : List UInt8} (hu : u.length = 8 * sc) (ho : o.length = 8 * sc) (hi : i < 8) (hr : r < sc) : ∀ n, n ≤ 8 → (ovl sc u o m n)[i * sc + r]? = if i < n ∧ pbit m i = true then o[i * sc + r]? else u[i * sc + r]?
  | 0, _ => by rw [if_neg (by omega)]; rfl
  | k + 1, hk => by
    have ih := ovl_get (m := m) hu ho hi hr k (by omega)
    have hl := ovl_len (m := m) hu ho k (by omega)
    obtain ⟨h1, h2⟩ := sec_len (i := k) ho (by omega)
    have e : i = k ∨ (i < k ∧ (i + 1) * sc ≤ k * sc) ∨ (k < i ∧ (k + 1) * sc ≤ i * sc) := by
      rcases Nat.lt_trichotomy i k with e | e | e
      · exact Or.inr (Or.inl ⟨e, Nat.mul_le_mul_right sc (by omega)⟩)
      · exact Or.inl e
      · exact Or.inr (Or.inr ⟨e, Nat.mul_le_mul_right sc (by omega)⟩)
    rw [Nat.succ_mul, Nat.succ_mul] at e
    unfold ovl
    by_cases hb : pbit m k = true
    · rw [if_pos hb, lay8_get (by rw [h1, hl]; exact h2), h1]
      rcases e with e | e | e
      · subst e
        rw [if_pos ⟨by omega, by omega⟩, if_pos ⟨by omega, hb⟩, show i * sc + r - i * sc = r by omega]
        exact secL_get hr
      · rw [if_neg (by omega), ih]
        by_cases hp : pbit m i = true
        · rw [if_pos ⟨e.1, hp⟩, if_pos ⟨by omega, hp⟩]
        · rw [if_neg (fun x => hp x.2), if_neg (fun x => hp x.2)]
      · rw [if_neg (by omega), ih, if_neg (by omega), if_neg (by omega)]
    · rw [if_neg hb, ih]
      rcases e with e | e | e
      · subst e
        rw [if_neg (fun x => hb x.2), if_neg (fun x => hb x.2)]
      · by_cases hp : pbit m i = true
        · rw [if_pos ⟨e.1, hp⟩, if_pos ⟨by omega, hp⟩]
        · rw [if_neg (fun x => hp x.2), if_neg (fun x => hp x.2)]
      · rw [if_neg (by omega), if_neg (by omega)]
theorem ovlS_sec {sc m i : Nat} {u o : ByteArray} (hu : u.size = 8 * sc) (ho : o.size = 8 * sc) (hi : i < 8) : secS sc (ovlS sc u o m) i = secS sc u i ∨ secS sc (ovlS sc u o m) i = secS sc o i := by
  unfold ovlS
  by_cases h : m = 255
  · rw [if_pos h]; exact Or.inr rfl
  · rw [if_neg h]
    have hg := fun r (hr : r < sc) => ovl_get (u := u.data.toList) (o := o.data.toList) (m := m) hu ho hi hr 8 (Nat.le_refl _)
    have hlen : ∀ v : List UInt8, ∀ r, ¬ r < sc → (secL sc v i)[r]? = none := fun v r hr => by unfold secL; rw [List.getElem?_take, if_neg hr]
    by_cases hb : pbit m i = true
    · refine Or.inr (List.ext_getElem? fun r => ?_)
      by_cases hr : r < sc
      · unfold secS; rw [secL_get hr, secL_get hr, List.toList_toArray, hg r hr, if_pos ⟨hi, hb⟩]
      · unfold secS; rw [hlen _ _ hr, hlen _ _ hr]
    · refine Or.inl (List.ext_getElem? fun r => ?_)
      by_cases hr : r < sc
      · unfold secS; rw [secL_get hr, secL_get hr, List.toList_toArray, hg r hr, if_neg (fun x => hb x.2)]
      · unfold secS; rw [hlen _ _ hr, hlen _ _ hr]
/-- A page that may not be there yet. -/
def oldP (pg : Nat) (l : List ByteArray) (no : Nat) : ByteArray := (l[no]?).getD (zerosT pg)
theorem oldP_size {pg no : Nat} {l : List ByteArray} (h : ∀ s ∈ l, s.size = pg) : (oldP pg l no).size = pg := by
  unfold oldP
  cases e : l[no]? with
  | none => simp [zerosT, ByteArray.size]
  | some s => exact h s (List.mem_of_getElem? e)
theorem extP_old {pg n no : Nat} {l : List ByteArray} : oldP pg (extP pg l n) no = oldP pg l no := by
  unfold oldP extP
  by_cases h : no < l.length
  · rw [List.getElem?_append_left h]
  · rw [List.getElem?_append_right (by omega), List.getElem?_eq_none (l := l) (by omega), List.getElem?_replicate]
    split <;> rfl
theorem comeP_old {pg m no : Nat} {l : List ByteArray} {x : Wt} : oldP pg (comeP pg l x m) no = oldP pg l no ∨ (x.act ≠ 2 ∧ x.pg = no ∧ oldP pg (comeP pg l x m) no = ovlS (pg / 8) (oldP pg l no) x.data m) := by
  unfold comeP
  split
  · exact Or.inl rfl
  · split
    · exact Or.inl extP_old
    · rename_i h
      by_cases hn : x.pg = no
      · right
        refine ⟨h, hn, ?_⟩
        subst hn
        have hlt : x.pg < (extP pg l (x.pg + 1)).length := by rw [extP_len]; omega
        have e0 : (extP pg l (x.pg + 1))[x.pg]? = some ((extP pg l (x.pg + 1))[x.pg]) := List.getElem?_eq_getElem hlt
        have e1 : oldP pg l x.pg = (extP pg l (x.pg + 1))[x.pg] := by rw [← extP_old (n := x.pg + 1)]; unfold oldP; rw [e0]; rfl
        rw [e1]
        unfold oldP
        rw [List.getElem?_set_self hlt, e0]
        rfl
      · left
        have : oldP pg ((extP pg l (x.pg + 1)).set x.pg (ovlS (pg / 8) (((extP pg l (x.pg + 1))[x.pg]?).getD emptyS) x.data m)) no = oldP pg (extP pg l (x.pg + 1)) no := by
          unfold oldP
          rw [List.getElem?_set_ne hn]
        rw [this, extP_old]
/-- A sector of what comes out is that of the page before, or that of something that waited for this page. -/
theorem setP_sec {pg no i : Nat} {f : Nat → Nat} (h8 : pg = 8 * (pg / 8)) (hi : i < 8) : ∀ (W : List Wt) (k : Nat) (l : List ByteArray), (∀ x ∈ W, WtOk pg x) → (∀ s ∈ l, s.size = pg) →
    secS (pg / 8) (oldP pg (setP pg f k W l) no) i = secS (pg / 8) (oldP pg l no) i ∨ ∃ x ∈ W, x.act ≠ 2 ∧ x.pg = no ∧ secS (pg / 8) (oldP pg (setP pg f k W l) no) i = secS (pg / 8) x.data i
  | [], _, _, _, _ => Or.inl rfl
  | x :: W, k, l, hW, hl => by
    have hx := hW x List.mem_cons_self
    have ih := setP_sec (no := no) (f := f) h8 hi W (k + 1) (comeP pg l x (f k)) (fun y hy => hW y (List.mem_cons_of_mem _ hy)) (comeP_all h8 hx hl)
    show secS (pg / 8) (oldP pg (setP pg f (k + 1) W (comeP pg l x (f k))) no) i = _ ∨ ∃ y ∈ x :: W, _ ∧ _ ∧ secS (pg / 8) (oldP pg (setP pg f (k + 1) W (comeP pg l x (f k))) no) i = _
    rcases ih with e | ⟨y, hy, h1, h2, h3⟩
    · rcases comeP_old (pg := pg) (m := f k) (no := no) (l := l) (x := x) with c | ⟨c1, c2, c3⟩
      · rw [c] at e; exact Or.inl e
      · rw [c3] at e
        rcases ovlS_sec (m := f k) (sc := pg / 8) (i := i) (u := oldP pg l no) (o := x.data) (by rw [← h8]; exact oldP_size hl) (by rw [← h8]; exact hx.data c1) hi with d | d
        · exact Or.inl (e.trans d)
        · exact Or.inr ⟨x, List.mem_cons_self, c1, c2, e.trans d⟩
    · exact Or.inr ⟨y, List.mem_cons_of_mem _ hy, h1, h2, h3⟩
theorem setP_kept {pg no : Nat} {f : Nat → Nat} : ∀ (W : List Wt) (k : Nat) (l : List ByteArray), (∀ x ∈ W, x.act ≠ 2 → x.pg ≠ no) → oldP pg (setP pg f k W l) no = oldP pg l no
  | [], _, _, _ => rfl
  | x :: W, k, l, hW => by
    have ih := setP_kept (pg := pg) (no := no) (f := f) W (k + 1) (comeP pg l x (f k)) (fun y hy => hW y (List.mem_cons_of_mem _ hy))
    refine ih.trans ?_
    rcases comeP_old (pg := pg) (m := f k) (no := no) (l := l) (x := x) with c | ⟨c1, c2, _⟩
    · exact c
    · exact absurd c2 (hW x List.mem_cons_self c1)
theorem setP_zero {pg : Nat} {f : Nat → Nat} (hf : ∀ k, f k = 0) : ∀ (W : List Wt) (k : Nat) (l : List ByteArray), setP pg f k W l = l
  | [], _, _ => rfl
  | x :: W, k, l => by
    show setP pg f (k + 1) W (comeP pg l x (f k)) = l
    rw [setP_zero hf W]
    unfold comeP
    rw [if_pos (hf k)]
theorem setP_congr {pg : Nat} {f g : Nat → Nat} : ∀ (W : List Wt) (k : Nat) (l : List ByteArray), (∀ j, k ≤ j → j < k + W.length → f j = g j) → setP pg f k W l = setP pg g k W l
  | [], _, _, _ => rfl
  | x :: W, k, l, h => by
    rw [List.length_cons] at h
    show setP pg f (k + 1) W (comeP pg l x (f k)) = setP pg g (k + 1) W (comeP pg l x (g k))
    rw [h k (Nat.le_refl _) (by omega)]
    exact setP_congr W (k + 1) _ (fun j h1 h2 => h j (by omega) (by omega))
/-- How long the image becomes. -/
def lenF (f : Nat → Nat) : Nat → List Wt → Nat → Nat
  | _, [], n => n
  | k, x :: W, n => lenF f (k + 1) W (if f k = 0 then n else if x.act = 2 then max n x.pages else max n (x.pg + 1))
theorem comeP_length {pg m : Nat} {l : List ByteArray} {x : Wt} : (comeP pg l x m).length = if m = 0 then l.length else if x.act = 2 then max l.length x.pages else max l.length (x.pg + 1) := by
  unfold comeP
  split
  · rfl
  · split
    · exact extP_len
    · rw [List.length_set]; exact extP_len
theorem setP_length {pg : Nat} {f : Nat → Nat} : ∀ (W : List Wt) (k : Nat) (l : List ByteArray), (setP pg f k W l).length = lenF f k W l.length
  | [], _, _ => rfl
  | x :: W, k, l => by
    show (setP pg f (k + 1) W (comeP pg l x (f k))).length = lenF f (k + 1) W _
    rw [setP_length W, comeP_length]
theorem lenF_mono {f g : Nat → Nat} (hg : ∀ k, g k ≠ 0) : ∀ (W : List Wt) (k n m : Nat), n ≤ m → lenF f k W n ≤ lenF g k W m
  | [], _, _, _, h => h
  | x :: W, k, n, m, h => by
    show lenF f (k + 1) W _ ≤ lenF g (k + 1) W _
    refine lenF_mono hg W (k + 1) _ _ ?_
    rw [if_neg (hg k)]
    split
    · split <;> omega
    · split <;> omega
/-- What was written to a page and waits. -/
def wrOf (W : List Wt) (no : Nat) : List ByteArray := (W.filter (fun x => x.act == 1 && x.pg == no)).map (·.data)
theorem wrOf_app (W V : List Wt) (no : Nat) : wrOf (W ++ V) no = wrOf W no ++ wrOf V no := by unfold wrOf; rw [List.filter_append, List.map_append]
theorem wrOf_mem {W : List Wt} {no : Nat} {x : Wt} (hx : x ∈ W) (h1 : x.act = 1) (h2 : x.pg = no) : x.data ∈ wrOf W no :=
  List.mem_map.2 ⟨x, List.mem_filter.2 ⟨hx, by simp [h1, h2]⟩, rfl⟩
/-- What holds of a disk that a script is played on. -/
structure DkSafe (D : Dk) : Prop where
  off : D.off = false
  P : D.P = setP D.page (fun _ => 255) 0 D.W D.I
  act : ∀ x ∈ D.W, x.act = 1 ∨ x.act = 2
theorem change_safe {D : Dk} {x : Wt} (h : DkSafe D) (hx : x.act = 1 ∨ x.act = 2) : DkSafe (dkChange D x) where
  off := h.off
  P := by
    show comeP D.page D.P x 255 = setP D.page (fun _ => 255) 0 (D.W ++ [x]) D.I
    rw [setP_snoc, ← h.P]
  act := fun y hy => by
    rcases List.mem_append.1 hy with e | e
    · exact h.act y e
    · rw [List.mem_singleton] at e; rw [e]; exact hx
theorem write_safe {D : Dk} {no : Nat} {s : ByteArray} (h : DkSafe D) : DkSafe (dkWrite D no s) := by
  unfold dkWrite
  split
  · have c := change_safe (x := wrX no s) h (Or.inl rfl); exact ⟨c.off, c.P, c.act⟩
  · exact h
theorem grow_safe {D : Dk} {n : Int} (h : DkSafe D) : DkSafe (dkGrow D n) := by
  unfold dkGrow
  split
  · have c := change_safe (x := grX D n) h (Or.inr rfl); exact ⟨c.off, c.P, c.act⟩
  · exact h
theorem sync_safe {D : Dk} (h : DkSafe D) : DkSafe (dkSync D) ∧ (dkSync D).P = (dkSync D).I := by
  have e : (dkSync D).P = (dkSync D).I := h.P
  exact ⟨⟨h.off, e, fun x hx => by cases hx⟩, e⟩
theorem play_safe {D : Dk} {s : Sp} (h : DkSafe D) : DkSafe (playD D s) := by
  unfold playD
  split
  · exact write_safe h
  · split
    · exact grow_safe h
    · split
      · split
        · exact h
        · exact (sync_safe h).1
      · exact h
/-- What is written, behind a step. -/
theorem play_wr {D : Dk} {s : Sp} (h : DkSafe D) (no : Nat) : wrOf (playD D s).W no = if s.do_ = 3 then [] else if s.do_ = 1 ∧ playE D s = true ∧ s.no % 8 = no then wrOf D.W no ++ [spT s] else wrOf D.W no := by
  unfold playD playE
  by_cases h1 : s.do_ = 1
  · rw [if_pos h1, if_pos h1, if_neg (by omega)]
    unfold dkWrite
    by_cases he : wrE D (s.no % 8) (spT s) = 0
    · rw [if_pos he]
      show wrOf (D.W ++ [wrX (s.no % 8) (spT s)]) no = _
      rw [wrOf_app]
      by_cases hn : s.no % 8 = no
      · rw [if_pos ⟨h1, by simpa using he, hn⟩]
        unfold wrOf wrX
        simp [hn]
      · rw [if_neg (fun x => hn x.2.2)]
        unfold wrOf wrX
        simp [hn]
    · rw [if_neg he, if_neg (fun x => he (by simpa using x.2.1))]
  · rw [if_neg h1, if_neg h1]
    by_cases h2 : s.do_ = 2
    · rw [if_pos h2, if_neg (by omega), if_neg (fun x => h1 x.1)]
      unfold dkGrow
      split
      · show wrOf (D.W ++ [grX D s.n]) no = _
        rw [wrOf_app]
        unfold wrOf grX
        simp
      · rfl
    · rw [if_neg h2]
      by_cases h3 : s.do_ = 3
      · rw [if_pos h3, if_pos h3, h.off]
        rfl
      · rw [if_neg h3, if_neg h3, if_neg (fun x => h1 x.1)]
end Go.Proofs.Ytjiaepeglghheaa
