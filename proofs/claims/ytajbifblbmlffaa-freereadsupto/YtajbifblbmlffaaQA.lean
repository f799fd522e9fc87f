/- free: reading a chain off pages; plain. -/
import Derived.Test.YtajbifblbmlffaaYH
import Derived.Test.YtajbifblbmlffaaILJ
namespace Go.Proofs.Ytajbifblbmlffaa
open Go.RowKit Go.Maps

/-- What FromBody answers, of both sides, the good way and the bad one at once. -/
def qNx (p q : Int) (s : ByteArray) : Nat := if docOk p q s then num4 s 0 else 0
def qNs (p q : Int) (s : ByteArray) : List Nat := if docOk p q s then docNs s else []
def qE (p q : Int) (s : ByteArray) : Int := if docOk p q s then 0 else if frameP p q then 90 else 2
def FqIs (nx : Nat) (ns : List Nat) (er : Int) (w : World) (e : Ending) (w' : World) : Prop :=
  ∃ ao c, e = .returned (.tuple #[.int .u32 (nx : Int), .slice ao ns.length c, .int .i64 er]) ∧ w'.ownsRow w.heap.size 28 1 (.slice ao ns.length c) ns.length (ncells ns)
theorem fq_doc {p q : Int} {s : ByteArray} {w w' : World} {e : Ending} (h : RFromIs p q s w e w') : FqIs (qNx p q s) (qNs p q s) (qE p q s) w e w' := by
  unfold FqIs qNx qNs qE
  rcases h with ⟨h1, ao, c, h2, h3⟩ | ⟨h1, h2⟩
  · rw [h1]; exact ⟨ao, c, h2, h3⟩
  · rw [h1]; exact ⟨none, 0, h2, own_nil⟩
theorem fq_code {p q : Int} {s : ByteArray} {w w' : World} {e : Ending} (h : FromIs p q s w e w') : FqIs (qNx p q s) (qNs p q s) (qE p q s) w e w' := by
  obtain ⟨k1, k2⟩ := from_both (p := p) (q := q) (s := s)
  unfold FqIs qNx qNs qE
  rcases h with ⟨h1, ao, c, h2, h3⟩ | ⟨h1, h2⟩
  · obtain ⟨e1, e2⟩ := k2 h1
    rw [← k1, h1]
    rw [e1, e2] at h2
    rw [e2] at h3
    exact ⟨ao, c, h2, h3⟩
  · rw [← k1, h1]; exact ⟨none, 0, h2, own_nil⟩
/-- A page. -/
structure Pgd where
  kind : Nat
  no : Nat
  ver : Nat
  body : ByteArray
def findP (P : List Pgd) (n : Nat) : Option Pgd := P.find? fun x => x.no == n
/-- May a batch come behind those that are seen? What is seen then. -/
def okR (p q : Int) (pages : Nat) (f : Nat → Bool) (pg : Nat) (ns : List Nat) : Bool := if badB p q pages f ⟨pg, none, 0, 0, 0, ns⟩ then false else (dN (upd f pg) ns).1
def nxR (f : Nat → Bool) (pg : Nat) (ns : List Nat) : Nat → Bool := (dN (upd f pg) ns).2
def sR : (Nat → Bool) → List Bt → (Nat → Bool)
  | f, [] => f
  | f, x :: L => sR (nxR f x.pg x.ns) L
theorem dR_app {p q : Int} {pages : Nat} : ∀ (A : List Bt) (f : Nat → Bool) (b : Bt), dR p q pages f (A ++ [b]) = (dR p q pages f A && okR p q pages (sR f A) b.pg b.ns)
  | [], f, b => by
    show (if badB p q pages f b then false else if (dN (upd f b.pg) b.ns).1 then dR p q pages _ [] else false) = _
    have e : badB p q pages f b = badB p q pages f ⟨b.pg, none, 0, 0, 0, b.ns⟩ := rfl
    unfold okR sR
    rw [← e]
    cases badB p q pages f b with
    | true => rfl
    | false => cases (dN (upd f b.pg) b.ns).1 <;> rfl
  | x :: L, f, b => by
    show (if badB p q pages f x then false else if (dN (upd f x.pg) x.ns).1 then dR p q pages (dN (upd f x.pg) x.ns).2 (L ++ [b]) else false) = (((if badB p q pages f x then false else if (dN (upd f x.pg) x.ns).1 then dR p q pages (dN (upd f x.pg) x.ns).2 L else false)) && okR p q pages (sR (nxR f x.pg x.ns) L) b.pg b.ns)
    cases badB p q pages f x with
    | true => rfl
    | false =>
      cases h : (dN (upd f x.pg) x.ns).1 with
      | false => rfl
      | true => exact dR_app L _ b
theorem sR_app : ∀ (A : List Bt) (f : Nat → Bool) (b : Bt), sR f (A ++ [b]) = nxR (sR f A) b.pg b.ns
  | [], _, _ => rfl
  | x :: L, f, b => sR_app L (nxR f x.pg x.ns) b
theorem ob_agr {p q : Int} {pages : Nat} {D : SetD} {f : Nat → Bool} (h : Agr D f) (pg : Nat) (ns : List Nat) : (obD p q pages D pg ns).1 = okR p q pages f pg ns ∧ (okR p q pages f pg ns = true → Agr (obD p q pages D pg ns).2 (nxR f pg ns)) := by
  unfold okR nxR
  have hall : fitsN p q ns pages = true → ∀ y ∈ ns, 2 ≤ y ∧ y < pages := fun h1 => by
    unfold fitsN at h1
    simp only [Bool.and_eq_true] at h1
    exact rise_all ns 0 h1.2
  cases h1 : fitsN p q ns pages with
  | false =>
    have e : obD p q pages D pg ns = (false, D) := by unfold obD; rw [h1]; rfl
    rw [e]
    simp [badB, h1]
  | true =>
    have e : obD p q pages D pg ns = if (ownD pages D [pg]).1 = false then ownD pages D [pg] else ownD pages (ownD pages D [pg]).2 ns := by unfold obD; rw [h1]; rfl
    cases h2 : f pg with
    | true =>
      have e2 : ownD pages D [pg] = (false, D) := by unfold ownD; rw [h.eq, h2]; rfl
      rw [e, e2]
      simp [badB, h2]
    | false =>
      cases h3 : cntB pg pages with
      | false =>
        have e2 : ownD pages D [pg] = (false, D) := by unfold ownD; rw [h.eq, h2, h3]; rfl
        have hb : badB p q pages f ⟨pg, none, 0, 0, 0, ns⟩ = true := by
          unfold cntB at h3
          unfold badB
          rw [h1, h2]
          simp only [Bool.and_eq_false_iff, decide_eq_false_iff_not] at h3
          simp only [Bool.not_true, Bool.false_or, Bool.or_false, Bool.or_eq_true, decide_eq_true_eq]
          omega
        rw [e, e2, hb]
        exact ⟨rfl, fun e => by cases e⟩
      | true =>
        have e2 : ownD pages D [pg] = (true, putN D pg) := by
          show (if hasN D pg then _ else if cntB pg pages = false then _ else ownD pages (putN D pg) []) = _
          rw [h.eq, h2, h3]; rfl
        have hb : badB p q pages f ⟨pg, none, 0, 0, 0, ns⟩ = false := by
          unfold cntB at h3
          unfold badB
          rw [h1, h2]
          simp only [Bool.and_eq_true, decide_eq_true_eq] at h3
          simp only [Bool.not_true, Bool.false_or, Bool.or_false, Bool.or_eq_false_iff, decide_eq_false_iff_not]
          omega
        have e3 : obD p q pages D pg ns = ownD pages (putN D pg) ns := by rw [e, e2]; rfl
        rw [e3, hb]
        exact own_dN ns (putN D pg) (upd f pg) (h.put pg) (hall h1)
/-! ### What is not seen yet -/
def cntR (pages : Nat) (f : Nat → Bool) : Nat := (List.range pages).countP fun x => !f x
theorem countP_lt (a b : Nat → Bool) (hab : ∀ y, a y = true → b y = true) (x : Nat) (hb : b x = true) (ha : a x = false) : ∀ (l : List Nat), x ∈ l → l.countP a + 1 ≤ l.countP b
  | [], h => by cases h
  | y :: l, h => by
    have hle : l.countP a ≤ l.countP b := List.countP_mono_left (fun z _ hz => hab z hz)
    by_cases e : x = y
    · subst e
      rw [List.countP_cons_of_neg (by rw [ha]; decide), List.countP_cons_of_pos hb]
      omega
    · have hm : x ∈ l := by simpa [e] using h
      have ih := countP_lt a b hab x hb ha l hm
      by_cases hay : a y = true
      · rw [List.countP_cons_of_pos hay, List.countP_cons_of_pos (hab y hay)]
        omega
      · rw [List.countP_cons_of_neg hay]
        by_cases hby : b y = true
        · rw [List.countP_cons_of_pos hby]; omega
        · rw [List.countP_cons_of_neg hby]; exact ih
theorem upd_cnt {pages : Nat} {f : Nat → Bool} {x : Nat} (hx : x < pages) (hf : f x = false) : cntR pages (upd f x) + 1 ≤ cntR pages f := by
  refine countP_lt _ _ (fun y hy => ?_) x (by rw [hf]; rfl) (by simp [upd]) _ (List.mem_range.2 hx)
  unfold upd at hy
  by_cases e : y = x
  · rw [if_pos e] at hy; cases hy
  · rw [if_neg e] at hy; exact hy
theorem dN_cnt {pages : Nat} : ∀ (ns : List Nat) (f : Nat → Bool), (∀ y ∈ ns, y < pages) → (dN f ns).1 = true → cntR pages (dN f ns).2 + ns.length ≤ cntR pages f
  | [], _, _, _ => Nat.le_refl _
  | y :: ys, f, hl, h => by
    unfold dN at h ⊢
    cases hf : f y with
    | true => rw [hf] at h; cases h
    | false =>
      rw [hf] at h
      have h1 := dN_cnt ys (upd f y) (fun z hz => hl z (List.mem_cons_of_mem _ hz)) h
      have h2 := upd_cnt (hl y (List.mem_cons_self ..)) hf
      simp only [Bool.false_eq_true, if_false, List.length_cons]
      omega
theorem ok_cnt {p q : Int} {pages : Nat} {f : Nat → Bool} {pg : Nat} {ns : List Nat} (h : okR p q pages f pg ns = true) : cntR pages (nxR f pg ns) + ns.length + 1 ≤ cntR pages f := by
  unfold okR at h
  unfold nxR
  cases hb : badB p q pages f ⟨pg, none, 0, 0, 0, ns⟩ with
  | true => rw [hb] at h; cases h
  | false =>
    rw [hb] at h
    simp only [Bool.false_eq_true, if_false] at h
    unfold badB at hb
    simp only [Bool.or_eq_false_iff, Bool.not_eq_false', decide_eq_false_iff_not] at hb
    obtain ⟨⟨⟨h1, h2⟩, h3⟩, h4⟩ := hb
    have hall : ∀ y ∈ ns, y < pages := fun y hy => by
      unfold fitsN at h1
      simp only [Bool.and_eq_true] at h1
      exact (rise_all ns 0 h1.2 y hy).2
    have e1 := dN_cnt ns (upd f pg) hall h
    have e2 := upd_cnt (f := f) (x := pg) (pages := pages) (by omega) h4
    omega
theorem cnt_none (pages : Nat) : cntR pages (fun _ => false) = pages := by
  simp [cntR]
/-! ### Reading -/
inductive RRes where
  | ok (l : List (Nat × List Nat))
  | none
  | bad
/-- What is read from a page on, behind acc, where f is seen. -/
inductive Rdr (p q : Int) (pages : Nat) (P : List Pgd) : (Nat → Bool) → Nat → List (Nat × List Nat) → RRes → Prop where
  | done {f acc} : Rdr p q pages P f 0 acc (.ok acc)
  | miss {f at_ acc} (h0 : at_ ≠ 0) (h1 : findP P at_ = .none) : Rdr p q pages P f at_ acc .none
  | bad1 {f at_ acc x} (h0 : at_ ≠ 0) (h1 : findP P at_ = some x) (h2 : x.kind ≠ 3 ∨ docOk p q x.body = false) : Rdr p q pages P f at_ acc .bad
  | bad2 {f at_ acc x} (h0 : at_ ≠ 0) (h1 : findP P at_ = some x) (h2 : x.kind = 3) (h3 : docOk p q x.body = true) (h4 : okR p q pages f at_ (qNs p q x.body) = false) : Rdr p q pages P f at_ acc .bad
  | next {f at_ acc x R} (h0 : at_ ≠ 0) (h1 : findP P at_ = some x) (h2 : x.kind = 3) (h3 : docOk p q x.body = true) (h4 : okR p q pages f at_ (qNs p q x.body) = true)
      (h5 : Rdr p q pages P (nxR f at_ (qNs p q x.body)) (qNx p q x.body) (acc ++ [(at_, qNs p q x.body)]) R) : Rdr p q pages P f at_ acc R
theorem rdr_ex {p q : Int} {pages : Nat} {P : List Pgd} : ∀ (n : Nat) (f : Nat → Bool) (at_ : Nat) (acc : List (Nat × List Nat)), cntR pages f ≤ n → ∃ R, Rdr p q pages P f at_ acc R := by
  intro n
  induction n with
  | zero =>
    intro f at_ acc h
    by_cases h0 : at_ = 0
    · subst h0; exact ⟨_, .done⟩
    · cases h1 : findP P at_ with
      | none => exact ⟨_, .miss h0 h1⟩
      | some x =>
        by_cases h2 : x.kind = 3
        · cases h3 : docOk p q x.body with
          | false => exact ⟨_, .bad1 h0 h1 (Or.inr h3)⟩
          | true =>
            cases h4 : okR p q pages f at_ (qNs p q x.body) with
            | false => exact ⟨_, .bad2 h0 h1 h2 h3 h4⟩
            | true => have := ok_cnt h4; omega
        · exact ⟨_, .bad1 h0 h1 (Or.inl h2)⟩
  | succ n ih =>
    intro f at_ acc h
    by_cases h0 : at_ = 0
    · subst h0; exact ⟨_, .done⟩
    · cases h1 : findP P at_ with
      | none => exact ⟨_, .miss h0 h1⟩
      | some x =>
        by_cases h2 : x.kind = 3
        · cases h3 : docOk p q x.body with
          | false => exact ⟨_, .bad1 h0 h1 (Or.inr h3)⟩
          | true =>
            cases h4 : okR p q pages f at_ (qNs p q x.body) with
            | false => exact ⟨_, .bad2 h0 h1 h2 h3 h4⟩
            | true =>
              have := ok_cnt h4
              obtain ⟨R, hR⟩ := ih (nxR f at_ (qNs p q x.body)) (qNx p q x.body) (acc ++ [(at_, qNs p q x.body)]) (by omega)
              exact ⟨R, .next h0 h1 h2 h3 h4 hR⟩
        · exact ⟨_, .bad1 h0 h1 (Or.inl h2)⟩
def wtK (l : List (Nat × List Nat)) : Nat := (l.map fun x => x.2.length + 1).sum
theorem wtK_app (l : List (Nat × List Nat)) (x : Nat × List Nat) : wtK (l ++ [x]) = wtK l + (x.2.length + 1) := by simp [wtK]
theorem wt_wtK : ∀ (N : List Bt), wt N = wtK (N.map Bt.key)
  | [] => rfl
  | x :: N => by
    unfold wt
    rw [wt_wtK N]
    simp [wtK, Bt.key]
end Go.Proofs.Ytajbifblbmlffaa
