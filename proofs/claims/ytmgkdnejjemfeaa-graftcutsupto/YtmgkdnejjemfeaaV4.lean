/- piled over texts. -/
import Derived.Test.YtmgkdnejjemfeaaKA0J
namespace Go.Proofs.Ytmgkdnejjemfeaa
open Go.RowKit

/-- What texts weigh. -/
def textsN (ps : List ByteArray) : Nat := (ps.map fun x => textN x.size).sum
def tpileN (ps : List ByteArray) (k : Nat) : List Nat := (List.range (k + 1)).map fun j => textsN (ps.take j)
theorem tpile_succ (ps : List ByteArray) (k : Nat) : tpileN ps (k + 1) = tpileN ps k ++ [textsN (ps.take (k + 1))] := by
  unfold tpileN; rw [List.range_succ (n := k + 1), List.map_append]; rfl
theorem tpile_at (ps : List ByteArray) {k j : Nat} (h : j ≤ k) : (tpileN ps k)[j]? = some (textsN (ps.take j)) := by
  unfold tpileN; rw [List.getElem?_map, List.getElem?_range (by omega)]; rfl
theorem texts_succ {ps : List ByteArray} {k : Nat} {x : ByteArray} (h : ps[k]? = some x) : textsN (ps.take (k + 1)) = textsN (ps.take k) + textN x.size := by
  unfold textsN; rw [List.take_add_one, h]; simp
theorem texts_le : ∀ (ps : List ByteArray), (∀ x ∈ ps, x.size ≤ 1048576) → textsN ps ≤ ps.length * 2097152
  | [], _ => Nat.le_refl _
  | x :: ps, h => by
    have h1 := texts_le ps (fun y hy => h y (List.mem_cons_of_mem _ hy))
    have h4 := text_le (h x List.mem_cons_self)
    have : textsN (x :: ps) = textN x.size + textsN ps := by unfold textsN; rw [List.map_cons, List.sum_cons]
    rw [this, List.length_cons]; omega
theorem texts_take_le (ps : List ByteArray) {i j : Nat} (h : i ≤ j) : textsN (ps.take i) ≤ textsN (ps.take j) := by
  have : ps.take i = (ps.take j).take i := by rw [List.take_take, Nat.min_eq_left h]
  rw [this]
  unfold textsN
  rw [List.map_take]
  generalize (ps.take j).map (fun x => textN x.size) = l
  have := List.sum_append (l₁ := l.take i) (l₂ := l.drop i)
  rw [List.take_append_drop] at this
  omega
set_option maxRecDepth 100000 in
set_option maxHeartbeats 1000000 in
theorem piledT_calls {pa : Option Addr} {pb po cp : Nat} {ps : List ByteArray} (w : World) (hr : TRow w pa pb po ps) (hn : ps.length ≤ 1048576) (hok : ∀ x ∈ ps, x.size ≤ 1048576) :
    Calls Try.prog 44 #[.slice pa ps.length cp, .func (.func 45) #[] #[]] w fun e w' => ∃ g c, e = .returned (.slice (some ⟨g, 0, none⟩) (ps.length + 1) c) ∧ w'.ownsRow w.heap.size 3 1 (.slice (some ⟨g, 0, none⟩) (ps.length + 1) c) (ps.length + 1) (icells (tpileN ps ps.length)) ∧ Same w w' := by
  obtain ⟨W0, hm, own0, s0⟩ := make_pile w ps.length hn
  have HR : Hid (TRow w pa pb po ps) := hr
  have HK : Hid (∀ x ∈ ps, x.size ≤ 1048576) := hok
  have HP : Hid (∀ k : ByteArray, k.size ≤ 1048576 → ∀ W, Calls Try.prog 45 #[.string k] W fun e w' => e = .returned (.int .i64 (textN k.size : Nat)) ∧ Same W w') := fun k h1 W => (text_calls k W h1).mono (fun e w' h => ⟨h.1, by rw [h.2]; exact Fr.refl _ W⟩)
  clear hr hok
  go_enter Try.func44, Try.ntmps44
  go_wp2_with fail
  clear hm
  go_loopg [5, 14] ps.length (fun g sv iv w2 => ∃ (k b c : Nat), sv = .slice (some ⟨b, 0, none⟩) (k + 1) c ∧ iv = .int .i64 (k : Int) ∧ k ≤ ps.length ∧ g = ps.length - k ∧ Hid (w2.ownsRow w.heap.size 3 1 (.slice (some ⟨b, 0, none⟩) (k + 1) c) (k + 1) (icells (tpileN ps k))) ∧ Hid (Same w w2))
  case atStart => exact ⟨0, w.heap.size, ps.length + 1, rfl, rfl, by omega, rfl, own0, s0⟩
  case round =>
    obtain ⟨k, b, c, rfl, rfl, hk, hg, HO, HS⟩ := hrel
    by_cases hgo : k < ps.length
    · obtain ⟨x, hx⟩ : ∃ x, ps[k]? = some x := ⟨_, List.getElem?_eq_getElem hgo⟩
      obtain ⟨rfl, _⟩ := HR.out.place (fun h => by rw [h] at hgo; simp at hgo)
      have c0 := HS.out.keep (HR.out.cells k x hx)
      have hk1 := HK.out x (List.mem_of_getElem? hx)
      have HE : Hid (textsN (ps.take (k + 1)) = textsN (ps.take k) + textN x.size) := texts_succ hx
      have HI : Hid (IAt wr b 0 (tpileN ps k)) := own_iat HO.out
      have hle : textsN (ps.take k) ≤ 4398046511104 := by
        have := texts_le (ps.take k) (fun y hy => HK.out y (List.mem_of_mem_take hy))
        rw [List.length_take] at this; omega
      have hl1 := text_le hk1
      have HC := HP.out x hk1
      have HC : Hid (∀ W, Calls Try.prog 45 #[.string x] W fun e w' => e = .returned (.int .i64 (textN x.size : Nat)) ∧ Same W w') := HC
      have HI1 : Hid (∀ W, IAt W b 0 (tpileN ps k) → W.cell? ⟨b, k, none⟩ = some (.int .i64 (textsN (ps.take k) : Int))) := fun W h => by
        have := h k _ (tpile_at ps (Nat.le_refl k))
        rw [Nat.zero_add] at this; exact this
      generalize hy : textN x.size = y at *
      have hy2 : y ≤ 2097152 := by omega
      have HX : Hid (tpileN ps (k + 1) = tpileN ps k ++ [textsN (ps.take k) + y]) := by
        show _ = _
        rw [tpile_succ, HE.out]
      generalize textsN (ps.take k) = z at *
      clear hx hy hl1 HE
      go_wp2_with fail
      obtain ⟨V, hV⟩ : ∃ V, V = wr := ⟨_, rfl⟩
      rw [← hV]
      have s1 : Same wr V := by rw [hV]; exact Fr.refl _ wr
      have HO1 : Hid (V.ownsRow w.heap.size 3 1 (.slice (some ⟨b, 0, none⟩) (k + 1) c) (k + 1) (icells (tpileN ps k))) := by rw [hV]; exact HO.out
      have d0 : Same V V.drew := Fr.drew (Fr.refl _ V)
      have HSV : Hid (∀ W, Same V W → W.cell? ⟨b, k, none⟩ = some (.int .i64 (z : Int))) := fun W h => h.keep (HI1.out _ (HI.out.same s1))
      clear hV c0
      have k1 := HSV.out _ d0
      obtain ⟨m, hm⟩ : ∃ m, m = k + 1 := ⟨_, rfl⟩
      rw [← hm] at HO1 ⊢
      have bk0 : (0 : Int) ≤ (k : Int) := by omega
      have bk1 : (k : Int) < (m : Int) := by omega
      have hmb : m + 1 ≤ 1099511627776 := by omega
      have HM : Hid (m = k + 1) := hm
      clear hm
      have hb3 : w.heap.size ≤ b := (own_ge HO1.out).1
      have HN : Hid (∀ (W1 : World) (o : Array Value), o = #[.int .i64 (IntKind.i64.wrap ((z : Int) + (y : Int)))] → (W1.alloc (.cells o 3)).cell? ⟨W1.heap.size, 0, none⟩ = some (.int .i64 ((z + y : Nat) : Int))) := fun W1 o ho => by
        subst ho; rw [cell_of_row _ _ _ _ _ _ (heap_alloc_new W1 _), show IntKind.i64.wrap ((z : Int) + (y : Int)) = ((z + y : Nat) : Int) from by rw [IntKind.wrap_i64]; omega]; rfl
      have HW : Hid (∀ W, Same V W → W.ownsRow w.heap.size 3 1 (.slice (some ⟨b, 0, none⟩) m c) m (icells (tpileN ps k))) := fun W h => own_frameB HO1.out h (fun _ _ h => h)
      have HF : Hid (∀ (W1 W5 : World) (o : Obj), Same V W1 → (W1.alloc o).grownBy W5 (some b) → IAt W5 b 0 (tpileN ps k) → (W5.cell? ⟨b, k, none⟩ = some (.int .i64 (z : Int))) ∧ Same w W5) := fun W1 W5 o h1 h2 h3 => by
        exact ⟨HI1.out _ h3, Fr.grown ((HS.out.trans (s1.trans h1)).alloc o) h2 (fun i hi hl => by injection hi with hi; omega)⟩
      have HZ : Hid (∀ W1, Same V W1 → ∀ o, w.heap.size ≤ (W1.alloc o).heap.size) := fun W1 h o => by
        have := (HS.out.trans (s1.trans h)).size
        simp; omega
      go_region_held3 (fun W => W.cell? ⟨b, k, none⟩ = some (.int .i64 (z : Int))) (first | exact k3.1 | go_keep | exact k2 | exact k1)
        (first | (go_at_call 45; refine (HC.out _).mono ?_; rintro e W1 ⟨rfl, q1⟩; have u1 := Same.trans d0 q1; have k2 := HSV.out _ u1) | (refine step_append_kept _ (by rfl) _ _ (by rfl) w.heap.size b m c (tpileN ps k) (by rfl) ((HW.out _ u1).alloc _) ⟨W1.heap.size, 0, none⟩ 1 (z + y) (by rfl) (HN.out _ _ rfl) hmb (HZ.out _ u1 _) ?_; intro g5 cap5 W5 hown5 hgrow5 hu5; have k3 := HF.out _ _ _ u1 hgrow5 hu5))
      have HO5 : Hid (W5.ownsRow w.heap.size 3 1 (.slice (some ⟨g5, 0, none⟩) (m + 1) cap5) (m + 1) (icells (tpileN ps (k + 1)))) := by rw [HX.out]; exact hown5
      rw [HM.out] at HO5 ⊢
      have s5 := k3.2
      clear hown5 hgrow5 hu5 k1 k2 k3 HN HW HF HZ HSV HO1 HI HI1 HX
      go_wp2_with fail
      go_roundg (ps.length - (k + 1))
      case measure => omega
      case rel => exact ⟨k + 1, g5, cap5, rfl, by go_num, by omega, rfl, HO5, s5⟩
    · obtain rfl : k = ps.length := by omega
      go_wp2_with fail
      go_ret
      exact ⟨b, c, rfl, HO.out, HS.out⟩
end Go.Proofs.Ytmgkdnejjemfeaa
