/- A Writer that a call has made, and what is laid with it; head. -/
import Derived.Test.YtajpgopgohadeaaDoorW5
import Derived.Test.YtajpgopgohadeaaDoorG1
namespace Go.Proofs.YtajpgopgohadeaaDoor
open Go.RowKit

/-- A Writer at b that was made since w; its bytes are bs; what w had is as it was. -/
def WSt (w W : World) (b : Nat) (bs : List UInt8) : Prop := ∃ g, WrAt W b g bs ∧ w.heap.size ≤ b ∧ (∀ k, g = some k → w.heap.size ≤ k) ∧ Same w W
theorem WSt.base {w W : World} {b : Nat} {bs : List UInt8} (h : WSt w W b bs) : Same w W := h.choose_spec.2.2.2
theorem WSt.keep {w W W' : World} {b : Nat} {g g' : Option Nat} {bs : List UInt8} (hb : w.heap.size ≤ b) (hg : ∀ k, g = some k → w.heap.size ≤ k) (s : Same w W) (h' : WrAt W' b g' bs) (st : WrStep b g g' W W') : WSt w W' b bs := by
  refine ⟨g', h', hb, ?_, ?_⟩
  · intro k hk
    rcases st.2 k hk with e | e
    · exact hg k e
    · exact Nat.le_trans s.size e
  · refine Fr.trans s st.1 ?_
    rintro i hi (e | e)
    · omega
    · have := hg i e.symm; omega
theorem WrAt.same1 {w w' : World} {b : Nat} {g : Option Nat} {bs : List UInt8} (h : WrAt w b g bs) (k : Same w w') : WrAt w' b g bs := by
  obtain ⟨ao, c, hb, ho, hg⟩ := h
  exact ⟨ao, c, by rw [k.block b (lt_of_heap hb) (fun f => f)]; exact hb, own_frame ho k (fun _ _ f => f), hg⟩
theorem WSt.same {w W W' : World} {b : Nat} {bs : List UInt8} (h : WSt w W b bs) (s : Same W W') : WSt w W' b bs := by
  obtain ⟨g, h1, h2, h3, h4⟩ := h
  exact ⟨g, h1.same1 s, h2, h3, h4.trans s⟩
theorem wst_new (w : World) : WSt w (w.alloc (.cells #[.bool true, .slice none 0 0] 101)) w.heap.size [] :=
  ⟨none, ⟨none, 0, heap_alloc_new w _, World.ownsRow_nil _ _ _ _, rfl⟩, Nat.le_refl _, (by intro k h; cases h), (Fr.refl _ w).alloc _⟩
theorem wst_string {w W : World} {b : Nat} {bs : List UInt8} (h : WSt w W b bs) : Calls Tryd.prog 29 #[.pointer (some ⟨b, 0, none⟩)] W fun e w' => e = .returned (.string ⟨bs.toArray⟩) ∧ W = w' := by
  obtain ⟨g, h1, _⟩ := h
  exact wstring_calls h1
theorem wst_raw {w W : World} {b : Nat} {bs : List UInt8} (s : ByteArray) (h : WSt w W b bs) (hl : bs.length + s.size ≤ 1000000000000) :
    Calls Tryd.prog 26 #[.pointer (some ⟨b, 0, none⟩), .slice (some ⟨W.heap.size, 0, none⟩) 1 1] (W.alloc (.cells #[.string s] 9)) fun e w' => e = .returned (.tuple #[]) ∧ WSt w w' b (bs ++ s.data.toList) := by
  obtain ⟨g, h1, h2, h3, h4⟩ := h
  have hlt := lt_of_heap h1.choose_spec.choose_spec.1
  have hgl : ∀ k, g = some k → k < W.heap.size := by
    obtain ⟨ao, c, _, ho, rfl⟩ := h1
    intro k hk
    exact own_lt ho (by cases ao <;> simp_all [Value.ownBlock])
  have ef : flat [s] = s.data.toList := by simp [flat]
  have hw := wraw_some (w := W.alloc (.cells #[.string s] 9)) [s] W.heap.size 0 1 (by
    intro i x hx
    match i, hx with
    | 0, hx => simp at hx; subst hx; simp
    | i + 1, hx => simp at hx) (by simp) (by omega) (by intro e; have := hgl _ e.symm; omega) (by simp) (h1.same1 ((Fr.refl _ W).alloc _)) (by rw [ef, bytes_length]; exact hl)
  rw [ef] at hw
  refine hw.mono fun e w' ⟨he, g', hw', st⟩ => ⟨he, ?_⟩
  exact WSt.keep h2 h3 (h4.alloc _) hw' st
theorem wst_u8 {w W : World} {b : Nat} {bs : List UInt8} (x : Nat) (hx : x < 256 ^ 1) (h : WSt w W b bs) (hl : bs.length ≤ 1000000000000) :
    Calls Tryd.prog 34 #[.pointer (some ⟨b, 0, none⟩), .int .u8 x] W fun e w' => e = .returned (.tuple #[]) ∧ WSt w w' b (bs ++ fixB 1 x) := by
  obtain ⟨g, h1, h2, h3, h4⟩ := h
  have hx2 : x < 256 ^ 1 := hx
  refine (put_u8 (x : Int) (by omega) (by omega) h1 hl).mono fun e w' ⟨he, g', hw', st⟩ => ⟨he, ?_⟩
  exact WSt.keep h2 h3 h4 hw' st
theorem wst_u16 {w W : World} {b : Nat} {bs : List UInt8} (x : Nat) (hx : x < 256 ^ 2) (h : WSt w W b bs) (hl : bs.length ≤ 1000000000000) :
    Calls Tryd.prog 36 #[.pointer (some ⟨b, 0, none⟩), .int .u16 x] W fun e w' => e = .returned (.tuple #[]) ∧ WSt w w' b (bs ++ fixB 2 x) := by
  obtain ⟨g, h1, h2, h3, h4⟩ := h
  have hx2 : x < 256 ^ 2 := hx
  refine (put_u16 (x : Int)   h1 hl).mono fun e w' ⟨he, g', hw', st⟩ => ⟨he, ?_⟩
  exact WSt.keep h2 h3 h4 hw' st
theorem wst_u32 {w W : World} {b : Nat} {bs : List UInt8} (x : Nat) (hx : x < 256 ^ 4) (h : WSt w W b bs) (hl : bs.length ≤ 1000000000000) :
    Calls Tryd.prog 27 #[.pointer (some ⟨b, 0, none⟩), .int .u32 x] W fun e w' => e = .returned (.tuple #[]) ∧ WSt w w' b (bs ++ fixB 4 x) := by
  obtain ⟨g, h1, h2, h3, h4⟩ := h
  have hx2 : x < 256 ^ 4 := hx
  refine (put_u32 (x : Int)   h1 hl).mono fun e w' ⟨he, g', hw', st⟩ => ⟨he, ?_⟩
  exact WSt.keep h2 h3 h4 hw' st
theorem wst_u64 {w W : World} {b : Nat} {bs : List UInt8} (x : Nat) (hx : x < 256 ^ 8) (h : WSt w W b bs) (hl : bs.length ≤ 1000000000000) :
    Calls Tryd.prog 37 #[.pointer (some ⟨b, 0, none⟩), .int .u64 x] W fun e w' => e = .returned (.tuple #[]) ∧ WSt w w' b (bs ++ fixB 8 x) := by
  obtain ⟨g, h1, h2, h3, h4⟩ := h
  have hx2 : x < 256 ^ 8 := hx
  refine (put_u64 (x : Int)   h1 hl).mono fun e w' ⟨he, g', hw', st⟩ => ⟨he, ?_⟩
  exact WSt.keep h2 h3 h4 hw' st
theorem wst_pkind {w W : World} {b : Nat} {bs : List UInt8} (x : Nat) (hx : x < 256 ^ 1) (h : WSt w W b bs) (hl : bs.length ≤ 1000000000000) :
    Calls Tryd.prog 35 #[.pointer (some ⟨b, 0, none⟩), .int .u8 x] W fun e w' => e = .returned (.tuple #[]) ∧ WSt w w' b (bs ++ fixB 1 x) := by
  obtain ⟨g, h1, h2, h3, h4⟩ := h
  have hx2 : x < 256 ^ 1 := hx
  refine (put_pkind (x : Int) (by omega) (by omega) h1 hl).mono fun e w' ⟨he, g', hw', st⟩ => ⟨he, ?_⟩
  exact WSt.keep h2 h3 h4 hw' st

/-- What stands ahead of the sum in a page's form. -/
def headB (kd no vs n : Nat) : List UInt8 := [72, 87, 80, 71] ++ fixB 1 1 ++ fixB 1 kd ++ fixB 2 n ++ fixB 4 no ++ fixB 4 0 ++ fixB 8 vs ++ fixB 4 0
theorem headB_length (kd no vs n : Nat) : (headB kd no vs n).length = 28 := by simp [headB, fixB_length]

set_option maxRecDepth 100000 in
set_option maxHeartbeats 2000000 in
theorem head_calls (kd no vs : Nat) (b : ByteArray) (hkd : kd < 256) (hno : no < 4294967296) (hvs : vs < 18446744073709551616) (hb : b.size < 65536) (w : World) :
    Calls Tryd.prog 22 #[pageV kd no vs b] w fun e w' => e = .returned (.string ⟨(headB kd no vs b.size).toArray⟩) ∧ Same w w' := by
  obtain ⟨V, hV⟩ : ∃ V, V = w.alloc (.cells #[.int .u8 kd, .int .u32 no, .int .u64 vs, .string b] 41) := ⟨_, rfl⟩
  have sx : Same w V := by rw [hV]; exact (Fr.refl _ w).alloc _
  have d0 : V.cell? ⟨w.heap.size, 0, none⟩ = some (.int .u8 kd) := by rw [hV]; simp
  have d1 : V.cell? ⟨w.heap.size, 1, none⟩ = some (.int .u32 no) := by rw [hV]; simp
  have d2 : V.cell? ⟨w.heap.size, 2, none⟩ = some (.int .u64 vs) := by rw [hV]; simp
  have d3 : V.cell? ⟨w.heap.size, 3, none⟩ = some (.string b) := by rw [hV]; simp
  have hwr : IntKind.u16.wrap (b.size : Int) = (b.size : Int) := by rw [IntKind.wrap_u16]; omega
  have HD : Hid (headB kd no vs b.size = [] ++ ([72, 87, 80, 71] : List UInt8) ++ fixB 1 1 ++ fixB 1 kd ++ fixB 2 b.size ++ fixB 4 no ++ fixB 4 0 ++ fixB 8 vs ++ fixB 4 0) := by
    show _ = _; simp [headB]
  have L1 : Hid (∀ (W : World) (bb : Nat), WSt V W bb [] → Calls Tryd.prog 26 #[.pointer (some ⟨bb, 0, none⟩), .slice (some ⟨W.heap.size, 0, none⟩) 1 1] (W.alloc (.cells #[.string ⟨#[72, 87, 80, 71]⟩] 9)) fun e w' => e = .returned (.tuple #[]) ∧ WSt V w' bb ([] ++ [72, 87, 80, 71])) := fun W bb h => wst_raw ⟨#[72, 87, 80, 71]⟩ h (by decide)
  have L2 := fun (W : World) (bb : Nat) (bs : List UInt8) (h : WSt V W bb bs) (hl : bs.length ≤ 100) => wst_u8 1 (by decide) h (by omega)
  have L3 := fun (W : World) (bb : Nat) (bs : List UInt8) (h : WSt V W bb bs) (hl : bs.length ≤ 100) => wst_pkind kd hkd h (by omega)
  have L4 := fun (W : World) (bb : Nat) (bs : List UInt8) (h : WSt V W bb bs) (hl : bs.length ≤ 100) => wst_u16 b.size hb h (by omega)
  have L5 := fun (W : World) (bb : Nat) (bs : List UInt8) (h : WSt V W bb bs) (hl : bs.length ≤ 100) => wst_u32 no hno h (by omega)
  have L6 := fun (W : World) (bb : Nat) (bs : List UInt8) (h : WSt V W bb bs) (hl : bs.length ≤ 100) => wst_u32 0 (by decide) h (by omega)
  have L7 := fun (W : World) (bb : Nat) (bs : List UInt8) (h : WSt V W bb bs) (hl : bs.length ≤ 100) => wst_u64 vs hvs h (by omega)
  clear hno hvs hkd hb
  go_enter Tryd.func22, Tryd.ntmps22
  go_wp2_with fail
  rw [← hV]
  clear hV
  refine (new_calls V).mono ?_
  rintro e W0 ⟨rfl, hW0⟩
  have K0 : WSt V W0 V.heap.size [] := by rw [hW0]; exact wst_new V
  clear hW0
  obtain ⟨wb, hwb⟩ : ∃ wb, wb = V.heap.size := ⟨_, rfl⟩
  rw [← hwb] at K0 ⊢
  clear hwb
  go_wp2_with fail
  refine (L1.out W0 wb K0).mono ?_
  rintro e W1 ⟨rfl, K1⟩
  go_wp2_with fail
  refine (L2 W1 wb _ K1 (by decide)).mono ?_
  rintro e W2 ⟨rfl, K2⟩
  have c2 := K2.base.keep d0
  go_wp2_with fail
  refine (L3 W2 wb _ K2 (by simp [fixB_length])).mono ?_
  rintro e W3 ⟨rfl, K3⟩
  have c3 := K3.base.keep d3
  go_wp2_with fail
  refine (L4 W3 wb _ K3 (by simp [fixB_length])).mono ?_
  rintro e W4 ⟨rfl, K4⟩
  have c4 := K4.base.keep d1
  go_wp2_with fail
  refine (L5 W4 wb _ K4 (by simp [fixB_length])).mono ?_
  rintro e W5 ⟨rfl, K5⟩
  go_wp2_with fail
  refine (L6 W5 wb _ K5 (by simp [fixB_length])).mono ?_
  rintro e W6 ⟨rfl, K6⟩
  have c6 := K6.base.keep d2
  go_wp2_with fail
  refine (L7 W6 wb _ K6 (by simp [fixB_length])).mono ?_
  rintro e W7 ⟨rfl, K7⟩
  go_wp2_with fail
  refine (L6 W7 wb _ K7 (by simp [fixB_length])).mono ?_
  rintro e W8 ⟨rfl, K8'⟩
  have K8 : WSt V W8 wb (headB kd no vs b.size) := by rw [HD.out]; exact K8'
  clear K8' K1 K2 K3 K4 K5 K6 K7 HD
  go_wp2_with fail
  refine (wst_string K8).mono ?_
  rintro e W9 ⟨rfl, rfl⟩
  go_wp2_with fail
  go_ret
  exact ⟨rfl, sx.trans K8.base⟩
end Go.Proofs.YtajpgopgohadeaaDoor
