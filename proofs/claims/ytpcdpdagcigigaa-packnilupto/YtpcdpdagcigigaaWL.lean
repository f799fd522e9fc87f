/-
  Walks: how a step is laid, whatever its kind.
-/
import Derived.Test.YtpcdpdagcigigaaWJ
import Derived.Test.YtpcdpdagcigigaaWK
import Derived.Deep.RegionHeld3
namespace Go.Proofs.Ytpcdpdagcigigaa
open Go.RowKit

/-- A slice value in memory below block B whose elements are these. -/
def ElemIn {α : Type} (val : α → Value) (B : Nat) (w : World) (v : Value) (l : List α) : Prop :=
  ∃ ad c, v = .slice ad l.length c ∧ l.length ≤ 100000000000 ∧ (l = [] ∨ ∃ ab ao, ad = some ⟨ab, ao, none⟩ ∧ ab < B ∧ ∀ i x, l[i]? = some x → w.cell? ⟨ab, ao + i, none⟩ = some (val x))
theorem ElemIn.below {α : Type} {val : α → Value} {B : Nat} {w w' : World} {v : Value} {l : List α} (h : ElemIn val B w v l) (k : Below B w w') : ElemIn val B w' v l := by
  obtain ⟨ad, c, hv, hl, h⟩ := h
  refine ⟨ad, c, hv, hl, ?_⟩
  rcases h with h | ⟨ab, ao, e, hlt, h⟩
  · exact Or.inl h
  · exact Or.inr ⟨ab, ao, e, hlt, fun i x hi => by rw [k.cell (p := ⟨ab, ao + i, none⟩) hlt]; exact h i x hi⟩
abbrev vNum : Nat → Value := fun n => .int .u64 (n : Int)

/-- The Writer at b lies above B. -/
def Above (B b : Nat) (g : Option Nat) : Prop := B ≤ b ∧ ∀ k, g = some k → B ≤ k
theorem Above.step {B b : Nat} {g g' : Option Nat} {w w' : World} (h : Above B b g) (st : WrStep b g g' w w') (hB : B ≤ w.heap.size) : Above B b g' :=
  ⟨h.1, fun k hk => by rcases st.2 k hk with e | e; exact h.2 k e; omega⟩
theorem Above.below {B b : Nat} {g g' : Option Nat} {w w' : World} (h : Above B b g) (st : WrStep b g g' w w') (hB : B ≤ w.heap.size) : Below B w w' :=
  Fr.below st.1 hB (by rintro k (e | e); rw [e]; exact h.1; exact h.2 k e.symm)

theorem raw_in {w : World} {b B : Nat} {g : Option Nat} {bs : List UInt8} {v : Value} {ss : List ByteArray} (h : WrAt w b g bs) (ha : Above B b g) (hB : B ≤ w.heap.size) (he : ElemIn Value.string B w v ss) (hl : bs.length + (flat ss).length ≤ 700000000000) :
    Calls Try.prog 39 #[.pointer (some ⟨b, 0, none⟩), v] w fun e w' => e = .returned (.tuple #[]) ∧ ∃ g', WrAt w' b g' (bs ++ flat ss) ∧ WrStep b g g' w w' := by
  obtain ⟨ad, c, rfl, hn, he⟩ := he
  rcases he with rfl | ⟨ab, ao, rfl, hlt, he⟩
  · refine (wraw_none ad c h).mono ?_
    rintro e w' ⟨rfl, rfl⟩
    exact ⟨rfl, g, by simpa [flat] using h, WrStep.refl _ _ _⟩
  · exact wraw_some ss ab ao c he (by omega) (by have := ha.1; omega) (by intro e; have := ha.2 ab e.symm; omega) (by omega) h (by omega)

theorem each_in_Text {w : World} {b B : Nat} {g : Option Nat} {bs : List UInt8} {v : Value} {l : List ByteArray} (hok : ∀ x ∈ l, True) (h : WrAt w b g bs) (ha : Above B b g) (hB : B ≤ w.heap.size) (he : ElemIn Value.string B w v l) (hl : bs.length + (laidAll textB l).length ≤ 700000000000) :
    Calls Try.prog 44 #[.pointer (some ⟨b, 0, none⟩), v, .func (.func 45) #[] #[]] w fun e w' => e = .returned (.tuple #[]) ∧ ∃ g', WrAt w' b g' (bs ++ (freeB l.length ++ laidAll textB l)) ∧ WrStep b g g' w w' := by
  obtain ⟨ad, c, rfl, hn, he⟩ := he
  rcases he with rfl | ⟨ab, ao, rfl, hlt, he⟩
  · exact each_layText_none ad c h (by omega)
  · exact each_layText l hok ab ao c he (by omega) (by have := ha.1; omega) (by intro e; have := ha.2 ab e.symm; omega) hn h (by omega)
theorem each_in_Free {w : World} {b B : Nat} {g : Option Nat} {bs : List UInt8} {v : Value} {l : List Nat} (hok : ∀ x ∈ l, x < 18446744073709551616) (h : WrAt w b g bs) (ha : Above B b g) (hB : B ≤ w.heap.size) (he : ElemIn vNum B w v l) (hl : bs.length + (laidAll freeB l).length ≤ 700000000000) :
    Calls Try.prog 5 #[.pointer (some ⟨b, 0, none⟩), v, .func (.func 43) #[] #[]] w fun e w' => e = .returned (.tuple #[]) ∧ ∃ g', WrAt w' b g' (bs ++ (freeB l.length ++ laidAll freeB l)) ∧ WrStep b g g' w w' := by
  obtain ⟨ad, c, rfl, hn, he⟩ := he
  rcases he with rfl | ⟨ab, ao, rfl, hlt, he⟩
  · exact each_layFree_none ad c h (by omega)
  · exact each_layFree l hok ab ao c he (by omega) (by have := ha.1; omega) (by intro e; have := ha.2 ab e.symm; omega) hn h (by omega)
theorem each_in_Bytes {w : World} {b B : Nat} {g : Option Nat} {bs : List UInt8} {v : Value} {l : List ByteArray} (hs : ∀ x ∈ l, x.size ≤ 100000000000) (h : WrAt w b g bs) (ha : Above B b g) (hB : B ≤ w.heap.size) (he : ElemIn Value.string B w v l) (hl : bs.length + (laidAll textB l).length ≤ 700000000000) :
    Calls Try.prog 44 #[.pointer (some ⟨b, 0, none⟩), v, .func (.func 46) #[] #[]] w fun e w' => e = .returned (.tuple #[]) ∧ ∃ g', WrAt w' b g' (bs ++ (freeB l.length ++ laidAll textB l)) ∧ WrStep b g g' w w' := by
  obtain ⟨ad, c, rfl, hn, he⟩ := he
  rcases he with rfl | ⟨ab, ao, rfl, hlt, he⟩
  · exact each_layBytes_none ad c h (by omega)
  · exact each_layBytes l (fun _ _ => trivial) ab ao c he (by omega) (by have := ha.1; omega) (by intro e; have := ha.2 ab e.symm; omega) hn h (by omega) hs
set_option maxRecDepth 100000 in
set_option maxHeartbeats 1000000 in
theorem lay_9 {w : World} {b : Nat} {g : Option Nat} {bs : List UInt8} (kd : Int) (hkd : kd = 9) (n : Nat) (i : Int) (s : ByteArray) (pa : Option Addr) (pl pc : Nat) (na : Option Addr) (nl nc : Nat) (wd : Int) (m : Nat) (bd : Int) (h : WrAt w b g bs) (hn : n < 18446744073709551616) (hl : bs.length ≤ 700000000000) :
    Calls Try.prog 4 #[.pointer (some ⟨b, 0, none⟩), stepV kd n i s pa pl pc na nl nc wd m bd] w fun e w' => e = .returned (.tuple #[]) ∧ ∃ g', WrAt w' b g' (bs ++ freeB n) ∧ WrStep b g g' w w' := by
  have sa : Fr (fun _ => False) w (w.alloc (.cells #[.int .i64 kd, .int .u64 n, .int .i64 i, .string s, .slice pa pl pc, .slice na nl nc, .int .i64 wd, .int .u64 m, .int .i64 bd] 26)) := (Fr.refl _ w).alloc _
  have h1 := h.same sa
  subst hkd
  go_enter Try.func4, Try.ntmps4
  go_wp2_with fail
  refine (wfree_calls n hn h1 (by omega)).mono ?_
  rintro e w1 ⟨rfl, g1, h2, st⟩
  go_wp2_with fail
  go_end0
  exact ⟨rfl, g1, h2, WrStep.same sa st⟩
set_option maxRecDepth 100000 in
set_option maxHeartbeats 1000000 in
theorem lay_10 {w : World} {b : Nat} {g : Option Nat} {bs : List UInt8} (kd : Int) (hkd : kd = 10) (n : Nat) (i : Int) (s : ByteArray) (pa : Option Addr) (pl pc : Nat) (na : Option Addr) (nl nc : Nat) (wd : Int) (m : Nat) (bd : Int) (h : WrAt w b g bs) (h0 : -9223372036854775808 ≤ i) (h3 : i ≤ 9223372036854775807) (hl : bs.length ≤ 700000000000) :
    Calls Try.prog 4 #[.pointer (some ⟨b, 0, none⟩), stepV kd n i s pa pl pc na nl nc wd m bd] w fun e w' => e = .returned (.tuple #[]) ∧ ∃ g', WrAt w' b g' (bs ++ freeB (zig i)) ∧ WrStep b g g' w w' := by
  have sa : Fr (fun _ => False) w (w.alloc (.cells #[.int .i64 kd, .int .u64 n, .int .i64 i, .string s, .slice pa pl pc, .slice na nl nc, .int .i64 wd, .int .u64 m, .int .i64 bd] 26)) := (Fr.refl _ w).alloc _
  have h1 := h.same sa
  subst hkd
  go_enter Try.func4, Try.ntmps4
  go_wp2_with fail
  refine (wsigned_calls i h0 h3 h1 (by omega)).mono ?_
  rintro e w1 ⟨rfl, g1, h2, st⟩
  go_wp2_with fail
  go_end0
  exact ⟨rfl, g1, h2, WrStep.same sa st⟩
set_option maxRecDepth 100000 in
set_option maxHeartbeats 1000000 in
theorem lay_11 {w : World} {b B : Nat} {g : Option Nat} {bs : List UInt8} (kd : Int) (hkd : kd = 11) (n : Nat) (i : Int) (s : ByteArray) (pa : Option Addr) (pl pc : Nat) (na : Option Addr) (nl nc : Nat) (wd : Int) (m : Nat) (bd : Int) (h : WrAt w b g bs) (ha : Above B b g) (hB : B ≤ w.heap.size) (ss : List ByteArray) (he : ElemIn Value.string B w (.slice pa pl pc) ss) (hl : bs.length + (flat ss).length ≤ 700000000000) :
    Calls Try.prog 4 #[.pointer (some ⟨b, 0, none⟩), stepV kd n i s pa pl pc na nl nc wd m bd] w fun e w' => e = .returned (.tuple #[]) ∧ ∃ g', WrAt w' b g' (bs ++ flat ss) ∧ WrStep b g g' w w' := by
  have sa : Fr (fun _ => False) w (w.alloc (.cells #[.int .i64 kd, .int .u64 n, .int .i64 i, .string s, .slice pa pl pc, .slice na nl nc, .int .i64 wd, .int .u64 m, .int .i64 bd] 26)) := (Fr.refl _ w).alloc _
  have h1 := h.same sa
  have hB1 : B ≤ (w.alloc (.cells #[.int .i64 kd, .int .u64 n, .int .i64 i, .string s, .slice pa pl pc, .slice na nl nc, .int .i64 wd, .int .u64 m, .int .i64 bd] 26)).heap.size := by simp; omega
  have he1 := he.below (Fr.below sa hB (fun _ f => f.elim))
  subst hkd
  go_enter Try.func4, Try.ntmps4
  go_wp2_with fail
  refine (raw_in h1 ha hB1 he1 hl).mono ?_
  rintro e w1 ⟨rfl, g1, h2, st⟩
  go_wp2_with fail
  go_end0
  exact ⟨rfl, g1, h2, WrStep.same sa st⟩
set_option maxRecDepth 100000 in
set_option maxHeartbeats 1000000 in
theorem lay_12 {w : World} {b : Nat} {g : Option Nat} {bs : List UInt8} (kd : Int) (hkd : kd = 12) (n : Nat) (i : Int) (s : ByteArray) (pa : Option Addr) (pl pc : Nat) (na : Option Addr) (nl nc : Nat) (wd : Int) (m : Nat) (bd : Int) (h : WrAt w b g bs) (hl : bs.length + s.size ≤ 700000000000) :
    Calls Try.prog 4 #[.pointer (some ⟨b, 0, none⟩), stepV kd n i s pa pl pc na nl nc wd m bd] w fun e w' => e = .returned (.tuple #[]) ∧ ∃ g', WrAt w' b g' (bs ++ textB s) ∧ WrStep b g g' w w' := by
  have sa : Fr (fun _ => False) w (w.alloc (.cells #[.int .i64 kd, .int .u64 n, .int .i64 i, .string s, .slice pa pl pc, .slice na nl nc, .int .i64 wd, .int .u64 m, .int .i64 bd] 26)) := (Fr.refl _ w).alloc _
  have h1 := h.same sa
  subst hkd
  go_enter Try.func4, Try.ntmps4
  go_wp2_with fail
  refine (wtext_calls s h1 (by omega)).mono ?_
  rintro e w1 ⟨rfl, g1, h2, st⟩
  go_wp2_with fail
  go_end0
  exact ⟨rfl, g1, h2, WrStep.same sa st⟩
set_option maxRecDepth 100000 in
set_option maxHeartbeats 1000000 in
theorem lay_14 {w : World} {b B : Nat} {g : Option Nat} {bs : List UInt8} (kd : Int) (hkd : kd = 14) (n : Nat) (i : Int) (s : ByteArray) (pa : Option Addr) (pl pc : Nat) (na : Option Addr) (nl nc : Nat) (wd : Int) (m : Nat) (bd : Int) (h : WrAt w b g bs) (ha : Above B b g) (hB : B ≤ w.heap.size) (ns : List Nat) (hok : ∀ x ∈ ns, x < 18446744073709551616) (he : ElemIn vNum B w (.slice na nl nc) ns) (hl : bs.length + (laidAll freeB ns).length ≤ 700000000000) :
    Calls Try.prog 4 #[.pointer (some ⟨b, 0, none⟩), stepV kd n i s pa pl pc na nl nc wd m bd] w fun e w' => e = .returned (.tuple #[]) ∧ ∃ g', WrAt w' b g' (bs ++ (freeB ns.length ++ laidAll freeB ns)) ∧ WrStep b g g' w w' := by
  have sa : Fr (fun _ => False) w (w.alloc (.cells #[.int .i64 kd, .int .u64 n, .int .i64 i, .string s, .slice pa pl pc, .slice na nl nc, .int .i64 wd, .int .u64 m, .int .i64 bd] 26)) := (Fr.refl _ w).alloc _
  have h1 := h.same sa
  have hB1 : B ≤ (w.alloc (.cells #[.int .i64 kd, .int .u64 n, .int .i64 i, .string s, .slice pa pl pc, .slice na nl nc, .int .i64 wd, .int .u64 m, .int .i64 bd] 26)).heap.size := by simp; omega
  have he1 := he.below (Fr.below sa hB (fun _ f => f.elim))
  subst hkd
  go_enter Try.func4, Try.ntmps4
  go_wp2_with fail
  refine (each_in_Free hok h1 ha hB1 he1 hl).mono ?_
  rintro e w1 ⟨rfl, g1, h2, st⟩
  go_wp2_with fail
  go_end0
  exact ⟨rfl, g1, h2, WrStep.same sa st⟩
set_option maxRecDepth 100000 in
set_option maxHeartbeats 1000000 in
theorem lay_15 {w : World} {b B : Nat} {g : Option Nat} {bs : List UInt8} (kd : Int) (hkd : kd = 15) (n : Nat) (i : Int) (s : ByteArray) (pa : Option Addr) (pl pc : Nat) (na : Option Addr) (nl nc : Nat) (wd : Int) (m : Nat) (bd : Int) (h : WrAt w b g bs) (ha : Above B b g) (hB : B ≤ w.heap.size) (ss : List ByteArray) (he : ElemIn Value.string B w (.slice pa pl pc) ss) (hl : bs.length + (laidAll textB ss).length ≤ 700000000000) :
    Calls Try.prog 4 #[.pointer (some ⟨b, 0, none⟩), stepV kd n i s pa pl pc na nl nc wd m bd] w fun e w' => e = .returned (.tuple #[]) ∧ ∃ g', WrAt w' b g' (bs ++ (freeB ss.length ++ laidAll textB ss)) ∧ WrStep b g g' w w' := by
  have sa : Fr (fun _ => False) w (w.alloc (.cells #[.int .i64 kd, .int .u64 n, .int .i64 i, .string s, .slice pa pl pc, .slice na nl nc, .int .i64 wd, .int .u64 m, .int .i64 bd] 26)) := (Fr.refl _ w).alloc _
  have h1 := h.same sa
  have hB1 : B ≤ (w.alloc (.cells #[.int .i64 kd, .int .u64 n, .int .i64 i, .string s, .slice pa pl pc, .slice na nl nc, .int .i64 wd, .int .u64 m, .int .i64 bd] 26)).heap.size := by simp; omega
  have he1 := he.below (Fr.below sa hB (fun _ f => f.elim))
  subst hkd
  go_enter Try.func4, Try.ntmps4
  go_wp2_with fail
  refine (each_in_Text (fun _ _ => trivial) h1 ha hB1 he1 hl).mono ?_
  rintro e w1 ⟨rfl, g1, h2, st⟩
  go_wp2_with fail
  go_end0
  exact ⟨rfl, g1, h2, WrStep.same sa st⟩
set_option maxRecDepth 100000 in
set_option maxHeartbeats 1000000 in
theorem lay_16 {w : World} {b B : Nat} {g : Option Nat} {bs : List UInt8} (kd : Int) (hkd : kd = 16) (n : Nat) (i : Int) (s : ByteArray) (pa : Option Addr) (pl pc : Nat) (na : Option Addr) (nl nc : Nat) (wd : Int) (m : Nat) (bd : Int) (h : WrAt w b g bs) (ha : Above B b g) (hB : B ≤ w.heap.size) (ss : List ByteArray) (hs : ∀ x ∈ ss, x.size ≤ 100000000000) (he : ElemIn Value.string B w (.slice pa pl pc) ss) (hl : bs.length + (laidAll textB ss).length ≤ 700000000000) :
    Calls Try.prog 4 #[.pointer (some ⟨b, 0, none⟩), stepV kd n i s pa pl pc na nl nc wd m bd] w fun e w' => e = .returned (.tuple #[]) ∧ ∃ g', WrAt w' b g' (bs ++ (freeB ss.length ++ laidAll textB ss)) ∧ WrStep b g g' w w' := by
  have sa : Fr (fun _ => False) w (w.alloc (.cells #[.int .i64 kd, .int .u64 n, .int .i64 i, .string s, .slice pa pl pc, .slice na nl nc, .int .i64 wd, .int .u64 m, .int .i64 bd] 26)) := (Fr.refl _ w).alloc _
  have h1 := h.same sa
  have hB1 : B ≤ (w.alloc (.cells #[.int .i64 kd, .int .u64 n, .int .i64 i, .string s, .slice pa pl pc, .slice na nl nc, .int .i64 wd, .int .u64 m, .int .i64 bd] 26)).heap.size := by simp; omega
  have he1 := he.below (Fr.below sa hB (fun _ f => f.elim))
  subst hkd
  go_enter Try.func4, Try.ntmps4
  go_wp2_with fail
  refine (each_in_Bytes hs h1 ha hB1 he1 hl).mono ?_
  rintro e w1 ⟨rfl, g1, h2, st⟩
  go_wp2_with fail
  go_end0
  exact ⟨rfl, g1, h2, WrStep.same sa st⟩
set_option maxRecDepth 100000 in
set_option maxHeartbeats 1000000 in
theorem lay_13 {w : World} {b : Nat} {g : Option Nat} {bs : List UInt8} (kd : Int) (hkd : kd = 13) (n : Nat) (i : Int) (s : ByteArray) (pa : Option Addr) (pl pc : Nat) (na : Option Addr) (nl nc : Nat) (wd : Int) (m : Nat) (bd : Int) (h : WrAt w b g bs) (hs : s.size ≤ 281474976710656) (hl : bs.length ≤ 700000000000) :
    Calls Try.prog 4 #[.pointer (some ⟨b, 0, none⟩), stepV kd n i s pa pl pc na nl nc wd m bd] w fun e w' => e = .returned (.tuple #[]) ∧ ∃ g', WrAt w' b g' (bs ++ (dig32 s).take (widthN wd)) ∧ WrStep b g g' w w' := by
  have sa : Fr (fun _ => False) w (w.alloc (.cells #[.int .i64 kd, .int .u64 n, .int .i64 i, .string s, .slice pa pl pc, .slice na nl nc, .int .i64 wd, .int .u64 m, .int .i64 bd] 26)) := (Fr.refl _ w).alloc _
  have h1 := h.same sa
  subst hkd
  have hD := dig32_length s
  have hlw := h.lt
  have hnb : ¬ (w.heap.size = b ∨ some w.heap.size = g) := by rintro (e | e); omega; have := hlw.2 _ e.symm; omega
  go_enter Try.func4, Try.ntmps4
  go_wp2_with fail
  obtain ⟨W, hW⟩ : ∃ W, W = w.alloc (.cells #[.int .i64 13, .int .u64 n, .int .i64 i, .string s, .slice pa pl pc, .slice na nl nc, .int .i64 wd, .int .u64 m, .int .i64 bd] 26) := ⟨_, rfl⟩
  have c3 : W.cell? ⟨w.heap.size, 3, none⟩ = some (.string s) := by rw [hW]; simp
  have c6 : W.cell? ⟨w.heap.size, 6, none⟩ = some (.int .i64 wd) := by rw [hW]; simp
  rw [← hW] at sa h1 ⊢
  clear hW
  have HL : Hid (∀ W1, Calls Try.prog 42 #[.string s] W1 fun e w' => e = .returned (.agg (bcells (dig32 s)).toArray) ∧ Fr (fun _ => False) W1 w') := fun W1 => ldigest_calls W1 s hs
  obtain ⟨A, hA⟩ : ∃ A, A = (bcells (dig32 s)).toArray := ⟨_, rfl⟩
  have HG : Hid (∀ W1, Fr (fun _ => False) W W1 → Calls Try.prog 41 #[.pointer (some ⟨b, 0, none⟩), .int .i64 wd, .agg A] W1 fun e w' => e = .returned (.tuple #[]) ∧ ∃ g', WrAt w' b g' (bs ++ (dig32 s).take (widthN wd)) ∧ WrStep b g g' W1 w') := fun W1 f => by rw [hA]; exact wdigest_calls wd (dig32 s) hD (h1.same f) (by omega)
  rw [← hA] at HL
  clear hA hD h1
  go_region_held3 (fun w' => w'.cell? ⟨w.heap.size, 3, none⟩ = some (.string s) ∧ w'.cell? ⟨w.heap.size, 6, none⟩ = some (.int .i64 wd))
    (first | go_keep | exact ⟨d3, d6⟩ | exact ⟨e3, e6⟩)
    (first | (go_at_call 42; refine (HL.out _).mono ?_; rintro e W1 ⟨rfl, f1⟩; have d3 := (f1.cell (World.block_lt_of_cell? _ _ c3) (fun f => f)).trans c3; have d6 := (f1.cell (World.block_lt_of_cell? _ _ c6) (fun f => f)).trans c6) | (go_at_call 41; refine (HG.out _ (Fr.trans ((Fr.refl _ W).drew) f1 (fun _ _ f => f))).mono ?_; rintro e W2 ⟨rfl, g2, h2, st2⟩; have e3 := (st2.1.cell (World.block_lt_of_cell? _ _ d3) hnb).trans d3; have e6 := (st2.1.cell (World.block_lt_of_cell? _ _ d6) hnb).trans d6))
  go_wp2_with fail
  go_end0
  exact ⟨rfl, g2, h2, WrStep.same (Fr.trans sa ((Fr.trans ((Fr.refl _ W).drew) f1 (fun _ _ f => f))) (fun _ _ f => f)) st2⟩
set_option maxRecDepth 100000 in
set_option maxHeartbeats 1000000 in
theorem lay_other {w : World} {b : Nat} {g : Option Nat} {bs : List UInt8} (kd : Int) (hkd : kd < 0 ∨ 16 < kd) (n : Nat) (i : Int) (s : ByteArray) (pa : Option Addr) (pl pc : Nat) (na : Option Addr) (nl nc : Nat) (wd : Int) (m : Nat) (bd : Int) (h : WrAt w b g bs) :
    Calls Try.prog 4 #[.pointer (some ⟨b, 0, none⟩), stepV kd n i s pa pl pc na nl nc wd m bd] w fun e w' => e = .returned (.tuple #[]) ∧ ∃ g', WrAt w' b g' (bs ++ []) ∧ WrStep b g g' w w' := by
  have sa : Fr (fun _ => False) w (w.alloc (.cells #[.int .i64 kd, .int .u64 n, .int .i64 i, .string s, .slice pa pl pc, .slice na nl nc, .int .i64 wd, .int .u64 m, .int .i64 bd] 26)) := (Fr.refl _ w).alloc _
  have h1 := h.same sa
  rcases hkd with hkd | hkd
  all_goals
    go_enter Try.func4, Try.ntmps4
    go_wp2_with fail
    go_end0
    exact ⟨rfl, g, by simpa using h1, WrStep.same sa (WrStep.refl _ _ _)⟩
end Go.Proofs.Ytpcdpdagcigigaa
