/- Picked: ND, X0. -/
import Derived.Test.YtmgkdnejjemfeaaK4
import Derived.Test.YtmgkdnejjemfeaaKL
import Derived.WalkKit
import Derived.WalkSpells
import Derived.WalkLawsBesides
import Derived.Deep.AppendLies
import Derived.Lib.AppendStr
import Derived.Laws.IdiomStrings
import Derived.Test.YtmgkdnejjemfeaaProg
import Derived.Deep.LoopGhost
import Derived.Laws.Rows
import Derived.Deep.MidRow
import Derived.Deep.DeepMust
import Derived.Handy
import Derived.Laws.BitsAllLaws
import Derived.Deep.RegionLaw
import Derived.Deep.DrawnRows
import Derived.Lib.Strings
import Derived.Deep.QuietTactic
import Derived.BigQuiet
import Derived.Laws.ResultCell
import Derived.Laws.CopyOwn
import Derived.ChangeKeysEq
import Derived.BigFrame
import Derived.Deep.RegionHeld3
import Derived.Laws.DeepNot64
import Derived.Lib.LazyBuf
import Derived.Deep.OwnRows
import Derived.Test.YtmgkdnejjemfeaaRows
import Derived.ProofKit
import Derived.OpenShut
import Derived.SliceStrings
import Derived.JoinedCond
import Derived.Deep.Slices
import Derived.RegionTactic
import Derived.Deep.RegionWith
import Derived.Laws.Concat
namespace Go.Proofs.Ytmgkdnejjemfeaa
open Go.RowKit

theorem Fr.frozen {S : Nat → Prop} {w w' : World} (h : Fr S w w') {p : Addr} (hp : p.block < w.heap.size) (hn : ¬ S p.block) : w'.frozen? p = w.frozen? p := World.frozen?_of_block (w := w) (h.block p.block hp hn)

/-- The bytes bs lie in the row that a slice value owns (whatever block). -/
abbrev Owns (w : World) (v : Value) (bs : List UInt8) : Prop := w.ownsRow 0 5 1 v bs.length (bcells bs)

theorem own_frame {e : TypeId} {w w' : World} {v : Value} {n : Nat} {xs : List Value} {S : Nat → Prop} (h : w.ownsRow 0 e 1 v n xs) (hf : Fr S w w') (hn : ∀ k, v.ownBlock = some k → ¬ S k) : w'.ownsRow 0 e 1 v n xs := by
  obtain ⟨h1, h2⟩ := h
  refine ⟨h1, ?_⟩
  rcases h2 with h2 | ⟨g, cap, cur, hv, hg, hh, r⟩
  · exact Or.inl h2
  · exact Or.inr ⟨g, cap, cur, hv, hg, by rw [hf.block g (lt_of_heap hh) (hn g (by rw [hv]; rfl))]; exact hh, r⟩

/-- From w to w' the Writer at b (its row at g, then at g') alone may have turned. -/
def WrStep (b : Nat) (g g' : Option Nat) (w w' : World) : Prop := Fr (fun k => k = b ∨ some k = g) w w' ∧ (∀ k, g' = some k → g = some k ∨ w.heap.size ≤ k)
theorem WrStep.refl (b : Nat) (g : Option Nat) (w : World) : WrStep b g g w w := ⟨Fr.refl _ _, fun _ h => Or.inl h⟩
theorem WrStep.trans {b : Nat} {g g1 g2 : Option Nat} {w w1 w2 : World} (h : WrStep b g g1 w w1) (k : WrStep b g1 g2 w1 w2) : WrStep b g g2 w w2 := by
  refine ⟨h.1.trans k.1 ?_, ?_⟩
  · rintro i hi (rfl | e)
    · exact Or.inl rfl
    · rcases h.2 i e.symm with h' | h'
      · exact Or.inr h'.symm
      · omega
  · intro i hi
    rcases k.2 i hi with h' | h'
    · exact h.2 i h'
    · right; exact Nat.le_trans h.1.size h'

/-- 'string(b)' of a row that is owned. -/
theorem owns_string {P : Program} {w : World} {v : Value} {bs : List UInt8} (h : Owns w v bs) (src dst : TypeId) (hs : P.underlying src = some (.slice 5)) (he : P.underlying 5 = some (.int .u8)) (hd : P.underlying dst = some .string) :
    (convert src dst v).run P w = .ok (.string ⟨bs.toArray⟩) w := by
  rcases h.2 with ⟨hv, h0⟩ | ⟨g, cap, cur, hv, _, hg, hnc, hcm, hcs, htake⟩
  · have : bs = [] := List.eq_nil_of_length_eq_zero h0
    subst this; subst hv
    rw [run_convert_bytes_string w src dst 5 none 0 0 hs he hd]
    simp [Conv.bytesToString]
    rfl
  · subst hv
    refine run_convert_bytes_back w src dst 5 ⟨g, 0, none⟩ cap bs hs he hd ?_
    intro j hj
    refine h.cells (g := g) rfl j _ ?_
    simp [bcells, hj]


def freeF : Nat → Nat → List UInt8
  | 0, n => [UInt8.ofNat n]
  | k + 1, n => if n < 128 then [UInt8.ofNat n] else UInt8.ofNat (n % 128 + 128) :: freeF k (n / 128)
def freeB (n : Nat) : List UInt8 := freeF 9 n

def textB (s : ByteArray) : List UInt8 := freeB s.size ++ s.data.toList

theorem freeF_length (k n : Nat) : (freeF k n).length ≤ k + 1 := by
  induction k generalizing n with
  | zero => simp [freeF]
  | succ k ih => rw [freeF]; split
                 · simp
                 · have := ih (n / 128); simp; omega
theorem freeB_length (n : Nat) : (freeB n).length ≤ 10 := freeF_length 9 n


def fixB : Nat → Int → List UInt8
  | 0, _ => []
  | n + 1, x => UInt8.ofNat ((x / 256 ^ n) % 256).toNat :: fixB n x
theorem fixB_length (n : Nat) (x : Int) : (fixB n x).length = n := by induction n <;> simp [fixB, *]

theorem WrStep.same {b : Nat} {g g' : Option Nat} {w w1 w2 : World} (h : Fr (fun _ => False) w w1) (k : WrStep b g g' w1 w2) : WrStep b g g' w w2 :=
  ⟨Fr.trans (h.mono (fun _ _ f => f.elim)) k.1 (fun _ _ t => t), fun i hi => by rcases k.2 i hi with h' | h'; exact Or.inl h'; exact Or.inr (Nat.le_trans h.size h')⟩
/-- A width brought into 0 to 32. -/
def widthN (wd : Int) : Nat := (min (max wd 0) 32).toNat
def pairB (x : ByteArray × ByteArray) : List UInt8 := textB x.1 ++ textB x.2
def pairsB (ps : List (ByteArray × ByteArray)) : List UInt8 := ps.flatMap pairB
theorem pairsB_take_succ (ps : List (ByteArray × ByteArray)) (k : Nat) (x : ByteArray × ByteArray) (h : ps[k]? = some x) : pairsB (ps.take (k + 1)) = pairsB (ps.take k) ++ pairB x := by
  rw [List.take_add_one, h]
  simp [pairsB]
theorem pairsB_take_le (ps : List (ByteArray × ByteArray)) (k : Nat) : (pairsB (ps.take k)).length ≤ (pairsB ps).length := by
  have : pairsB ps = pairsB (ps.take k) ++ pairsB (ps.drop k) := by
    unfold pairsB
    rw [← List.flatMap_append, List.take_append_drop]
  rw [this, List.length_append]; omega
theorem WrStep.alloc (b : Nat) (g : Option Nat) (w : World) (o : Obj) : WrStep b g g w (w.alloc o) := ⟨(Fr.refl _ w).alloc _, fun _ h => Or.inl h⟩
/-- A block that is neither the Writer's nor its bytes' is as it was. -/
theorem WrStep.keep {b : Nat} {g g' : Option Nat} {w w' : World} (st : WrStep b g g' w w') {k : Nat} {o : Obj} (hk : w.heap[k]? = some o) (h1 : k ≠ b) (h2 : some k ≠ g) : w'.heap[k]? = some o :=
  (st.1.block k (lt_of_heap hk) (by rintro (e | e); exact h1 e; exact h2 e)).trans hk
/-- A kid's bytes: its digest cut to the width; ahead of it the page, if the form has pages. -/
def sumB (q : Int) (k : Kid) : List UInt8 := k.d.take (widthN q)
def kidB (pages : Bool) (q : Int) (k : Kid) : List UInt8 := (if pages = true then fixB 4 k.page else []) ++ sumB q k

def kidsB (pages : Bool) (q : Int) : Bool → List ByteArray → List Kid → List UInt8
  | _, _, [] => []
  | true, ss, k :: ks => kidB pages q k ++ kidsB pages q false ss ks
  | false, [], k :: ks => kidB pages q k ++ kidsB pages q false [] ks
  | false, s :: ss, k :: ks => textB s ++ kidB pages q k ++ kidsB pages q false ss ks
/-- A node's bytes. -/
def formN (pages : Bool) (q : Int) (N : Nd) : List UInt8 := if leafB N = true then 1 :: (freeB N.ps.length ++ pairsB N.ps) else 2 :: (freeB N.ks.length ++ kidsB pages q true N.ss N.ks)
structure NdCap (r : Nr) (N : Nd) : Prop where
  cs : N.ss.length ≤ r.cs
  cm : r.cs ≤ 9223372036854775807

theorem shape_sep {p q : Int} {N : Nd} (h : shapeP p q N = true) (hl : leafB N = false) : N.ss.length + 1 = N.ks.length := by
  unfold shapeP branchP at h
  rw [hl] at h
  simp only [Bool.false_eq_true, if_false, Bool.and_eq_true, Bool.not_eq_true', Bool.or_eq_false_iff, decide_eq_false_iff_not] at h
  omega
/-- What the calls answer. -/
def sizeV (p q : Int) (N : Nd) : Int := if chkN p q N = 0 then ((formN true q N).length : Int) else 0
/-- A node that is small enough for all that is asked of it. -/
structure NdOk (w : World) (r : Nr) (q : Int) (N : Nd) : Prop where
  at_ : NdAt w r N
  cap : NdCap r N
  len1 : (formN true q N).length ≤ 50000000000
  len0 : (formN false q N).length ≤ 50000000000
theorem NdOk.same {w w' : World} {r : Nr} {q : Int} {N : Nd} (h : NdOk w r q N) (s : Same w w') : NdOk w' r q N := ⟨h.at_.same s, h.cap, h.len1, h.len0⟩
theorem one_str (W : World) (c : Nat) (hc : c < 256) : (convert 96 9 (.slice (some ⟨W.heap.size, 0, none⟩) 1 1)).run Try.prog (W.alloc (.cells #[.int .u8 c] 5)) = .ok (.string ⟨#[UInt8.ofNat c]⟩) (W.alloc (.cells #[.int .u8 c] 5)) := by
  have hown : Owns (W.alloc (.cells #[.int .u8 c] 5)) (.slice (some ⟨W.heap.size, 0, none⟩) 1 1) [UInt8.ofNat c] := by
    refine ⟨rfl, Or.inr ⟨W.heap.size, 1, #[.int .u8 c], rfl, Nat.zero_le _, heap_alloc_new W _, Nat.le_refl _, by decide, rfl, ?_⟩⟩
    simp [bcells]
    omega
  exact owns_string (P := Try.prog) hown 96 9 Try.underlying96 Try.underlying5 Try.underlying9

theorem one_strD (W : World) (c : Nat) (hc : c < 256) : (convert 96 9 (.slice (some ⟨W.heap.size, 0, none⟩) 1 1)).run Try.prog (W.alloc (.cells #[.int .u8 c] 5)).drew = .ok (.string ⟨#[UInt8.ofNat c]⟩) (W.alloc (.cells #[.int .u8 c] 5)).drew := by
  have hown : Owns (W.alloc (.cells #[.int .u8 c] 5)).drew (.slice (some ⟨W.heap.size, 0, none⟩) 1 1) [UInt8.ofNat c] := by
    refine ⟨rfl, Or.inr ⟨W.heap.size, 1, #[.int .u8 c], rfl, Nat.zero_le _, heap_alloc_new W _, Nat.le_refl _, by decide, rfl, ?_⟩⟩
    simp [bcells]
    omega
  exact owns_string (P := Try.prog) hown 96 9 Try.underlying96 Try.underlying5 Try.underlying9
theorem one_strA (W : World) (c : Nat) (hc : c < 256) : (convert 96 9 (.slice (some ⟨W.heap.size, 0, none⟩) 1 1)).run Try.prog (W.drew.alloc (.cells #[.int .u8 c] 5)) = .ok (.string ⟨#[UInt8.ofNat c]⟩) (W.drew.alloc (.cells #[.int .u8 c] 5)) := one_str W.drew c hc

theorem one_strS {W W4 : World} {c : Nat} (hc : c < 256) (s : Same (W.alloc (.cells #[.int .u8 c] 5)).drew W4) : (convert 96 9 (.slice (some ⟨W.heap.size, 0, none⟩) 1 1)).run Try.prog W4 = .ok (.string ⟨#[UInt8.ofNat c]⟩) W4 := by
  have hown : Owns (W.alloc (.cells #[.int .u8 c] 5)).drew (.slice (some ⟨W.heap.size, 0, none⟩) 1 1) [UInt8.ofNat c] := by
    refine ⟨rfl, Or.inr ⟨W.heap.size, 1, #[.int .u8 c], rfl, Nat.zero_le _, heap_alloc_new W _, Nat.le_refl _, by decide, rfl, ?_⟩⟩
    simp [bcells]
    omega
  exact owns_string (P := Try.prog) (own_frame hown s (fun _ _ f => f)) 96 9 Try.underlying96 Try.underlying5 Try.underlying9

set_option maxRecDepth 100000 in
set_option maxHeartbeats 1000000 in
theorem xfree_calls (k : Nat) (hkk : k ≤ 100) : ∀ (n : Nat) (w : World), n < 18446744073709551616 → n < 128 ^ (k + 1) →
    Calls Try.prog 36 #[.int .u64 n] w fun e w' => e = .returned (.string ⟨(freeF k n).toArray⟩) ∧ Same w w' := by
  induction k with
  | zero =>
    intro n w hn hk
    have h1 : n < 128 := by simpa using hk
    have hc := fun W => one_str W n (by omega)
    go_enter Try.func36, Try.ntmps36
    go_wp2_with fail
    go_ret
    exact ⟨rfl, (Fr.refl _ w).alloc _⟩
  | succ k ih =>
    intro n w hn hk
    by_cases h1 : n < 128
    · have hc := fun W => one_str W n (by omega)
      have e : freeF (k + 1) n = [UInt8.ofNat n] := by rw [freeF, if_pos h1]
      rw [e]
      clear ih
      go_enter Try.func36, Try.ntmps36
      go_wp2_with fail
      go_ret
      exact ⟨rfl, (Fr.refl _ w).alloc _⟩
    · obtain ⟨c, hcn⟩ : ∃ c, c = n % 128 + 128 := ⟨_, rfl⟩
      have e : freeF (k + 1) n = UInt8.ofNat c :: freeF k (n / 128) := by rw [freeF, if_neg h1, hcn]
      have hclt : c < 256 := by omega
      have hc := fun W => one_str W c hclt
      have hcD := fun W => one_strD W c (by omega)
      have hcA := fun W => one_strA W c (by omega)
      have hw1 : IntKind.u8.wrap (IntKind.u8.wrap ((n : Int).tmod 128) + 128) = (c : Int) := by
        rw [IntKind.wrap_u8, IntKind.wrap_u8, Int.tmod_eq_emod_of_nonneg (by omega)]; omega
      have hw2 : IntKind.u64.wrap ((n : Int) / 128) = (n : Int) / 128 := by rw [IntKind.wrap_u64]; omega
      have HX : Hid (∀ W, Calls Try.prog 36 #[.int .u64 ((n : Int) / 128)] W fun e w' => e = .returned (.string ⟨(freeF k (n / 128)).toArray⟩) ∧ Same W w') := fun W => by
        have := ih (by omega) (n / 128) W (by omega) (by rw [Nat.pow_succ] at hk; omega)
        rwa [show ((n / 128 : Nat) : Int) = (n : Int) / 128 from by omega] at this
      obtain ⟨T, hT⟩ : ∃ T : ByteArray, T = ⟨(freeF k (n / 128)).toArray⟩ := ⟨_, rfl⟩
      have hj : (⟨#[UInt8.ofNat c]⟩ : ByteArray) ++ T = ⟨(freeF (k + 1) n).toArray⟩ := by
        rw [hT, e]; apply ByteArray.ext; simp
      have hTs : T.size ≤ k + 1 := by rw [hT]; show ((freeF k (n / 128)).toArray).size ≤ _; have := freeF_length k (n / 128); simpa using this
      have hadd := fun W => run_string_add_sum (P := Try.prog) W (⟨#[UInt8.ofNat c]⟩ : ByteArray) T (by have : (⟨#[UInt8.ofNat c]⟩ : ByteArray).size = 1 := rfl; omega)
      rw [← hj]
      rw [← hT] at HX
      clear ih e hT hj hcn
      go_enter Try.func36, Try.ntmps36
      go_wp2_with fail
      go_region_with (first | (go_at_call 36; refine (HX.out _).mono ?_; rintro e W4 ⟨rfl, s4⟩; try have hc4 := one_strS hclt s4))
      all_goals go_wp2_with fail
      all_goals go_ret
      all_goals first
        | exact ⟨rfl, Fr.trans ((Fr.alloc (Fr.refl _ w) _).drew) s4 (fun _ _ f => f)⟩
        | exact ⟨rfl, (Fr.trans (Fr.drew (Fr.refl _ w)) s4 (fun _ _ f => f)).alloc _⟩

theorem xfreeB_calls (n : Nat) (w : World) (hn : n < 18446744073709551616) :
    Calls Try.prog 36 #[.int .u64 n] w fun e w' => e = .returned (.string ⟨(freeB n).toArray⟩) ∧ Same w w' :=
  xfree_calls 9 (by omega) n w hn (by have : (128 : Nat) ^ (9 + 1) = 1180591620717411303424 := by decide
                                      omega)

end Go.Proofs.Ytmgkdnejjemfeaa
