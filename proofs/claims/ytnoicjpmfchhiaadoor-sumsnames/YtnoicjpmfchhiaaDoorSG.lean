/-
  Walks: CRC, awake.
-/
import Derived.Test.YtnoicjpmfchhiaaDoorSF
import Derived.ChangeKeysEq
import Derived.BigFrame
namespace Go.Proofs.YtnoicjpmfchhiaaDoor
open Go.RowKit

/-- The CRC of parts. -/
def crcP (ss : List ByteArray) : UInt32 := ss.foldl (fun c s => moreP c s.data.toList) 0
theorem TabAt.same {w w' : World} (h : TabAt w) (s : Same w w') : TabAt w' := fun k hk => s.keep (h k hk)

set_option maxRecDepth 100000 in
set_option maxHeartbeats 400000 in
theorem crc_calls (w : World) (ht : TabAt w) (ss : List ByteArray) (pa : Option Addr) (pb po pc : Nat) (hp : ss ≠ [] → pa = some ⟨pb, po, none⟩) (hps : ∀ j s, ss[j]? = some s → w.cell? ⟨pb, po + j, none⟩ = some (.string s)) (hz : ∀ s ∈ ss, s.size ≤ 281474976710656) (hsl : ss.length ≤ 281474976710656) :
    Calls Tryd.prog 10 #[.slice pa ss.length pc] w fun e w' => e = .returned (.int .u32 (crcP ss).toNat) ∧ w' = w := by
  have HM : Hid (∀ sum (s : ByteArray), s ∈ ss → Calls Tryd.prog 18 #[.int .u32 (sum : UInt32).toNat, .string s] w fun e w' => e = .returned (.int .u32 (moreP sum s.data.toList).toNat) ∧ w' = w) := fun sum s h => more_calls w sum s (hz s h) ht
  have HPS : Hid (∀ j s, ss[j]? = some s → w.cell? ⟨pb, po + j, none⟩ = some (.string s)) := hps
  have HP : Hid (ss ≠ [] → pa = some ⟨pb, po, none⟩) := hp
  have HT : Hid (TabAt w) := ht
  clear hps hz ht hp
  go_enter Tryd.func10, Tryd.ntmps10
  go_wp2_with fail
  go_loop [3, 8] (fun r i => ∃ k : Nat, k ≤ ss.length ∧ i = .int .i64 k ∧ r = .int .u32 (crcP (ss.take k)).toNat) (fun _ i => ss.length - (intOf i).toNat)
  case atStart => exact ⟨0, Nat.zero_le _, rfl, rfl⟩
  case round =>
    obtain ⟨k, hk, rfl, rfl⟩ := hrel
    by_cases hgo : k < ss.length
    · obtain ⟨s, hs⟩ : ∃ s, ss[k]? = some s := ⟨_, List.getElem?_eq_getElem hgo⟩
      have hne : ss ≠ [] := by intro e; rw [e] at hgo; simp at hgo
      obtain rfl := HP.out hne
      have hcs := HPS.out k s hs
      have hmem : s ∈ ss := List.mem_of_getElem? hs
      obtain ⟨c, hc⟩ : ∃ c, c = crcP (ss.take k) := ⟨_, rfl⟩
      have hc2 : Hid (crcP (ss.take (k + 1)) = moreP c s.data.toList) := by
        show _ = _
        rw [hc, List.take_add_one, hs]
        simp [crcP]
      rw [← hc]
      have HM' := HM.out c s hmem
      clear hc hs hmem hne
      go_wp2_with fail
      refine HM'.mono ?_
      rintro e W1 ⟨rfl, hW1⟩
      rw [hW1]
      clear hW1
      go_wp2_with fail
      go_round
      case rel => exact ⟨k + 1, by omega, by go_num, by rw [hc2.out]⟩
      case measure => simp [intOf]; omega
    · obtain rfl : k = ss.length := by omega
      rw [List.take_length]
      go_wp2_with fail
      go_ret
      exact ⟨rfl, rfl⟩

theorem Tryd.plain8 : Tryd.prog.plainKey 5 = true := by kernel_rfl
theorem Tryd.und8 : Tryd.prog.underlying 5 = some (.int .u8) := by kernel_rfl
theorem Tryd.cells8 : Tryd.prog.cellsOf 5 = 1 := by kernel_rfl
theorem Tryd.aund32 : Tryd.prog.underlying 29 = some (.array 32 5) := by kernel_rfl
theorem eqItems_gen (W : World) (d : Nat) (D E : List UInt8) (is : List Nat) (hD : ∀ i ∈ is, i < D.length) (hE : ∀ i ∈ is, i < E.length) : (Op.eqItems (d + 1) 5 1 (bcells D).toArray (bcells E).toArray is).run Tryd.prog W = .ok (is.all fun i => D.getD i 0 == E.getD i 0) W := by
  induction is with
  | nil => simp [Op.eqItems]
  | cons i is ih =>
    have hd := hD i (by simp)
    have he := hE i (by simp)
    have h1 : (part 5 (bcells D).toArray (i * 1)).run Tryd.prog W = .ok (.int .u8 ((D.getD i 0).toNat : Int)) W := run_part_plain W Tryd.plain8 (by rw [Nat.mul_one]; simp [bcells, hd])
    have h1' : (part 5 (bcells E).toArray (i * 1)).run Tryd.prog W = .ok (.int .u8 ((E.getD i 0).toNat : Int)) W := run_part_plain W Tryd.plain8 (by rw [Nat.mul_one]; simp [bcells, he])
    have h2 := run_equalIn_int W d 5 .u8 .u8 ((D.getD i 0).toNat : Int) ((E.getD i 0).toNat : Int) Tryd.und8
    have hih := ih (fun j hj => hD j (by simp [hj])) (fun j hj => hE j (by simp [hj]))
    simp only [Op.eqItems, Sem.run_bind, h1, h1', h2, Result.andThen_ok]
    rw [List.all_cons]
    generalize D.getD i 0 = x at *
    generalize E.getD i 0 = y at *
    by_cases h : x = y
    · subst h
      simp [hih]
    · have h' : ¬ (x.toNat : Int) = (y.toNat : Int) := by
        intro e
        apply h
        apply UInt8.toNat_inj.1
        omega
      have h3 : (x == y) = false := by simpa using h
      have h4 : ((x.toNat : Int) == (y.toNat : Int)) = false := by simpa using h'
      simp [h3, h4]
theorem eq_digest (W : World) (D E : List UInt8) (hD : D.length = 32) (hE : E.length = 32) : (Op.equalIn 10000 29 (.agg (bcells D).toArray) (.agg (bcells E).toArray)).run Tryd.prog W = .ok (decide (D = E)) W := by
  obtain ⟨i8, hi8⟩ := info_of_underlying Tryd.und8
  have h1 := run_equalIn_array (w := W) 9999 (bcells D).toArray (bcells E).toArray Tryd.aund32 hi8
  rw [Tryd.cells8] at h1
  have h2 := eqItems_gen W 9998 D E (List.range 32) (fun i hi => by rw [hD]; exact List.mem_range.1 hi) (fun i hi => by rw [hE]; exact List.mem_range.1 hi)
  rw [h1, h2]
  congr 1
  rw [Bool.eq_iff_iff, List.all_eq_true, decide_eq_true_eq]
  constructor
  · intro h
    apply List.ext_getElem (by omega)
    intro i hi1 hi2
    have := h i (List.mem_range.2 (by omega))
    simpa [hi1, hi2] using this
  · rintro rfl i _
    simp
theorem wpList_load_want {P : Program} {ops : Array Oper} {rest : List Oper} {o : Oper} {a : Act} {w : World} {Q : Exit → Act → World → Prop} (hw : Region.wanted o (yielded ops a.tmps) = true) (ty : TypeId) (x : Operand) (ho : o.op = .load ty x)
    (g : Nat) (hx : a.eval x = .pointer (some ⟨g, 0, none⟩)) (t : TypeId) (cs : Array Value) (fr : Nat × Nat) (d : TypeDesc) (hg : w.heap[g]? = some (.cells cs t fr))
    (hu : P.underlying ty = some d) (hd : (match d with | .struct _ | .array _ _ => true | _ => false) = true) (hi : (P.info? ty).map (·.size) = some cs.size)
    (h : wpList P ops Q rest (a.put o.dst (.agg cs)) w) : wpList P ops Q (o :: rest) a w :=
  BigFrame.wpList_want hw fun _ hK => wp_load_row ty x ho g hx t cs fr d hg hu hd hi (hK _ _ h)

theorem dig_x : ofR 4 (textP ⟨#[120]⟩ []) = [35, 200, 106, 138, 0, 0, 0, 0, 0, 0, 0, 0, 0, 0, 0, 0, 0, 0, 0, 0, 0, 0, 0, 0, 0, 0, 0, 0, 0, 0, 0, 0] := by
  have e : textP ⟨#[120]⟩ [] = [1, 0x78] := by decide
  rw [e]
  unfold ofR cutR cutD
  rw [if_pos (by decide), show Int.toNat 4 = 4 from rfl, sha_x]
  rfl
theorem digest_x (w : World) : Calls Tryd.prog 8 #[.int .i64 4, .string ⟨#[120]⟩, .slice none 0 0] w fun e w' => e = .returned (.tuple #[.agg (bcells [35, 200, 106, 138, 0, 0, 0, 0, 0, 0, 0, 0, 0, 0, 0, 0, 0, 0, 0, 0, 0, 0, 0, 0, 0, 0, 0, 0, 0, 0, 0, 0]).toArray, .int .i64 0]) ∧ Same w w' := by
  have := digest_none w 4 (by omega) ⟨#[120]⟩ (by decide)
  rw [dig_x] at this
  exact this

set_option maxRecDepth 100000 in
set_option maxHeartbeats 1000000 in
theorem awake_calls (w : World) (ht : TabAt w) : Calls Tryd.prog 5 #[] w fun e w' => e = .returned (.bool true) ∧ Same w w' := by
  have HJ : Hid (∀ W, Calls Tryd.prog 9 #[.int .u32 3421846044, .int .u32 2646261639, .int .i64 4] W fun e w' => e = .returned (.tuple #[.int .u32 3421780262, .int .i64 0]) ∧ w' = W) := by
    intro W
    have := join_calls W 0xcbf53a1c 0x9dbabf87 4 (by omega)
    rw [join_val] at this
    exact this
  have HD : Hid (∀ W, Calls Tryd.prog 8 #[.int .i64 4, .string ⟨#[120]⟩, .slice none 0 0] W fun e w' => e = .returned (.tuple #[.agg (bcells [35, 200, 106, 138, 0, 0, 0, 0, 0, 0, 0, 0, 0, 0, 0, 0, 0, 0, 0, 0, 0, 0, 0, 0, 0, 0, 0, 0, 0, 0, 0, 0]).toArray, .int .i64 0]) ∧ Same W w') := fun W => digest_x W
  have HC : Hid (∀ W b, TabAt W → W.cell? ⟨b, 0, none⟩ = some (.string ⟨#[49, 50, 51, 52, 53, 54, 55, 56, 57]⟩) → Calls Tryd.prog 10 #[.slice (some ⟨b, 0, none⟩) 1 1] W fun e w' => e = .returned (.int .u32 3421780262) ∧ w' = W) := by
    intro W b h1 h2
    have := crc_calls W h1 [⟨#[49, 50, 51, 52, 53, 54, 55, 56, 57]⟩] (some ⟨b, 0, none⟩) b 0 1 (fun _ => rfl) (by
      intro j s hj
      cases j with
      | zero => simp at hj; subst hj; exact h2
      | succ j => simp at hj) (by intro s hs; simp at hs; subst hs; show (9 : Nat) ≤ _; omega) (by simp)
    have e : crcP [⟨#[49, 50, 51, 52, 53, 54, 55, 56, 57]⟩] = 3421780262 := crc9
    rw [e] at this
    exact this
  have hEq := fun W => eq_digest W [35, 200, 106, 138, 0, 0, 0, 0, 0, 0, 0, 0, 0, 0, 0, 0, 0, 0, 0, 0, 0, 0, 0, 0, 0, 0, 0, 0, 0, 0, 0, 0] [35, 200, 106, 138, 0, 0, 0, 0, 0, 0, 0, 0, 0, 0, 0, 0, 0, 0, 0, 0, 0, 0, 0, 0, 0, 0, 0, 0, 0, 0, 0, 0] rfl rfl
  have hlit : (#[.int .u8 35, .int .u8 200, .int .u8 106, .int .u8 138, .int .u8 0, .int .u8 0, .int .u8 0, .int .u8 0, .int .u8 0, .int .u8 0, .int .u8 0, .int .u8 0, .int .u8 0, .int .u8 0, .int .u8 0, .int .u8 0, .int .u8 0, .int .u8 0, .int .u8 0, .int .u8 0, .int .u8 0, .int .u8 0, .int .u8 0, .int .u8 0, .int .u8 0, .int .u8 0, .int .u8 0, .int .u8 0, .int .u8 0, .int .u8 0, .int .u8 0, .int .u8 0] : Array Value) = (bcells [35, 200, 106, 138, 0, 0, 0, 0, 0, 0, 0, 0, 0, 0, 0, 0, 0, 0, 0, 0, 0, 0, 0, 0, 0, 0, 0, 0, 0, 0, 0, 0]).toArray := rfl
  have hXs : (bcells [35, 200, 106, 138, 0, 0, 0, 0, 0, 0, 0, 0, 0, 0, 0, 0, 0, 0, 0, 0, 0, 0, 0, 0, 0, 0, 0, 0, 0, 0, 0, 0]).toArray.size = 32 := rfl
  have hXone := bcells_one [35, 200, 106, 138, 0, 0, 0, 0, 0, 0, 0, 0, 0, 0, 0, 0, 0, 0, 0, 0, 0, 0, 0, 0, 0, 0, 0, 0, 0, 0, 0, 0]
  generalize (bcells [35, 200, 106, 138, 0, 0, 0, 0, 0, 0, 0, 0, 0, 0, 0, 0, 0, 0, 0, 0, 0, 0, 0, 0, 0, 0, 0, 0, 0, 0, 0, 0]).toArray = X at *
  have hEq' : ∀ W, (Op.equalIn 10000 29 (.agg X) (.agg X)).run Tryd.prog W = .ok true W := hEq
  have hXsz : (Tryd.prog.info? 29).map (·.size) = some X.size := by rw [Tryd.ainfoD, hXs]
  clear hEq
  go_enter Tryd.func5, Tryd.ntmps5
  go_wp2_with fail
  refine (HD.out _).mono ?_
  rintro e W1 ⟨rfl, s1⟩
  go_wp2_with (first | (refine wpList_store_whole (by rfl) 29 _ _ (by rfl) W1.heap.size X _ 29 (by rfl) (by rfl) (heap_alloc_new W1 _) (by rw [hXs]; rfl) hXsz hXone ?_; intro W2 r2 f2; have s2 : Same W1 W2 := Fr.trans ((Fr.refl _ W1).alloc _) f2 (fun i hi e => by omega); clear f2))
  refine (HJ.out _).mono ?_
  rintro e W3 ⟨rfl, hW3⟩
  rw [hW3]
  clear hW3 W3
  go_wp2_with (first | (refine wpList_store_whole (by rfl) 29 _ _ (by rfl) W2.heap.size X _ 29 (by rfl) (by rfl) (heap_alloc_new W2 _) (by rw [hXs]; rfl) hXsz hXone ?_; intro W4 r4 f4; have s4 : Same W2 W4 := Fr.trans ((Fr.refl _ W2).alloc _) f4 (fun i hi e => by omega); clear f4))
  have s04 : Same w W4 := s1.trans (s2.trans s4)
  have sa : Same W4 (W4.alloc (.cells #[.string ⟨#[49, 50, 51, 52, 53, 54, 55, 56, 57]⟩] 9)) := (Fr.refl _ W4).alloc _
  refine (HC.out _ _ (ht.same (s04.trans sa)) (by simp)).mono ?_
  rintro e W5 ⟨rfl, hW5⟩
  have s05 : Same w W5 := by rw [hW5]; exact s04.trans sa
  have r5 : W5.heap[W1.heap.size]? = some (.cells X 29 (0, 0)) := by
    rw [hW5, (s4.trans sa).block _ (lt_of_heap r2) (fun f => f)]; exact r2
  have r6 : W5.heap[W2.heap.size]? = some (.cells X 29 (0, 0)) := by
    rw [hW5, sa.block _ (lt_of_heap r4) (fun f => f)]; exact r4
  clear hW5 sa s04 s1 s2 s4 r2 r4
  go_wp2_with (first | (refine wpList_load_want (by rfl) 29 _ (by rfl) W1.heap.size (by rfl) 29 X (0, 0) _ r5 Tryd.underlying29 rfl hXsz ?_) | (refine wpList_load_want (by rfl) 29 _ (by rfl) W2.heap.size (by rfl) 29 X (0, 0) _ r6 Tryd.underlying29 rfl hXsz ?_))
  go_ret
  exact ⟨rfl, s05⟩
end Go.Proofs.YtnoicjpmfchhiaaDoor
