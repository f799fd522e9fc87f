/- Blocks: the document's list, and the law's own blocks. -/
import Derived.Test.YtajpgopgohadeaaDoorG8
namespace Go.Proofs.YtajpgopgohadeaaDoor
open Go.RowKit

/-- A block: its number, text and code. -/
abbrev Blk := Nat × ByteArray × Int
/-- Blocks that a slice holds. -/
structure LAt (w : World) (pa : Option Addr) (pb po : Nat) (L : List Blk) : Prop where
  place : L ≠ [] → pa = some ⟨pb, po, none⟩ ∧ pb < w.heap.size
  cells : ∀ j x, L[j]? = some x → w.cell? ⟨pb, po + 3 * j, none⟩ = some (.int .u32 x.1) ∧ w.cell? ⟨pb, po + 3 * j + 1, none⟩ = some (.string x.2.1) ∧ w.cell? ⟨pb, po + 3 * j + 2, none⟩ = some (.int .i64 x.2.2)
theorem LAt.fr {w w' : World} {S : Nat → Prop} {pa : Option Addr} {pb po : Nat} {L : List Blk} (h : LAt w pa pb po L) (s : Fr S w w') (hn : L ≠ [] → ¬ S pb) : LAt w' pa pb po L := by
  refine ⟨fun e => ⟨(h.place e).1, Nat.lt_of_lt_of_le (h.place e).2 s.size⟩, fun j x hx => ?_⟩
  have hne : L ≠ [] := by intro e; rw [e] at hx; simp at hx
  have hc := h.cells j x hx
  have hp := (h.place hne).2
  exact ⟨(s.cell (p := ⟨pb, po + 3 * j, none⟩) hp (hn hne)).trans hc.1, (s.cell (p := ⟨pb, po + 3 * j + 1, none⟩) hp (hn hne)).trans hc.2.1, (s.cell (p := ⟨pb, po + 3 * j + 2, none⟩) hp (hn hne)).trans hc.2.2⟩
/-- What a list of blocks answers. -/
def blkA : List Blk → Nat → ByteArray × Int
  | [], _ => (⟨#[]⟩, 41)
  | x :: L, no => if x.1 = no then x.2 else blkA L no
theorem blkA_skip (L : List Blk) (no k : Nat) (h : ∀ j x, j < k → L[j]? = some x → x.1 ≠ no) : blkA L no = blkA (L.drop k) no := by
  induction k generalizing L with
  | zero => rfl
  | succ k ih =>
    cases L with
    | nil => rfl
    | cons x L =>
      have hx := h 0 x (by omega) rfl
      rw [blkA, if_neg hx, List.drop_succ_cons]
      exact ih L (fun j y hj hy => h (j + 1) y (by omega) hy)
theorem blkA_at (L : List Blk) (no k : Nat) (x : Blk) (h : ∀ j y, j < k → L[j]? = some y → y.1 ≠ no) (hx : L[k]? = some x) (hn : x.1 = no) : blkA L no = x.2 := by
  rw [blkA_skip L no k h]
  have hk : k < L.length := (List.getElem?_eq_some_iff.1 hx).1
  rw [List.drop_eq_getElem_cons hk]
  have e : L[k] = x := (List.getElem?_eq_some_iff.1 hx).2
  rw [e, blkA, if_pos hn]
theorem blkA_none (L : List Blk) (no : Nat) (h : ∀ j y, j < L.length → L[j]? = some y → y.1 ≠ no) : blkA L no = (⟨#[]⟩, 41) := by
  rw [blkA_skip L no L.length h, List.drop_length]; rfl

set_option maxRecDepth 100000 in
set_option maxHeartbeats 1000000 in
theorem blocks_calls {w : World} {pa : Option Addr} {pb po pc : Nat} {L : List Blk} (h : LAt w pa pb po L) (hl : L.length ≤ 281474976710656) (no : Nat) :
    Calls Tryd.prog 19 #[.slice pa L.length pc, .int .u32 no] w fun e w' => e = .returned (.tuple #[.string (blkA L no).1, .int .i64 (blkA L no).2]) ∧ Same w w' := by
  have HL : Hid (LAt w pa pb po L) := h
  obtain ⟨n, hn⟩ : ∃ n, n = L.length := ⟨_, rfl⟩
  rw [← hn] at hl ⊢
  have HN : Hid (n = L.length) := hn
  clear h hn
  go_enter Tryd.func19, Tryd.ntmps19
  go_wp2_with fail
  go_loopg [6] n (fun gg iv wr => ∃ k : Nat, iv = .int .i64 k ∧ k ≤ n ∧ gg = n - k ∧ Hid (∀ j x, j < k → L[j]? = some x → x.1 ≠ no) ∧ Same w wr)
  case atStart => exact ⟨0, rfl, by omega, rfl, fun j x hj => by omega, Fr.refl _ _⟩
  case round =>
    obtain ⟨k, rfl, hk, rfl, HK, sr⟩ := hrel
    by_cases hgo : k < n
    · have hgi : (k : Int) < (n : Int) := by omega
      have hkl : k < L.length := by have := HN.out; omega
      obtain ⟨x, hx⟩ : ∃ x, L[k]? = some x := ⟨_, List.getElem?_eq_getElem hkl⟩
      have hne : L ≠ [] := by intro e; rw [e] at hx; simp at hx
      obtain ⟨rfl, hpb⟩ := HL.out.place hne
      obtain ⟨e0, e1, e2⟩ := HL.out.cells k x hx
      have c0 := sr.keep e0
      have c1 := sr.keep e1
      have c2 := sr.keep e2
      rw [show po + 3 * k = po + k * 3 from by omega] at c0 c1 c2
      clear e0 e1 e2
      by_cases hno : x.1 = no
      · have HB : Hid (blkA L no = x.2) := blkA_at L no k x HK.out hx hno
        obtain ⟨xn, xt, xc⟩ := x
        simp only at hno c0 c1 c2
        subst hno
        clear hx HK
        go_wp2_with fail
        go_quiet (fail)
        have sr4 : Same w (wr.drewN nq) := Fr.drewN sr nq
        generalize wr.drewN nq = W4 at *
        go_wp2_with fail
        go_ret2
        exact ⟨by rw [HB.out]; rfl, sr4⟩
      · have HK2 : Hid (∀ j y, j < k + 1 → L[j]? = some y → y.1 ≠ no) := by
          intro j y hj hy
          by_cases hjk : j = k
          · subst hjk; rw [hx] at hy; injection hy with hy; subst hy; exact hno
          · exact HK.out j y (by omega) hy
        obtain ⟨xn, xt, xc⟩ := x
        simp only at hno c0 c1 c2
        have hnb : ((xn : Int) == (no : Int)) = false := by rw [beq_eq_false_iff_ne]; intro e; exact hno (by omega)
        have hni : ¬ (xn : Int) = (no : Int) := by omega
        clear hx HK hno
        go_wp2_with fail
        go_roundg (n - (k + 1))
        case measure => omega
        case rel => exact ⟨k + 1, by go_num, by omega, rfl, HK2, sr⟩
    · have hgi : ¬ (k : Int) < (n : Int) := by omega
      have HB : Hid (blkA L no = (⟨#[]⟩, 41)) := blkA_none L no (fun j y hj hy => HK.out j y (by have := HN.out; omega) hy)
      go_wp2_with fail
      go_ret2
      exact ⟨by rw [HB.out]; rfl, sr⟩

/-- The law's blocks at B: the list, how often they were asked, and of what last. -/
def BkAt (W : World) (B : Nat) (pa : Option Addr) (n pc : Nat) (asked : Int) (last : Nat) : Prop := W.heap[B]? = some (.cells #[.slice pa n pc, .int .i64 asked, .int .u32 last] 31 (0, 0))
set_option maxRecDepth 100000 in
set_option maxHeartbeats 1000000 in
theorem bread_calls {w : World} {B : Nat} {pa : Option Addr} {pb po pc : Nat} {L : List Blk} {asked : Int} {last : Nat} (h : LAt w pa pb po L) (hb : BkAt w B pa L.length pc asked last) (hne : L ≠ [] → pb ≠ B) (hl : L.length ≤ 281474976710656) (ha : 0 ≤ asked ∧ asked < 9000000000000000000) (no : Nat) :
    Calls Tryd.prog 104 #[.pointer (some ⟨B, 0, none⟩), .int .u32 no] w fun e w' => e = .returned (.tuple #[.string (blkA L no).1, .int .i64 (blkA L no).2]) ∧ BkAt w' B pa L.length pc (asked + 1) no ∧ Fr (fun k => k = B) w w' := by
  have hwa : IntKind.i64.wrap (asked + 1) = asked + 1 := by rw [IntKind.wrap_i64]; omega
  have hlt := lt_of_heap hb
  obtain ⟨c0, c1, c2, f1, f2⟩ : w.cell? ⟨B, 0, none⟩ = some (.slice pa L.length pc) ∧ w.cell? ⟨B, 1, none⟩ = some (.int .i64 asked) ∧ w.cell? ⟨B, 2, none⟩ = some (.int .u32 last) ∧ w.frozen? ⟨B, 1, none⟩ = false ∧ w.frozen? ⟨B, 2, none⟩ = false := by
    have hb' := hb
    unfold BkAt at hb'
    refine ⟨?_, ?_, ?_, ?_, ?_⟩ <;> simp [World.cell?, World.frozen?, hb']
  obtain ⟨X, hX⟩ : ∃ X, X = (w.setCell ⟨B, 1, none⟩ (.int .i64 (asked + 1))).setCell ⟨B, 2, none⟩ (.int .u32 no) := ⟨_, rfl⟩
  have hbX : BkAt X B pa L.length pc (asked + 1) no := by
    have := heap_setCell_same _ B 2 _ _ (.int .u32 no) (heap_setCell_same w B 1 _ _ (.int .i64 (asked + 1)) hb)
    rw [hX]; unfold BkAt; simpa using this
  have fX : Fr (fun k => k = B) w X := by rw [hX]; exact ((Fr.refl (fun k => k = B) w).setCell (p := ⟨B, 1, none⟩) (fun _ => rfl) _).setCell (p := ⟨B, 2, none⟩) (fun _ => rfl) _
  have HBC : Hid (Calls Tryd.prog 19 #[.slice pa L.length pc, .int .u32 no] X fun e w' => e = .returned (.tuple #[.string (blkA L no).1, .int .i64 (blkA L no).2]) ∧ Same X w') := blocks_calls (h.fr fX hne) hl no
  generalize (blkA L no).1 = bt at *
  generalize (blkA L no).2 = bc at *
  generalize L.length = n at *
  clear h hne hl ha
  go_enter Tryd.func104, Tryd.ntmps104
  go_wp2_with fail
  rw [← hX]
  clear hX hb c0 c1 c2 f1 f2
  refine HBC.out.mono ?_
  rintro e W5 ⟨rfl, s5⟩
  go_wp2_with fail
  go_ret2
  refine ⟨rfl, ?_, Fr.trans fX s5 (fun _ _ f => f.elim)⟩
  unfold BkAt at hbX ⊢
  rw [s5.block B (lt_of_heap hbX) (fun f => f)]
  exact hbX
end Go.Proofs.YtajpgopgohadeaaDoor
