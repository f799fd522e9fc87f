/-
  Walks: fourBytes, there, New, waiting.
-/
import Derived.Test.YtnoicjpmfchhiaaDoorS6
import Derived.Test.YtnoicjpmfchhiaaDoorSO
import Derived.Laws.CopyOwn
import Derived.Deep.RegionLaw
namespace Go.Proofs.YtnoicjpmfchhiaaDoor
open Go.RowKit

theorem setRow_fr (w : World) (g : Nat) (cs : Array Value) : Fr (fun k => k = g) w (w.setRow g cs) :=
  ⟨rfl, rfl, rfl, by simp [World.setRow], fun k _ hn => setRow_other w g k cs hn⟩
/-- A copy into a row that is known, as a step of a region that draws. -/
theorem step_copy_fr {P : Program} {ops : Array Oper} {o : Oper} {a : Act} {w : World} {K : Act → World → Prop} {Q : Exit → Act → World → Prop} {E : Prop} (hgd : o.guard = none) (d s : Operand) (dT sT : TypeId)
    (ho : o.op = .call { callee := .builtin .copy, args := #[d, s], argTypes := #[dT, sT] }) (elem : TypeId) (hu : P.underlying dT = some (.slice elem)) (hsz : (P.info? elem).map (·.size) = some 1)
    (dp sp : Option Addr) (dLen dCap sLen sCap : Nat) (hd : a.eval d = .slice dp dLen dCap) (hs : a.eval s = .slice sp sLen sCap)
    (g off : Nat) (cur : List Value) (t : TypeId) (hg : w.heap[g]? = some (.cells cur.toArray t (0, 0))) (cs : List Value) (hn : cs.length = Nat.min sLen dLen)
    (hpos : 0 < cs.length → dp = some ⟨g, off, none⟩ ∧ ∃ ad, sp = some ad ∧ ∀ j v, cs[j]? = some v → w.cell? (ad.add j) = some v)
    (hfit : off + cs.length ≤ cur.length) (h1 : ∀ v ∈ cs, v.oneCell' = true)
    (h : ∀ w', Hid (w'.heap[g]? = some (.cells (splice cur off cs).toArray t (0, 0))) → Fr (fun k => k = g) w w' → K (a.put o.dst (goInt cs.length)) w') :
    if Region.wanted o (yielded ops a.tmps) = true then Oper.wp P o a w K Q else E := by
  have hw : Region.wanted o (yielded ops a.tmps) = true := by simp [Region.wanted, hgd]
  rw [if_pos hw]
  by_cases h0 : cs.length = 0
  · obtain rfl : cs = [] := List.eq_nil_of_length_eq_zero h0
    have hrun := run_copy_none (P := P) w dT sT o.type elem dp sp dLen dCap sLen sCap hu hsz (by simpa using hn.symm)
    unfold Oper.wp
    simp [execOp, ho, resolve, invoke, builtin, hd, hs, hrun, Result.andThen]
    exact h w (show _ = _ by simpa [splice] using hg) (Fr.refl _ _)
  · obtain ⟨rfl, ad, rfl, hsrc⟩ := hpos (by omega)
    have hrun := run_copy_row (P := P) w dT sT o.type elem g off dLen dCap ad sLen sCap cur.toArray t cs hu hsz hg hn hsrc (by simpa using hfit) h1
    unfold Oper.wp
    simp [execOp, ho, resolve, invoke, builtin, hd, hs, hrun, Result.andThen]
    exact h _ (show _ = _ by simpa [splice] using setRow_heap w g _ _ t _ hg) (setRow_fr _ _ _)

theorem u8sh (x : UInt32) (n : Nat) (hn : n < 32) : ((x.toNat : Int) / ((2 ^ n : Nat) : Int)) % (256 : Int) = (((x >>> UInt32.ofNat n).toUInt8).toNat : Int) := by
  rw [r32 x n hn, UInt32.toNat_toUInt8]
  omega
set_option maxRecDepth 100000 in
set_option maxHeartbeats 400000 in
theorem four_calls (w : World) (x : UInt32) : Calls Tryd.prog 23 #[.int .u32 x.toNat] w fun e w' => e = .returned (.slice (some ⟨w.heap.size, 0, none⟩) 4 4) ∧ w' = w.alloc (.cells (bcells (by4 x)).toArray 5) := by
  have e1 : ((x.toNat : Int) / (16777216 : Int)) % (256 : Int) = (((x >>> 24).toUInt8).toNat : Int) := u8sh x 24 (by decide)
  have e2 : ((x.toNat : Int) / (65536 : Int)) % (256 : Int) = (((x >>> 16).toUInt8).toNat : Int) := u8sh x 16 (by decide)
  have e3 : ((x.toNat : Int) / (256 : Int)) % (256 : Int) = (((x >>> 8).toUInt8).toNat : Int) := u8sh x 8 (by decide)
  have e4 : (x.toNat : Int) % (256 : Int) = ((x.toUInt8).toNat : Int) := by rw [UInt32.toNat_toUInt8]; omega
  unfold by4
  generalize (x >>> 24).toUInt8 = y1 at *
  generalize (x >>> 16).toUInt8 = y2 at *
  generalize (x >>> 8).toUInt8 = y3 at *
  generalize x.toUInt8 = y4 at *
  go_enter Tryd.func23, Tryd.ntmps23
  go_wp2
  go_ret
  refine ⟨rfl, ?_⟩
  rfl

/-- A Hash's cells. -/
def hashC (q : W8) (rest : List UInt8) (n : Nat) : List Value := [.bool true] ++ w8c q ++ (bcells rest ++ [.int .i64 n])
def HashAt (w : World) (b : Nat) (q : W8) (rest : List UInt8) (n : Nat) : Prop := w.heap[b]? = some (.cells (hashC q rest n).toArray 65 (0, 0)) ∧ rest.length = 64
theorem HashAt.made {w : World} {b : Nat} {q : W8} {rest : List UInt8} {n : Nat} (h : HashAt w b q rest n) : w.cell? ⟨b, 0, none⟩ = some (.bool true) := by
  rw [cell_of_row _ _ _ _ _ _ h.1]; rfl
theorem HashAt.size {w : World} {b : Nat} {q : W8} {rest : List UInt8} {n : Nat} (h : HashAt w b q rest n) : w.cell? ⟨b, 73, none⟩ = some (.int .i64 n) := by
  rw [cell_of_row _ _ _ _ _ _ h.1]
  simp [hashC, w8c, bcells, h.2]
theorem HashAt.restc {w : World} {b : Nat} {q : W8} {rest : List UInt8} {n : Nat} (h : HashAt w b q rest n) (j : Nat) (x : UInt8) (hx : rest[j]? = some x) : w.cell? ⟨b, 9 + j, none⟩ = some (.int .u8 x.toNat) := by
  rw [cell_of_row _ _ _ _ _ _ h.1]
  have hj : j < rest.length := by
    rcases Nat.lt_or_ge j rest.length with h | h
    · exact h
    · rw [List.getElem?_eq_none h] at hx; cases hx
  have e : (hashC q rest n) = ([.bool true] ++ w8c q) ++ (bcells rest ++ [.int .i64 n]) := rfl
  have l9 : ([.bool true] ++ w8c q : List Value).length = 9 := rfl
  rw [List.getElem?_toArray, e, List.getElem?_append_right (by omega), l9, Nat.add_sub_cancel_left, List.getElem?_append_left (by rw [bcells_length]; exact hj)]
  simp [bcells, hx]
theorem HashAt.same {w w' : World} {b : Nat} {q : W8} {rest : List UInt8} {n : Nat} (h : HashAt w b q rest n) (s : Same w w') : HashAt w' b q rest n :=
  ⟨by rw [s.block b (lt_of_heap h.1) (fun f => f)]; exact h.1, h.2⟩

set_option maxRecDepth 100000 in
set_option maxHeartbeats 400000 in
theorem there_hash {w : World} {b : Nat} (h : w.cell? ⟨b, 0, none⟩ = some (.bool true)) : Calls Tryd.prog 30 #[.pointer (some ⟨b, 0, none⟩)] w fun e w' => e = .returned (.bool true) ∧ w' = w := by
  go_enter Tryd.func30, Tryd.ntmps30
  go_wp2
  go_ret
  exact ⟨rfl, rfl⟩
set_option maxRecDepth 100000 in
theorem there_unmade {w : World} {b : Nat} (h : w.cell? ⟨b, 0, none⟩ = some (.bool false)) : Calls Tryd.prog 30 #[.pointer (some ⟨b, 0, none⟩)] w fun e w' => e = .returned (.bool false) ∧ w' = w := by
  go_enter Tryd.func30, Tryd.ntmps30
  go_wp2
  go_ret
  exact ⟨rfl, rfl⟩
set_option maxRecDepth 100000 in
theorem there_nil (w : World) : Calls Tryd.prog 30 #[.pointer none] w fun e w' => e = .returned (.bool false) ∧ w' = w := by
  go_enter Tryd.func30, Tryd.ntmps30
  go_wp2
  go_ret
  exact ⟨rfl, rfl⟩

set_option maxRecDepth 100000 in
set_option maxHeartbeats 400000 in
theorem new_calls (w : World) : Calls Tryd.prog 27 #[] w fun e w' => e = .returned (.pointer (some ⟨w.heap.size, 0, none⟩)) ∧ HashAt w' w.heap.size hTab (List.replicate 64 0) 0 ∧ Same w w' := by
  have hz : ∀ W, (zeroValue 65).run Tryd.prog W = .ok (.agg #[.bool false, .int .u32 0, .int .u32 0, .int .u32 0, .int .u32 0, .int .u32 0, .int .u32 0, .int .u32 0, .int .u32 0, .int .u8 0, .int .u8 0, .int .u8 0, .int .u8 0, .int .u8 0, .int .u8 0, .int .u8 0, .int .u8 0, .int .u8 0, .int .u8 0, .int .u8 0, .int .u8 0, .int .u8 0, .int .u8 0, .int .u8 0, .int .u8 0, .int .u8 0, .int .u8 0, .int .u8 0, .int .u8 0, .int .u8 0, .int .u8 0, .int .u8 0, .int .u8 0, .int .u8 0, .int .u8 0, .int .u8 0, .int .u8 0, .int .u8 0, .int .u8 0, .int .u8 0, .int .u8 0, .int .u8 0, .int .u8 0, .int .u8 0, .int .u8 0, .int .u8 0, .int .u8 0, .int .u8 0, .int .u8 0, .int .u8 0, .int .u8 0, .int .u8 0, .int .u8 0, .int .u8 0, .int .u8 0, .int .u8 0, .int .u8 0, .int .u8 0, .int .u8 0, .int .u8 0, .int .u8 0, .int .u8 0, .int .u8 0, .int .u8 0, .int .u8 0, .int .u8 0, .int .u8 0, .int .u8 0, .int .u8 0, .int .u8 0, .int .u8 0, .int .u8 0, .int .u8 0, .int .i64 0]) W := fun W => by kernel_rfl
  go_enter Tryd.func27, Tryd.ntmps27
  go_wp2
  go_ret
  exact ⟨rfl, ⟨heap_alloc_new w _, by simp⟩, (Fr.refl _ w).alloc _⟩
end Go.Proofs.YtnoicjpmfchhiaaDoor
