/-
  Walks: SumsMany.
-/
import Derived.Test.YthkhfblpdekjhaaDoorSRT
import Derived.Test.YthkhfblpdekjhaaDoorSG
namespace Go.Proofs.YthkhfblpdekjhaaDoor
open Go.RowKit

def bools (l : List Bool) : List Value := l.map .bool
def strs (l : List ByteArray) : List Value := l.map .string
theorem trow_set {w : World} {b k : Nat} {l : List Bool} {t : TypeId} (h : w.heap[b]? = some (.cells (bools l).toArray t (0, 0))) (x : Bool) : (w.setCell ⟨b, k, none⟩ (.bool x)).heap[b]? = some (.cells (bools (l.set k x)).toArray t (0, 0)) := by
  rw [heap_setCell_same w b k _ t _ h]
  simp [bools, List.map_set]
theorem srow_set {w : World} {b k : Nat} {l : List ByteArray} {t : TypeId} (h : w.heap[b]? = some (.cells (strs l).toArray t (0, 0))) (x : ByteArray) : (w.setCell ⟨b, k, none⟩ (.string x)).heap[b]? = some (.cells (strs (l.set k x)).toArray t (0, 0)) := by
  rw [heap_setCell_same w b k _ t _ h]
  simp [strs, List.map_set]
set_option maxRecDepth 100000 in
set_option maxHeartbeats 2000000 in
theorem smany_walk (w : World) (ht : TabAt w) (s : ByteArray) (hs : s.size ≤ 1099511627776) : Calls Tryd.prog 5 #[.string s] w fun e w' => e = .returned (.bool true) ∧ Same w w' := by
  have HO : Hid (∀ W i, Calls Tryd.prog 24 #[.int .i64 1, .string (txB s i)] W fun e w' => e = .returned (.tuple #[.agg (bcells (fstB (txB s i).data.toList :: List.replicate 31 0)).toArray, .int .i64 0]) ∧ Same W w') := by
    intro W i
    have := of_calls W 1 (txB s i) (by rw [txB_size]; omega)
    rw [of1] at this
    exact this
  have HC : Hid (∀ W x y, x.size ≤ 70368744177664 → y.size ≤ 70368744177664 → clashP 1 x y = true → Calls Tryd.prog 25 #[.int .i64 1, .string x, .string y] W fun e w' => e = .returned (.bool true) ∧ Same W w') := by
    intro W x y hx hy h
    have := clash_calls W 1 x y hx hy
    rw [h] at this
    exact this
  have HA : Hid (∀ W, Same w W → Calls Tryd.prog 18 #[] W fun e w' => e = .returned (.bool true) ∧ Same W w') := fun W s => awake_calls W (ht.same s)
  clear ht
  obtain ⟨LA, hLA⟩ : ∃ A, A = (strs (List.replicate 256 ⟨#[]⟩)).toArray := ⟨_, rfl⟩
  obtain ⟨TA, hTA⟩ : ∃ A, A = (bools (List.replicate 256 false)).toArray := ⟨_, rfl⟩
  have hzl : ∀ W, (zeroValue 49).run Tryd.prog W = .ok (.agg LA) W := by rw [hLA]; exact fun W => by kernel_rfl
  have hzt : ∀ W, (zeroValue 50).run Tryd.prog W = .ok (.agg TA) W := by rw [hTA]; exact fun W => by kernel_rfl
  have HLA : Hid (LA = (strs (List.replicate 256 ⟨#[]⟩)).toArray) := hLA
  have HTA : Hid (TA = (bools (List.replicate 256 false)).toArray) := hTA
  clear hLA hTA
  go_enter Tryd.func5, Tryd.ntmps5
  go_wp2_with fail
  obtain ⟨W1, hW1⟩ : ∃ W1, W1 = (w.alloc (.cells LA 49)).alloc (.cells TA 50) := ⟨_, rfl⟩
  have s1 : Same w W1 := by rw [hW1]; exact ((Fr.refl _ w).alloc _).alloc _
  have RL : Hid (W1.heap[w.heap.size]? = some (.cells (strs (List.replicate 256 ⟨#[]⟩)).toArray 49 (0, 0))) := by
    show _ = _
    rw [hW1, heap_alloc_old _ _ (by simp), ← HLA.out]; exact heap_alloc_new w _
  have RT : Hid (W1.heap[w.heap.size + 1]? = some (.cells (bools (List.replicate 256 false)).toArray 50 (0, 0))) := by
    show _ = _
    rw [hW1, ← HTA.out]; exact heap_alloc2_new w _ _
  try rw [← hW1]
  clear hW1 hzl hzt HLA HTA LA TA
  go_loopg [5] 257 (fun gg iv wq => ∃ (i : Nat) (T : List Bool) (L : List ByteArray), iv = .int .i64 i ∧ gg = 257 - i ∧ Hid (Met s T L i) ∧ Hid (wq.heap[w.heap.size]? = some (.cells (strs L).toArray 49 (0, 0))) ∧ Hid (wq.heap[w.heap.size + 1]? = some (.cells (bools T).toArray 50 (0, 0))) ∧ Same w wq)
  case atStart => exact ⟨0, _, _, rfl, rfl, Met.zero s, RL, RT, s1⟩
  case round =>
    clear RL RT s1
    obtain ⟨i, T, L, rfl, rfl, HM, RL, RT, s1⟩ := hrel
    have hfew := HM.out.few
    have hiI : (i : Int) < 257 := by omega
    obtain ⟨b0, hb0⟩ : ∃ b : UInt8, b = UInt8.ofNat i := ⟨_, rfl⟩
    obtain ⟨b1, hb1⟩ : ∃ b : UInt8, b = UInt8.ofNat (i / 256) := ⟨_, rfl⟩
    obtain ⟨p, hp⟩ : ∃ p, p = i / 256 := ⟨_, rfl⟩
    have e0 : (i : Int) % 256 = (b0.toNat : Int) := by rw [hb0, UInt8.toNat_ofNat']; omega
    have e0' : IntKind.u8.wrap (i : Int) = (b0.toNat : Int) := by rw [IntKind.wrap_u8]; exact e0
    have q0 : (i : Int) / 256 = (p : Int) := by omega
    have q0' : (i : Int).tdiv 256 = (p : Int) := by rw [Int.tdiv_eq_ediv_of_nonneg (by omega)]; exact q0
    have q1 : IntKind.i64.wrap (p : Int) = (p : Int) := by rw [IntKind.wrap_i64]; omega
    have e1 : (p : Int) % 256 = (b1.toNat : Int) := by rw [hb1, UInt8.toNat_ofNat']; omega
    have e1' : IntKind.u8.wrap (p : Int) = (b1.toNat : Int) := by rw [IntKind.wrap_u8]; exact e1
    have hown1 : Owns (wr.alloc (.cells #[.int .u8 (b0.toNat : Int), .int .u8 (b1.toNat : Int)] 5)) (.slice (some ⟨wr.heap.size, 0, none⟩) ([b0, b1] : List UInt8).length 2) [b0, b1] := ⟨rfl, Or.inr ⟨wr.heap.size, 2, #[.int .u8 (b0.toNat : Int), .int .u8 (b1.toNat : Int)], rfl, Nat.zero_le _, heap_alloc_new wr _, Nat.le_refl _, by decide, rfl, rfl⟩⟩
    have hcv : (convert 42 9 (.slice (some ⟨wr.heap.size, 0, none⟩) 2 2)).run Tryd.prog (wr.alloc (.cells #[.int .u8 (b0.toNat : Int), .int .u8 (b1.toNat : Int)] 5)) = .ok (.string ⟨#[b0, b1]⟩) (wr.alloc (.cells #[.int .u8 (b0.toNat : Int), .int .u8 (b1.toNat : Int)] 5)) := owns_string (P := Tryd.prog) hown1 42 9 Tryd.underlying42 Tryd.underlying5 Tryd.underlying9
    have htx : s ++ (⟨#[b0, b1]⟩ : ByteArray) = txB s i := by
      apply ByteArray.ext
      rw [ByteArray.data_append]
      unfold txB
      rw [hb0, hb1]
    have s2 : Same w (wr.alloc (.cells #[.int .u8 (b0.toNat : Int), .int .u8 (b1.toNat : Int)] 5)) := s1.alloc _
    have rl2 : (wr.alloc (.cells #[.int .u8 (b0.toNat : Int), .int .u8 (b1.toNat : Int)] 5)).heap[w.heap.size]? = some (.cells (strs L).toArray 49 (0, 0)) := by rw [heap_alloc_old _ _ (lt_of_heap RL.out)]; exact RL.out
    have rt2 : (wr.alloc (.cells #[.int .u8 (b0.toNat : Int), .int .u8 (b1.toNat : Int)] 5)).heap[w.heap.size + 1]? = some (.cells (bools T).toArray 50 (0, 0)) := by rw [heap_alloc_old _ _ (lt_of_heap RT.out)]; exact RT.out
    have HOi : Hid (∀ W, Calls Tryd.prog 24 #[.int .i64 1, .string (txB s i)] W fun e w' => e = .returned (.tuple #[.agg (bcells (fstB (txB s i).data.toList :: List.replicate 31 0)).toArray, .int .i64 0]) ∧ Same W w') := fun W => HO.out W i
    obtain ⟨f, hf⟩ : ∃ f : UInt8, f = fstB (txB s i).data.toList := ⟨_, rfl⟩
    rw [← hf] at HOi
    obtain ⟨X, hX⟩ : ∃ X, X = (bcells (f :: List.replicate 31 0)).toArray := ⟨_, rfl⟩
    have hXs : X.size = 32 := by rw [hX]; rfl
    have hXone : X.all (·.oneCell') = true := by rw [hX]; exact bcells_one _
    have hX0 : X[0]? = some (.int .u8 (f.toNat : Int)) := by rw [hX]; rfl
    rw [← hX] at HOi
    have hXsz : (Tryd.prog.info? 36).map (·.size) = some X.size := by rw [Tryd.ainfoD, hXs]
    obtain ⟨fn, hfn⟩ : ∃ n, n = f.toNat := ⟨_, rfl⟩
    have hf256 : fn < 256 := by rw [hfn]; exact f.toBitVec.isLt
    rw [← hfn] at hX0
    have hfk : fn = (fstB (txB s i).data.toList).toNat := by rw [hfn, hf]
    have HFK : Hid (fn = (fstB (txB s i).data.toList).toNat) := hfk
    obtain ⟨tb, htb⟩ : ∃ b, T[fn]? = some b := ⟨_, List.getElem?_eq_getElem (by rw [HM.out.tl]; exact hf256)⟩
    obtain ⟨lx, hlx⟩ : ∃ b, L[fn]? = some b := ⟨_, List.getElem?_eq_getElem (by rw [HM.out.ll]; exact hf256)⟩
    have HTB : Hid (T[fn]? = some tb) := htb
    have HLX : Hid (L[fn]? = some lx) := hlx
    have hfI : (fn : Int) < 256 := by omega
    have HSZ := txB_size s i
    have htxz : (txB s i).size ≤ 70368744177664 := by omega
    generalize htxi : txB s i = tx at *
    have HTX : Hid (txB s i = tx) := htxi
    clear hb0 hb1 hp hown1 hf hX hfn hfk htb hlx htxi HSZ
    go_wp2_with fail
    generalize wr.alloc (.cells #[.int .u8 (b0.toNat : Int), .int .u8 (b1.toNat : Int)] 5) = V1 at *
    refine (HOi.out _).mono ?_
    rintro e W2 ⟨rfl, s3⟩
    have rl3 := (s3.block _ (lt_of_heap rl2) (fun f => f)).trans rl2
    have rt3 := (s3.block _ (lt_of_heap rt2) (fun f => f)).trans rt2
    have s03 := s2.trans s3
    clear rl2 rt2 s2 s3 s1 hcv RL RT
    have hw2 := lt_of_heap rt3
    have HK : Hid (∀ W4 : World, W4.heap[W2.heap.size]? = some (.cells X 36 (0, 0)) → Same W2 W4 →
        W4.cell? ⟨w.heap.size + 1, fn, none⟩ = some (.bool tb) ∧ W4.cell? ⟨w.heap.size, fn, none⟩ = some (.string lx) ∧ W4.cell? ⟨W2.heap.size, 0, none⟩ = some (.int .u8 (fn : Int)) ∧ W4.frozen? ⟨w.heap.size + 1, fn, none⟩ = false ∧ W4.frozen? ⟨w.heap.size, fn, none⟩ = false ∧
        (W4.setCell ⟨w.heap.size + 1, fn, none⟩ (.bool true)).cell? ⟨W2.heap.size, 0, none⟩ = some (.int .u8 (fn : Int)) ∧ (W4.setCell ⟨w.heap.size + 1, fn, none⟩ (.bool true)).cell? ⟨w.heap.size, fn, none⟩ = some (.string lx) ∧ (W4.setCell ⟨w.heap.size + 1, fn, none⟩ (.bool true)).frozen? ⟨w.heap.size, fn, none⟩ = false ∧
        Hid (((W4.setCell ⟨w.heap.size + 1, fn, none⟩ (.bool true)).setCell ⟨w.heap.size, fn, none⟩ (.string tx)).heap[w.heap.size]? = some (.cells (strs (L.set fn tx)).toArray 49 (0, 0)) ∧ ((W4.setCell ⟨w.heap.size + 1, fn, none⟩ (.bool true)).setCell ⟨w.heap.size, fn, none⟩ (.string tx)).heap[w.heap.size + 1]? = some (.cells (bools (T.set fn true)).toArray 50 (0, 0)) ∧ Same w ((W4.setCell ⟨w.heap.size + 1, fn, none⟩ (.bool true)).setCell ⟨w.heap.size, fn, none⟩ (.string tx)))) := by
      intro W4 r4 s4
      have rl4 := (s4.block _ (lt_of_heap rl3) (fun f => f)).trans rl3
      have rt4 := (s4.block _ (lt_of_heap rt3) (fun f => f)).trans rt3
      have r5 : (W4.setCell ⟨w.heap.size + 1, fn, none⟩ (.bool true)).heap[W2.heap.size]? = some (.cells X 36 (0, 0)) := (Below.heap_setCell W4 ⟨w.heap.size + 1, fn, none⟩ (.bool true) W2.heap.size (by simp only; omega)).trans r4
      have rl5 : (W4.setCell ⟨w.heap.size + 1, fn, none⟩ (.bool true)).heap[w.heap.size]? = some (.cells (strs L).toArray 49 (0, 0)) := (Below.heap_setCell W4 ⟨w.heap.size + 1, fn, none⟩ (.bool true) w.heap.size (by simp only; omega)).trans rl4
      have rt5 := trow_set rt4 (k := fn) true
      have rl6 := srow_set rl5 (k := fn) tx
      refine ⟨?_, ?_, ?_, frozen_of_row W4 (w.heap.size + 1) fn _ _ rt4, frozen_of_row W4 w.heap.size fn _ _ rl4, ?_, ?_, frozen_of_row _ w.heap.size fn _ _ rl5, rl6, (Below.heap_setCell _ ⟨w.heap.size, fn, none⟩ (.string tx) (w.heap.size + 1) (by simp only; omega)).trans rt5, ?_⟩
      · rw [cell_of_row _ _ _ _ _ _ rt4, List.getElem?_toArray, bools, List.getElem?_map, HTB.out]; rfl
      · rw [cell_of_row _ _ _ _ _ _ rl4, List.getElem?_toArray, strs, List.getElem?_map, HLX.out]; rfl
      · rw [cell_of_row _ _ _ _ _ _ r4]; exact hX0
      · rw [cell_of_row _ _ _ _ _ _ r5]; exact hX0
      · rw [cell_of_row _ _ _ _ _ _ rl5, List.getElem?_toArray, strs, List.getElem?_map, HLX.out]; rfl
      · exact ((s03.trans s4).setCell (p := ⟨w.heap.size + 1, fn, none⟩) (fun h => by simp only at h; omega) _).setCell (p := ⟨w.heap.size, fn, none⟩) (fun h => by simp only at h; omega) _
    clear hX0 rl3 rt3 hw2
    cases tb
    · go_wp2_with (first | (refine wpList_store_whole (by rfl) 36 _ _ (by rfl) W2.heap.size X _ 36 (by rfl) (by rfl) (heap_alloc_new W2 _) (by rw [hXs]; rfl) hXsz hXone ?_; intro W4 r4 f4; have s4 : Same W2 W4 := Fr.trans ((Fr.refl _ W2).alloc _) f4 (fun i hi e => by omega); clear f4; obtain ⟨kt, kl, k0, kft, kfl, k0', kl', kfl', REL⟩ := HK.out W4 r4 s4))
      have hnext := HM.out.next fn (by rw [HTX.out]; exact HFK.out) HTB.out
      rw [HTX.out] at hnext
      go_roundg (257 - (i + 1))
      case measure => omega
      case rel => exact ⟨i + 1, _, _, by go_num, rfl, hnext, REL.out.1, REL.out.2.1, REL.out.2.2⟩
    · obtain ⟨x, hx, hcl, hxs⟩ := HM.out.clash fn (by rw [HTX.out]; exact HFK.out) HTB.out
      rw [HLX.out] at hx
      injection hx with hx
      subst hx
      rw [HTX.out] at hcl
      have HCX : Hid (∀ W, Calls Tryd.prog 25 #[.int .i64 1, .string lx, .string tx] W fun e w' => e = .returned (.bool true) ∧ Same W w') := fun W => HC.out W lx tx (by omega) htxz hcl
      clear hcl hxs
      go_wp2_with (first | (refine wpList_store_whole (by rfl) 36 _ _ (by rfl) W2.heap.size X _ 36 (by rfl) (by rfl) (heap_alloc_new W2 _) (by rw [hXs]; rfl) hXsz hXone ?_; intro W4 r4 f4; have s4 : Same W2 W4 := Fr.trans ((Fr.refl _ W2).alloc _) f4 (fun i hi e => by omega); clear f4; obtain ⟨kt, kl, k0, kft, kfl, k0', kl', kfl', REL⟩ := HK.out W4 r4 s4))
      refine (HCX.out _).mono ?_
      rintro e W6 ⟨rfl, s6⟩
      have s06 := s03.trans (s4.trans s6)
      go_wp2_with fail
      refine (HA.out W6 s06).mono ?_
      rintro e W7 ⟨rfl, s7⟩
      go_wp2_with fail
      go_ret
      exact ⟨rfl, s06.trans s7⟩
end Go.Proofs.YthkhfblpdekjhaaDoor
