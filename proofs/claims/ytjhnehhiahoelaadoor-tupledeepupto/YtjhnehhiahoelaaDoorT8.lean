/-
  Walks: layInt.
-/
import Derived.Test.YtjhnehhiahoelaaDoorPS
namespace Go.Proofs.YtjhnehhiahoelaaDoor
open Go.RowKit

theorem ite_ge {c : Prop} [Decidable c] {a b : Nat} (h1 : 1 ≤ a) (h2 : 1 ≤ b) : 1 ≤ (if c then a else b) := by by_cases h : c <;> simp [h, h1, h2]
theorem bytesN_pos (x : Nat) (h : 0 < x) : 1 ≤ bytesN x := by
  unfold bytesN
  rw [if_neg (by omega)]
  exact ite_ge (by omega) (ite_ge (by omega) (ite_ge (by omega) (ite_ge (by omega) (ite_ge (by omega) (ite_ge (by omega) (ite_ge (by omega) (by omega)))))))
/-- A number's eight bytes, the highest first. -/
def be8 (x : Nat) : List UInt8 := [UInt8.ofNat (x / 72057594037927936 % 256), UInt8.ofNat (x / 281474976710656 % 256), UInt8.ofNat (x / 1099511627776 % 256), UInt8.ofNat (x / 4294967296 % 256), UInt8.ofNat (x / 16777216 % 256), UInt8.ofNat (x / 65536 % 256), UInt8.ofNat (x / 256 % 256), UInt8.ofNat (x % 256)]
theorem be8_cells (x : Nat) : (#[.int .u8 ((x / 72057594037927936 % 256 : Nat) : Int), .int .u8 ((x / 281474976710656 % 256 : Nat) : Int), .int .u8 ((x / 1099511627776 % 256 : Nat) : Int), .int .u8 ((x / 4294967296 % 256 : Nat) : Int), .int .u8 ((x / 16777216 % 256 : Nat) : Int), .int .u8 ((x / 65536 % 256 : Nat) : Int), .int .u8 ((x / 256 % 256 : Nat) : Int), .int .u8 ((x % 256 : Nat) : Int)] : Array Value) = (bcells (be8 x)).toArray := by
  simp [bcells, be8]

theorem add_at (b o j : Nat) : (⟨b, o, none⟩ : Addr).add j = ⟨b, o + j, none⟩ := by
  by_cases h : j = 0
  · subst h; simp [Addr.add]
  · simp [Addr.add, h]
theorem arr_news {W5 w6 : World} {ab lo : Nat} {D : List UInt8} {A : Array Value} {t : TypeId} {o : Obj} {row : Option Nat} (hA : A = (bcells D).toArray) (r5 : W5.heap[ab]? = some (.cells A t (0, 0))) (hg : ((W5.alloc o).drew).grownBy w6 row) (hne : row ≠ some ab) :
    ∀ j u, (bcells (D.drop lo))[j]? = some u → w6.cell? ((⟨ab, lo, none⟩ : Addr).add j) = some u := by
  intro j u hj
  have f : Fr (fun k => some k = row) W5 w6 := ((Fr.alloc (Fr.refl _ W5) o).drew).grown hg (fun k hk _ => hk.symm)
  have h6 : w6.heap[ab]? = some (.cells A t (0, 0)) := by rw [f.block ab (lt_of_heap r5) (fun e => hne e.symm)]; exact r5
  rw [add_at, cell_of_row _ _ _ _ _ _ h6, hA]
  simp only [bcells, List.map_drop, List.getElem?_drop] at hj
  simpa [bcells] using hj
theorem Tryd.alen8 : Tryd.prog.arrayLen 63 = 8 := by kernel_rfl
theorem Tryd.aelem8 : Tryd.prog.elem 63 = 5 := by kernel_rfl
theorem Tryd.aund8 : Tryd.prog.underlying 63 = some (.array (Tryd.prog.arrayLen 63) (Tryd.prog.elem 63)) := by kernel_rfl
theorem Tryd.sizeU8 (W : World) : (sizeOf 5).run Tryd.prog W = .ok 1 W := by kernel_rfl
theorem slice_eight (W : World) (g k : Nat) (hk : k < 8) : (Instr.sliceAt 63 (.pointer (some ⟨g, 0, none⟩)) (some (.int .i64 (k : Int))) none none).run Tryd.prog W = .ok (.slice (some ⟨g, k, none⟩) (8 - k) (8 - k)) W := by
  rw [run_sliceAt_array_l W 63 ⟨g, 0, none⟩ Tryd.aund8 .i64 k (by omega) (by rw [Tryd.alen8]; omega), Tryd.aelem8, Tryd.sizeU8, Tryd.alen8]
  have h8 : ¬ 8 = k := by omega
  by_cases h0 : k = 0
  · subst h0; simp [slicedAt, Addr.add]
  · simp [slicedAt, Addr.add, h8, h0]

set_option maxRecDepth 100000 in
set_option maxHeartbeats 4000000 in
theorem layInt_pos {w : World} {ao : Option Addr} {c : Nat} {bs : List UInt8} (n : Nat) (h0 : 0 < n) (h1 : n ≤ 9223372036854775807) (hown : Owns w (.slice ao bs.length c) bs) (hl : bs.length ≤ 1000000) :
    Calls Tryd.prog 32 #[.slice ao bs.length c, .int .i64 n] w fun e w' => ∃ g cap, e = .returned (.slice (some ⟨g, 0, none⟩) (bs ++ (UInt8.ofNat (20 + bytesN n) :: (be8 n).drop (8 - bytesN n))).length cap) ∧ Owns w' (.slice (some ⟨g, 0, none⟩) (bs ++ (UInt8.ofNat (20 + bytesN n) :: (be8 n).drop (8 - bytesN n))).length cap) (bs ++ (UInt8.ofNat (20 + bytesN n) :: (be8 n).drop (8 - bytesN n))) ∧ BStep (.slice ao bs.length c) (.slice (some ⟨g, 0, none⟩) (bs ++ (UInt8.ofNat (20 + bytesN n) :: (be8 n).drop (8 - bytesN n))).length cap) w w' := by
  obtain ⟨m, hm⟩ : ∃ m, m = bytesN n := ⟨_, rfl⟩
  have hm8 : m ≤ 8 := by have := widthI_le (n : Int); unfold widthI at this; simp at this; omega
  have hm1 : 1 ≤ m := by
    rw [hm]
    exact bytesN_pos n h0
  have HW : Hid (∀ W, Calls Tryd.prog 52 #[.int .i64 n] W fun e w' => e = .returned (.int .i64 m) ∧ w' = W) := fun W => by
    have := width_calls (n : Int) (by omega) (by omega) W
    unfold widthI at this
    rw [Int.natAbs_natCast, ← hm] at this
    exact this
  obtain ⟨A, hA⟩ : ∃ A, A = (bcells (be8 n)).toArray := ⟨_, rfl⟩
  have hAs : A.size = 8 := by rw [hA]; rfl
  have HS : Hid (∀ W, Calls Tryd.prog 33 #[.int .u64 n] W fun e w' => e = .returned (.agg A) ∧ Same W w') := fun W => by
    have := spread_calls W n (by omega)
    rw [be8_cells, ← hA] at this
    exact this
  rw [← hm]
  clear hm
  obtain ⟨L, hLL⟩ : ∃ L, L = bs ++ (UInt8.ofNat (20 + m) :: (be8 n).drop (8 - m)) := ⟨_, rfl⟩
  rw [← hLL]
  have HL : Hid (L = bs ++ (UInt8.ofNat (20 + m) :: (be8 n).drop (8 - m))) := hLL
  clear hLL
  go_enter Tryd.func32, Tryd.ntmps32
  go_wp2_with fail
  refine (HW.out _).mono ?_
  rintro e W1 ⟨rfl, hW1⟩
  rw [hW1]
  clear hW1
  go_wp2_with fail
  refine (HS.out _).mono ?_
  rintro e W2 ⟨rfl, s2⟩
  have hone : A.all (·.oneCell') = true := by
    rw [hA]
    exact all_oneCell_toArray (by intro v hv; simp only [bcells, List.mem_map] at hv; obtain ⟨c, _, rfl⟩ := hv; rfl)
  have hsz : (Tryd.prog.info? 63).map (·.size) = some A.size := by rw [hAs]; kernel_rfl
  have HA : Hid (A = (bcells (be8 n)).toArray) := hA
  clear hA
  go_wp2_with (first | (refine wpList_store_whole (by rfl) 63 _ _ (by rfl) W2.heap.size A _ 63 (by rfl) (by rfl) (heap_alloc_new W2 _) (by rw [hAs]; rfl) hsz hone ?_; intro W5 r5 f5; have s5 : Same W2 W5 := Fr.trans ((Fr.refl _ W2).alloc _) f5 (fun i hi e => by omega); clear f5))
  have s05 : Same w W5 := Same.trans s2 s5
  have hown5 : Owns W5 (.slice ao bs.length c) bs := own_frame hown s05 (fun _ _ f => f)
  have hlt5 := lt_of_heap r5
  obtain ⟨lo, hlo⟩ : ∃ lo, lo = 8 - m := ⟨_, rfl⟩
  have hsub : (8 : Int) - (m : Int) = (lo : Int) := by omega
  have hsub2 : IntKind.i64.wrap ((8 : Int) - (m : Int)) = (lo : Int) := by rw [IntKind.wrap_i64]; omega
  have hsl := fun W => slice_eight W W2.heap.size lo (by omega)
  have hw3 : IntKind.i64.wrap (lo : Int) = (lo : Int) := by rw [IntKind.wrap_i64]; omega
  have HLO : Hid (lo = 8 - m) := hlo
  have hlo8 : lo < 8 := by omega
  have hlm : 8 - lo = m := by omega
  obtain ⟨mk, hmkd⟩ : ∃ mk : UInt8, mk = UInt8.ofNat (20 + m) := ⟨_, rfl⟩
  have hmk : (20 + (m : Int)) % 256 = (mk.toNat : Int) := by rw [hmkd]; simp
  have hmk2 : IntKind.u8.wrap (20 + (m : Int)) = (mk.toNat : Int) := by rw [IntKind.wrap_u8]; exact hmk
  have HMK : Hid (mk = UInt8.ofNat (20 + m)) := hmkd
  rw [hlm] at hsl
  clear hlo hmkd
  obtain ⟨i0, hi, hz0, hz1, hz2⟩ := info_parts Tryd.info5
  have hob : ∀ k, Value.ownBlock (.slice ao bs.length c) = some k → k < w.heap.size := fun k hk => own_lt hown hk
  have hnb : Value.ownBlock (.slice ao bs.length c) ≠ some W2.heap.size := by intro e; have := hob _ e; have := s2.size; omega
  have hnl : (bcells ((be8 n).drop lo)).length = m * 1 := by rw [bcells_length, List.length_drop]; show 8 - lo = m * 1; omega
  have hn1 : ∀ u ∈ bcells ((be8 n).drop lo), u.oneCell' = true := by intro v hv; simp only [bcells, List.mem_map] at hv; obtain ⟨c, _, rfl⟩ := hv; rfl
  go_region_law (first
    | (refine step_append_lies _ (by rfl) _ _ _ (by rfl) 0 5 i0 (.int .u8 0) 1 1 Tryd.underlying37 hi hz0 hz1 hz2 rfl (by decide) _ _ _ (by rfl) hown6 ⟨W2.heap.size, lo, none⟩ m m _ (by rfl) hnl hnews6 hn1 hm1 (by unfold maxLen; omega) (by omega) (Nat.zero_le _) w6.heap.size rfl ?_; intro g7 cap7 w7 hown7 hgrow7 hat7 hlt7)
    | (refine step_append_lies _ (by rfl) _ _ _ (by rfl) 0 5 i0 (.int .u8 0) 1 1 Tryd.underlying37 hi hz0 hz1 hz2 rfl (by decide) _ _ _ (by rfl) ((hown5.alloc _).drew) ⟨W5.heap.size, 0, none⟩ 1 1 _ (by rfl) (by rfl) (World.news_of_block (heap_alloc_new W5 _)) (by simp [Value.oneCell']) (by decide) (by unfold maxLen; omega) (by omega) (Nat.zero_le _) (W5.heap.size + 1) (by simp) ?_; intro g6 cap6 w6 hown6 hgrow6 hat6 hlt6; have hnews6 := arr_news (lo := lo) HA.out r5 hgrow6 hnb))
  go_wp2_with fail
  go_ret
  have e1 : (bs ++ [mk]).length = bs.length + 1 := by simp
  have e2 : ((bs ++ [mk]) ++ (be8 n).drop lo).length = bs.length + 1 + m := by
    rw [List.length_append, e1]
    have := hnl
    rw [bcells_length] at this
    omega
  have hat6' : Value.ownBlock (.slice ao bs.length c) = some g6 ∨ g6 = ((W5.alloc (.cells #[.int .u8 (mk.toNat : Int)] 5)).drew).heap.size := by
    rcases hat6 with h | h
    · exact Or.inl h
    · right; rw [h]; simp
  obtain ⟨o6, b6⟩ := own_push (v := .slice ao bs.length c) (bs := bs) (ns := [mk]) rfl hown6 hgrow6 hat6'
  rw [e1] at o6 b6
  have hown7' : w7.ownsRow 0 5 1 (.slice (some ⟨g7, 0, none⟩) ((bs ++ [mk]).length + m) cap7) ((bs ++ [mk]).length + m) (bcells (bs ++ [mk]) ++ bcells ((be8 n).drop lo)) := by
    rw [e1, bcells_append]; exact hown7
  obtain ⟨o7, b7⟩ := own_push (v := .slice (some ⟨g6, 0, none⟩) (bs.length + 1) cap6) (bs := bs ++ [mk]) (ns := (be8 n).drop lo) (by rw [← bcells_length, hnl]; omega) hown7' hgrow7 hat7
  have hL : (bs ++ [mk]) ++ (be8 n).drop lo = L := by
    rw [HL.out, HMK.out, HLO.out, List.append_assoc]; rfl
  rw [← hL]
  have sw : Same w (W5.alloc (.cells #[.int .u8 (mk.toNat : Int)] 5)).drew := (s05.alloc _).drew
  refine ⟨g7, cap7, ?_, o7, BStep.same sw (BStep.trans b6 b7)⟩
  rw [e2]
  rfl
end Go.Proofs.YtjhnehhiahoelaaDoor
