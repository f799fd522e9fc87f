/-
  Walks: waiting.
-/
import Derived.Test.YtnoicjpmfchhiaaDoorS7
namespace Go.Proofs.YtnoicjpmfchhiaaDoor
open Go.RowKit

theorem Tryd.alen64 : Tryd.prog.arrayLen 63 = 64 := by kernel_rfl
theorem Tryd.aelem64 : Tryd.prog.elem 63 = 5 := by kernel_rfl
theorem Tryd.aund64 : Tryd.prog.underlying 63 = some (.array (Tryd.prog.arrayLen 63) (Tryd.prog.elem 63)) := by kernel_rfl
theorem slice_rest (W : World) (b k : Nat) (hk : k ≤ 64) : (Instr.sliceAt 63 (.pointer (some ⟨b, 9, none⟩)) none (some (.int .i64 (k : Int))) none).run Tryd.prog W = .ok (.slice (some ⟨b, 9, none⟩) k 64) W := by
  rw [run_sliceAt_array_h W 63 ⟨b, 9, none⟩ Tryd.aund64 .i64 k (by omega) (by rw [Tryd.alen64]; omega), Tryd.aelem64, Tryd.szU8, Tryd.alen64]
  simp [slicedAt, Addr.add]

set_option maxRecDepth 100000 in
set_option maxHeartbeats 400000 in
theorem waiting_calls {w : World} {b : Nat} {q : W8} {rest : List UInt8} {n : Nat} (h : HashAt w b q rest n) (hn : n ≤ 9223372036854775807) :
    Calls Tryd.prog 31 #[.pointer (some ⟨b, 0, none⟩)] w fun e w' => ∃ ao c, e = .returned (.slice ao (rest.take (n % 64)).length c) ∧ Owns w' (.slice ao (rest.take (n % 64)).length c) (rest.take (n % 64)) ∧ BStep (.slice none 0 0) (.slice ao (rest.take (n % 64)).length c) w w' := by
  have c73 := h.size
  obtain ⟨k, hk⟩ : ∃ k, k = n % 64 := ⟨_, rfl⟩
  have hk64 : k < 64 := by omega
  have hmod : (n : Int) % 64 = (k : Int) := by omega
  have hmodt : (n : Int).tmod 64 = (k : Int) := by rw [Int.tmod_eq_emod_of_nonneg (by omega)]; exact hmod
  have hlen : (rest.take k).length = k := by rw [List.length_take, h.2]; omega
  have hsl := fun W => slice_rest W b k (by omega)
  have hblt := lt_of_heap h.1
  obtain ⟨i0, hi, hz0, hz1, hz2⟩ := info_parts Tryd.info5
  have HR : Hid (∀ j x, (rest.take k)[j]? = some x → w.cell? ⟨b, 9 + j, none⟩ = some (.int .u8 x.toNat)) := by
    intro j x hx
    refine h.restc j x ?_
    rw [List.getElem?_take] at hx
    by_cases hj : j < k
    · rwa [if_pos hj] at hx
    · rw [if_neg hj] at hx; cases hx
  rw [← hk]
  obtain ⟨R, hR⟩ : ∃ R, R = rest.take k := ⟨_, rfl⟩
  rw [← hR] at HR hlen ⊢
  clear hR h hk
  by_cases h0 : k = 0
  · subst h0
    obtain rfl : R = [] := List.eq_nil_of_length_eq_zero hlen
    go_enter Tryd.func31, Tryd.ntmps31
    go_wp2_with fail
    go_region
    go_wp2_with fail
    go_ret
    exact ⟨none, 0, rfl, World.ownsRow_nil _ _ _ _, (Fr.refl _ w).drew, fun k hk => by simp [Value.ownBlock] at hk⟩
  · have hnews : ∀ W, Same w W → ∀ j u, (bcells R)[j]? = some u → W.cell? ((⟨b, 9, none⟩ : Addr).add j) = some u := by
      intro W sW j u hu
      simp only [bcells, List.getElem?_map, Option.map_eq_some_iff] at hu
      obtain ⟨x, hx, rfl⟩ := hu
      rw [Addr.add_mid]
      exact sW.keep (HR.out j x hx)
    have hn1 : ∀ u ∈ bcells R, u.oneCell' = true := by intro v hv; simp only [bcells, List.mem_map] at hv; obtain ⟨c, _, rfl⟩ := hv; rfl
    have hnl : (bcells R).length = k * 1 := by rw [bcells_length, hlen]; omega
    go_enter Tryd.func31, Tryd.ntmps31
    go_wp2_with fail
    go_region_law (refine step_append_lies _ (by rfl) _ _ _ (by rfl) 0 5 i0 (.int .u8 0) 1 1 Tryd.underlying52 hi hz0 hz1 hz2 rfl (by decide) _ _ _ (by rfl) (World.ownsRow_nil _ _ _ _) ⟨b, 9, none⟩ k 64 _ (by rfl) hnl (hnews _ ((Fr.refl _ w).drew)) hn1 (by omega) (by unfold maxLen; omega) (by omega) (Nat.zero_le _) w.heap.size (by simp) ?_; intro g6 cap6 w6 hown6 hgrow6 hat6 hlt6)
    go_wp2_with fail
    go_ret
    obtain ⟨o6, b6⟩ := own_push (w := w.drew) (v := .slice none 0 0) (bs := []) (ns := R) (N := k) hlen.symm (by simpa [bcells] using hown6) hgrow6 (by simpa using hat6)
    rw [List.nil_append, hlen] at o6 b6
    rw [hlen]
    exact ⟨some ⟨g6, 0, none⟩, cap6, rfl, o6, BStep.same ((Fr.refl _ w).drew) b6⟩
end Go.Proofs.YtnoicjpmfchhiaaDoor
