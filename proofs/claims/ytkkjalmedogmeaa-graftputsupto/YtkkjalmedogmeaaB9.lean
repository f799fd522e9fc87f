/- fresh of made leaves. -/
import Derived.Test.YtkkjalmedogmeaaB8
import Derived.Test.YtkkjalmedogmeaaB6
import Derived.Test.YtkkjalmedogmeaaKP
import Derived.Test.YtkkjalmedogmeaaKI
namespace Go.Proofs.Ytkkjalmedogmeaa
open Go.RowKit

theorem made_same {W : World} {B B2 c c2 : Nat} {ao ao2 : Option Addr} {M : List (ByteArray × ByteArray)} (h1 : MadeLeaf W B ao c M) (h2 : MadeLeaf W B2 ao2 c2 M) (hn : M.length ≤ 4611686018427387904) :
    Calls Try.prog 24 #[nodeV ao M.length c none 0 0 none 0 0, nodeV ao2 M.length c2 none 0 0 none 0 0] W fun e w' => e = .returned (.bool true) ∧ Same W w' := by
  obtain ⟨g1, n1⟩ := h1.nd hn
  obtain ⟨g2, n2⟩ := h2.nd hn
  show Calls Try.prog 24 #[ndV (leafNr ao g1 c) ⟨M, [], []⟩, ndV (leafNr ao2 g2 c2) ⟨M, [], []⟩] W _
  exact rsame_true W n1 n2
def blkIs (ao : Option Addr) (k : Nat) : Prop := ∃ a, ao = some a ∧ a.block = k
theorem MadeLeaf.fr {w w' : World} {B c : Nat} {ao : Option Addr} {M : List (ByteArray × ByteArray)} {S : Nat → Prop} (h : MadeLeaf w B ao c M) (f : Fr S w w') (hn : ∀ k, blkIs ao k → ¬ S k) : MadeLeaf w' B ao c M :=
  ⟨own_frameB h.own f (fun k hk => hn k (by
    cases ao with
    | none => cases hk
    | some a => exact ⟨a, rfl, by simpa [Value.ownBlock] using hk⟩))⟩
theorem MadeLeaf.blk {w : World} {B c : Nat} {ao : Option Addr} {M : List (ByteArray × ByteArray)} (h : MadeLeaf w B ao c M) {k : Nat} (hk : blkIs ao k) : B ≤ k ∧ k < w.heap.size := by
  obtain ⟨a, rfl, rfl⟩ := hk
  exact own_ge h.own
theorem MadeLeaf.isOwn {w : World} {B c : Nat} {ao : Option Addr} {M : List (ByteArray × ByteArray)} (h : MadeLeaf w B ao c M) : Own w 30 2 ao M.length c := ⟨_, own_base h.own (Nat.zero_le _)⟩
set_option maxRecDepth 100000 in
set_option maxHeartbeats 1000000 in
theorem fresh_made {Ba Bb Bw ca cb cw : Nat} {ao bo wo : Option Addr} {M : List (ByteArray × ByteArray)} (w : World) (ha : MadeLeaf w Ba ao ca M) (hb : MadeLeaf w Bb bo cb M) (hw : MadeLeaf w Bw wo cw M) (hn : M.length ≤ 1048576) (hab : ∀ k, blkIs bo k → ¬ blkIs ao k) (haw : ∀ k, blkIs wo k → ¬ blkIs ao k) :
    Calls Try.prog 10 #[nodeV ao M.length ca none 0 0 none 0 0, nodeV bo M.length cb none 0 0 none 0 0, nodeV wo M.length cw none 0 0 none 0 0] w fun e w' => e = .returned (.bool true) ∧ Fr (blkIs ao) w w' := by
  have HS1 : Hid (∀ W, Same w W → Calls Try.prog 24 #[nodeV ao M.length ca none 0 0 none 0 0, nodeV wo M.length cw none 0 0 none 0 0] W fun e w' => e = .returned (.bool true) ∧ Same W w') := fun W s => made_same (ha.same s) (hw.same s) (by omega)
  have HS2 : Hid (∀ W, Fr (blkIs ao) w W → Calls Try.prog 24 #[nodeV bo M.length cb none 0 0 none 0 0, nodeV wo M.length cw none 0 0 none 0 0] W fun e w' => e = .returned (.bool true) ∧ Same W w') := fun W s => made_same (hb.fr s hab) (hw.fr s haw) (by omega)
  have HP : Hid (∀ W, Same w W → Calls Try.prog 9 #[nodeV ao M.length ca none 0 0 none 0 0] W fun e w' => (∃ n : Int, e = .returned (.int .i64 n)) ∧ Fr (blkIs ao) W w') := fun W s =>
    spoil_calls W (ha.same s).isOwn ⟨[], own_nil⟩ ⟨[], own_nil⟩ hn (by omega) (by omega) (fun a h => by
      rcases h with h | h | h
      · exact ⟨a, h, rfl⟩
      · cases h
      · cases h)
  have HBK : Hid (∀ k, blkIs ao k → k < w.heap.size) := fun k hk => (ha.blk hk).2
  obtain ⟨V, hV⟩ : ∃ V, V = ((w.alloc (.cells #[.slice ao M.length ca, .slice none 0 0, .slice none 0 0] 28)).alloc (.cells #[.slice bo M.length cb, .slice none 0 0, .slice none 0 0] 28)).alloc (.cells #[.slice wo M.length cw, .slice none 0 0, .slice none 0 0] 28) := ⟨_, rfl⟩
  have t1 : Same w V := by rw [hV]; exact (((Fr.refl _ w).alloc _).alloc _).alloc _
  have H3 := heap3 w (.cells #[.slice ao M.length ca, .slice none 0 0, .slice none 0 0] 28) (.cells #[.slice bo M.length cb, .slice none 0 0, .slice none 0 0] 28) (.cells #[.slice wo M.length cw, .slice none 0 0, .slice none 0 0] 28)
  rw [← hV] at H3
  obtain ⟨g0, g1, g2⟩ := H3
  have HC : Hid (∀ W, Fr (blkIs ao) V W → (W.cell? ⟨w.heap.size, 0, none⟩ = some (.slice ao M.length ca) ∧ W.cell? ⟨w.heap.size, 1, none⟩ = some (.slice none 0 0) ∧ W.cell? ⟨w.heap.size, 2, none⟩ = some (.slice none 0 0)) ∧ (W.cell? ⟨w.heap.size + 1, 0, none⟩ = some (.slice bo M.length cb) ∧ W.cell? ⟨w.heap.size + 1, 1, none⟩ = some (.slice none 0 0) ∧ W.cell? ⟨w.heap.size + 1, 2, none⟩ = some (.slice none 0 0)) ∧ (W.cell? ⟨w.heap.size + 1 + 1, 0, none⟩ = some (.slice wo M.length cw) ∧ W.cell? ⟨w.heap.size + 1 + 1, 1, none⟩ = some (.slice none 0 0) ∧ W.cell? ⟨w.heap.size + 1 + 1, 2, none⟩ = some (.slice none 0 0))) := fun W s => by
    have f0 := (s.block _ (lt_of_heap g0) (fun e => by have := HBK.out _ e; omega)).trans g0
    have f1 := (s.block _ (lt_of_heap g1) (fun e => by have := HBK.out _ e; omega)).trans g1
    have f2 := (s.block _ (lt_of_heap g2) (fun e => by have := HBK.out _ e; omega)).trans g2
    exact ⟨⟨(cell_of_row _ _ _ _ _ _ f0).trans rfl, (cell_of_row _ _ _ _ _ _ f0).trans rfl, (cell_of_row _ _ _ _ _ _ f0).trans rfl⟩, ⟨(cell_of_row _ _ _ _ _ _ f1).trans rfl, (cell_of_row _ _ _ _ _ _ f1).trans rfl, (cell_of_row _ _ _ _ _ _ f1).trans rfl⟩, (cell_of_row _ _ _ _ _ _ f2).trans rfl, (cell_of_row _ _ _ _ _ _ f2).trans rfl, (cell_of_row _ _ _ _ _ _ f2).trans rfl⟩
  have up : ∀ {A B : World}, Same A B → Fr (blkIs ao) A B := fun s => s.mono (fun _ _ f => f.elim)
  have UP : Hid (∀ A B : World, Same A B → Fr (blkIs ao) A B) := fun A B s => up s
  obtain ⟨⟨a0, a1, a2⟩, ⟨b0, b1, b2⟩, c0, c1, c2⟩ := HC.out V (Fr.refl _ V)
  clear ha hb hw hab haw g0 g1 g2 up
  go_enter Try.func10, Try.ntmps10
  go_wp2_with fail
  rw [← hV]
  clear hV
  refine (HS1.out _ t1).mono ?_
  rintro e W1 ⟨rfl, s1⟩
  clear a0 a1 a2 b0 b1 b2 c0 c1 c2
  obtain ⟨⟨a0, a1, a2⟩, ⟨b0, b1, b2⟩, c0, c1, c2⟩ := HC.out W1 (UP.out _ _ s1)
  go_wp2_with fail
  refine (HS2.out _ (UP.out _ _ (t1.trans s1))).mono ?_
  rintro e W2 ⟨rfl, s2⟩
  have s2 := s1.trans s2
  clear a0 a1 a2 b0 b1 b2 c0 c1 c2
  obtain ⟨⟨a0, a1, a2⟩, ⟨b0, b1, b2⟩, c0, c1, c2⟩ := HC.out W2 (UP.out _ _ s2)
  go_wp2_with fail
  refine (HP.out _ (t1.trans s2)).mono ?_
  rintro e W3 ⟨⟨n, rfl⟩, s3⟩
  have s4 : Fr (blkIs ao) V W3 := Fr.trans (UP.out _ _ s2) s3 (fun _ _ e => e)
  clear a0 a1 a2 b0 b1 b2 c0 c1 c2
  obtain ⟨⟨a0, a1, a2⟩, ⟨b0, b1, b2⟩, c0, c1, c2⟩ := HC.out W3 s4
  have s5 : Fr (blkIs ao) w W3 := Fr.trans (UP.out _ _ t1) s4 (fun _ _ e => e)
  go_wp2_with fail
  refine (HS2.out _ s5).mono ?_
  rintro e W4 ⟨rfl, s6⟩
  go_wp2_with fail
  go_ret
  exact ⟨rfl, Fr.trans s5 (UP.out _ _ s6) (fun _ _ e => e)⟩
end Go.Proofs.Ytkkjalmedogmeaa
