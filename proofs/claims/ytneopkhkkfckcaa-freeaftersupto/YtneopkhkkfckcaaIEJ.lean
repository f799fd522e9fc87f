/- free: what the laws lean on when they are opened. -/
import Derived.Test.YtneopkhkkfckcaaRows
import Derived.Test.YtneopkhkkfckcaaEA
import Derived.ProofKit
import Derived.OpenShut
import Derived.Test.YtneopkhkkfckcaaID
namespace Go.Proofs.Ytneopkhkkfckcaa
open Go.ChangeShapes Go.WideShapes Go.ChangeAt Go.RowKit

theorem nd_own : ownKnob Try.prog.godebug = none := by kernel_rfl
theorem nd_laidOut : laidOutB Try.prog = true := by kernel_rfl
theorem Fr.below {S : Nat → Prop} {w w' : World} (h : Fr S w w') {B : Nat} (hB : B ≤ w.heap.size) (hS : ∀ k, S k → B ≤ k) : Below B w w' :=
  ⟨h.os, h.tape, h.output, h.size, fun k hk => h.block k (by omega) (fun s => by have := hS k s; omega)⟩
end Go.Proofs.Ytneopkhkkfckcaa
namespace Go.Proofs.Ytneopkhkkfckcaa
open Go.RowKit Go.Maps

theorem own_capF {W : World} {e : TypeId} {B sz n cap : Nat} {xs : List Value} {ao : Option Addr} (h : W.ownsRow B e sz (.slice ao n cap) n xs) : n ≤ cap ∧ (cap ≤ maxLen) := by
  obtain ⟨hl, h0 | ⟨g2, c2, cur, hv, _, hh, h1, h2, _⟩⟩ := h
  · obtain ⟨h1, h2⟩ := h0
    injection h1 with _ _ h3
    rw [h2, h3]; exact ⟨by omega, by unfold maxLen; omega⟩
  · injection hv with _ _ e3
    rw [e3]; exact ⟨h1, h2⟩
/-- Numbers that came in. -/
structure NIn (w : World) (pa : Option Addr) (pb po cp : Nat) (ns : List Nat) : Prop where
  row : NRow w pa pb po ns
  no : pa = none → ns = [] ∧ cp = 0
theorem NIn.same {w w' : World} {pa : Option Addr} {pb po cp : Nat} {ns : List Nat} (h : NIn w pa pb po cp ns) (s : Same w w') : NIn w' pa pb po cp ns := ⟨h.row.same s, h.no⟩
theorem NIn.part {w : World} {pa : Option Addr} {pb po cp : Nat} {ns : List Nat} (h : NIn w pa pb po cp ns) : PartOk w 1 ⟨pa, ns.length, cp, ncells ns⟩ := by
  refine ⟨by simp [ncells], fun e => ?_, fun a ha j u hu => ?_, fun u hu => ?_⟩
  · obtain ⟨h1, h2⟩ := h.no e
    exact ⟨by simp [h1], h2⟩
  · have ha' : pa = some a := ha
    have hu' : (ncells ns)[j]? = some u := hu
    unfold ncells at hu'
    rw [List.getElem?_map] at hu'
    cases hx : ns[j]? with
    | none => rw [hx] at hu'; cases hu'
    | some x =>
      rw [hx] at hu'
      cases hu'
      have hp := (h.row.place (by intro e; rw [e] at hx; simp at hx)).1
      rw [ha'] at hp
      cases hp
      rw [Addr.add_mid]
      exact h.row.cells j x hx
  · obtain ⟨x, _, rfl⟩ := List.mem_map.1 hu
    rfl
def mkN (k : Nat) : List Nat := (List.range k).map fun i => 900000 + i
theorem mkN_len (k : Nat) : (mkN k).length = k := by simp [mkN]
theorem mkN_succ (k : Nat) : mkN (k + 1) = mkN k ++ [900000 + k] := by simp [mkN, List.range_succ]
abbrev LentN (W : World) (B g c : Nat) (ns : List Nat) : Prop := W.ownsRow B 24 1 (.slice (some ⟨g, 0, none⟩) (ns.length + 70) c) (ns.length + 70) (ncells (ns ++ mkN 70))
theorem LentN.row {W : World} {B g c : Nat} {ns : List Nat} (h : LentN W B g c ns) : NRow W (some ⟨g, 0, none⟩) g 0 (ns ++ mkN 70) := by
  obtain ⟨g1, r1⟩ := own_nrow h (by simp [mkN_len])
  have e1 := (r1.place (by intro e; have := congrArg List.length e; simp [mkN_len] at this)).1
  cases e1
  exact r1
theorem nrow_front {w : World} {pa : Option Addr} {pb po : Nat} {a b : List Nat} (h : NRow w pa pb po (a ++ b)) : NRow w pa pb po a :=
  ⟨fun e => h.place (by intro e2; exact e (List.append_eq_nil_iff.1 e2).1), fun j x hx => h.cells j x (by rw [List.getElem?_append_left (List.getElem?_eq_some_iff.1 hx).1]; exact hx)⟩
theorem LentN.ns {W : World} {B g c : Nat} {ns : List Nat} (h : LentN W B g c ns) : NRow W (some ⟨g, 0, none⟩) g 0 ns := nrow_front (LentN.row h)
theorem LentN.same {W W' : World} {B g c : Nat} {ns : List Nat} (h : LentN W B g c ns) (s : Same W W') : LentN W' B g c ns := own_frameB h s (fun _ _ f => f)
set_option maxRecDepth 100000 in
set_option maxHeartbeats 1000000 in
theorem lentN_calls {pa : Option Addr} {pb po cp : Nat} {ns : List Nat} (w : World) (h : NIn w pa pb po cp ns) (hn : ns.length ≤ 1099511627000) :
    Calls Try.prog 7 #[.slice pa ns.length cp] w fun e w' => ∃ g c, e = .returned (.slice (some ⟨g, 0, none⟩) ns.length c) ∧ LentN w' w.heap.size g c ns ∧ Same w w' := by
  have HP : Hid (PartOk w 1 ⟨pa, ns.length, cp, ncells ns⟩) := h.part
  obtain ⟨n, hnn⟩ : ∃ n, n = ns.length := ⟨_, rfl⟩
  rw [← hnn] at hn HP ⊢
  have HN : Hid (n = ns.length) := hnn
  have hb0 : 0 + n ≤ 1099511627776 := by omega
  have HLe : Hid (n ≤ 1099511627000) := hn
  clear h hnn hn
  go_enter Try.func7, Try.ntmps7
  go_wp2_with (at_builtin; go_must (refine wpList_partNums _ (by rfl) _ _ (by rfl) (by rfl) (own_nil (base := w.heap.size)) (x := ⟨pa, n, cp, ncells ns⟩) (by rfl) HP.out hb0 (Nat.le_refl _) ?_; intro ao1 c1 W1 o1 g1))
  have f1 : Same w W1 := Fr.grown (Fr.refl _ _) g1 (fun k e _ => by cases e)
  have HO1 : Hid (W1.ownsRow w.heap.size 24 1 (.slice ao1 n c1) n (ncells ns)) := by
    have := o1
    simp only [Nat.zero_add, List.nil_append] at this
    exact this
  have HS1 : Hid (Same w W1) := f1
  clear f1 o1 g1 hb0
  go_loopg [3, 4] 70 (fun g lv iv wr => ∃ (j : Nat) (ao : Option Addr) (c : Nat), lv = .slice ao (n + j) c ∧ iv = .int .i64 (j : Int) ∧ j ≤ 70 ∧ g = 70 - j ∧ Hid (wr.ownsRow w.heap.size 24 1 (.slice ao (n + j) c) (n + j) (ncells (ns ++ mkN j))) ∧ Hid (Same w wr))
  case atStart => exact ⟨0, ao1, c1, rfl, rfl, by omega, rfl, by rw [show mkN 0 = [] from rfl, List.append_nil]; exact HO1, HS1⟩
  case round =>
    obtain ⟨j, ao, c, rfl, rfl, hj, hg, HO, HS⟩ := hrel
    by_cases hgo : j < 70
    · have hgi : (j : Int) < 70 := by omega
      have hwj : RowKit.wrap64 (900000 + (j : Int)) = 900000 + (j : Int) := by unfold RowKit.wrap64; omega
      have hwk : IntKind.u32.wrap (900000 + (j : Int)) = 900000 + (j : Int) := by rw [IntKind.wrap_u32]; omega
      obtain ⟨v, hv⟩ : ∃ v : Nat, v = 900000 + j := ⟨_, rfl⟩
      have hvi : 900000 + (j : Int) = (v : Int) := by omega
      have HV : Hid (v = 900000 + j) := hv
      have HOA : Hid ((wr.alloc (.cells #[.int .u32 (v : Int)] 24)).ownsRow w.heap.size 24 1 (.slice ao (n + j) c) (n + j) (ncells (ns ++ mkN j))) := own_frameB HO.out ((Fr.refl (fun _ => False) wr).alloc _) (fun kk hk e => e)
      have HYA : Hid (Same w (wr.alloc (.cells #[.int .u32 (v : Int)] 24))) := Fr.alloc HS.out _
      have hjb : n + j + 1 ≤ 1099511627776 := by have := HLe.out; omega
      have hvb : w.heap.size ≤ (wr.alloc (.cells #[.int .u32 (v : Int)] 24)).heap.size := HYA.out.size
      rw [hvi] at hwj hwk
      clear hv
      go_wp2_with (at_builtin; go_must (refine wpList_partNums _ (by rfl) _ _ (by rfl) (by rfl) HOA.out (x := ⟨some ⟨wr.heap.size, 0, none⟩, 1, 1, [.int .u32 (v : Int)]⟩) (by rfl) (part_oneN _ _ (heap_alloc_new wr _) rfl) hjb hvb ?_; intro ao2 c2 X2 o2 g2))
      have f2 : Fr (fun k => (Value.slice ao (n + j) c).ownBlock = some k) (wr.alloc (.cells #[.int .u32 (v : Int)] 24)) X2 := Fr.grown (Fr.refl _ _) g2 (fun k e _ => e)
      have HO2 : Hid (X2.ownsRow w.heap.size 24 1 (.slice ao2 (n + (j + 1)) c2) (n + (j + 1)) (ncells (ns ++ mkN (j + 1)))) := by
        show World.ownsRow _ _ _ _ _ _ _
        rw [mkN_succ, ← List.append_assoc, ncells_app, ← HV.out]
        exact o2
      have HS2 : Hid (Same w X2) := Fr.trans HYA.out f2 (fun k hk e => by have := own_blk HOA.out k e; omega)
      clear f2 o2 g2 hjb hvb
      go_wp2_with fail
      go_roundg (70 - (j + 1))
      case measure => omega
      case rel => exact ⟨j + 1, ao2, c2, rfl, by go_num, by omega, rfl, HO2, HS2⟩
    · have hgi : ¬ (j : Int) < 70 := by omega
      obtain rfl : j = 70 := by omega
      obtain ⟨g1, rfl, _⟩ := own_some (own_base HO.out (Nat.zero_le _)) (by omega)
      obtain ⟨hc1, hc2⟩ := own_capF HO.out
      have hci : (n : Int) ≤ (c : Int) := by omega
      have HL : Hid (LentN wr w.heap.size g1 c ns) := by show World.ownsRow _ _ _ _ _ _ _; rw [← HN.out]; exact HO.out
      clear hc1 hc2 hgi
      go_wp2_with fail
      go_ret
      exact ⟨g1, c, rfl, HL.out, HS.out⟩
set_option maxRecDepth 100000 in
set_option maxHeartbeats 1000000 in
theorem keptN_true {pa : Option Addr} {B g c pb po cp : Nat} {ns : List Nat} (w : World) (hl : LentN w B g c ns) (h : NRow w pa pb po ns) (hn : ns.length ≤ 1099511627000) :
    Calls Try.prog 13 #[.slice (some ⟨g, 0, none⟩) ns.length c, .slice pa ns.length cp] w fun e w' => e = .returned (.bool true) ∧ Same w w' := by
  have HC : Hid (∀ W, Same w W → ∀ k, k < 70 → W.cell? ⟨g, ns.length + k, none⟩ = some (.int .u32 (900000 + (k : Int)))) := fun W s k hk => by
    have := (LentN.row hl).cells (ns.length + k) (900000 + k) (by rw [List.getElem?_append_right (by omega), Nat.add_sub_cancel_left]; simp [mkN, List.getElem?_range hk])
    rw [Nat.zero_add] at this
    have h2 := s.keep this
    rw [h2]
    congr 2
  have HSN : Hid (∀ W, Same w W → Calls Try.prog 21 #[.slice (some ⟨g, 0, none⟩) ns.length c, .slice pa ns.length cp] W fun e w' => e = .returned (.bool true) ∧ Same W w') := fun W s => sameNumbers_true W ((LentN.ns hl).same s) (h.same s) (by omega)
  obtain ⟨hc1, hc2⟩ := own_capF hl
  generalize ns.length = n at *
  have hw1 : RowKit.wrap64 ((n : Int) + 70) = (n : Int) + 70 := by unfold RowKit.wrap64; omega
  have hci : (n : Int) + 70 ≤ (c : Int) := by omega
  have hci0 : (0 : Int) ≤ (n : Int) + 70 := by omega
  clear h hl hc1 hc2
  go_enter Try.func13, Try.ntmps13
  go_wp2_with fail
  clear hci hci0 hw1
  go_loopg [6] 70 (fun g iv wr => ∃ k : Nat, iv = .int .i64 (k : Int) ∧ k ≤ 70 ∧ g = 70 - k ∧ Hid (Same w wr))
  case atStart => exact ⟨0, rfl, by omega, rfl, Fr.refl _ w⟩
  case round =>
    obtain ⟨k, rfl, hk, hg, HS⟩ := hrel
    by_cases hgo : k < 70
    · have hgi : (k : Int) < 70 := by omega
      have c1 := HC.out _ HS.out k hgo
      have hwj : RowKit.wrap64 (900000 + (k : Int)) = 900000 + (k : Int) := by unfold RowKit.wrap64; omega
      have hwk : IntKind.u32.wrap (900000 + (k : Int)) = 900000 + (k : Int) := by rw [IntKind.wrap_u32]; omega
      go_wp2_with fail
      go_roundg (70 - (k + 1))
      case measure => omega
      case rel => exact ⟨k + 1, by go_num, by omega, rfl, HS⟩
    · have hgi : ¬ (k : Int) < 70 := by omega
      go_wp2_with fail
      refine (HSN.out _ HS.out).mono ?_
      rintro e W2 ⟨rfl, s2⟩
      have HS2 : Hid (Same w W2) := HS.out.trans s2
      clear s2
      go_wp2_with fail
      go_ret
      exact ⟨rfl, HS2.out⟩
end Go.Proofs.Ytneopkhkkfckcaa
