/-
  Walks: Each over numbers, bytes and texts, as the steps lay them.
-/
import Derived.Test.YtpcdpdagcigigaaWG
import Derived.Test.YtpcdpdagcigigaaWC
namespace Go.Proofs.Ytpcdpdagcigigaa
open Go.RowKit

def byteB (c : UInt8) : List UInt8 := [c]
theorem fn_layText {w : World} {b : Nat} {g : Option Nat} {bs : List UInt8} (s : ByteArray) (_ho : True) (h : WrAt w b g bs) (hl : bs.length + (textB s).length ≤ 999999998000) :
    Calls Try.prog 45 #[.pointer (some ⟨b, 0, none⟩), .string s] w fun e w' => e = .returned (.tuple #[]) ∧ ∃ g', WrAt w' b g' (bs ++ textB s) ∧ WrStep b g g' w w' := by
  have h1 := textB_length s
  go_enter Try.func45, Try.ntmps45
  go_wp2_with fail
  refine (wtext_calls s h (by omega)).mono ?_
  rintro e w1 ⟨rfl, hq⟩
  go_wp2_with fail
  go_end0
  exact ⟨rfl, hq⟩
theorem fn_layFree {w : World} {b : Nat} {g : Option Nat} {bs : List UInt8} (n : Nat) (hn : n < 18446744073709551616) (h : WrAt w b g bs) (hl : bs.length + (freeB n).length ≤ 999999998000) :
    Calls Try.prog 43 #[.pointer (some ⟨b, 0, none⟩), .int .u64 (n : Int)] w fun e w' => e = .returned (.tuple #[]) ∧ ∃ g', WrAt w' b g' (bs ++ freeB n) ∧ WrStep b g g' w w' := by
  go_enter Try.func43, Try.ntmps43
  go_wp2_with fail
  refine (wfree_calls n hn h (by omega)).mono ?_
  rintro e w1 ⟨rfl, hq⟩
  go_wp2_with fail
  go_end0
  exact ⟨rfl, hq⟩
theorem fn_layByte {w : World} {b : Nat} {g : Option Nat} {bs : List UInt8} (c : UInt8) (_ho : True) (h : WrAt w b g bs) (hl : bs.length + (byteB c).length ≤ 999999998000) :
    Calls Try.prog 79 #[.pointer (some ⟨b, 0, none⟩), .int .u8 (c.toNat : Int)] w fun e w' => e = .returned (.tuple #[]) ∧ ∃ g', WrAt w' b g' (bs ++ byteB c) ∧ WrStep b g g' w w' := by
  have hc := c.toNat_lt
  have he : fixB 1 (c.toNat : Int) = byteB c := by
    simp only [fixB, byteB]
    congr 1
    apply UInt8.toNat.inj
    simp
    omega
  go_enter Try.func79, Try.ntmps79
  go_wp2_with fail
  have hp := put_u8 (c.toNat : Int) (by omega) (by omega) h (by simp [byteB] at hl; omega)
  rw [he] at hp
  refine hp.mono ?_
  rintro e w1 ⟨rfl, hq⟩
  go_wp2_with fail
  go_end0
  exact ⟨rfl, hq⟩

/-- Things laid one behind the other. -/
def laidAll {α : Type} (enc : α → List UInt8) (l : List α) : List UInt8 := (l.map enc).flatten
theorem laidAll_take_succ {α : Type} (enc : α → List UInt8) (l : List α) (k : Nat) (h : k < l.length) : laidAll enc (l.take (k + 1)) = laidAll enc (l.take k) ++ enc l[k] := by
  unfold laidAll; rw [List.take_succ_eq_append_getElem h, List.map_append, List.flatten_append]; simp
theorem laidAll_take_le {α : Type} (enc : α → List UInt8) (l : List α) (k : Nat) : (laidAll enc (l.take k)).length ≤ (laidAll enc l).length := by
  have : (laidAll enc l).length = (laidAll enc (l.take k)).length + (laidAll enc (l.drop k)).length := by
    rw [← List.length_append]; unfold laidAll; rw [← List.flatten_append, ← List.map_append, List.take_append_drop]
  omega

theorem eql_layText (W : World) : (binOp .eql 79 (.func (.func 45) #[] #[]) .nilFunc).run Try.prog W = .ok (.bool false) W := by kernel_rfl

set_option maxRecDepth 100000 in
set_option maxHeartbeats 1000000 in
theorem each_layText {w : World} {b : Nat} {g : Option Nat} {bs : List UInt8} (l : List ByteArray) (hok : ∀ x ∈ l, (fun _ => True) x) (ab aoff c : Nat) (hc : ∀ i x, l[i]? = some x → w.cell? ⟨ab, aoff + i, none⟩ = some ((fun s => Value.string s) x)) (hab : ab < w.heap.size) (hb : ab ≠ b) (hbg : some ab ≠ g)
    (hss : l.length ≤ 100000000000) (h : WrAt w b g bs) (hl : bs.length + (laidAll (textB) l).length ≤ 900000000000) :
    Calls Try.prog 44 #[.pointer (some ⟨b, 0, none⟩), .slice (some ⟨ab, aoff, none⟩) l.length c, .func (.func 45) #[] #[]] w fun e w' => e = .returned (.tuple #[]) ∧ ∃ g', WrAt w' b g' (bs ++ (freeB l.length ++ laidAll (textB) l)) ∧ WrStep b g g' w w' := by
  obtain ⟨ao, c, hblk, hown, hg⟩ := id h
  obtain ⟨c0, c1, f0, f1⟩ := cell_of_two hblk
  have HC : Hid (∀ i x, l[i]? = some x → w.cell? ⟨ab, aoff + i, none⟩ = some ((fun s => Value.string s) x)) := hc
  have HK : Hid (∀ x ∈ l, (fun _ => True) x) := hok
  clear hc hok
  have hef := eql_layText
  go_enter Try.func44, Try.ntmps44
  go_wp2_with (go_at_call 47; refine (there_calls c0).mono ?_; rintro e w' ⟨rfl, rfl⟩)
  refine (wfree_calls l.length (by omega) h (by omega)).mono ?_
  rintro e w1 ⟨rfl, g1, h1, st1⟩
  have hfl := freeB_length l.length
  go_wp2_with fail
  go_loopw [20] (fun iv wr => ∃ (k : Nat) (cur : List UInt8) (g2 : Option Nat), iv = .int .i64 k ∧ k ≤ l.length ∧ WrAt wr b g2 cur ∧ Hid (cur = bs ++ freeB l.length ++ laidAll (textB) (l.take k)) ∧ WrStep b g g2 w wr)
    (fun iv _ => l.length - (intOf iv).toNat)
  case atStart => exact ⟨0, bs ++ freeB l.length, g1, rfl, by omega, h1, by show _ = _; simp [laidAll], st1⟩
  case round =>
    obtain ⟨k, cur, g2, rfl, hk, hwr, hd, hst⟩ := hrel
    by_cases hlt : k < l.length
    · have hlen : cur.length + ((textB) l[k]).length ≤ 999999998000 := by
        have h1 := laidAll_take_succ (textB) l k hlt
        have h2 := laidAll_take_le (textB) l (k + 1)
        rw [h1, List.length_append] at h2
        rw [hd.out, List.length_append, List.length_append]; omega
      have hcx : wr.cell? ⟨ab, aoff + k, none⟩ = some ((fun s => Value.string s) l[k]) := by
        rw [hst.1.cell (p := ⟨ab, aoff + k, none⟩) hab (by rintro (e | e); exact hb e; exact hbg e)]
        exact HC.out k _ (List.getElem?_eq_getElem hlt)
      obtain ⟨x, hx⟩ : ∃ x, x = l[k] := ⟨_, rfl⟩
      have HX : Hid (x = l[k]) := hx
      have hok : (fun _ => True) x := by rw [hx]; exact HK.out l[k] (List.getElem_mem hlt)
      rw [← hx] at hlen hcx
      clear hx
      go_wp2_with fail
      refine (fn_layText x hok hwr hlen).mono ?_
      rintro e w2 ⟨rfl, g3, h3, st3⟩
      go_wp2_with fail
      go_roundw
      case rel => exact ⟨k + 1, cur ++ (textB) x, g3, by go_num, by omega, h3, by show _ = _; rw [laidAll_take_succ (textB) l k hlt, hd.out, HX.out, List.append_assoc], hst.trans st3⟩
      case measure => simp [intOf]; omega
    · go_wp2_with fail
      go_end0
      have hke : k = l.length := by omega
      subst hke
      refine ⟨rfl, g2, ?_, hst⟩
      have e := hd.out
      rw [List.take_length, List.append_assoc] at e
      rw [← e]; exact hwr

set_option maxRecDepth 100000 in
set_option maxHeartbeats 1000000 in
theorem each_layText_none {w : World} {b : Nat} {g : Option Nat} {bs : List UInt8} (ad : Option Addr) (c : Nat) (h : WrAt w b g bs) (hl : bs.length ≤ 900000000000) :
    Calls Try.prog 44 #[.pointer (some ⟨b, 0, none⟩), .slice ad 0 c, .func (.func 45) #[] #[]] w fun e w' => e = .returned (.tuple #[]) ∧ ∃ g', WrAt w' b g' (bs ++ (freeB 0 ++ laidAll (textB) [])) ∧ WrStep b g g' w w' := by
  obtain ⟨ao, c, hblk, hown, hg⟩ := id h
  obtain ⟨c0, c1, f0, f1⟩ := cell_of_two hblk
  have hef := eql_layText
  go_enter Try.func44, Try.ntmps44
  go_wp2_with (go_at_call 47; refine (there_calls c0).mono ?_; rintro e w' ⟨rfl, rfl⟩)
  refine (wfree_calls 0 (by omega) h (by omega)).mono ?_
  rintro e w1 ⟨rfl, g1, h1, st1⟩
  go_wp2_with fail
  go_rounds 1
  go_end0
  refine ⟨rfl, g1, ?_, st1⟩
  simpa [laidAll] using h1
theorem eql_layFree (W : World) : (binOp .eql 30 (.func (.func 43) #[] #[]) .nilFunc).run Try.prog W = .ok (.bool false) W := by kernel_rfl

set_option maxRecDepth 100000 in
set_option maxHeartbeats 1000000 in
theorem each_layFree {w : World} {b : Nat} {g : Option Nat} {bs : List UInt8} (l : List Nat) (hok : ∀ x ∈ l, (fun (n : Nat) => n < 18446744073709551616) x) (ab aoff c : Nat) (hc : ∀ i x, l[i]? = some x → w.cell? ⟨ab, aoff + i, none⟩ = some ((fun (n : Nat) => Value.int .u64 (n : Int)) x)) (hab : ab < w.heap.size) (hb : ab ≠ b) (hbg : some ab ≠ g)
    (hss : l.length ≤ 100000000000) (h : WrAt w b g bs) (hl : bs.length + (laidAll (freeB) l).length ≤ 900000000000) :
    Calls Try.prog 5 #[.pointer (some ⟨b, 0, none⟩), .slice (some ⟨ab, aoff, none⟩) l.length c, .func (.func 43) #[] #[]] w fun e w' => e = .returned (.tuple #[]) ∧ ∃ g', WrAt w' b g' (bs ++ (freeB l.length ++ laidAll (freeB) l)) ∧ WrStep b g g' w w' := by
  obtain ⟨ao, c, hblk, hown, hg⟩ := id h
  obtain ⟨c0, c1, f0, f1⟩ := cell_of_two hblk
  have HC : Hid (∀ i x, l[i]? = some x → w.cell? ⟨ab, aoff + i, none⟩ = some ((fun (n : Nat) => Value.int .u64 (n : Int)) x)) := hc
  have HK : Hid (∀ x ∈ l, (fun (n : Nat) => n < 18446744073709551616) x) := hok
  clear hc hok
  have hef := eql_layFree
  go_enter Try.func5, Try.ntmps5
  go_wp2_with (go_at_call 47; refine (there_calls c0).mono ?_; rintro e w' ⟨rfl, rfl⟩)
  refine (wfree_calls l.length (by omega) h (by omega)).mono ?_
  rintro e w1 ⟨rfl, g1, h1, st1⟩
  have hfl := freeB_length l.length
  go_wp2_with fail
  go_loopw [20] (fun iv wr => ∃ (k : Nat) (cur : List UInt8) (g2 : Option Nat), iv = .int .i64 k ∧ k ≤ l.length ∧ WrAt wr b g2 cur ∧ Hid (cur = bs ++ freeB l.length ++ laidAll (freeB) (l.take k)) ∧ WrStep b g g2 w wr)
    (fun iv _ => l.length - (intOf iv).toNat)
  case atStart => exact ⟨0, bs ++ freeB l.length, g1, rfl, by omega, h1, by show _ = _; simp [laidAll], st1⟩
  case round =>
    obtain ⟨k, cur, g2, rfl, hk, hwr, hd, hst⟩ := hrel
    by_cases hlt : k < l.length
    · have hlen : cur.length + ((freeB) l[k]).length ≤ 999999998000 := by
        have h1 := laidAll_take_succ (freeB) l k hlt
        have h2 := laidAll_take_le (freeB) l (k + 1)
        rw [h1, List.length_append] at h2
        rw [hd.out, List.length_append, List.length_append]; omega
      have hcx : wr.cell? ⟨ab, aoff + k, none⟩ = some ((fun (n : Nat) => Value.int .u64 (n : Int)) l[k]) := by
        rw [hst.1.cell (p := ⟨ab, aoff + k, none⟩) hab (by rintro (e | e); exact hb e; exact hbg e)]
        exact HC.out k _ (List.getElem?_eq_getElem hlt)
      obtain ⟨x, hx⟩ : ∃ x, x = l[k] := ⟨_, rfl⟩
      have HX : Hid (x = l[k]) := hx
      have hok : (fun (n : Nat) => n < 18446744073709551616) x := by rw [hx]; exact HK.out l[k] (List.getElem_mem hlt)
      rw [← hx] at hlen hcx
      clear hx
      go_wp2_with fail
      refine (fn_layFree x hok hwr hlen).mono ?_
      rintro e w2 ⟨rfl, g3, h3, st3⟩
      go_wp2_with fail
      go_roundw
      case rel => exact ⟨k + 1, cur ++ (freeB) x, g3, by go_num, by omega, h3, by show _ = _; rw [laidAll_take_succ (freeB) l k hlt, hd.out, HX.out, List.append_assoc], hst.trans st3⟩
      case measure => simp [intOf]; omega
    · go_wp2_with fail
      go_end0
      have hke : k = l.length := by omega
      subst hke
      refine ⟨rfl, g2, ?_, hst⟩
      have e := hd.out
      rw [List.take_length, List.append_assoc] at e
      rw [← e]; exact hwr

set_option maxRecDepth 100000 in
set_option maxHeartbeats 1000000 in
theorem each_layFree_none {w : World} {b : Nat} {g : Option Nat} {bs : List UInt8} (ad : Option Addr) (c : Nat) (h : WrAt w b g bs) (hl : bs.length ≤ 900000000000) :
    Calls Try.prog 5 #[.pointer (some ⟨b, 0, none⟩), .slice ad 0 c, .func (.func 43) #[] #[]] w fun e w' => e = .returned (.tuple #[]) ∧ ∃ g', WrAt w' b g' (bs ++ (freeB 0 ++ laidAll (freeB) [])) ∧ WrStep b g g' w w' := by
  obtain ⟨ao, c, hblk, hown, hg⟩ := id h
  obtain ⟨c0, c1, f0, f1⟩ := cell_of_two hblk
  have hef := eql_layFree
  go_enter Try.func5, Try.ntmps5
  go_wp2_with (go_at_call 47; refine (there_calls c0).mono ?_; rintro e w' ⟨rfl, rfl⟩)
  refine (wfree_calls 0 (by omega) h (by omega)).mono ?_
  rintro e w1 ⟨rfl, g1, h1, st1⟩
  go_wp2_with fail
  go_rounds 1
  go_end0
  refine ⟨rfl, g1, ?_, st1⟩
  simpa [laidAll] using h1
theorem eql_layByte (W : World) : (binOp .eql 59 (.func (.func 79) #[] #[]) .nilFunc).run Try.prog W = .ok (.bool false) W := by kernel_rfl

set_option maxRecDepth 100000 in
set_option maxHeartbeats 1000000 in
theorem each_layByte {w : World} {b : Nat} {g : Option Nat} {bs : List UInt8} (l : List UInt8) (hok : ∀ x ∈ l, (fun _ => True) x) (ab aoff c : Nat) (hc : ∀ i x, l[i]? = some x → w.cell? ⟨ab, aoff + i, none⟩ = some ((fun (c : UInt8) => Value.int .u8 (c.toNat : Int)) x)) (hab : ab < w.heap.size) (hb : ab ≠ b) (hbg : some ab ≠ g)
    (hss : l.length ≤ 100000000000) (h : WrAt w b g bs) (hl : bs.length + (laidAll (byteB) l).length ≤ 900000000000) :
    Calls Try.prog 77 #[.pointer (some ⟨b, 0, none⟩), .slice (some ⟨ab, aoff, none⟩) l.length c, .func (.func 79) #[] #[]] w fun e w' => e = .returned (.tuple #[]) ∧ ∃ g', WrAt w' b g' (bs ++ (freeB l.length ++ laidAll (byteB) l)) ∧ WrStep b g g' w w' := by
  obtain ⟨ao, c, hblk, hown, hg⟩ := id h
  obtain ⟨c0, c1, f0, f1⟩ := cell_of_two hblk
  have HC : Hid (∀ i x, l[i]? = some x → w.cell? ⟨ab, aoff + i, none⟩ = some ((fun (c : UInt8) => Value.int .u8 (c.toNat : Int)) x)) := hc
  have HK : Hid (∀ x ∈ l, (fun _ => True) x) := hok
  clear hc hok
  have hef := eql_layByte
  go_enter Try.func77, Try.ntmps77
  go_wp2_with (go_at_call 47; refine (there_calls c0).mono ?_; rintro e w' ⟨rfl, rfl⟩)
  refine (wfree_calls l.length (by omega) h (by omega)).mono ?_
  rintro e w1 ⟨rfl, g1, h1, st1⟩
  have hfl := freeB_length l.length
  go_wp2_with fail
  go_loopw [20] (fun iv wr => ∃ (k : Nat) (cur : List UInt8) (g2 : Option Nat), iv = .int .i64 k ∧ k ≤ l.length ∧ WrAt wr b g2 cur ∧ Hid (cur = bs ++ freeB l.length ++ laidAll (byteB) (l.take k)) ∧ WrStep b g g2 w wr)
    (fun iv _ => l.length - (intOf iv).toNat)
  case atStart => exact ⟨0, bs ++ freeB l.length, g1, rfl, by omega, h1, by show _ = _; simp [laidAll], st1⟩
  case round =>
    obtain ⟨k, cur, g2, rfl, hk, hwr, hd, hst⟩ := hrel
    by_cases hlt : k < l.length
    · have hlen : cur.length + ((byteB) l[k]).length ≤ 999999998000 := by
        have h1 := laidAll_take_succ (byteB) l k hlt
        have h2 := laidAll_take_le (byteB) l (k + 1)
        rw [h1, List.length_append] at h2
        rw [hd.out, List.length_append, List.length_append]; omega
      have hcx : wr.cell? ⟨ab, aoff + k, none⟩ = some ((fun (c : UInt8) => Value.int .u8 (c.toNat : Int)) l[k]) := by
        rw [hst.1.cell (p := ⟨ab, aoff + k, none⟩) hab (by rintro (e | e); exact hb e; exact hbg e)]
        exact HC.out k _ (List.getElem?_eq_getElem hlt)
      obtain ⟨x, hx⟩ : ∃ x, x = l[k] := ⟨_, rfl⟩
      have HX : Hid (x = l[k]) := hx
      have hok : (fun _ => True) x := by rw [hx]; exact HK.out l[k] (List.getElem_mem hlt)
      rw [← hx] at hlen hcx
      clear hx
      go_wp2_with fail
      refine (fn_layByte x hok hwr hlen).mono ?_
      rintro e w2 ⟨rfl, g3, h3, st3⟩
      go_wp2_with fail
      go_roundw
      case rel => exact ⟨k + 1, cur ++ (byteB) x, g3, by go_num, by omega, h3, by show _ = _; rw [laidAll_take_succ (byteB) l k hlt, hd.out, HX.out, List.append_assoc], hst.trans st3⟩
      case measure => simp [intOf]; omega
    · go_wp2_with fail
      go_end0
      have hke : k = l.length := by omega
      subst hke
      refine ⟨rfl, g2, ?_, hst⟩
      have e := hd.out
      rw [List.take_length, List.append_assoc] at e
      rw [← e]; exact hwr

set_option maxRecDepth 100000 in
set_option maxHeartbeats 1000000 in
theorem each_layByte_none {w : World} {b : Nat} {g : Option Nat} {bs : List UInt8} (ad : Option Addr) (c : Nat) (h : WrAt w b g bs) (hl : bs.length ≤ 900000000000) :
    Calls Try.prog 77 #[.pointer (some ⟨b, 0, none⟩), .slice ad 0 c, .func (.func 79) #[] #[]] w fun e w' => e = .returned (.tuple #[]) ∧ ∃ g', WrAt w' b g' (bs ++ (freeB 0 ++ laidAll (byteB) [])) ∧ WrStep b g g' w w' := by
  obtain ⟨ao, c, hblk, hown, hg⟩ := id h
  obtain ⟨c0, c1, f0, f1⟩ := cell_of_two hblk
  have hef := eql_layByte
  go_enter Try.func77, Try.ntmps77
  go_wp2_with (go_at_call 47; refine (there_calls c0).mono ?_; rintro e w' ⟨rfl, rfl⟩)
  refine (wfree_calls 0 (by omega) h (by omega)).mono ?_
  rintro e w1 ⟨rfl, g1, h1, st1⟩
  go_wp2_with fail
  go_rounds 1
  go_end0
  refine ⟨rfl, g1, ?_, st1⟩
  simpa [laidAll] using h1
end Go.Proofs.Ytpcdpdagcigigaa
