/- free: Entries, counted, fits, Body. -/
import Derived.Test.YtajbifblbmlffaaEA
namespace Go.Proofs.Ytajbifblbmlffaa
open Go.RowKit

/-- Numbers in a row that came in, or in one of one's own. -/
structure NRow (w : World) (pa : Option Addr) (pb po : Nat) (ns : List Nat) : Prop where
  place : ns ≠ [] → pa = some ⟨pb, po, none⟩ ∧ pb < w.heap.size
  cells : ∀ (j x : Nat), ns[j]? = some x → w.cell? ⟨pb, po + j, none⟩ = some (.int .u32 (x : Int))
theorem NRow.same {w w' : World} {pa : Option Addr} {pb po : Nat} {ns : List Nat} (h : NRow w pa pb po ns) (s : Same w w') : NRow w' pa pb po ns :=
  ⟨fun e => ⟨(h.place e).1, Nat.lt_of_lt_of_le (h.place e).2 s.size⟩, fun j x hx => s.keep (h.cells j x hx)⟩
/-- How many numbers a list page holds. -/
def entN (p q : Int) : Nat := if frameP p q then ((p - 40) / 4).toNat else 0
theorem entN_cases (p q : Int) : (frameP p q = false ∧ entN p q = 0) ∨ (frameP p q = true ∧ ((entN p q : Int) = (p - 40) / 4 ∧ entN p q ≤ 2038 ∧ 1024 ≤ p ∧ p ≤ 8192)) := by
  unfold entN
  cases h : frameP p q with
  | false => exact .inl ⟨rfl, rfl⟩
  | true =>
    refine .inr ⟨rfl, ?_⟩
    have hp : p = 1024 ∨ p = 2048 ∨ p = 4096 ∨ p = 8192 := by
      unfold frameP at h
      simp at h
      omega
    simp only [if_true]
    omega
set_option maxRecDepth 100000 in
theorem room_calls (p q : Int) (hp : 1024 ≤ p) (hq : p ≤ 8192) (w : World) : Calls Try.prog 38 #[frameV p q] w fun e w' => e = .returned (.int .i64 (p - 32)) ∧ Same w w' := by
  have hw : RowKit.wrap64 (p - 32) = p - 32 := by unfold RowKit.wrap64; omega
  go_enter Try.func38, Try.ntmps38
  go_wp2
  go_ret
  exact ⟨by first | rfl | (rw [hw]) | simp_all, by repeat' (first | exact Fr.refl _ _ | refine Fr.alloc ?_ _)⟩
set_option maxRecDepth 100000 in
theorem entries_calls (p q : Int) (w : World) : Calls Try.prog 20 #[frameV p q] w fun e w' => e = .returned (.int .i64 (entN p q : Int)) ∧ Same w w' := by
  have HM : Hid (∀ W, Calls Try.prog 25 #[.agg #[.int .i64 p, .int .i64 q]] W fun e w' => e = .returned (.bool (frameP p q)) ∧ Same W w') := may_calls p q
  have t1 : Same w (w.alloc (.cells #[.int .i64 p, .int .i64 q] 23)) := (Fr.refl _ w).alloc _
  have HC : Hid (∀ W, Same (w.alloc (.cells #[.int .i64 p, .int .i64 q] 23)) W → W.cell? ⟨w.heap.size, 0, none⟩ = some (.int .i64 p) ∧ W.cell? ⟨w.heap.size, 1, none⟩ = some (.int .i64 q)) := fun W h => ⟨h.keep (by simp), h.keep (by simp)⟩
  rcases entN_cases p q with ⟨h1, h2⟩ | ⟨h1, h2, h3, h4, h5⟩
  · rw [h1] at HM
    rw [h2]
    go_enter Try.func20, Try.ntmps20
    go_wp2_with fail
    refine (HM.out _).mono ?_
    rintro e W1 ⟨rfl, s1⟩
    go_wp2_with fail
    go_ret
    exact ⟨rfl, t1.trans s1⟩
  · rw [h1] at HM
    have HR : Hid (∀ W, Calls Try.prog 38 #[.agg #[.int .i64 p, .int .i64 q]] W fun e w' => e = .returned (.int .i64 (p - 32)) ∧ Same W w') := room_calls p q h4 h5
    have hw : RowKit.wrap64 (p - 32 - 8) = p - 40 := by unfold RowKit.wrap64; omega
    have hd : Int.tdiv (p - 40) 4 = (entN p q : Int) := by rw [h2]; exact Int.tdiv_eq_ediv_of_nonneg (by omega)
    have hw2 : RowKit.wrap64 (entN p q : Int) = (entN p q : Int) := by unfold RowKit.wrap64; omega
    go_enter Try.func20, Try.ntmps20
    go_wp2_with fail
    refine (HM.out _).mono ?_
    rintro e W1 ⟨rfl, s1⟩
    obtain ⟨c0, c1⟩ := HC.out _ s1
    go_wp2_with fail
    refine (HR.out _).mono ?_
    rintro e W2 ⟨rfl, s2⟩
    go_wp2_with fail
    go_ret
    exact ⟨by first | rfl | (simp_all; try omega), (t1.trans s1).trans s2⟩
/-- Whether a number is that of a page in a file of so many. -/
def cntB (n pages : Nat) : Bool := decide (2 ≤ n) && decide (n < pages)
set_option maxRecDepth 100000 in
theorem fcounted_calls (n pages : Nat) (w : World) : Calls Try.prog 28 #[.int .u32 (n : Int), .int .u32 (pages : Int)] w fun e w' => e = .returned (.bool (cntB n pages)) ∧ Same w w' := by
  go_enter Try.func28, Try.ntmps28
  by_cases h1 : (2 : Int) ≤ (n : Int)
  · by_cases h2 : (n : Int) < (pages : Int)
    · go_wp2
      go_ret
      exact ⟨by unfold cntB; rw [decide_eq_true (by omega : 2 ≤ n), decide_eq_true (by omega : n < pages)]; first | rfl | simp_all, Fr.refl _ _⟩
    · go_wp2
      go_ret
      exact ⟨by unfold cntB; rw [decide_eq_true (by omega : 2 ≤ n), decide_eq_false (by omega : ¬ n < pages)]; first | rfl | simp_all, Fr.refl _ _⟩
  · go_wp2
    go_ret
    exact ⟨by unfold cntB; rw [decide_eq_false (by omega : ¬ 2 ≤ n)]; first | rfl | simp_all, Fr.refl _ _⟩
/-- Whether numbers are counted, and rise from above one. -/
def riseN (pages : Nat) : Nat → List Nat → Bool
  | _, [] => true
  | l, x :: xs => if cntB x pages = false then false else if x ≤ l then false else riseN pages x xs
def fitsN (p q : Int) (ns : List Nat) (pages : Nat) : Bool := decide (ns.length ≤ entN p q) && riseN pages 0 ns
set_option maxRecDepth 100000 in
set_option maxHeartbeats 1000000 in
theorem ffits_calls {p q : Int} {pa : Option Addr} {pb po cp pages : Nat} {ns : List Nat} (w : World) (hr : NRow w pa pb po ns) (hn : ns.length ≤ 4611686018427387904) :
    Calls Try.prog 26 #[frameV p q, .slice pa ns.length cp, .int .u32 (pages : Int)] w fun e w' => e = .returned (.bool (fitsN p q ns pages)) ∧ Same w w' := by
  have HE : Hid (∀ W, Calls Try.prog 20 #[.agg #[.int .i64 p, .int .i64 q]] W fun e w' => e = .returned (.int .i64 (entN p q : Int)) ∧ Same W w') := entries_calls p q
  have HCn : Hid (∀ n W, Calls Try.prog 28 #[.int .u32 ((n : Nat) : Int), .int .u32 (pages : Int)] W fun e w' => e = .returned (.bool (cntB n pages)) ∧ Same W w') := fun n W => fcounted_calls n pages W
  obtain ⟨V, hV⟩ : ∃ V, V = w.alloc (.cells #[.int .i64 p, .int .i64 q] 23) := ⟨_, rfl⟩
  have sx : Same w V := by rw [hV]; exact (Fr.refl _ w).alloc _
  have HR : Hid (NRow V pa pb po ns) := hr.same sx
  obtain ⟨n, hnn⟩ : ∃ n, n = ns.length := ⟨_, rfl⟩
  rw [← hnn] at hn ⊢
  have HN : Hid (n = ns.length) := hnn
  obtain ⟨en, hen⟩ : ∃ en, en = entN p q := ⟨_, rfl⟩
  rw [← hen] at HE
  have HF : Hid (fitsN p q ns pages = (decide (n ≤ en) && riseN pages 0 ns)) := by show _ = _; rw [hnn, hen]; rfl
  clear hr hnn hen
  go_enter Try.func26, Try.ntmps26
  go_wp2_with fail
  rw [← hV]
  clear hV
  refine (HE.out _).mono ?_
  rintro e W0 ⟨rfl, s0⟩
  have sy : Same w W0 := sx.trans s0
  by_cases hle : (en : Int) < (n : Int)
  · have hr : Hid (fitsN p q ns pages = false) := by show _ = _; rw [HF.out, decide_eq_false (by omega)]; rfl
    go_wp2_with fail
    go_ret
    exact ⟨by rw [hr.out]; rfl, sy⟩
  · have HF2 : Hid (fitsN p q ns pages = riseN pages 0 ns) := by show _ = _; rw [HF.out, decide_eq_true (by omega)]; rfl
    have hlb : decide ((en : Int) < (n : Int)) = false := decide_eq_false hle
    have hlb2 : decide (en < n) = false := decide_eq_false (by omega)
    clear hle
    go_wp2_with fail
    go_loopg [7, 17] n (fun g av iv wr => ∃ (k A : Nat), av = .int .u32 (A : Int) ∧ iv = .int .i64 (k : Int) ∧ k ≤ n ∧ g = n - k ∧ Hid (riseN pages 0 ns = riseN pages A (ns.drop k)) ∧ Same V wr)
    case atStart => exact ⟨0, 0, rfl, rfl, by omega, rfl, rfl, s0⟩
    case round =>
      obtain ⟨k, A, rfl, rfl, hk, hg, HI, sr⟩ := hrel
      by_cases hgo : k < n
      · obtain ⟨a, hx⟩ : ∃ x, ns[k]? = some x := ⟨_, List.getElem?_eq_getElem (by rw [← HN.out]; exact hgo)⟩
        have hc := (HR.out.same sr).cells k a hx
        obtain ⟨hpa, hlt⟩ := (HR.out.same sr).place (by intro e; rw [e] at hx; simp at hx)
        subst hpa
        have hdrop : ns.drop k = a :: ns.drop (k + 1) := by
          have hl : k < ns.length := by rw [← HN.out]; exact hgo
          have e : ns[k] = a := by rw [List.getElem?_eq_getElem hl] at hx; exact Option.some.inj hx
          rw [List.drop_eq_getElem_cons hl, e]
        have HI2 : Hid (riseN pages 0 ns = if cntB a pages = false then false else if a ≤ A then false else riseN pages a (ns.drop (k + 1))) := by
          show _ = _
          rw [HI.out, hdrop]; rfl
        obtain ⟨cb, hcb⟩ : ∃ cb, cntB a pages = cb := ⟨_, rfl⟩
        have HC1 : Hid (∀ W, Calls Try.prog 28 #[.int .u32 (a : Int), .int .u32 (pages : Int)] W fun e w' => e = .returned (.bool cb) ∧ Same W w') := fun W => by rw [← hcb]; exact HCn.out a W
        rw [hcb] at HI2
        clear hx hdrop HI hcb
        go_wp2_with fail
        refine (HC1.out _).mono ?_
        rintro e W1 ⟨rfl, s2⟩
        have t1 := Same.trans sr s2
        clear s2 hc
        cases cb
        · have hr : Hid (fitsN p q ns pages = false) := by show _ = _; rw [HF2.out, HI2.out, if_pos rfl]
          go_wp2_with fail
          go_ret
          exact ⟨by rw [hr.out]; rfl, sx.trans t1⟩
        · by_cases hz : (a : Int) ≤ (A : Int)
          · have hr : Hid (fitsN p q ns pages = false) := by show _ = _; rw [HF2.out, HI2.out, if_neg (by simp), if_pos (by omega)]
            go_wp2_with fail
            go_ret
            exact ⟨by rw [hr.out]; rfl, sx.trans t1⟩
          · have HI3 : Hid (riseN pages 0 ns = riseN pages a (ns.drop (k + 1))) := by
              show _ = _
              rw [HI2.out, if_neg (by simp), if_neg (by omega)]
            clear HI2
            go_wp2_with fail
            go_roundg (n - (k + 1))
            case measure => omega
            case rel => exact ⟨k + 1, a, rfl, by go_num, by omega, rfl, HI3, t1⟩
      · have hd : ns.drop k = [] := List.drop_eq_nil_of_le (by rw [← HN.out]; omega)
        have hr : Hid (fitsN p q ns pages = true) := by show _ = _; rw [HF2.out, HI.out, hd]; rfl
        go_wp2_with fail
        go_ret
        exact ⟨by rw [hr.out]; rfl, sx.trans sr⟩
end Go.Proofs.Ytajbifblbmlffaa
