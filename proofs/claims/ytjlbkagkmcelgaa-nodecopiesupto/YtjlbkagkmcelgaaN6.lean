/- leafShaped, branchShaped, Check. -/
import Derived.Test.YtjlbkagkmcelgaaN5
namespace Go.Proofs.Ytjlbkagkmcelgaa
open Go.RowKit

/-- Where a node's three lists lie. -/
structure Nr where
  pa : Option Addr
  pb : Nat
  po : Nat
  cp : Nat
  sa : Option Addr
  sb : Nat
  so : Nat
  cs : Nat
  ka : Option Addr
  kb : Nat
  ko : Nat
  ck : Nat
structure NdAt (w : World) (r : Nr) (N : Nd) : Prop where
  hp : PRow w r.pa r.pb r.po N.ps
  hs : TRow w r.sa r.sb r.so N.ss
  hk : KRow w r.ka r.kb r.ko N.ks
  ok : ∀ x ∈ N.ks, KidOk x
  lp : N.ps.length ≤ 4611686018427387904
  ls : N.ss.length ≤ 4611686018427387904
  lk : N.ks.length ≤ 4611686018427387904
theorem NdAt.same {w w' : World} {r : Nr} {N : Nd} (h : NdAt w r N) (s : Same w w') : NdAt w' r N := ⟨h.hp.same s, h.hs.same s, h.hk.same s, h.ok, h.lp, h.ls, h.lk⟩
abbrev ndV (r : Nr) (N : Nd) : Value := nodeV r.pa N.ps.length r.cp r.sa N.ss.length r.cs r.ka N.ks.length r.ck
def leafP (p : Int) (N : Nd) : Bool := risesP (p / 16) ⟨#[]⟩ (N.ps.map (·.1)) && !(N.ps.any (longB (p / 8)))
def branchP (p q : Int) (N : Nd) : Bool := !(decide (0 < N.ps.length) || decide (N.ks.length < 2) || decide (N.ss.length + 1 ≠ N.ks.length)) && (risesP (p / 16) ⟨#[]⟩ N.ss && !(N.ks.any (looseB q)))
def shapeP (p q : Int) (N : Nd) : Bool := if leafB N = true then leafP p N else branchP p q N
def chkN (p q : Int) (N : Nd) : Int := if frameP p q = true then (if shapeP p q N = true then 0 else 70) else 2

set_option maxRecDepth 100000 in
set_option maxHeartbeats 1000000 in
theorem leafShaped_core {p q : Int} {pa sa ka : Option Addr} {np cp ns cs nk ck : Nat} {b1 b2 : Bool} (w : World)
    (HR : Hid (∀ W, Same w W → Calls Try.prog 55 #[frameV p q, .slice pa np cp, .func (.func 56) #[] #[]] W fun e w' => e = .returned (.bool b1) ∧ Same W w'))
    (HC : Hid (∀ W, Same w W → W.cell? ⟨w.heap.size, 0, none⟩ = some (.int .i64 p) → W.cell? ⟨w.heap.size, 1, none⟩ = some (.int .i64 q) → Calls Try.prog 57 #[.slice pa np cp, .func (.func 53) #[] #[.pointer (some ⟨w.heap.size, 0, none⟩)]] W fun e w' => e = .returned (.bool b2) ∧ Same W w')) :
    Calls Try.prog 37 #[frameV p q, nodeV pa np cp sa ns cs ka nk ck] w fun e w' => e = .returned (.bool (b1 && !b2)) ∧ Same w w' := by
  obtain ⟨V, hV⟩ : ∃ V, V = (w.alloc (.cells #[.int .i64 p, .int .i64 q] 48)).alloc (.cells #[.slice pa np cp, .slice sa ns cs, .slice ka nk ck] 26) := ⟨_, rfl⟩
  have sx : Same w V := by rw [hV]; exact ((Fr.refl _ w).alloc _).alloc _
  have c0 : V.cell? ⟨w.heap.size, 0, none⟩ = some (.int .i64 p) := by rw [hV]; simp
  have c1 : V.cell? ⟨w.heap.size, 1, none⟩ = some (.int .i64 q) := by rw [hV]; simp
  have n0 : V.cell? ⟨w.heap.size + 1, 0, none⟩ = some (.slice pa np cp) := by rw [hV]; simp
  cases b1
  all_goals
    go_enter Try.func37, Try.ntmps37
    go_wp2_with fail
    rw [← hV]
    refine (HR.out _ sx).mono ?_
    rintro e W1 ⟨rfl, s1⟩
    have t1 := sx.trans s1
    have c0 := s1.keep c0
    have c1 := s1.keep c1
    have n0 := s1.keep n0
    clear s1 hV
  · go_wp2_with fail
    go_ret
    exact ⟨rfl, t1⟩
  · go_wp2_with fail
    refine (HC.out _ t1 c0 c1).mono ?_
    rintro e W2 ⟨rfl, s2⟩
    go_wp2_with fail
    go_ret
    exact ⟨rfl, t1.trans s2⟩
theorem leafShaped_calls {p q : Int} (hp : p = 1024 ∨ p = 2048 ∨ p = 4096 ∨ p = 8192) {r : Nr} {N : Nd} (w : World) (h : NdAt w r N) :
    Calls Try.prog 37 #[frameV p q, ndV r N] w fun e w' => e = .returned (.bool (leafP p N)) ∧ Same w w' :=
  leafShaped_core w (fun W s => risesPairs_calls hp W (h.hp.same s) h.lp) (fun W s h0 h1 => contains_long (longB (p / 8)) W (h.hp.same s) h.lp (fun x V sv => long_calls hp w.heap.size x.1 x.2 V (sv.keep h0) (sv.keep h1)))

set_option maxRecDepth 100000 in
set_option maxHeartbeats 1000000 in
theorem branchShaped_core {p q : Int} {pa sa ka : Option Addr} {np cp ns cs nk ck : Nat} {b1 b2 : Bool} (w : World) (hnk : nk ≤ 4611686018427387904) (hns : ns ≤ 4611686018427387904)
    (HR : Hid (∀ W, Same w W → Calls Try.prog 60 #[frameV p q, .slice sa ns cs, .func (.func 61) #[] #[]] W fun e w' => e = .returned (.bool b1) ∧ Same W w'))
    (HC : Hid (∀ W, Same w W → W.cell? ⟨w.heap.size, 0, none⟩ = some (.int .i64 p) → W.cell? ⟨w.heap.size, 1, none⟩ = some (.int .i64 q) → Calls Try.prog 30 #[.slice ka nk ck, .func (.func 58) #[] #[.pointer (some ⟨w.heap.size, 0, none⟩)]] W fun e w' => e = .returned (.bool b2) ∧ Same W w')) :
    Calls Try.prog 38 #[frameV p q, nodeV pa np cp sa ns cs ka nk ck] w fun e w' => e = .returned (.bool (!(decide (0 < np) || decide (nk < 2) || decide (ns + 1 ≠ nk)) && (b1 && !b2))) ∧ Same w w' := by
  obtain ⟨V, hV⟩ : ∃ V, V = (w.alloc (.cells #[.int .i64 p, .int .i64 q] 48)).alloc (.cells #[.slice pa np cp, .slice sa ns cs, .slice ka nk ck] 26) := ⟨_, rfl⟩
  have sx : Same w V := by rw [hV]; exact ((Fr.refl _ w).alloc _).alloc _
  have c0 : V.cell? ⟨w.heap.size, 0, none⟩ = some (.int .i64 p) := by rw [hV]; simp
  have c1 : V.cell? ⟨w.heap.size, 1, none⟩ = some (.int .i64 q) := by rw [hV]; simp
  have n1 : V.cell? ⟨w.heap.size + 1, 1, none⟩ = some (.slice sa ns cs) := by rw [hV]; simp
  have n2 : V.cell? ⟨w.heap.size + 1, 2, none⟩ = some (.slice ka nk ck) := by rw [hV]; simp
  have hcase : (∃ m, np = m + 1) ∨ (np = 0 ∧ nk < 2) ∨ (np = 0 ∧ ¬ nk < 2 ∧ ns + 1 ≠ nk) ∨ (np = 0 ∧ ¬ nk < 2 ∧ ¬ ns + 1 ≠ nk) := by
    by_cases h0 : np = 0
    · right; omega
    · left; exact ⟨np - 1, by omega⟩
  rcases hcase with ⟨m, rfl⟩ | ⟨rfl, h2⟩ | ⟨rfl, h2, h3⟩ | ⟨rfl, h2, h3⟩
  · rw [decide_eq_true (show 0 < m + 1 by omega), Bool.true_or, Bool.true_or]
    have g1 : (0 : Int) < ((m + 1 : Nat) : Int) := by omega
    clear hnk hns
    go_enter Try.func38, Try.ntmps38
    go_wp2_with fail
    rw [← hV]
    go_ret
    exact ⟨rfl, sx⟩
  · rw [decide_eq_false (show ¬ 0 < 0 by omega), decide_eq_true h2, Bool.false_or, Bool.true_or]
    have g2 : decide ((nk : Int) < 2) = true := decide_eq_true (by omega)
    clear h2 hnk hns
    go_enter Try.func38, Try.ntmps38
    go_wp2_with fail
    rw [← hV]
    go_ret
    exact ⟨rfl, sx⟩
  · rw [decide_eq_false (show ¬ 0 < 0 by omega), decide_eq_false h2, decide_eq_true h3]
    have g2 : decide ((nk : Int) < 2) = false := decide_eq_false (by omega)
    have g3 : ((ns : Int) != (nk : Int) - 1) = true := by rw [bne_iff_ne]; omega
    have g4 : IntKind.i64.wrap ((nk : Int) - 1) = (nk : Int) - 1 := by rw [IntKind.wrap_i64]; omega
    clear h2 h3 hns
    go_enter Try.func38, Try.ntmps38
    go_wp2_with fail
    rw [← hV]
    go_ret
    exact ⟨rfl, sx⟩
  · rw [decide_eq_false (show ¬ 0 < 0 by omega), decide_eq_false h2, decide_eq_false h3]
    have g2 : decide ((nk : Int) < 2) = false := decide_eq_false (by omega)
    have g3 : ((ns : Int) != (nk : Int) - 1) = false := by rw [bne_eq_false_iff_eq]; omega
    have g4 : IntKind.i64.wrap ((nk : Int) - 1) = (nk : Int) - 1 := by rw [IntKind.wrap_i64]; omega
    clear h2 h3 hns
    cases b1
    all_goals
      go_enter Try.func38, Try.ntmps38
      go_wp2_with fail
      rw [← hV]
      refine (HR.out _ sx).mono ?_
      rintro e W1 ⟨rfl, s1⟩
      have t1 := sx.trans s1
      have c0 := s1.keep c0
      have c1 := s1.keep c1
      have n2 := s1.keep n2
      clear s1 hV
    · go_wp2_with fail
      go_ret
      exact ⟨rfl, t1⟩
    · go_wp2_with fail
      refine (HC.out _ t1 c0 c1).mono ?_
      rintro e W2 ⟨rfl, s2⟩
      go_wp2_with fail
      go_ret
      exact ⟨by simp, t1.trans s2⟩
theorem branchShaped_calls {p q : Int} (hp : p = 1024 ∨ p = 2048 ∨ p = 4096 ∨ p = 8192) {r : Nr} {N : Nd} (w : World) (h : NdAt w r N) :
    Calls Try.prog 38 #[frameV p q, ndV r N] w fun e w' => e = .returned (.bool (branchP p q N)) ∧ Same w w' :=
  branchShaped_core w h.lk h.ls (fun W s => risesTexts_calls hp W (h.hs.same s) h.ls) (fun W s _ h1 => contains_loose (looseB q) W (h.hk.same s) h.lk h.ok (fun x V hx sv => loose_calls w.heap.size x hx V (sv.keep h1)))

set_option maxRecDepth 100000 in
set_option maxHeartbeats 1000000 in
theorem check_core {p q : Int} {pa sa ka : Option Addr} {np cp ns cs nk ck : Nat} {bf bl b1 : Bool} (w : World)
    (HF : Hid (∀ W, Calls Try.prog 35 #[frameV p q] W fun e w' => e = .returned (.bool bf) ∧ Same W w'))
    (HI : Hid (∀ W, Calls Try.prog 36 #[nodeV pa np cp sa ns cs ka nk ck] W fun e w' => e = .returned (.bool bl) ∧ Same W w'))
    (HL : Hid (bf = true → bl = true → ∀ W, Same w W → Calls Try.prog 37 #[frameV p q, nodeV pa np cp sa ns cs ka nk ck] W fun e w' => e = .returned (.bool b1) ∧ Same W w'))
    (HB : Hid (bf = true → bl = false → ∀ W, Same w W → Calls Try.prog 38 #[frameV p q, nodeV pa np cp sa ns cs ka nk ck] W fun e w' => e = .returned (.bool b1) ∧ Same W w')) :
    Calls Try.prog 25 #[frameV p q, nodeV pa np cp sa ns cs ka nk ck] w fun e w' => e = .returned (.int .i64 (if bf = true then (if b1 = true then 0 else 70) else 2)) ∧ Same w w' := by
  obtain ⟨V, hV⟩ : ∃ V, V = (w.alloc (.cells #[.int .i64 p, .int .i64 q] 48)).alloc (.cells #[.slice pa np cp, .slice sa ns cs, .slice ka nk ck] 26) := ⟨_, rfl⟩
  have sx : Same w V := by rw [hV]; exact ((Fr.refl _ w).alloc _).alloc _
  have c0 : V.cell? ⟨w.heap.size, 0, none⟩ = some (.int .i64 p) := by rw [hV]; simp
  have c1 : V.cell? ⟨w.heap.size, 1, none⟩ = some (.int .i64 q) := by rw [hV]; simp
  have n0 : V.cell? ⟨w.heap.size + 1, 0, none⟩ = some (.slice pa np cp) := by rw [hV]; simp
  have n1 : V.cell? ⟨w.heap.size + 1, 1, none⟩ = some (.slice sa ns cs) := by rw [hV]; simp
  have n2 : V.cell? ⟨w.heap.size + 1, 2, none⟩ = some (.slice ka nk ck) := by rw [hV]; simp
  cases bf
  · go_enter Try.func25, Try.ntmps25
    go_wp2_with fail
    rw [← hV]
    refine (HF.out _).mono ?_
    rintro e W1 ⟨rfl, s1⟩
    go_wp2_with fail
    go_ret
    exact ⟨rfl, sx.trans s1⟩
  · cases bl
    · have HB2 : Hid (∀ W, Same w W → Calls Try.prog 38 #[frameV p q, nodeV pa np cp sa ns cs ka nk ck] W fun e w' => e = .returned (.bool b1) ∧ Same W w') := HB.out rfl rfl
      clear HL HB
      go_enter Try.func25, Try.ntmps25
      go_wp2_with fail
      rw [← hV]
      refine (HF.out _).mono ?_
      rintro e W1 ⟨rfl, s1⟩
      have t1 := sx.trans s1
      have c0 := s1.keep c0
      have c1 := s1.keep c1
      have n0 := s1.keep n0
      have n1 := s1.keep n1
      have n2 := s1.keep n2
      clear s1 hV
      go_wp2_with fail
      refine (HI.out _).mono ?_
      rintro e W2 ⟨rfl, s2⟩
      have t2 := t1.trans s2
      have c0 := s2.keep c0
      have c1 := s2.keep c1
      have n0 := s2.keep n0
      have n1 := s2.keep n1
      have n2 := s2.keep n2
      clear s2 t1
      go_wp2_with fail
      refine (HI.out _).mono ?_
      rintro e W3 ⟨rfl, s3⟩
      have t3 := t2.trans s3
      have c0 := s3.keep c0
      have c1 := s3.keep c1
      have n0 := s3.keep n0
      have n1 := s3.keep n1
      have n2 := s3.keep n2
      clear s3 t2
      go_wp2_with fail
      refine (HB2.out _ t3).mono ?_
      rintro e W4 ⟨rfl, s4⟩
      cases b1
      all_goals
        go_wp2_with fail
        go_ret
        exact ⟨rfl, t3.trans s4⟩
    · have HL2 : Hid (∀ W, Same w W → Calls Try.prog 37 #[frameV p q, nodeV pa np cp sa ns cs ka nk ck] W fun e w' => e = .returned (.bool b1) ∧ Same W w') := HL.out rfl rfl
      clear HL HB
      go_enter Try.func25, Try.ntmps25
      go_wp2_with fail
      rw [← hV]
      refine (HF.out _).mono ?_
      rintro e W1 ⟨rfl, s1⟩
      have t1 := sx.trans s1
      have c0 := s1.keep c0
      have c1 := s1.keep c1
      have n0 := s1.keep n0
      have n1 := s1.keep n1
      have n2 := s1.keep n2
      clear s1 hV
      go_wp2_with fail
      refine (HI.out _).mono ?_
      rintro e W2 ⟨rfl, s2⟩
      have t2 := t1.trans s2
      have c0 := s2.keep c0
      have c1 := s2.keep c1
      have n0 := s2.keep n0
      have n1 := s2.keep n1
      have n2 := s2.keep n2
      clear s2 t1
      go_wp2_with fail
      refine (HL2.out _ t2).mono ?_
      rintro e W3 ⟨rfl, s3⟩
      have t3 := t2.trans s3
      have n0 := s3.keep n0
      have n1 := s3.keep n1
      have n2 := s3.keep n2
      clear s3 t2
      cases b1
      · go_wp2_with fail
        refine (HI.out _).mono ?_
        rintro e W4 ⟨rfl, s4⟩
        go_wp2_with fail
        go_ret
        exact ⟨rfl, t3.trans s4⟩
      · go_wp2_with fail
        go_ret
        exact ⟨rfl, t3⟩
theorem isLeaf_calls {r : Nr} {N : Nd} (w : World) : Calls Try.prog 36 #[ndV r N] w fun e w' => e = .returned (.bool (leafB N)) ∧ Same w w' := isLeaf_core _ _ _ _ _ _ _ _ _ w
theorem check_calls (p q : Int) {r : Nr} {N : Nd} (w : World) (h : NdAt w r N) :
    Calls Try.prog 25 #[frameV p q, ndV r N] w fun e w' => e = .returned (.int .i64 (chkN p q N)) ∧ Same w w' := by
  have := check_core (bf := frameP p q) (bl := leafB N) (b1 := shapeP p q N) w (right_calls p q) (fun W => isLeaf_calls W) (fun hf hl W s => by
    have e : shapeP p q N = leafP p N := by unfold shapeP; rw [if_pos hl]
    rw [e]
    exact leafShaped_calls (frameP_cases hf).1 W (h.same s)) (fun hf hl W s => by
    have e : shapeP p q N = branchP p q N := by unfold shapeP; rw [hl]; rfl
    rw [e]
    exact branchShaped_calls (frameP_cases hf).1 W (h.same s))
  exact this
end Go.Proofs.Ytjlbkagkmcelgaa
