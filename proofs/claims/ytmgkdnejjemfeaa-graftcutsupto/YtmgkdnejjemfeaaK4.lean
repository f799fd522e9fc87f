/- taken, Put. -/
import Derived.Test.YtmgkdnejjemfeaaK3
import Derived.Test.YtmgkdnejjemfeaaK1
import Derived.OwnWalk
namespace Go.Proofs.Ytmgkdnejjemfeaa
open Go.RowKit

theorem heap3 (w : World) (a b c : Obj) : (((w.alloc a).alloc b).alloc c).heap[w.heap.size]? = some a ∧ (((w.alloc a).alloc b).alloc c).heap[w.heap.size + 1]? = some b ∧ (((w.alloc a).alloc b).alloc c).heap[w.heap.size + 1 + 1]? = some c := by
  refine ⟨?_, ?_, ?_⟩
  · rw [Below.heap_alloc _ _ _ (by simp; omega)]; exact heap_alloc2_old w _ _
  · rw [Below.heap_alloc _ _ _ (by simp)]; exact heap_alloc2_new w _ _
  · have := heap_alloc2_new (w.alloc a) b c
    rw [show (w.alloc a).heap.size = w.heap.size + 1 from by simp] at this
    exact this
theorem prow_part {w : World} {pa : Option Addr} {pb po cp : Nat} {ps : List (ByteArray × ByteArray)} (h : PRow w pa pb po ps) (hc : pa = none → cp = 0) : PartOk w 2 ⟨pa, ps.length, cp, pcells ps⟩ := by
  refine ⟨flat_length (fun x : ByteArray × ByteArray => [Value.string x.1, Value.string x.2]) 2 ps (fun _ _ => rfl), fun e => ?_, fun a ha j u hj => ?_, pcells_one ps⟩
  · simp only at e
    refine ⟨?_, hc e⟩
    show ps.length = 0
    have : ps = [] := Classical.byContradiction fun e2 => by have := (h.place e2).1; rw [e] at this; cases this
    rw [this]; rfl
  · obtain ⟨e, _⟩ := h.place (by intro e; simp only at hj; rw [e] at hj; simp [pcells] at hj)
    simp only at ha
    rw [e] at ha
    cases ha
    rw [WideShapes.add_plain]; exact prow_news h j u hj
set_option maxRecDepth 100000 in
set_option maxHeartbeats 1000000 in
theorem taken_calls {pa : Option Addr} {pb po cp : Nat} {sa ka : Option Addr} {ns cs nk ck : Nat} {ps : List (ByteArray × ByteArray)} {key : ByteArray} (w : World) (h : PRow w pa pb po ps) (hcp : ps.length ≤ cp) (hc0 : pa = none → cp = 0) (h3 : ∀ a, pa = some a → ∃ b o, a = ⟨b, o, none⟩) (hn : ps.length ≤ 1048000)
    {i : Nat} {m : Nat} {b : Bool} (hf : findP key ps 0 = (i, b)) (hb : m = if b = true then 1 else 0) (him : i + m ≤ ps.length) :
    Calls Try.prog 29 #[nodeV pa ps.length cp sa ns cs ka nk ck, .string key] w fun e w' => ∃ ao c, e = .returned (.tuple #[.slice ao (ps.length - m) c, .int .i64 (i : Int), .bool b]) ∧ w'.ownsRow w.heap.size 48 2 (.slice ao (ps.length - m) c) (ps.length - m) ((pcells ps).take (i * 2) ++ (pcells ps).drop ((i + m) * 2)) ∧ Same w w' := by
  have HF : Hid (∀ W, Same w W → Calls Try.prog 52 #[nodeV pa ps.length cp sa ns cs ka nk ck, .string key] W fun e w' => e = .returned (.tuple #[.int .i64 (i : Int), .bool b]) ∧ Same W w') := fun W s => by
    have := find_core (cp := cp) (sa := sa) (ka := ka) (ns := ns) (cs := cs) (nk := nk) (ck := ck) (key := key) W (h.same s) (by omega)
    rw [hf] at this
    exact this
  have HW : Hid (∀ W, Same w W → Calls Try.prog 53 #[.slice pa ps.length cp, .int .i64 (i : Int), .int .i64 (m : Int)] W fun e w' => ∃ ao' c', e = .returned (.slice ao' (ps.length - m) c') ∧ w'.ownsRow W.heap.size 48 2 (.slice ao' (ps.length - m) c') (ps.length - m) ((pcells ps).take (i * 2) ++ (pcells ps).drop ((i + m) * 2)) ∧ Same W w') := fun W s => withoutPairs W (prow_part (h.same s) hc0) h3 him hcp (by omega)
  obtain ⟨V, hV⟩ : ∃ V, V = w.alloc (.cells #[.slice pa ps.length cp, .slice sa ns cs, .slice ka nk ck] 28) := ⟨_, rfl⟩
  have t1 : Same w V := by rw [hV]; exact (Fr.refl _ w).alloc _
  have n0 : V.cell? ⟨w.heap.size, 0, none⟩ = some (.slice pa ps.length cp) := by rw [hV]; simp
  have n1 : V.cell? ⟨w.heap.size, 1, none⟩ = some (.slice sa ns cs) := by rw [hV]; simp
  have n2 : V.cell? ⟨w.heap.size, 2, none⟩ = some (.slice ka nk ck) := by rw [hV]; simp
  have hwi : IntKind.i64.wrap (i : Int) = (i : Int) := by rw [IntKind.wrap_i64]; omega
  clear h h3 hc0 hf
  cases b with
  | true =>
    obtain rfl : m = 1 := hb
    go_enter Try.func29, Try.ntmps29
    go_wp2_with fail
    rw [← hV]
    clear hV
    refine (HF.out _ t1).mono ?_
    rintro e W1 ⟨rfl, s1⟩
    have t2 := t1.trans s1
    have n0 := s1.keep n0
    go_wp2_with fail
    refine (HW.out _ t2).mono ?_
    rintro e W2 ⟨ao, c, rfl, own, s2⟩
    go_wp2_with fail
    go_ret3
    exact ⟨ao, c, rfl, own_base own t2.size, t2.trans s2⟩
  | false =>
    obtain rfl : m = 0 := hb
    go_enter Try.func29, Try.ntmps29
    go_wp2_with fail
    rw [← hV]
    clear hV
    refine (HF.out _ t1).mono ?_
    rintro e W1 ⟨rfl, s1⟩
    have t2 := t1.trans s1
    have n0 := s1.keep n0
    go_wp2_with fail
    refine (HW.out _ t2).mono ?_
    rintro e W2 ⟨ao, c, rfl, own, s2⟩
    go_wp2_with fail
    go_ret3
    exact ⟨ao, c, rfl, own_base own t2.size, t2.trans s2⟩
set_option maxRecDepth 100000 in
set_option maxHeartbeats 1000000 in
theorem gIsLeaf_calls {p q : Int} {r : Nr} {N : Nd} (w : World) (h : NdAt w r N) (hc : chkN p q N = 0) (hk : N.ks.length = 0) :
    Calls Try.prog 26 #[frameV p q, ndV r N] w fun e w' => e = .returned (.bool true) ∧ Same w w' := by
  have HC : Hid (∀ W, Same w W → Calls Try.prog 22 #[frameV p q, ndV r N] W fun e w' => e = .returned (.int .i64 0) ∧ Same W w') := fun W s => by
    have := check_calls p q W (h.same s)
    rw [hc] at this
    exact this
  obtain ⟨V, hV⟩ : ∃ V, V = (w.alloc (.cells #[.int .i64 p, .int .i64 q] 23)).alloc (.cells #[.slice r.pa N.ps.length r.cp, .slice r.sa N.ss.length r.cs, .slice r.ka N.ks.length r.ck] 28) := ⟨_, rfl⟩
  have t1 : Same w V := by rw [hV]; exact ((Fr.refl _ w).alloc _).alloc _
  have a0 : V.cell? ⟨w.heap.size, 0, none⟩ = some (.int .i64 p) := by rw [hV]; simp
  have a1 : V.cell? ⟨w.heap.size, 1, none⟩ = some (.int .i64 q) := by rw [hV]; simp
  have n0 : V.cell? ⟨w.heap.size + 1, 0, none⟩ = some (.slice r.pa N.ps.length r.cp) := by rw [hV]; simp
  have n1 : V.cell? ⟨w.heap.size + 1, 1, none⟩ = some (.slice r.sa N.ss.length r.cs) := by rw [hV]; simp
  have n2 : V.cell? ⟨w.heap.size + 1, 2, none⟩ = some (.slice r.ka N.ks.length r.ck) := by rw [hV]; simp
  have HK : Hid (N.ks.length = 0) := hk
  clear h hc hk
  go_enter Try.func26, Try.ntmps26
  go_wp2_with fail
  rw [← hV]
  clear hV
  refine (HC.out _ t1).mono ?_
  rintro e W1 ⟨rfl, s1⟩
  have n2 := s1.keep n2
  have hk := HK.out
  go_wp2_with fail
  go_ret
  exact ⟨rfl, t1.trans s1⟩
set_option maxRecDepth 100000 in
set_option maxHeartbeats 1000000 in
theorem asked_calls {p q : Int} (w : World) (hf : frameP p q = true) :
    Calls Try.prog 25 #[frameV p q, .bool true] w fun e w' => e = .returned (.int .i64 0) ∧ Same w w' := by
  have HR : Hid (∀ W, Calls Try.prog 40 #[frameV p q] W fun e w' => e = .returned (.bool true) ∧ Same W w') := fun W => by rw [← hf]; exact right_calls p q W
  obtain ⟨V, hV⟩ : ∃ V, V = w.alloc (.cells #[.int .i64 p, .int .i64 q] 23) := ⟨_, rfl⟩
  have t1 : Same w V := by rw [hV]; exact (Fr.refl _ w).alloc _
  have a0 : V.cell? ⟨w.heap.size, 0, none⟩ = some (.int .i64 p) := by rw [hV]; simp
  have a1 : V.cell? ⟨w.heap.size, 1, none⟩ = some (.int .i64 q) := by rw [hV]; simp
  clear hf
  go_enter Try.func25, Try.ntmps25
  go_wp2_with fail
  rw [← hV]
  clear hV
  refine (HR.out _).mono ?_
  rintro e W1 ⟨rfl, s1⟩
  go_wp2_with fail
  go_ret
  exact ⟨rfl, t1.trans s1⟩
set_option maxRecDepth 100000 in
set_option maxHeartbeats 1000000 in
theorem mayKey_calls {p q : Int} {key : ByteArray} (w : World) (hp : p = 1024 ∨ p = 2048 ∨ p = 4096 ∨ p = 8192) (h1 : 1 ≤ key.size) (h2 : (key.size : Int) ≤ p / 16) :
    Calls Try.prog 27 #[frameV p q, .string key] w fun e w' => e = .returned (.bool true) ∧ Same w w' := by
  have HM : Hid (∀ W, Calls Try.prog 51 #[frameV p q] W fun e w' => e = .returned (.int .i64 (p / 16)) ∧ Same W w') := MaxKey_calls hp
  obtain ⟨V, hV⟩ : ∃ V, V = w.alloc (.cells #[.int .i64 p, .int .i64 q] 23) := ⟨_, rfl⟩
  have t1 : Same w V := by rw [hV]; exact (Fr.refl _ w).alloc _
  have a0 : V.cell? ⟨w.heap.size, 0, none⟩ = some (.int .i64 p) := by rw [hV]; simp
  have a1 : V.cell? ⟨w.heap.size, 1, none⟩ = some (.int .i64 q) := by rw [hV]; simp
  obtain ⟨mk, hmk⟩ : ∃ mk : Int, mk = p / 16 := ⟨_, rfl⟩
  rw [← hmk] at HM h2
  have h1' : (1 : Int) ≤ (key.size : Int) := by omega
  clear hp hmk
  go_enter Try.func27, Try.ntmps27
  go_wp2_with fail
  rw [← hV]
  clear hV
  refine (HM.out _).mono ?_
  rintro e W1 ⟨rfl, s1⟩
  go_wp2_with fail
  go_ret
  exact ⟨rfl, t1.trans s1⟩
theorem results_row_tmp2 {P : Program} {fn : Func} {p u u2 : Tmp} {ty : TypeId} (h : fn.results = #[.cell p ty, .tmp u, .tmp u2]) (tmps : Array Value) (w : World) (g : Nat) (t : TypeId) (cs : Array Value) (fr : Nat × Nat) (d : TypeDesc)
    (hp : tmps.getD p undef = .pointer (some ⟨g, 0, none⟩)) (hg : w.heap[g]? = some (.cells cs t fr))
    (hu : P.underlying ty = some d) (hd : (match d with | .struct _ | .array _ _ => true | _ => false) = true) (hi : (P.info? ty).map (·.size) = some cs.size) :
    (results fn tmps).run P w = .ok (.tuple #[.agg cs, tmps.getD u undef, tmps.getD u2 undef]) w := by
  have hp' : tmps[p]?.getD undef = .pointer (some ⟨g, 0, none⟩) := by simpa using hp
  simp [results, h, hp', asAddr, run_loadVar_row w g t ty cs fr d hg hu hd hi]
theorem pcells_len (ps : List (ByteArray × ByteArray)) : (pcells ps).length = ps.length * 2 := flat_length (fun x : ByteArray × ByteArray => [Value.string x.1, Value.string x.2]) 2 ps (fun _ _ => rfl)
theorem take_mid {A D : List Value} {n : Nat} (h : A.length = n) : (A ++ D).take n = A := by rw [← h, List.take_left]
theorem drop_mid {A D : List Value} {n : Nat} (h : A.length = n) : (A ++ D).drop n = D := by rw [← h, List.drop_left]
theorem own_addr {w : World} {base : Nat} {e : TypeId} {sz n c : Nat} {ao : Option Addr} {xs : List Value} (h : w.ownsRow base e sz (.slice ao n c) n xs) : ∀ a, ao = some a → ∃ b o, a = ⟨b, o, none⟩ := fun a ha => by
  obtain ⟨_, ⟨h2, _⟩ | ⟨g, c, cur, hv, _⟩⟩ := h
  · rw [ha] at h2; cases h2
  · injection hv with e1
    rw [ha] at e1
    injection e1 with e1
    exact ⟨g, 0, e1⟩
theorem own_capB {w : World} {base : Nat} {e : TypeId} {sz n c : Nat} {ao : Option Addr} {xs : List Value} (h : w.ownsRow base e sz (.slice ao n c) n xs) : n ≤ c := by
  obtain ⟨_, ⟨h2, h3⟩ | ⟨g, c, cur, hv, _, _, h4, _⟩⟩ := h
  · injection h2 with _ _ e3; omega
  · injection hv with _ _ e3; omega
theorem own_part {w : World} {base : Nat} {e : TypeId} {n c : Nat} {ao : Option Addr} {xs : List Value} (h : w.ownsRow base e 2 (.slice ao n c) n xs) (h1 : ∀ u ∈ xs, u.oneCell' = true) : PartOk w 2 ⟨ao, n, c, xs⟩ := by
  refine ⟨h.1, fun hn => ?_, fun a ha j u hj => ?_, h1⟩
  · obtain ⟨_, ⟨h2, h3⟩ | ⟨g, c, cur, hv, _⟩⟩ := h
    · injection h2 with _ _ e3
      exact ⟨h3, e3⟩
    · injection hv with e1
      simp only at hn
      rw [hn] at e1; cases e1
  · obtain ⟨_, ⟨h2, h3⟩ | ⟨g, c, cur, hv, _, hh, h4, h5, h6, h7⟩⟩ := h
    · simp only at ha; rw [ha] at h2; cases h2
    · injection hv with e1
      simp only at ha hj
      rw [ha] at e1
      injection e1 with e1
      rw [e1, WideShapes.add_plain, Nat.zero_add, cell_of_row _ _ _ _ _ _ hh, ← Array.getElem?_toList]
      rw [← h7, List.getElem?_take] at hj
      split at hj
      · exact hj
      · cases hj
set_option maxRecDepth 100000 in
set_option maxHeartbeats 1000000 in
theorem put_good {p q : Int} {r : Nr} {N : Nd} {k v : ByteArray} (w : World) (h : NdAt w r N) (hc : chkN p q N = 0) (hk : N.ks.length = 0) (h1 : 1 ≤ k.size) (h2 : (k.size : Int) ≤ p / 16) (h4 : (v.size : Int) ≤ p / 8)
    (hcp : N.ps.length ≤ r.cp) (hc0 : r.pa = none → r.cp = 0) (h3 : ∀ a, r.pa = some a → ∃ b o, a = ⟨b, o, none⟩) (hn : N.ps.length ≤ 1048000)
    {i : Nat} {m : Nat} {b : Bool} (hf : findP k N.ps 0 = (i, b)) (hb : m = if b = true then 1 else 0) (him : i + m ≤ N.ps.length) :
    Calls Try.prog 10 #[frameV p q, ndV r N, .agg #[.string k, .string v]] w fun e w' => ∃ ao c, e = .returned (.tuple #[nodeV ao (N.ps.length - m + 1) c none 0 0 none 0 0, .bool b, .int .i64 0]) ∧ w'.ownsRow w.heap.size 48 2 (.slice ao (N.ps.length - m + 1) c) (N.ps.length - m + 1) ((pcells N.ps).take (i * 2) ++ ([.string k, .string v] ++ (pcells N.ps).drop ((i + m) * 2))) ∧ Same w w' := by
  obtain ⟨hfr, _⟩ := chk_zero hc
  have hp := (frameP_cases hfr).1
  have HI : Hid (∀ W, Same w W → Calls Try.prog 26 #[frameV p q, ndV r N] W fun e w' => e = .returned (.bool true) ∧ Same W w') := fun W s => gIsLeaf_calls W (h.same s) hc hk
  have HA : Hid (∀ W, Calls Try.prog 25 #[frameV p q, .bool true] W fun e w' => e = .returned (.int .i64 0) ∧ Same W w') := fun W => asked_calls W hfr
  have HM : Hid (∀ W, Calls Try.prog 27 #[frameV p q, .string k] W fun e w' => e = .returned (.bool true) ∧ Same W w') := fun W => mayKey_calls W hp h1 h2
  have HV : Hid (∀ W, Calls Try.prog 28 #[frameV p q] W fun e w' => e = .returned (.int .i64 (p / 8)) ∧ Same W w') := MaxVal_calls hp
  have HT : Hid (∀ W, Same w W → Calls Try.prog 29 #[ndV r N, .string k] W fun e w' => ∃ ao c, e = .returned (.tuple #[.slice ao (N.ps.length - m) c, .int .i64 (i : Int), .bool b]) ∧ w'.ownsRow W.heap.size 48 2 (.slice ao (N.ps.length - m) c) (N.ps.length - m) ((pcells N.ps).take (i * 2) ++ (pcells N.ps).drop ((i + m) * 2)) ∧ Same W w') := fun W s => taken_calls W (h.same s).hp hcp hc0 h3 hn hf hb him
  obtain ⟨mv, hmv⟩ : ∃ mv : Int, mv = p / 8 := ⟨_, rfl⟩
  rw [← hmv] at HV h4
  have h4' : ¬ mv < (v.size : Int) := by omega
  obtain ⟨V, hV⟩ : ∃ V, V = (((w.alloc (.cells #[.int .i64 p, .int .i64 q] 23)).alloc (.cells #[.slice r.pa N.ps.length r.cp, .slice r.sa N.ss.length r.cs, .slice r.ka N.ks.length r.ck] 28)).alloc (.cells #[.string k, .string v] 48)).alloc (.cells #[.slice none 0 0, .slice none 0 0, .slice none 0 0] 28) := ⟨_, rfl⟩
  have H4 := heap3 w (.cells #[.int .i64 p, .int .i64 q] 23) (.cells #[.slice r.pa N.ps.length r.cp, .slice r.sa N.ss.length r.cs, .slice r.ka N.ks.length r.ck] 28) (.cells #[.string k, .string v] 48)
  have t1 : Same w V := by rw [hV]; exact ((((Fr.refl _ w).alloc _).alloc _).alloc _).alloc _
  have g0 : V.heap[w.heap.size]? = some (.cells #[.int .i64 p, .int .i64 q] 23 (0, 0)) := by rw [hV, Below.heap_alloc _ _ _ (by simp <;> omega)]; exact H4.1
  have g1 : V.heap[w.heap.size + 1]? = some (.cells #[.slice r.pa N.ps.length r.cp, .slice r.sa N.ss.length r.cs, .slice r.ka N.ks.length r.ck] 28 (0, 0)) := by rw [hV, Below.heap_alloc _ _ _ (by simp <;> omega)]; exact H4.2.1
  have g2 : V.heap[w.heap.size + 1 + 1]? = some (.cells #[.string k, .string v] 48 (0, 0)) := by rw [hV, Below.heap_alloc _ _ _ (by simp)]; exact H4.2.2
  have g3 : V.heap[w.heap.size + 1 + 1 + 1]? = some (.cells #[.slice none 0 0, .slice none 0 0, .slice none 0 0] 28 (0, 0)) := by
    have := heap_alloc_new (((w.alloc (.cells #[.int .i64 p, .int .i64 q] 23)).alloc (.cells #[.slice r.pa N.ps.length r.cp, .slice r.sa N.ss.length r.cs, .slice r.ka N.ks.length r.ck] 28)).alloc (.cells #[.string k, .string v] 48)) (.cells #[.slice none 0 0, .slice none 0 0, .slice none 0 0] 28)
    rw [show (((w.alloc (.cells #[.int .i64 p, .int .i64 q] 23)).alloc (.cells #[.slice r.pa N.ps.length r.cp, .slice r.sa N.ss.length r.cs, .slice r.ka N.ks.length r.ck] 28)).alloc (.cells #[.string k, .string v] 48)).heap.size = w.heap.size + 1 + 1 + 1 from by simp, ← hV] at this
    exact this
  have HS : Hid (∀ W, Same V W → W.cell? ⟨w.heap.size, 0, none⟩ = some (.int .i64 p) ∧ W.cell? ⟨w.heap.size, 1, none⟩ = some (.int .i64 q) ∧ W.cell? ⟨w.heap.size + 1, 0, none⟩ = some (.slice r.pa N.ps.length r.cp) ∧ W.cell? ⟨w.heap.size + 1, 1, none⟩ = some (.slice r.sa N.ss.length r.cs) ∧ W.cell? ⟨w.heap.size + 1, 2, none⟩ = some (.slice r.ka N.ks.length r.ck) ∧ W.cell? ⟨w.heap.size + 1 + 1, 0, none⟩ = some (.string k) ∧ W.cell? ⟨w.heap.size + 1 + 1, 1, none⟩ = some (.string v)) := fun W s => ⟨s.keep (by rw [cell_of_row _ _ _ _ _ _ g0]; rfl), s.keep (by rw [cell_of_row _ _ _ _ _ _ g0]; rfl), s.keep (by rw [cell_of_row _ _ _ _ _ _ g1]; rfl), s.keep (by rw [cell_of_row _ _ _ _ _ _ g1]; rfl), s.keep (by rw [cell_of_row _ _ _ _ _ _ g1]; rfl), s.keep (by rw [cell_of_row _ _ _ _ _ _ g2]; rfl), s.keep (by rw [cell_of_row _ _ _ _ _ _ g2]; rfl)⟩
  have HG3 : Hid (∀ W, Same V W → W.heap[w.heap.size + 1 + 1 + 1]? = some (.cells #[.slice none 0 0, .slice none 0 0, .slice none 0 0] 28 (0, 0))) := fun W s => (s.block _ (lt_of_heap g3) (fun e => e)).trans g3
  have HB : Hid (m = (if b = true then 1 else 0) ∧ i + m ≤ N.ps.length ∧ N.ps.length ≤ 1048000) := ⟨hb, him, hn⟩
  have HVZ : Hid (w.heap.size + 4 ≤ V.heap.size) := by show _ ≤ _; rw [hV]; simp
  clear h hc hk h1 h2 hcp hc0 h3 hf hb him H4 g0 g1 g2 g3 hfr hp hmv
  go_enter Try.func10, Try.ntmps10
  go_wp2_with fail
  rw [← hV]
  clear hV
  have d0 : Same V V.drew := Fr.drew (Fr.refl _ V)
  go_region_held3 (fun W => W.cell? ⟨w.heap.size, 0, none⟩ = some (.int .i64 p) ∧ W.cell? ⟨w.heap.size, 1, none⟩ = some (.int .i64 q) ∧ W.cell? ⟨w.heap.size + 1, 0, none⟩ = some (.slice r.pa N.ps.length r.cp) ∧ W.cell? ⟨w.heap.size + 1, 1, none⟩ = some (.slice r.sa N.ss.length r.cs) ∧ W.cell? ⟨w.heap.size + 1, 2, none⟩ = some (.slice r.ka N.ks.length r.ck) ∧ W.cell? ⟨w.heap.size + 1 + 1, 0, none⟩ = some (.string k) ∧ W.cell? ⟨w.heap.size + 1 + 1, 1, none⟩ = some (.string v)) (first | exact HS.out _ u2 | exact HS.out _ u1 | exact HS.out _ d0)
    (first | (go_at_call 26; refine (HI.out _ (t1.trans d0)).mono ?_; rintro e Z1 ⟨rfl, q1⟩; have u1 := Same.trans d0 q1; clear q1) | (go_at_call 25; refine (HA.out _).mono ?_; rintro e Z2 ⟨rfl, q2⟩; have u2 := Same.trans u1 q2; clear q2))
  obtain ⟨a0, a1, n0, n1, n2, k0, k1⟩ := HS.out _ u2
  go_wp2_with fail
  clear a0 a1 n0 n1 n2 k0 k1
  have d1 : Same V Z2.drew := Fr.drew u2
  go_region_held3 (fun W => W.cell? ⟨w.heap.size, 0, none⟩ = some (.int .i64 p) ∧ W.cell? ⟨w.heap.size, 1, none⟩ = some (.int .i64 q) ∧ W.cell? ⟨w.heap.size + 1, 0, none⟩ = some (.slice r.pa N.ps.length r.cp) ∧ W.cell? ⟨w.heap.size + 1, 1, none⟩ = some (.slice r.sa N.ss.length r.cs) ∧ W.cell? ⟨w.heap.size + 1, 2, none⟩ = some (.slice r.ka N.ks.length r.ck) ∧ W.cell? ⟨w.heap.size + 1 + 1, 0, none⟩ = some (.string k) ∧ W.cell? ⟨w.heap.size + 1 + 1, 1, none⟩ = some (.string v)) (first | exact HS.out _ x2 | exact HS.out _ x1 | exact HS.out _ d1)
    (first | (go_at_call 27; refine (HM.out _).mono ?_; rintro e Z3 ⟨rfl, q1⟩; have x1 := Same.trans d1 q1; clear q1) | (go_at_call 28; refine (HV.out _).mono ?_; rintro e Z4 ⟨rfl, q2⟩; have x2 := Same.trans x1 q2; clear q2))
  obtain ⟨a0, a1, n0, n1, n2, k0, k1⟩ := HS.out _ x2
  go_wp2_with fail
  refine (HT.out _ (t1.trans x2)).mono ?_
  rintro e Z5 ⟨ao, c, rfl, own, q3⟩
  have x3 := Same.trans x2 q3
  obtain ⟨a0, a1, n0, n1, n2, k0, k1⟩ := HS.out _ x3
  go_wp2_with fail
  obtain ⟨hb, him, hn'⟩ := HB.out
  have hlen := own.1
  have hpl := pcells_len N.ps
  have HW := withPairs (i := i) (things := [.string k, .string v]) (bo := some ⟨Z5.heap.size, 0, none⟩) (tn := 1) (tc := 1) (Z5.alloc (.cells #[.string k, .string v] 48)) (own_part (own_frameB own ((Fr.refl (fun _ => False) Z5).alloc _) (fun _ _ f => f)) (fun u hu => by
      rcases List.mem_append.1 hu with hu | hu
      · exact pcells_one N.ps u (List.mem_of_mem_take hu)
      · exact pcells_one N.ps u (List.mem_of_mem_drop hu))) (own_addr own) (own_part (n := 1) (c := 1) ⟨rfl, Or.inr ⟨Z5.heap.size, 1, _, rfl, Nat.zero_le _, heap_alloc_new Z5 _, by omega, by unfold maxLen; omega, rfl, rfl⟩⟩ (by simp [Value.oneCell'])) (by omega) (own_capB own) (by omega)
  rw [take_mid (by rw [List.length_take, hpl]; omega), drop_mid (by rw [List.length_take, hpl]; omega)] at HW
  have HW' : Hid (Calls Try.prog 30 #[.slice ao (N.ps.length - m) c, .int .i64 (i : Int), .slice (some ⟨Z5.heap.size, 0, none⟩) 1 1] (Z5.alloc (.cells #[.string k, .string v] 48)) fun e w' => ∃ ao' c', e = .returned (.slice ao' (N.ps.length - m + 1) c') ∧ w'.ownsRow (Z5.alloc (.cells #[.string k, .string v] 48)).heap.size 48 2 (.slice ao' (N.ps.length - m + 1) c') (N.ps.length - m + 1) ((pcells N.ps).take (i * 2) ++ ([.string k, .string v] ++ (pcells N.ps).drop ((i + m) * 2))) ∧ Same (Z5.alloc (.cells #[.string k, .string v] 48)) w') := HW
  clear HW hlen hpl hb him own
  refine HW'.out.mono ?_
  rintro e Z6 ⟨ao2, c2, rfl, own2, q4⟩
  have x4 : Same V Z6 := Same.trans (x3.alloc _) q4
  have r6 := HG3.out _ x4
  go_wp2_with (refine wpList_store_whole (by rfl) 28 _ _ (by rfl) (w.heap.size + 1 + 1 + 1) #[.slice ao2 (N.ps.length - m + 1) c2, .slice none 0 0, .slice none 0 0] #[.slice none 0 0, .slice none 0 0, .slice none 0 0] 28 (by rfl) (by rfl) r6 rfl (by kernel_rfl) (by kernel_rfl) ?_; intro W7 r7 f7)
  have hz := HVZ.out
  have z5 := x3.size
  have o7 := own_frameB own2 f7 (fun kk hk e => by
    cases ao2 with
    | none => cases hk
    | some a => have := own_ge own2; simp [Value.ownBlock] at hk; simp at this; omega)
  exact bodyPost_ret (results_row_tmp2 (p := 6) (u := 7) (u2 := 8) (ty := 28) (by kernel_rfl) _ _ (w.heap.size + 1 + 1 + 1) 28 _ (0, 0) _ rfl r7 Try.underlying28 rfl (by kernel_rfl)) rfl ⟨ao2, c2, rfl, own_base o7 (by simp; omega), Fr.trans (t1.trans x4) f7 (fun i hi e => by omega)⟩
end Go.Proofs.Ytmgkdnejjemfeaa
