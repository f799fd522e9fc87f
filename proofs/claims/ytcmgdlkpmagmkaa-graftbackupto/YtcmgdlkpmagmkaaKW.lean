/- The walk of GraftBack. -/
import Derived.Test.YtcmgdlkpmagmkaaKU
import Derived.Deep.QuietTactic
namespace Go.Proofs.Ytcmgdlkpmagmkaa
open Go.RowKit

theorem ins_at (k v : ByteArray) (ps : List (ByteArray × ByteArray)) : (insR k v ps)[(findP k ps 0).1]? = some (k, v) := by
  obtain ⟨i, b, hf⟩ : ∃ i b, findP k ps 0 = (i, b) := ⟨_, _, rfl⟩
  obtain ⟨q1, q2, q3⟩ := find_parts k v ps i b hf
  rw [hf, ← q2, List.getElem?_append_right (by rw [List.length_take]; omega), List.length_take, Nat.min_eq_left (by omega), Nat.sub_self]; rfl
theorem empty_less (k : ByteArray) (h : 1 ≤ k.size) : Op.bytesLess (⟨#[]⟩ : ByteArray).toList k.toList = true := by
  rw [ByteArray.toList_eq, ByteArray.toList_eq]
  cases hl : k.data.toList with
  | nil => have := bytes_length' k; rw [hl] at this; simp at this; omega
  | cons x l => rfl
theorem zero_nd (w : World) : NdAt w ⟨none, 0, 0, 0, none, 0, 0, 0, none, 0, 0, 0⟩ ⟨[], [], []⟩ := ⟨⟨fun e => absurd rfl e, fun j x hx => by simp at hx⟩, ⟨fun e => absurd rfl e, fun j x hx => by simp at hx⟩, ⟨fun e => absurd rfl e, fun j x hx => by simp at hx⟩, fun x hx => by simp at hx, Nat.zero_le _, Nat.zero_le _, Nat.zero_le _⟩
theorem made_same {W : World} {B B2 c c2 : Nat} {ao ao2 : Option Addr} {M : List (ByteArray × ByteArray)} (h1 : MadeLeaf W B ao c M) (h2 : MadeLeaf W B2 ao2 c2 M) (hn : M.length ≤ 4611686018427387904) :
    Calls Try.prog 20 #[nodeV ao M.length c none 0 0 none 0 0, nodeV ao2 M.length c2 none 0 0 none 0 0] W fun e w' => e = .returned (.bool true) ∧ Same W w' := by
  obtain ⟨g1, n1⟩ := h1.nd hn
  obtain ⟨g2, n2⟩ := h2.nd hn
  show Calls Try.prog 20 #[ndV (leafNr ao g1 c) ⟨M, [], []⟩, ndV (leafNr ao2 g2 c2) ⟨M, [], []⟩] W _
  exact rsame_true W n1 n2
theorem made_put {W : World} {B c : Nat} {ao : Option Addr} {p q : Int} {k v : ByteArray} {M : List (ByteArray × ByteArray)} (h : MadeLeaf W B ao c M) (hn : M.length ≤ 1048000) (hc : chkN p q ⟨M, [], []⟩ = 0) (h1 : 1 ≤ k.size) (h2 : (k.size : Int) ≤ p / 16) (h4 : (v.size : Int) ≤ p / 8) :
    Calls Try.prog 19 #[frameV p q, nodeV ao M.length c none 0 0 none 0 0, .agg #[.string k, .string v]] W fun e w' => ∃ ao c, e = .returned (.tuple #[nodeV ao (insR k v M).length c none 0 0 none 0 0, .bool (findP k M 0).2, .int .i64 0]) ∧ MadeLeaf w' W.heap.size ao c (insR k v M) ∧ Same W w' := by
  obtain ⟨g, n⟩ := h.nd (by omega)
  exact put_ok W n hc rfl h1 h2 h4 (own_capB h.own) h.c0 (own_addr h.own) hn
theorem made_remove {W : World} {B c : Nat} {ao : Option Addr} {p q : Int} {k : ByteArray} {M : List (ByteArray × ByteArray)} (h : MadeLeaf W B ao c M) (hn : M.length ≤ 1048000) (hc : chkN p q ⟨M, [], []⟩ = 0) :
    Calls Try.prog 21 #[frameV p q, nodeV ao M.length c none 0 0 none 0 0, .string k] W fun e w' => ∃ ao c, e = .returned (.tuple #[nodeV ao (delR k M).length c none 0 0 none 0 0, .bool (findP k M 0).2, .int .i64 0]) ∧ MadeLeaf w' W.heap.size ao c (delR k M) ∧ Same W w' := by
  obtain ⟨g, n⟩ := h.nd (by omega)
  exact remove_ok W n hc rfl (own_capB h.own) h.c0 (own_addr h.own) hn
theorem made_find {W : World} {B c : Nat} {ao : Option Addr} {k : ByteArray} {M : List (ByteArray × ByteArray)} (h : MadeLeaf W B ao c M) (hn : M.length ≤ 4611686018427387904) :
    Calls Try.prog 13 #[nodeV ao M.length c none 0 0 none 0 0, .string k] W fun e w' => e = .returned (.tuple #[.int .i64 ((findP k M 0).1 : Int), .bool (findP k M 0).2]) ∧ Same W w' := by
  obtain ⟨g, n⟩ := h.nd hn
  exact find_core W n.hp hn
theorem lent_put {W v0 : World} {B gp cp gs cs gk ck : Nat} {r : Nr} {p q : Int} {k v : ByteArray} {N : Nd} (h : LentAt W B gp cp gs cs gk ck N) (hn0 : NdAt v0 r N) (hn : N.ps.length ≤ 1048000) (hE : putE p q N k v = 0) :
    Calls Try.prog 19 #[frameV p q, ndV (lentNr gp cp gs cs gk ck) N, .agg #[.string k, .string v]] W fun e w' => ∃ ao c, e = .returned (.tuple #[nodeV ao (insR k v N.ps).length c none 0 0 none 0 0, .bool (findP k N.ps 0).2, .int .i64 0]) ∧ MadeLeaf w' W.heap.size ao c (insR k v N.ps) ∧ Same W w' := by
  obtain ⟨hc, hk, h1, h2, h4⟩ := put_zero hE
  have hcap := h.caps.1
  exact put_ok W (h.nd hn0) hc hk h1 h2 h4 (by show N.ps.length ≤ cp; omega) (fun e => by cases e) (fun a e => by cases e; exact ⟨gp, 0, rfl⟩) hn
set_option maxRecDepth 100000 in
set_option maxHeartbeats 1000000 in
theorem gback_good {p q : Int} {r : Nr} {N : Nd} {k v : ByteArray} (w : World) (h : NdIn w r N) (h1 : 3 * N.ps.length ≤ 1048576) (h2 : N.ss.length ≤ 1048576) (h3 : N.ks.length ≤ 1048576) (hE : putE p q N k v = 0) :
    Calls Try.prog 8 #[frameV p q, ndV r N, .agg #[.string k, .string v]] w fun e w' => e = .returned (.bool true) ∧ Same w w' := by
  obtain ⟨hc, hk0, k1, k2, k4⟩ := put_zero hE
  obtain ⟨ess, eks, hf, hri, hlo⟩ := chk_leaf hc hk0
  obtain ⟨M, hM⟩ : ∃ M, M = insR k v N.ps := ⟨_, rfl⟩
  obtain ⟨D, hD⟩ : ∃ D, D = delR k N.ps := ⟨_, rfl⟩
  obtain ⟨I, hI⟩ : ∃ I, I = (findP k N.ps 0).1 := ⟨_, rfl⟩
  obtain ⟨b, hb⟩ : ∃ b, b = (findP k N.ps 0).2 := ⟨_, rfl⟩
  have lM : M.length ≤ 1048000 := by rw [hM]; have := (ins_len k v N.ps).1; omega
  have lD : D.length ≤ 1048000 := by
    rw [hD]
    have := (ins_lenE (k := k) (v := v) (ps := N.ps) rfl).2
    omega
  have riM := rises_ins k v k2 N.ps ⟨#[]⟩ (empty_less k k1) hri
  have cM : chkN p q ⟨M, [], []⟩ = 0 := by
    rw [hM]
    refine leaf_chk hf riM (fun x hx => ?_)
    rcases mem_ins hx with rfl | hx
    · unfold longB; simp only [decide_eq_false_iff_not]; omega
    · exact hlo x hx
  have cD : chkN p q ⟨D, [], []⟩ = 0 := by
    rw [hD]
    exact leaf_chk hf (rises_del k N.ps ⟨#[]⟩ hri) (fun x hx => hlo x (mem_del hx))
  have fM : findP k M 0 = (I, true) := by rw [hM, hI]; exact find_ins k v N.ps
  have iM : insR k v M = M := by rw [hM]; exact ins_ins k v N.ps
  have dM : delR k M = D := by rw [hM, hD]; exact del_ins k v N.ps
  have fD : (findP k D 0).2 = false := by rw [hD]; exact find_del k N.ps ⟨#[]⟩ hri
  have dD : delR k D = D := del_none k D fD
  have atM : M[I]? = some (k, v) := by rw [hM, hI]; exact ins_at k v N.ps
  have hDn : b = false → D = N.ps := fun e => by rw [hD]; exact del_none k N.ps (by rw [← hb]; exact e)
  have HL : Hid (∀ W, Same w W → Calls Try.prog 12 #[ndV r N] W fun e w' => ∃ gp cp gs cs gk ck, e = .returned (ndV (lentNr gp cp gs cs gk ck) N) ∧ LentAt w' W.heap.size gp cp gs cs gk ck N ∧ Same W w') := fun W s => lent_at W (h.same s) (by omega) h2 h3
  have HP1 : Hid (∀ W gp cp gs cs gk ck B, LentAt W B gp cp gs cs gk ck N → Calls Try.prog 19 #[frameV p q, ndV (lentNr gp cp gs cs gk ck) N, .agg #[.string k, .string v]] W fun e w' => ∃ ao c, e = .returned (.tuple #[nodeV ao M.length c none 0 0 none 0 0, .bool b, .int .i64 0]) ∧ MadeLeaf w' W.heap.size ao c M ∧ Same W w') := fun W gp cp gs cs gk ck B l => by
    have := lent_put l h.at_ (by omega) hE
    rw [← hM, ← hb] at this; exact this
  have HFl : Hid (∀ W gp cp gs cs gk ck B, LentAt W B gp cp gs cs gk ck N → Calls Try.prog 13 #[ndV (lentNr gp cp gs cs gk ck) N, .string k] W fun e w' => e = .returned (.tuple #[.int .i64 (I : Int), .bool b]) ∧ Same W w') := fun W gp cp gs cs gk ck B l => by
    rw [hI, hb]; exact find_core W (l.nd h.at_).hp (by omega)
  have HFm : Hid (∀ W B ao c, MadeLeaf W B ao c M → Calls Try.prog 13 #[nodeV ao M.length c none 0 0 none 0 0, .string k] W fun e w' => e = .returned (.tuple #[.int .i64 (I : Int), .bool true]) ∧ Same W w') := fun W B ao c l => by
    have := made_find (k := k) l (by omega); rw [fM] at this; exact this
  have HP2 : Hid (∀ W B ao c, MadeLeaf W B ao c M → Calls Try.prog 19 #[frameV p q, nodeV ao M.length c none 0 0 none 0 0, .agg #[.string k, .string v]] W fun e w' => ∃ ao c, e = .returned (.tuple #[nodeV ao M.length c none 0 0 none 0 0, .bool true, .int .i64 0]) ∧ MadeLeaf w' W.heap.size ao c M ∧ Same W w') := fun W B ao c l => by
    have := made_put (k := k) (v := v) l (by omega) cM k1 k2 k4; rw [fM, iM] at this; exact this
  have HS : Hid (∀ W B B2 ao c ao2 c2, MadeLeaf W B ao c M → MadeLeaf W B2 ao2 c2 M → Calls Try.prog 20 #[nodeV ao M.length c none 0 0 none 0 0, nodeV ao2 M.length c2 none 0 0 none 0 0] W fun e w' => e = .returned (.bool true) ∧ Same W w') := fun W B B2 ao c ao2 c2 l l2 => made_same l l2 (by omega)
  have HR1 : Hid (∀ W B ao c, MadeLeaf W B ao c M → Calls Try.prog 21 #[frameV p q, nodeV ao M.length c none 0 0 none 0 0, .string k] W fun e w' => ∃ ao c, e = .returned (.tuple #[nodeV ao D.length c none 0 0 none 0 0, .bool true, .int .i64 0]) ∧ MadeLeaf w' W.heap.size ao c D ∧ Same W w') := fun W B ao c l => by
    have := made_remove (k := k) l (by omega) cM; rw [fM, dM] at this; exact this
  have HR2 : Hid (∀ W B ao c, MadeLeaf W B ao c D → Calls Try.prog 21 #[frameV p q, nodeV ao D.length c none 0 0 none 0 0, .string k] W fun e w' => ∃ ao c, e = .returned (.tuple #[nodeV ao D.length c none 0 0 none 0 0, .bool false, .int .i64 0]) ∧ MadeLeaf w' W.heap.size ao c D ∧ Same W w') := fun W B ao c l => by
    have := made_remove (k := k) l (by omega) cD; rw [fD, dD] at this; exact this
  have HSn : Hid (∀ W B ao c, b = false → Same w W → MadeLeaf W B ao c D → Calls Try.prog 20 #[nodeV ao D.length c none 0 0 none 0 0, ndV r N] W fun e w' => e = .returned (.bool true) ∧ Same W w') := fun W B ao c e s l => by
    have eD := hDn e
    have eN : N = ⟨D, [], []⟩ := by
      obtain ⟨a, b', c'⟩ := N
      simp only at ess eks eD
      rw [ess, eks, eD]
    obtain ⟨g, n⟩ := l.nd (by omega)
    have h0 := h.at_.same s
    rw [eN] at h0 ⊢
    show Calls Try.prog 20 #[ndV (leafNr ao g c) ⟨D, [], []⟩, ndV r ⟨D, [], []⟩] W _
    exact rsame_true W n h0
  have HSl : Hid (∀ W B B2 ao c ao2 c2, MadeLeaf W B ao c D → MadeLeaf W B2 ao2 c2 D → Calls Try.prog 20 #[nodeV ao D.length c none 0 0 none 0 0, nodeV ao2 D.length c2 none 0 0 none 0 0] W fun e w' => e = .returned (.bool true) ∧ Same W w') := fun W B B2 ao c ao2 c2 l l2 => made_same l l2 (by omega)
  have HMI : Hid (∀ W B ao c, MadeLeaf W B ao c M → ∃ g, ao = some ⟨g, 0, none⟩ ∧ W.cell? ⟨g, I * 2, none⟩ = some (.string k) ∧ W.cell? ⟨g, I * 2 + 1, none⟩ = some (.string v)) := fun W B ao c l => by
    obtain ⟨g, n⟩ := l.nd (by omega)
    obtain ⟨e1, _⟩ := n.hp.place (by intro e; simp only at e; rw [e] at atM; simp at atM)
    obtain ⟨x1, x2⟩ := n.hp.cells I (k, v) atM
    refine ⟨g, e1, ?_, ?_⟩
    · simpa [leafNr] using x1
    · simpa [leafNr] using x2
  have HA : Hid (∀ W, Calls Try.prog 9 #[] W fun e w' => e = .returned (.bool true) ∧ Same W w') := awake_calls
  have hIl : I < M.length := (List.getElem?_eq_some_iff.1 atM).1
  have i1 : ¬ (I : Int) < 0 := by omega
  have i2 : ¬ (M.length : Int) ≤ (I : Int) := by omega
  have i3 : (I : Int) < (M.length : Int) := by omega
  have i5 : I < M.length := hIl
  have i6 : ¬ M.length ≤ I := by omega
  have i7 : decide ((M.length : Int) ≤ (I : Int)) = false := decide_eq_false i2
  have i4 : (0 : Int) ≤ (I : Int) := by omega
  have ebb : (b == b) = true := by simp
  clear hc hk0 k1 k2 k4 ess eks hf hri hlo hM hD hI hb riM cM cD fM iM dM fD dD atM hDn lM lD h1 h2 h3 hE
  have HIN : Hid (NdIn w r N) := h
  clear h
  obtain ⟨V, hV⟩ : ∃ V, V = ((w.alloc (.cells #[.int .i64 p, .int .i64 q] 39)).alloc (.cells #[.slice r.pa N.ps.length r.cp, .slice r.sa N.ss.length r.cs, .slice r.ka N.ks.length r.ck] 31)).alloc (.cells #[.string k, .string v] 46) := ⟨_, rfl⟩
  have t1 : Same w V := by rw [hV]; exact (((Fr.refl _ w).alloc _).alloc _).alloc _
  have H4 := heap3 w (.cells #[.int .i64 p, .int .i64 q] 39) (.cells #[.slice r.pa N.ps.length r.cp, .slice r.sa N.ss.length r.cs, .slice r.ka N.ks.length r.ck] 31) (.cells #[.string k, .string v] 46)
  rw [← hV] at H4
  obtain ⟨g0, g1, g2⟩ := H4
  have HC : Hid (∀ W, Same V W → W.cell? ⟨w.heap.size, 0, none⟩ = some (.int .i64 p) ∧ W.cell? ⟨w.heap.size, 1, none⟩ = some (.int .i64 q) ∧ W.cell? ⟨w.heap.size + 1, 0, none⟩ = some (.slice r.pa N.ps.length r.cp) ∧ W.cell? ⟨w.heap.size + 1, 1, none⟩ = some (.slice r.sa N.ss.length r.cs) ∧ W.cell? ⟨w.heap.size + 1, 2, none⟩ = some (.slice r.ka N.ks.length r.ck) ∧ W.cell? ⟨w.heap.size + 1 + 1, 0, none⟩ = some (.string k) ∧ W.cell? ⟨w.heap.size + 1 + 1, 1, none⟩ = some (.string v)) := fun W s => ⟨s.keep (by rw [cell_of_row _ _ _ _ _ _ g0]; rfl), s.keep (by rw [cell_of_row _ _ _ _ _ _ g0]; rfl), s.keep (by rw [cell_of_row _ _ _ _ _ _ g1]; rfl), s.keep (by rw [cell_of_row _ _ _ _ _ _ g1]; rfl), s.keep (by rw [cell_of_row _ _ _ _ _ _ g1]; rfl), s.keep (by rw [cell_of_row _ _ _ _ _ _ g2]; rfl), s.keep (by rw [cell_of_row _ _ _ _ _ _ g2]; rfl)⟩
  have d0 : Same V V.drew := Fr.drew (Fr.refl _ V)
  clear g0 g1 g2
  go_enter Try.func8, Try.ntmps8
  go_wp2_with fail
  rw [← hV]
  clear hV
  unfold lentNr at HL HP1 HFl
  refine wp_region_held_drew (S := fun W => W.cell? ⟨w.heap.size, 0, none⟩ = some (.int .i64 p) ∧ W.cell? ⟨w.heap.size, 1, none⟩ = some (.int .i64 q) ∧ W.cell? ⟨w.heap.size + 1, 0, none⟩ = some (.slice r.pa N.ps.length r.cp) ∧ W.cell? ⟨w.heap.size + 1, 1, none⟩ = some (.slice r.sa N.ss.length r.cs) ∧ W.cell? ⟨w.heap.size + 1, 2, none⟩ = some (.slice r.ka N.ks.length r.ck) ∧ W.cell? ⟨w.heap.size + 1 + 1, 0, none⟩ = some (.string k) ∧ W.cell? ⟨w.heap.size + 1 + 1, 1, none⟩ = some (.string v)) (by kernel_rfl) (HC.out _ d0) (fun hHeld => ?_)
  refine wpAnyH_take (i := 0) (oi := { dst := some 24, op := Op.load 39 (Operand.tmp 3), type := 39, pos := "outright.go:12", after := #[], guard := none }) (v := .agg #[.int .i64 p, .int .i64 q]) rfl (by kernel_rfl) (by kernel_rfl) (by kernel_rfl) (fun _ _ _ h => h) (Or.inl ⟨by rfl, fun w hSw => by (obtain ⟨q0, q1, q2, q3, q4, q5, q6⟩ := hSw; go_simp)⟩) (by assumption) ?_
  try simp only [Act.put, List.setIfInBounds_toArray, List.set_cons_zero, List.set_cons_succ]
  refine wpAnyH_take (i := 1) (oi := { dst := some 25, op := Op.load 31 (Operand.tmp 4), type := 31, pos := "outright.go:12", after := #[], guard := none }) (v := .agg #[.slice r.pa N.ps.length r.cp, .slice r.sa N.ss.length r.cs, .slice r.ka N.ks.length r.ck]) rfl (by kernel_rfl) (by kernel_rfl) (by kernel_rfl) (fun _ _ _ h => h) (Or.inl ⟨by rfl, fun w hSw => by (obtain ⟨q0, q1, q2, q3, q4, q5, q6⟩ := hSw; go_simp)⟩) (by assumption) ?_
  try simp only [Act.put, List.setIfInBounds_toArray, List.set_cons_zero, List.set_cons_succ]
  refine wpAnyH_take (i := 3) (oi := { dst := some 27, op := Op.load 46 (Operand.tmp 5), type := 46, pos := "outright.go:12", after := #[], guard := none }) (v := .agg #[.string k, .string v]) rfl (by kernel_rfl) (by kernel_rfl) (by kernel_rfl) (fun _ _ _ h => h) (Or.inl ⟨by rfl, fun w hSw => by (obtain ⟨q0, q1, q2, q3, q4, q5, q6⟩ := hSw; go_simp)⟩) (by assumption) ?_
  try simp only [Act.put, List.setIfInBounds_toArray, List.set_cons_zero, List.set_cons_succ]
  refine wpAnyH_ready (rs := [2, 9]) (by kernel_rfl) (by simp) ?_
  refine AllReadyH.cons (o := { dst := some 26, op := Op.call { callee := Callee.value (Operand.func 12), args := #[Operand.tmp 25], argTypes := #[31] }, type := 31, pos := "outright.go:12", after := #[{ on := 1, ground := Ground.data }], guard := none }) rfl (fun K hK => ?_) (AllReadyH.cons (o := { dst := some 7, op := Op.alloc 31, type := 0, pos := "outright.go:12", after := #[], guard := none }) rfl (fun K hK => ?_) AllReadyH.nil)
  · go_simp
    go_at_call 12
    refine (HL.out _ (t1.trans (d0))).mono ?_
    rintro e Z1 ⟨gp, cp, gs, cs, gk, ck, rfl, l1, q1⟩
    try go_wp2_with fail
    have u1 : Same V Z1 := Same.trans (d0) q1
    refine hK.out _ _ (HC.out _ u1) (fun hHeld => ?_)
    clear hK K
    try simp only [Act.put, List.setIfInBounds_toArray, List.set_cons_zero, List.set_cons_succ]
    refine wpAnyH_ready (rs := [4, 9]) (by kernel_rfl) (by simp) ?_
    refine AllReadyH.cons (o := { dst := some 28, op := Op.call { callee := Callee.value (Operand.func 19), args := #[Operand.tmp 24, Operand.tmp 26, Operand.tmp 27], argTypes := #[39, 31, 46] }, type := 47, pos := "outright.go:12", after := #[{ on := 0, ground := Ground.data }, { on := 2, ground := Ground.data }, { on := 3, ground := Ground.data }, { on := 2, ground := Ground.chain }], guard := none }) rfl (fun K hK => ?_) (AllReadyH.cons (o := { dst := some 7, op := Op.alloc 31, type := 0, pos := "outright.go:12", after := #[], guard := none }) rfl (fun K hK => ?_) AllReadyH.nil)
    · go_simp
      go_at_call 19
      refine (HP1.out _ _ _ _ _ _ _ _ (l1)).mono ?_
      rintro e Z2 ⟨ao, c, rfl, m2, q2⟩
      try go_wp2_with fail
      have u2 : Same V Z2 := Same.trans (u1) q2
      refine hK.out _ _ (HC.out _ u2) (fun hHeld => ?_)
      clear hK K
      try simp only [Act.put, List.setIfInBounds_toArray, List.set_cons_zero, List.set_cons_succ]
      refine wpAnyH_take (i := 5) (oi := { dst := some 23, op := Op.move (Operand.tmp 28), type := 47, pos := "outright.go:12", after := #[{ on := 4, ground := Ground.data }], guard := none }) (v := .tuple #[nodeV ao M.length c none 0 0 none 0 0, .bool b, .int .i64 0]) rfl (by kernel_rfl) (by kernel_rfl) (by kernel_rfl) (fun _ _ _ h => h) (Or.inl ⟨by rfl, fun w hSw => by (obtain ⟨q0, q1, q2, q3, q4, q5, q6⟩ := hSw; go_simp)⟩) (by assumption) ?_
      try simp only [Act.put, List.setIfInBounds_toArray, List.set_cons_zero, List.set_cons_succ]
      refine wpAnyH_take (i := 6) (oi := { dst := some 29, op := Op.extract (Operand.tmp 23) 0, type := 31, pos := "outright.go:12", after := #[{ on := 5, ground := Ground.data }], guard := none }) (v := nodeV ao M.length c none 0 0 none 0 0) rfl (by kernel_rfl) (by kernel_rfl) (by kernel_rfl) (fun _ _ _ h => h) (Or.inl ⟨by rfl, fun w hSw => by (obtain ⟨q0, q1, q2, q3, q4, q5, q6⟩ := hSw; go_simp)⟩) (by assumption) ?_
      try simp only [Act.put, List.setIfInBounds_toArray, List.set_cons_zero, List.set_cons_succ]
      refine wpAnyH_take (i := 7) (oi := { dst := some 30, op := Op.extract (Operand.tmp 23) 1, type := 4, pos := "outright.go:12", after := #[{ on := 5, ground := Ground.data }, { on := 10, ground := Ground.gcOnly Departure.lateStores }], guard := none }) (v := .bool b) rfl (by kernel_rfl) (by kernel_rfl) (by kernel_rfl) (fun _ _ _ h => h) (Or.inl ⟨by rfl, fun w hSw => by (obtain ⟨q0, q1, q2, q3, q4, q5, q6⟩ := hSw; go_simp)⟩) (by assumption) ?_
      try simp only [Act.put, List.setIfInBounds_toArray, List.set_cons_zero, List.set_cons_succ]
      refine wpAnyH_take (i := 8) (oi := { dst := some 31, op := Op.extract (Operand.tmp 23) 2, type := 23, pos := "outright.go:12", after := #[{ on := 5, ground := Ground.data }, { on := 11, ground := Ground.gcOnly Departure.lateStores }], guard := none }) (v := .int .i64 0) rfl (by kernel_rfl) (by kernel_rfl) (by kernel_rfl) (fun _ _ _ h => h) (Or.inl ⟨by rfl, fun w hSw => by (obtain ⟨q0, q1, q2, q3, q4, q5, q6⟩ := hSw; go_simp)⟩) (by assumption) ?_
      try simp only [Act.put, List.setIfInBounds_toArray, List.set_cons_zero, List.set_cons_succ]
      refine wpAnyH_ready (rs := [9]) (by kernel_rfl) (by simp) ?_
      refine AllReadyH.cons (o := { dst := some 7, op := Op.alloc 31, type := 0, pos := "outright.go:12", after := #[], guard := none }) rfl (fun K hK => ?_) AllReadyH.nil
      go_simp
      refine hK.out _ _ (HC.out _ (Fr.alloc u2 _)) (fun hHeld => ?_)
      clear hK K
      try simp only [Act.put, List.setIfInBounds_toArray, List.set_cons_zero, List.set_cons_succ]
      have r6 := heap_alloc_new Z2 (.cells #[.slice none 0 0, .slice none 0 0, .slice none 0 0] 31)
      refine wpAnyH_ready (rs := [10]) (by kernel_rfl) (by simp) ?_
      refine AllReadyH.cons (o := { dst := none, op := Op.store 31 (Operand.tmp 7) (Operand.tmp 29), type := 0, pos := "outright.go:12", after := #[{ on := 9, ground := Ground.data }, { on := 6, ground := Ground.data }, { on := 4, ground := Ground.chain }, { on := 0, ground := Ground.phase }, { on := 1, ground := Ground.phase }, { on := 2, ground := Ground.phase }, { on := 3, ground := Ground.phase }, { on := 4, ground := Ground.phase }, { on := 5, ground := Ground.phase }, { on := 6, ground := Ground.phase }, { on := 7, ground := Ground.textOnly Departure.lateStores }, { on := 8, ground := Ground.textOnly Departure.lateStores }, { on := 9, ground := Ground.phase }], guard := none }) rfl (fun K hK => ?_) AllReadyH.nil
      refine step_store_whole rfl 31 _ _ rfl (Z2.heap.size) #[.slice ao M.length c, .slice none 0 0, .slice none 0 0] _ 31 (by rfl) (by rfl) r6 rfl (by kernel_rfl) (by kernel_rfl) ?_
      intro W7 r7 f7
      have x7 : Same V W7 := Fr.trans (Fr.alloc u2 _) f7 (fun i hi e => by first | omega | (have := u2.size; omega) | (have := u1.size; omega))
      refine hK.out _ _ (HC.out _ x7) (fun hHeld => ?_)
      clear hK K
      refine wpAnyH_take (i := 11) (oi := { dst := some 8, op := Op.assign (Operand.tmp 30), type := 4, pos := "outright.go:12", after := #[{ on := 7, ground := Ground.data }, { on := 10, ground := Ground.chain }, { on := 0, ground := Ground.phase }, { on := 1, ground := Ground.phase }, { on := 2, ground := Ground.phase }, { on := 3, ground := Ground.phase }, { on := 4, ground := Ground.phase }, { on := 5, ground := Ground.phase }, { on := 6, ground := Ground.phase }, { on := 7, ground := Ground.phase }, { on := 8, ground := Ground.textOnly Departure.lateStores }, { on := 9, ground := Ground.phase }, { on := 10, ground := Ground.phase }], guard := none }) (v := .bool b) rfl (by kernel_rfl) (by kernel_rfl) (by kernel_rfl) (fun _ _ _ h => h) (Or.inl ⟨by rfl, fun w hSw => by (obtain ⟨q0, q1, q2, q3, q4, q5, q6⟩ := hSw; go_simp)⟩) (by assumption) ?_
      try simp only [Act.put, List.setIfInBounds_toArray, List.set_cons_zero, List.set_cons_succ]
      refine wpAnyH_take (i := 12) (oi := { dst := some 9, op := Op.assign (Operand.tmp 31), type := 23, pos := "outright.go:12", after := #[{ on := 8, ground := Ground.data }, { on := 11, ground := Ground.chain }, { on := 0, ground := Ground.phase }, { on := 1, ground := Ground.phase }, { on := 2, ground := Ground.phase }, { on := 3, ground := Ground.phase }, { on := 4, ground := Ground.phase }, { on := 5, ground := Ground.phase }, { on := 6, ground := Ground.phase }, { on := 7, ground := Ground.phase }, { on := 8, ground := Ground.phase }, { on := 9, ground := Ground.phase }, { on := 10, ground := Ground.phase }, { on := 11, ground := Ground.phase }], guard := none }) (v := .int .i64 0) rfl (by kernel_rfl) (by kernel_rfl) (by kernel_rfl) (fun _ _ _ h => h) (Or.inl ⟨by rfl, fun w hSw => by (obtain ⟨q0, q1, q2, q3, q4, q5, q6⟩ := hSw; go_simp)⟩) (by assumption) ?_
      try simp only [Act.put, List.setIfInBounds_toArray, List.set_cons_zero, List.set_cons_succ]
      refine wpAnyH_done (by kernel_rfl) ?_ _
      have hm7 : MadeLeaf W7 (Z1.heap.size) ao c M := ⟨own_frameB (m2.own.alloc _) f7 (fun kk hk e => type_ne (m2.own.alloc _) r6 (by decide) (by rw [hk, e] <;> rfl))⟩
      obtain ⟨mb, hmb⟩ : ∃ mb, mb = Z2.heap.size := ⟨_, rfl⟩
      rw [← hmb] at r7 ⊢
      clear f7 r6 hmb
      obtain ⟨B0, hm7⟩ : ∃ B0, MadeLeaf W7 B0 ao c M := ⟨_, hm7⟩
      clear u1 u2 q1 q2 l1 m2
      have HB : Hid (∀ W, Same W7 W → W.cell? ⟨mb, 0, none⟩ = some (.slice ao M.length c) ∧ W.cell? ⟨mb, 1, none⟩ = some (.slice none 0 0) ∧ W.cell? ⟨mb, 2, none⟩ = some (.slice none 0 0)) := fun W s => ⟨s.keep ((cell_of_row _ _ _ _ _ _ r7).trans rfl), s.keep ((cell_of_row _ _ _ _ _ _ r7).trans rfl), s.keep ((cell_of_row _ _ _ _ _ _ r7).trans rfl)⟩
      have HMM : Hid (∀ W, Same W7 W → MadeLeaf W B0 ao c M) := fun W s => hm7.same s
      have z0 : Same W7 W7 := Fr.refl _ _
      clear r7 hm7
      obtain ⟨n0, n1, n2⟩ := HB.out _ z0
      obtain ⟨f0, f1, c0, c1, c2, k0, k1⟩ := HC.out _ x7
      go_wp2_with fail
      refine (HFm.out _ _ _ _ (HMM.out _ z0)).mono ?_
      rintro e Y1 ⟨rfl, y1⟩
      clear n0 n1 n2 f0 f1 c0 c1 c2 k0 k1
      obtain ⟨n0, n1, n2⟩ := HB.out _ y1
      obtain ⟨f0, f1, c0, c1, c2, k0, k1⟩ := HC.out _ (x7.trans y1)
      go_wp2_with fail
      have d1 : Same W7 Y1.drew := Fr.drew y1
      clear n0 n1 n2 f0 f1 c0 c1 c2 k0 k1
      go_region_held3 (fun W => W.cell? ⟨w.heap.size, 0, none⟩ = some (.int .i64 p) ∧ W.cell? ⟨w.heap.size, 1, none⟩ = some (.int .i64 q) ∧ W.cell? ⟨w.heap.size + 1, 0, none⟩ = some (.slice r.pa N.ps.length r.cp) ∧ W.cell? ⟨w.heap.size + 1, 1, none⟩ = some (.slice r.sa N.ss.length r.cs) ∧ W.cell? ⟨w.heap.size + 1, 2, none⟩ = some (.slice r.ka N.ks.length r.ck) ∧ W.cell? ⟨w.heap.size + 1 + 1, 0, none⟩ = some (.string k) ∧ W.cell? ⟨w.heap.size + 1 + 1, 1, none⟩ = some (.string v)) (first | exact HC.out _ (x7.trans v2) | exact HC.out _ (x7.trans v1) | exact HC.out _ (x7.trans d1)) (first | (go_at_call 12; refine (HL.out _ ((t1.trans x7).trans d1)).mono ?_; rintro e Z3 ⟨gp3, cp3, gs3, cs3, gk3, ck3, rfl, l3, q3⟩; have v1 := Same.trans d1 q3; clear q3) | (go_at_call 13; refine (HFl.out _ _ _ _ _ _ _ _ l3).mono ?_; rintro e Z4 ⟨rfl, q4⟩; have v2 := Same.trans v1 q4; clear q4))
      obtain ⟨g, hao, m0, m1⟩ := HMI.out _ _ _ _ (HMM.out _ v2)
      subst hao
      obtain ⟨n0, n1, n2⟩ := HB.out _ v2
      obtain ⟨f0, f1, c0, c1, c2, k0, k1⟩ := HC.out _ (x7.trans v2)
      go_wp2_with fail
      go_quiet (fail)
      have d2 : Same W7 (Z4.drewN nq) := ⟨v2.os, v2.tape, v2.output, v2.size, v2.block⟩
      clear n0 n1 n2 f0 f1 c0 c1 c2 k0 k1 m0 m1
      obtain ⟨n0, n1, n2⟩ := HB.out _ d2
      obtain ⟨f0, f1, c0, c1, c2, k0, k1⟩ := HC.out _ (x7.trans d2)
      go_wp2_with fail
      refine (HP2.out _ _ _ _ (HMM.out _ d2)).mono ?_
      rintro e Y5 ⟨ao5, c5, rfl, m5, q5⟩
      have v5 := Same.trans d2 q5
      clear n0 n1 n2 f0 f1 c0 c1 c2 k0 k1
      obtain ⟨n0, n1, n2⟩ := HB.out _ v5
      obtain ⟨f0, f1, c0, c1, c2, k0, k1⟩ := HC.out _ (x7.trans v5)
      have n0a := fun o => keepA' n0 o
      have n1a := fun o => keepA' n1 o
      have n2a := fun o => keepA' n2 o
      have f0a := fun o => keepA' f0 o
      have f1a := fun o => keepA' f1 o
      have c0a := fun o => keepA' c0 o
      have c1a := fun o => keepA' c1 o
      have c2a := fun o => keepA' c2 o
      have k0a := fun o => keepA' k0 o
      have k1a := fun o => keepA' k1 o
      go_wp2_with fail
      have v5a : Same W7 (Y5.alloc (.cells #[.slice ao5 M.length c5, .slice none 0 0, .slice none 0 0] 31)) := Fr.alloc v5 _
      refine (HS.out _ _ _ _ _ _ _ (m5.same ((Fr.refl _ Y5).alloc _)) (HMM.out _ v5a)).mono ?_
      rintro e Y6 ⟨rfl, q6⟩
      have v6 := Same.trans v5a q6
      clear n0 n1 n2 f0 f1 c0 c1 c2 k0 k1 n0a n1a n2a f0a f1a c0a c1a c2a k0a k1a
      obtain ⟨n0, n1, n2⟩ := HB.out _ v6
      obtain ⟨f0, f1, c0, c1, c2, k0, k1⟩ := HC.out _ (x7.trans v6)
      go_wp2_with fail
      refine (HR1.out _ _ _ _ (HMM.out _ v6)).mono ?_
      rintro e Y7 ⟨ao7, c7, rfl, m7, q7⟩
      have v7 := Same.trans v6 q7
      clear n0 n1 n2 f0 f1 c0 c1 c2 k0 k1
      obtain ⟨n0, n1, n2⟩ := HB.out _ v7
      obtain ⟨f0, f1, c0, c1, c2, k0, k1⟩ := HC.out _ (x7.trans v7)
      have n0a := fun o => keepA' n0 o
      have n1a := fun o => keepA' n1 o
      have n2a := fun o => keepA' n2 o
      have f0a := fun o => keepA' f0 o
      have f1a := fun o => keepA' f1 o
      have c0a := fun o => keepA' c0 o
      have c1a := fun o => keepA' c1 o
      have c2a := fun o => keepA' c2 o
      have k0a := fun o => keepA' k0 o
      have k1a := fun o => keepA' k1 o
      cases b with
      | false =>
        go_wp2_with fail
        have v7a : Same W7 (Y7.alloc (.cells #[.slice ao7 D.length c7, .slice none 0 0, .slice none 0 0] 31)) := Fr.alloc v7 _
        have m7a := m7.same ((Fr.refl (fun _ => False) Y7).alloc (.cells #[.slice ao7 D.length c7, .slice none 0 0, .slice none 0 0] 31))
        have l0 : (Y7.alloc (.cells #[.slice ao7 D.length c7, .slice none 0 0, .slice none 0 0] 31)).cell? ⟨Y7.heap.size, 0, none⟩ = some (.slice ao7 D.length c7) := by simp
        have l1 : (Y7.alloc (.cells #[.slice ao7 D.length c7, .slice none 0 0, .slice none 0 0] 31)).cell? ⟨Y7.heap.size, 1, none⟩ = some (.slice none 0 0) := by simp
        have l2 : (Y7.alloc (.cells #[.slice ao7 D.length c7, .slice none 0 0, .slice none 0 0] 31)).cell? ⟨Y7.heap.size, 2, none⟩ = some (.slice none 0 0) := by simp
        refine (HSn.out _ _ _ _ (by first | rfl | trivial) ((t1.trans x7).trans v7a) m7a).mono ?_
        rintro e Y8 ⟨rfl, q8⟩
        have vT := Same.trans v7a q8
        have m7a := m7a.same q8
        have l0 := q8.keep l0
        have l1 := q8.keep l1
        have l2 := q8.keep l2
        clear n0 n1 n2 f0 f1 c0 c1 c2 k0 k1 n0a n1a n2a f0a f1a c0a c1a c2a k0a k1a
        obtain ⟨n0, n1, n2⟩ := HB.out _ vT
        obtain ⟨f0, f1, c0, c1, c2, k0, k1⟩ := HC.out _ (x7.trans vT)
        go_wp2_with fail
        refine (HR2.out _ _ _ _ m7a).mono ?_
        rintro e Y9 ⟨ao9, c9, rfl, m9, q9⟩
        have l0 := q9.keep l0
        have l1 := q9.keep l1
        have l2 := q9.keep l2
        have l0a := fun o => keepA' l0 o
        have l1a := fun o => keepA' l1 o
        have l2a := fun o => keepA' l2 o
        have m7b := m7a.same q9
        have v9 := Same.trans vT q9
        go_wp2_with fail
        refine (HSl.out _ _ _ _ _ _ _ (m9.same ((Fr.refl _ Y9).alloc _)) (m7b.same ((Fr.refl _ Y9).alloc _))).mono ?_
        rintro e Y10 ⟨rfl, q10⟩
        have v10 := Same.trans (Fr.alloc v9 _) q10
        go_wp2_with fail
        refine (HA.out _).mono ?_
        rintro e Y11 ⟨rfl, q11⟩
        go_wp2_with fail
        go_ret
        exact ⟨rfl, ((t1.trans x7).trans v10).trans q11⟩
      | true =>
        have v7a : Same W7 (Y7.alloc (.cells #[.slice ao7 D.length c7, .slice none 0 0, .slice none 0 0] 31)) := Fr.alloc v7 _
        have m7a := m7.same ((Fr.refl (fun _ => False) Y7).alloc (.cells #[.slice ao7 D.length c7, .slice none 0 0, .slice none 0 0] 31))
        have l0 : (Y7.alloc (.cells #[.slice ao7 D.length c7, .slice none 0 0, .slice none 0 0] 31)).cell? ⟨Y7.heap.size, 0, none⟩ = some (.slice ao7 D.length c7) := by simp
        have l1 : (Y7.alloc (.cells #[.slice ao7 D.length c7, .slice none 0 0, .slice none 0 0] 31)).cell? ⟨Y7.heap.size, 1, none⟩ = some (.slice none 0 0) := by simp
        have l2 : (Y7.alloc (.cells #[.slice ao7 D.length c7, .slice none 0 0, .slice none 0 0] 31)).cell? ⟨Y7.heap.size, 2, none⟩ = some (.slice none 0 0) := by simp
        have vT := v7a
        go_wp2_with fail
        refine (HR2.out _ _ _ _ m7a).mono ?_
        rintro e Y9 ⟨ao9, c9, rfl, m9, q9⟩
        have l0 := q9.keep l0
        have l1 := q9.keep l1
        have l2 := q9.keep l2
        have l0a := fun o => keepA' l0 o
        have l1a := fun o => keepA' l1 o
        have l2a := fun o => keepA' l2 o
        have m7b := m7a.same q9
        have v9 := Same.trans vT q9
        go_wp2_with fail
        refine (HSl.out _ _ _ _ _ _ _ (m9.same ((Fr.refl _ Y9).alloc _)) (m7b.same ((Fr.refl _ Y9).alloc _))).mono ?_
        rintro e Y10 ⟨rfl, q10⟩
        have v10 := Same.trans (Fr.alloc v9 _) q10
        go_wp2_with fail
        refine (HA.out _).mono ?_
        rintro e Y11 ⟨rfl, q11⟩
        go_wp2_with fail
        go_ret
        exact ⟨rfl, ((t1.trans x7).trans v10).trans q11⟩
    · go_simp
      refine hK.out _ _ (HC.out _ (Fr.alloc u1 _)) (fun hHeld => ?_)
      clear hK K
      try simp only [Act.put, List.setIfInBounds_toArray, List.set_cons_zero, List.set_cons_succ]
      refine wpAnyH_ready (rs := [4]) (by kernel_rfl) (by simp) ?_
      refine AllReadyH.cons (o := { dst := some 28, op := Op.call { callee := Callee.value (Operand.func 19), args := #[Operand.tmp 24, Operand.tmp 26, Operand.tmp 27], argTypes := #[39, 31, 46] }, type := 47, pos := "outright.go:12", after := #[{ on := 0, ground := Ground.data }, { on := 2, ground := Ground.data }, { on := 3, ground := Ground.data }, { on := 2, ground := Ground.chain }], guard := none }) rfl (fun K hK => ?_) AllReadyH.nil
      go_simp
      go_at_call 19
      refine (HP1.out _ _ _ _ _ _ _ _ (l1.same ((Fr.refl _ Z1).alloc _))).mono ?_
      rintro e Z2 ⟨ao, c, rfl, m2, q2⟩
      try go_wp2_with fail
      have u2 : Same V Z2 := Same.trans (Fr.alloc u1 _) q2
      refine hK.out _ _ (HC.out _ u2) (fun hHeld => ?_)
      clear hK K
      try simp only [Act.put, List.setIfInBounds_toArray, List.set_cons_zero, List.set_cons_succ]
      refine wpAnyH_take (i := 5) (oi := { dst := some 23, op := Op.move (Operand.tmp 28), type := 47, pos := "outright.go:12", after := #[{ on := 4, ground := Ground.data }], guard := none }) (v := .tuple #[nodeV ao M.length c none 0 0 none 0 0, .bool b, .int .i64 0]) rfl (by kernel_rfl) (by kernel_rfl) (by kernel_rfl) (fun _ _ _ h => h) (Or.inl ⟨by rfl, fun w hSw => by (obtain ⟨q0, q1, q2, q3, q4, q5, q6⟩ := hSw; go_simp)⟩) (by assumption) ?_
      try simp only [Act.put, List.setIfInBounds_toArray, List.set_cons_zero, List.set_cons_succ]
      refine wpAnyH_take (i := 6) (oi := { dst := some 29, op := Op.extract (Operand.tmp 23) 0, type := 31, pos := "outright.go:12", after := #[{ on := 5, ground := Ground.data }], guard := none }) (v := nodeV ao M.length c none 0 0 none 0 0) rfl (by kernel_rfl) (by kernel_rfl) (by kernel_rfl) (fun _ _ _ h => h) (Or.inl ⟨by rfl, fun w hSw => by (obtain ⟨q0, q1, q2, q3, q4, q5, q6⟩ := hSw; go_simp)⟩) (by assumption) ?_
      try simp only [Act.put, List.setIfInBounds_toArray, List.set_cons_zero, List.set_cons_succ]
      refine wpAnyH_take (i := 7) (oi := { dst := some 30, op := Op.extract (Operand.tmp 23) 1, type := 4, pos := "outright.go:12", after := #[{ on := 5, ground := Ground.data }, { on := 10, ground := Ground.gcOnly Departure.lateStores }], guard := none }) (v := .bool b) rfl (by kernel_rfl) (by kernel_rfl) (by kernel_rfl) (fun _ _ _ h => h) (Or.inl ⟨by rfl, fun w hSw => by (obtain ⟨q0, q1, q2, q3, q4, q5, q6⟩ := hSw; go_simp)⟩) (by assumption) ?_
      try simp only [Act.put, List.setIfInBounds_toArray, List.set_cons_zero, List.set_cons_succ]
      refine wpAnyH_take (i := 8) (oi := { dst := some 31, op := Op.extract (Operand.tmp 23) 2, type := 23, pos := "outright.go:12", after := #[{ on := 5, ground := Ground.data }, { on := 11, ground := Ground.gcOnly Departure.lateStores }], guard := none }) (v := .int .i64 0) rfl (by kernel_rfl) (by kernel_rfl) (by kernel_rfl) (fun _ _ _ h => h) (Or.inl ⟨by rfl, fun w hSw => by (obtain ⟨q0, q1, q2, q3, q4, q5, q6⟩ := hSw; go_simp)⟩) (by assumption) ?_
      try simp only [Act.put, List.setIfInBounds_toArray, List.set_cons_zero, List.set_cons_succ]
      have r6 := (q2.block _ (by simp) (fun e => e)).trans (heap_alloc_new Z1 (.cells #[.slice none 0 0, .slice none 0 0, .slice none 0 0] 31))
      refine wpAnyH_ready (rs := [10]) (by kernel_rfl) (by simp) ?_
      refine AllReadyH.cons (o := { dst := none, op := Op.store 31 (Operand.tmp 7) (Operand.tmp 29), type := 0, pos := "outright.go:12", after := #[{ on := 9, ground := Ground.data }, { on := 6, ground := Ground.data }, { on := 4, ground := Ground.chain }, { on := 0, ground := Ground.phase }, { on := 1, ground := Ground.phase }, { on := 2, ground := Ground.phase }, { on := 3, ground := Ground.phase }, { on := 4, ground := Ground.phase }, { on := 5, ground := Ground.phase }, { on := 6, ground := Ground.phase }, { on := 7, ground := Ground.textOnly Departure.lateStores }, { on := 8, ground := Ground.textOnly Departure.lateStores }, { on := 9, ground := Ground.phase }], guard := none }) rfl (fun K hK => ?_) AllReadyH.nil
      refine step_store_whole rfl 31 _ _ rfl (Z1.heap.size) #[.slice ao M.length c, .slice none 0 0, .slice none 0 0] _ 31 (by rfl) (by rfl) r6 rfl (by kernel_rfl) (by kernel_rfl) ?_
      intro W7 r7 f7
      have x7 : Same V W7 := Fr.trans (u2) f7 (fun i hi e => by first | omega | (have := u2.size; omega) | (have := u1.size; omega))
      refine hK.out _ _ (HC.out _ x7) (fun hHeld => ?_)
      clear hK K
      refine wpAnyH_take (i := 11) (oi := { dst := some 8, op := Op.assign (Operand.tmp 30), type := 4, pos := "outright.go:12", after := #[{ on := 7, ground := Ground.data }, { on := 10, ground := Ground.chain }, { on := 0, ground := Ground.phase }, { on := 1, ground := Ground.phase }, { on := 2, ground := Ground.phase }, { on := 3, ground := Ground.phase }, { on := 4, ground := Ground.phase }, { on := 5, ground := Ground.phase }, { on := 6, ground := Ground.phase }, { on := 7, ground := Ground.phase }, { on := 8, ground := Ground.textOnly Departure.lateStores }, { on := 9, ground := Ground.phase }, { on := 10, ground := Ground.phase }], guard := none }) (v := .bool b) rfl (by kernel_rfl) (by kernel_rfl) (by kernel_rfl) (fun _ _ _ h => h) (Or.inl ⟨by rfl, fun w hSw => by (obtain ⟨q0, q1, q2, q3, q4, q5, q6⟩ := hSw; go_simp)⟩) (by assumption) ?_
      try simp only [Act.put, List.setIfInBounds_toArray, List.set_cons_zero, List.set_cons_succ]
      refine wpAnyH_take (i := 12) (oi := { dst := some 9, op := Op.assign (Operand.tmp 31), type := 23, pos := "outright.go:12", after := #[{ on := 8, ground := Ground.data }, { on := 11, ground := Ground.chain }, { on := 0, ground := Ground.phase }, { on := 1, ground := Ground.phase }, { on := 2, ground := Ground.phase }, { on := 3, ground := Ground.phase }, { on := 4, ground := Ground.phase }, { on := 5, ground := Ground.phase }, { on := 6, ground := Ground.phase }, { on := 7, ground := Ground.phase }, { on := 8, ground := Ground.phase }, { on := 9, ground := Ground.phase }, { on := 10, ground := Ground.phase }, { on := 11, ground := Ground.phase }], guard := none }) (v := .int .i64 0) rfl (by kernel_rfl) (by kernel_rfl) (by kernel_rfl) (fun _ _ _ h => h) (Or.inl ⟨by rfl, fun w hSw => by (obtain ⟨q0, q1, q2, q3, q4, q5, q6⟩ := hSw; go_simp)⟩) (by assumption) ?_
      try simp only [Act.put, List.setIfInBounds_toArray, List.set_cons_zero, List.set_cons_succ]
      refine wpAnyH_done (by kernel_rfl) ?_ _
      have hm7 : MadeLeaf W7 ((Z1.alloc (.cells #[.slice none 0 0, .slice none 0 0, .slice none 0 0] 31)).heap.size) ao c M := ⟨own_frameB (m2.own) f7 (fun kk hk e => type_ne (m2.own) r6 (by decide) (by rw [hk, e] <;> rfl))⟩
      obtain ⟨mb, hmb⟩ : ∃ mb, mb = Z1.heap.size := ⟨_, rfl⟩
      rw [← hmb] at r7 ⊢
      clear f7 r6 hmb
      obtain ⟨B0, hm7⟩ : ∃ B0, MadeLeaf W7 B0 ao c M := ⟨_, hm7⟩
      clear u1 u2 q1 q2 l1 m2
      have HB : Hid (∀ W, Same W7 W → W.cell? ⟨mb, 0, none⟩ = some (.slice ao M.length c) ∧ W.cell? ⟨mb, 1, none⟩ = some (.slice none 0 0) ∧ W.cell? ⟨mb, 2, none⟩ = some (.slice none 0 0)) := fun W s => ⟨s.keep ((cell_of_row _ _ _ _ _ _ r7).trans rfl), s.keep ((cell_of_row _ _ _ _ _ _ r7).trans rfl), s.keep ((cell_of_row _ _ _ _ _ _ r7).trans rfl)⟩
      have HMM : Hid (∀ W, Same W7 W → MadeLeaf W B0 ao c M) := fun W s => hm7.same s
      have z0 : Same W7 W7 := Fr.refl _ _
      clear r7 hm7
      obtain ⟨n0, n1, n2⟩ := HB.out _ z0
      obtain ⟨f0, f1, c0, c1, c2, k0, k1⟩ := HC.out _ x7
      go_wp2_with fail
      refine (HFm.out _ _ _ _ (HMM.out _ z0)).mono ?_
      rintro e Y1 ⟨rfl, y1⟩
      clear n0 n1 n2 f0 f1 c0 c1 c2 k0 k1
      obtain ⟨n0, n1, n2⟩ := HB.out _ y1
      obtain ⟨f0, f1, c0, c1, c2, k0, k1⟩ := HC.out _ (x7.trans y1)
      go_wp2_with fail
      have d1 : Same W7 Y1.drew := Fr.drew y1
      clear n0 n1 n2 f0 f1 c0 c1 c2 k0 k1
      go_region_held3 (fun W => W.cell? ⟨w.heap.size, 0, none⟩ = some (.int .i64 p) ∧ W.cell? ⟨w.heap.size, 1, none⟩ = some (.int .i64 q) ∧ W.cell? ⟨w.heap.size + 1, 0, none⟩ = some (.slice r.pa N.ps.length r.cp) ∧ W.cell? ⟨w.heap.size + 1, 1, none⟩ = some (.slice r.sa N.ss.length r.cs) ∧ W.cell? ⟨w.heap.size + 1, 2, none⟩ = some (.slice r.ka N.ks.length r.ck) ∧ W.cell? ⟨w.heap.size + 1 + 1, 0, none⟩ = some (.string k) ∧ W.cell? ⟨w.heap.size + 1 + 1, 1, none⟩ = some (.string v)) (first | exact HC.out _ (x7.trans v2) | exact HC.out _ (x7.trans v1) | exact HC.out _ (x7.trans d1)) (first | (go_at_call 12; refine (HL.out _ ((t1.trans x7).trans d1)).mono ?_; rintro e Z3 ⟨gp3, cp3, gs3, cs3, gk3, ck3, rfl, l3, q3⟩; have v1 := Same.trans d1 q3; clear q3) | (go_at_call 13; refine (HFl.out _ _ _ _ _ _ _ _ l3).mono ?_; rintro e Z4 ⟨rfl, q4⟩; have v2 := Same.trans v1 q4; clear q4))
      obtain ⟨g, hao, m0, m1⟩ := HMI.out _ _ _ _ (HMM.out _ v2)
      subst hao
      obtain ⟨n0, n1, n2⟩ := HB.out _ v2
      obtain ⟨f0, f1, c0, c1, c2, k0, k1⟩ := HC.out _ (x7.trans v2)
      go_wp2_with fail
      go_quiet (fail)
      have d2 : Same W7 (Z4.drewN nq) := ⟨v2.os, v2.tape, v2.output, v2.size, v2.block⟩
      clear n0 n1 n2 f0 f1 c0 c1 c2 k0 k1 m0 m1
      obtain ⟨n0, n1, n2⟩ := HB.out _ d2
      obtain ⟨f0, f1, c0, c1, c2, k0, k1⟩ := HC.out _ (x7.trans d2)
      go_wp2_with fail
      refine (HP2.out _ _ _ _ (HMM.out _ d2)).mono ?_
      rintro e Y5 ⟨ao5, c5, rfl, m5, q5⟩
      have v5 := Same.trans d2 q5
      clear n0 n1 n2 f0 f1 c0 c1 c2 k0 k1
      obtain ⟨n0, n1, n2⟩ := HB.out _ v5
      obtain ⟨f0, f1, c0, c1, c2, k0, k1⟩ := HC.out _ (x7.trans v5)
      have n0a := fun o => keepA' n0 o
      have n1a := fun o => keepA' n1 o
      have n2a := fun o => keepA' n2 o
      have f0a := fun o => keepA' f0 o
      have f1a := fun o => keepA' f1 o
      have c0a := fun o => keepA' c0 o
      have c1a := fun o => keepA' c1 o
      have c2a := fun o => keepA' c2 o
      have k0a := fun o => keepA' k0 o
      have k1a := fun o => keepA' k1 o
      go_wp2_with fail
      have v5a : Same W7 (Y5.alloc (.cells #[.slice ao5 M.length c5, .slice none 0 0, .slice none 0 0] 31)) := Fr.alloc v5 _
      refine (HS.out _ _ _ _ _ _ _ (m5.same ((Fr.refl _ Y5).alloc _)) (HMM.out _ v5a)).mono ?_
      rintro e Y6 ⟨rfl, q6⟩
      have v6 := Same.trans v5a q6
      clear n0 n1 n2 f0 f1 c0 c1 c2 k0 k1 n0a n1a n2a f0a f1a c0a c1a c2a k0a k1a
      obtain ⟨n0, n1, n2⟩ := HB.out _ v6
      obtain ⟨f0, f1, c0, c1, c2, k0, k1⟩ := HC.out _ (x7.trans v6)
      go_wp2_with fail
      refine (HR1.out _ _ _ _ (HMM.out _ v6)).mono ?_
      rintro e Y7 ⟨ao7, c7, rfl, m7, q7⟩
      have v7 := Same.trans v6 q7
      clear n0 n1 n2 f0 f1 c0 c1 c2 k0 k1
      obtain ⟨n0, n1, n2⟩ := HB.out _ v7
      obtain ⟨f0, f1, c0, c1, c2, k0, k1⟩ := HC.out _ (x7.trans v7)
      have n0a := fun o => keepA' n0 o
      have n1a := fun o => keepA' n1 o
      have n2a := fun o => keepA' n2 o
      have f0a := fun o => keepA' f0 o
      have f1a := fun o => keepA' f1 o
      have c0a := fun o => keepA' c0 o
      have c1a := fun o => keepA' c1 o
      have c2a := fun o => keepA' c2 o
      have k0a := fun o => keepA' k0 o
      have k1a := fun o => keepA' k1 o
      cases b with
      | false =>
        go_wp2_with fail
        have v7a : Same W7 (Y7.alloc (.cells #[.slice ao7 D.length c7, .slice none 0 0, .slice none 0 0] 31)) := Fr.alloc v7 _
        have m7a := m7.same ((Fr.refl (fun _ => False) Y7).alloc (.cells #[.slice ao7 D.length c7, .slice none 0 0, .slice none 0 0] 31))
        have l0 : (Y7.alloc (.cells #[.slice ao7 D.length c7, .slice none 0 0, .slice none 0 0] 31)).cell? ⟨Y7.heap.size, 0, none⟩ = some (.slice ao7 D.length c7) := by simp
        have l1 : (Y7.alloc (.cells #[.slice ao7 D.length c7, .slice none 0 0, .slice none 0 0] 31)).cell? ⟨Y7.heap.size, 1, none⟩ = some (.slice none 0 0) := by simp
        have l2 : (Y7.alloc (.cells #[.slice ao7 D.length c7, .slice none 0 0, .slice none 0 0] 31)).cell? ⟨Y7.heap.size, 2, none⟩ = some (.slice none 0 0) := by simp
        refine (HSn.out _ _ _ _ (by first | rfl | trivial) ((t1.trans x7).trans v7a) m7a).mono ?_
        rintro e Y8 ⟨rfl, q8⟩
        have vT := Same.trans v7a q8
        have m7a := m7a.same q8
        have l0 := q8.keep l0
        have l1 := q8.keep l1
        have l2 := q8.keep l2
        clear n0 n1 n2 f0 f1 c0 c1 c2 k0 k1 n0a n1a n2a f0a f1a c0a c1a c2a k0a k1a
        obtain ⟨n0, n1, n2⟩ := HB.out _ vT
        obtain ⟨f0, f1, c0, c1, c2, k0, k1⟩ := HC.out _ (x7.trans vT)
        go_wp2_with fail
        refine (HR2.out _ _ _ _ m7a).mono ?_
        rintro e Y9 ⟨ao9, c9, rfl, m9, q9⟩
        have l0 := q9.keep l0
        have l1 := q9.keep l1
        have l2 := q9.keep l2
        have l0a := fun o => keepA' l0 o
        have l1a := fun o => keepA' l1 o
        have l2a := fun o => keepA' l2 o
        have m7b := m7a.same q9
        have v9 := Same.trans vT q9
        go_wp2_with fail
        refine (HSl.out _ _ _ _ _ _ _ (m9.same ((Fr.refl _ Y9).alloc _)) (m7b.same ((Fr.refl _ Y9).alloc _))).mono ?_
        rintro e Y10 ⟨rfl, q10⟩
        have v10 := Same.trans (Fr.alloc v9 _) q10
        go_wp2_with fail
        refine (HA.out _).mono ?_
        rintro e Y11 ⟨rfl, q11⟩
        go_wp2_with fail
        go_ret
        exact ⟨rfl, ((t1.trans x7).trans v10).trans q11⟩
      | true =>
        have v7a : Same W7 (Y7.alloc (.cells #[.slice ao7 D.length c7, .slice none 0 0, .slice none 0 0] 31)) := Fr.alloc v7 _
        have m7a := m7.same ((Fr.refl (fun _ => False) Y7).alloc (.cells #[.slice ao7 D.length c7, .slice none 0 0, .slice none 0 0] 31))
        have l0 : (Y7.alloc (.cells #[.slice ao7 D.length c7, .slice none 0 0, .slice none 0 0] 31)).cell? ⟨Y7.heap.size, 0, none⟩ = some (.slice ao7 D.length c7) := by simp
        have l1 : (Y7.alloc (.cells #[.slice ao7 D.length c7, .slice none 0 0, .slice none 0 0] 31)).cell? ⟨Y7.heap.size, 1, none⟩ = some (.slice none 0 0) := by simp
        have l2 : (Y7.alloc (.cells #[.slice ao7 D.length c7, .slice none 0 0, .slice none 0 0] 31)).cell? ⟨Y7.heap.size, 2, none⟩ = some (.slice none 0 0) := by simp
        have vT := v7a
        go_wp2_with fail
        refine (HR2.out _ _ _ _ m7a).mono ?_
        rintro e Y9 ⟨ao9, c9, rfl, m9, q9⟩
        have l0 := q9.keep l0
        have l1 := q9.keep l1
        have l2 := q9.keep l2
        have l0a := fun o => keepA' l0 o
        have l1a := fun o => keepA' l1 o
        have l2a := fun o => keepA' l2 o
        have m7b := m7a.same q9
        have v9 := Same.trans vT q9
        go_wp2_with fail
        refine (HSl.out _ _ _ _ _ _ _ (m9.same ((Fr.refl _ Y9).alloc _)) (m7b.same ((Fr.refl _ Y9).alloc _))).mono ?_
        rintro e Y10 ⟨rfl, q10⟩
        have v10 := Same.trans (Fr.alloc v9 _) q10
        go_wp2_with fail
        refine (HA.out _).mono ?_
        rintro e Y11 ⟨rfl, q11⟩
        go_wp2_with fail
        go_ret
        exact ⟨rfl, ((t1.trans x7).trans v10).trans q11⟩
  · go_simp
    refine hK.out _ _ (HC.out _ (Fr.alloc d0 _)) (fun hHeld => ?_)
    clear hK K
    try simp only [Act.put, List.setIfInBounds_toArray, List.set_cons_zero, List.set_cons_succ]
    refine wpAnyH_ready (rs := [2]) (by kernel_rfl) (by simp) ?_
    refine AllReadyH.cons (o := { dst := some 26, op := Op.call { callee := Callee.value (Operand.func 12), args := #[Operand.tmp 25], argTypes := #[31] }, type := 31, pos := "outright.go:12", after := #[{ on := 1, ground := Ground.data }], guard := none }) rfl (fun K hK => ?_) AllReadyH.nil
    go_simp
    go_at_call 12
    refine (HL.out _ (t1.trans (Fr.alloc d0 _))).mono ?_
    rintro e Z1 ⟨gp, cp, gs, cs, gk, ck, rfl, l1, q1⟩
    try go_wp2_with fail
    have u1 : Same V Z1 := Same.trans (Fr.alloc d0 _) q1
    refine hK.out _ _ (HC.out _ u1) (fun hHeld => ?_)
    clear hK K
    try simp only [Act.put, List.setIfInBounds_toArray, List.set_cons_zero, List.set_cons_succ]
    refine wpAnyH_ready (rs := [4]) (by kernel_rfl) (by simp) ?_
    refine AllReadyH.cons (o := { dst := some 28, op := Op.call { callee := Callee.value (Operand.func 19), args := #[Operand.tmp 24, Operand.tmp 26, Operand.tmp 27], argTypes := #[39, 31, 46] }, type := 47, pos := "outright.go:12", after := #[{ on := 0, ground := Ground.data }, { on := 2, ground := Ground.data }, { on := 3, ground := Ground.data }, { on := 2, ground := Ground.chain }], guard := none }) rfl (fun K hK => ?_) AllReadyH.nil
    go_simp
    go_at_call 19
    refine (HP1.out _ _ _ _ _ _ _ _ (l1)).mono ?_
    rintro e Z2 ⟨ao, c, rfl, m2, q2⟩
    try go_wp2_with fail
    have u2 : Same V Z2 := Same.trans (u1) q2
    refine hK.out _ _ (HC.out _ u2) (fun hHeld => ?_)
    clear hK K
    try simp only [Act.put, List.setIfInBounds_toArray, List.set_cons_zero, List.set_cons_succ]
    refine wpAnyH_take (i := 5) (oi := { dst := some 23, op := Op.move (Operand.tmp 28), type := 47, pos := "outright.go:12", after := #[{ on := 4, ground := Ground.data }], guard := none }) (v := .tuple #[nodeV ao M.length c none 0 0 none 0 0, .bool b, .int .i64 0]) rfl (by kernel_rfl) (by kernel_rfl) (by kernel_rfl) (fun _ _ _ h => h) (Or.inl ⟨by rfl, fun w hSw => by (obtain ⟨q0, q1, q2, q3, q4, q5, q6⟩ := hSw; go_simp)⟩) (by assumption) ?_
    try simp only [Act.put, List.setIfInBounds_toArray, List.set_cons_zero, List.set_cons_succ]
    refine wpAnyH_take (i := 6) (oi := { dst := some 29, op := Op.extract (Operand.tmp 23) 0, type := 31, pos := "outright.go:12", after := #[{ on := 5, ground := Ground.data }], guard := none }) (v := nodeV ao M.length c none 0 0 none 0 0) rfl (by kernel_rfl) (by kernel_rfl) (by kernel_rfl) (fun _ _ _ h => h) (Or.inl ⟨by rfl, fun w hSw => by (obtain ⟨q0, q1, q2, q3, q4, q5, q6⟩ := hSw; go_simp)⟩) (by assumption) ?_
    try simp only [Act.put, List.setIfInBounds_toArray, List.set_cons_zero, List.set_cons_succ]
    refine wpAnyH_take (i := 7) (oi := { dst := some 30, op := Op.extract (Operand.tmp 23) 1, type := 4, pos := "outright.go:12", after := #[{ on := 5, ground := Ground.data }, { on := 10, ground := Ground.gcOnly Departure.lateStores }], guard := none }) (v := .bool b) rfl (by kernel_rfl) (by kernel_rfl) (by kernel_rfl) (fun _ _ _ h => h) (Or.inl ⟨by rfl, fun w hSw => by (obtain ⟨q0, q1, q2, q3, q4, q5, q6⟩ := hSw; go_simp)⟩) (by assumption) ?_
    try simp only [Act.put, List.setIfInBounds_toArray, List.set_cons_zero, List.set_cons_succ]
    refine wpAnyH_take (i := 8) (oi := { dst := some 31, op := Op.extract (Operand.tmp 23) 2, type := 23, pos := "outright.go:12", after := #[{ on := 5, ground := Ground.data }, { on := 11, ground := Ground.gcOnly Departure.lateStores }], guard := none }) (v := .int .i64 0) rfl (by kernel_rfl) (by kernel_rfl) (by kernel_rfl) (fun _ _ _ h => h) (Or.inl ⟨by rfl, fun w hSw => by (obtain ⟨q0, q1, q2, q3, q4, q5, q6⟩ := hSw; go_simp)⟩) (by assumption) ?_
    try simp only [Act.put, List.setIfInBounds_toArray, List.set_cons_zero, List.set_cons_succ]
    have r6 := ((q1.trans q2).block _ (by rw [World.size_alloc]; exact Nat.lt_succ_self _) (fun e => e)).trans (heap_alloc_new V.drew (.cells #[.slice none 0 0, .slice none 0 0, .slice none 0 0] 31))
    refine wpAnyH_ready (rs := [10]) (by kernel_rfl) (by simp) ?_
    refine AllReadyH.cons (o := { dst := none, op := Op.store 31 (Operand.tmp 7) (Operand.tmp 29), type := 0, pos := "outright.go:12", after := #[{ on := 9, ground := Ground.data }, { on := 6, ground := Ground.data }, { on := 4, ground := Ground.chain }, { on := 0, ground := Ground.phase }, { on := 1, ground := Ground.phase }, { on := 2, ground := Ground.phase }, { on := 3, ground := Ground.phase }, { on := 4, ground := Ground.phase }, { on := 5, ground := Ground.phase }, { on := 6, ground := Ground.phase }, { on := 7, ground := Ground.textOnly Departure.lateStores }, { on := 8, ground := Ground.textOnly Departure.lateStores }, { on := 9, ground := Ground.phase }], guard := none }) rfl (fun K hK => ?_) AllReadyH.nil
    refine step_store_whole rfl 31 _ _ rfl (V.heap.size) #[.slice ao M.length c, .slice none 0 0, .slice none 0 0] _ 31 (by rfl) (by rfl) r6 rfl (by kernel_rfl) (by kernel_rfl) ?_
    intro W7 r7 f7
    have x7 : Same V W7 := Fr.trans (u2) f7 (fun i hi e => by first | omega | (have := u2.size; omega) | (have := u1.size; omega))
    refine hK.out _ _ (HC.out _ x7) (fun hHeld => ?_)
    clear hK K
    refine wpAnyH_take (i := 11) (oi := { dst := some 8, op := Op.assign (Operand.tmp 30), type := 4, pos := "outright.go:12", after := #[{ on := 7, ground := Ground.data }, { on := 10, ground := Ground.chain }, { on := 0, ground := Ground.phase }, { on := 1, ground := Ground.phase }, { on := 2, ground := Ground.phase }, { on := 3, ground := Ground.phase }, { on := 4, ground := Ground.phase }, { on := 5, ground := Ground.phase }, { on := 6, ground := Ground.phase }, { on := 7, ground := Ground.phase }, { on := 8, ground := Ground.textOnly Departure.lateStores }, { on := 9, ground := Ground.phase }, { on := 10, ground := Ground.phase }], guard := none }) (v := .bool b) rfl (by kernel_rfl) (by kernel_rfl) (by kernel_rfl) (fun _ _ _ h => h) (Or.inl ⟨by rfl, fun w hSw => by (obtain ⟨q0, q1, q2, q3, q4, q5, q6⟩ := hSw; go_simp)⟩) (by assumption) ?_
    try simp only [Act.put, List.setIfInBounds_toArray, List.set_cons_zero, List.set_cons_succ]
    refine wpAnyH_take (i := 12) (oi := { dst := some 9, op := Op.assign (Operand.tmp 31), type := 23, pos := "outright.go:12", after := #[{ on := 8, ground := Ground.data }, { on := 11, ground := Ground.chain }, { on := 0, ground := Ground.phase }, { on := 1, ground := Ground.phase }, { on := 2, ground := Ground.phase }, { on := 3, ground := Ground.phase }, { on := 4, ground := Ground.phase }, { on := 5, ground := Ground.phase }, { on := 6, ground := Ground.phase }, { on := 7, ground := Ground.phase }, { on := 8, ground := Ground.phase }, { on := 9, ground := Ground.phase }, { on := 10, ground := Ground.phase }, { on := 11, ground := Ground.phase }], guard := none }) (v := .int .i64 0) rfl (by kernel_rfl) (by kernel_rfl) (by kernel_rfl) (fun _ _ _ h => h) (Or.inl ⟨by rfl, fun w hSw => by (obtain ⟨q0, q1, q2, q3, q4, q5, q6⟩ := hSw; go_simp)⟩) (by assumption) ?_
    try simp only [Act.put, List.setIfInBounds_toArray, List.set_cons_zero, List.set_cons_succ]
    refine wpAnyH_done (by kernel_rfl) ?_ _
    have hm7 : MadeLeaf W7 (Z1.heap.size) ao c M := ⟨own_frameB (m2.own) f7 (fun kk hk e => type_ne (m2.own) r6 (by decide) (by rw [hk, e] <;> rfl))⟩
    obtain ⟨mb, hmb⟩ : ∃ mb, mb = V.heap.size := ⟨_, rfl⟩
    rw [← hmb] at r7 ⊢
    clear f7 r6 hmb
    obtain ⟨B0, hm7⟩ : ∃ B0, MadeLeaf W7 B0 ao c M := ⟨_, hm7⟩
    clear u1 u2 q1 q2 l1 m2
    have HB : Hid (∀ W, Same W7 W → W.cell? ⟨mb, 0, none⟩ = some (.slice ao M.length c) ∧ W.cell? ⟨mb, 1, none⟩ = some (.slice none 0 0) ∧ W.cell? ⟨mb, 2, none⟩ = some (.slice none 0 0)) := fun W s => ⟨s.keep ((cell_of_row _ _ _ _ _ _ r7).trans rfl), s.keep ((cell_of_row _ _ _ _ _ _ r7).trans rfl), s.keep ((cell_of_row _ _ _ _ _ _ r7).trans rfl)⟩
    have HMM : Hid (∀ W, Same W7 W → MadeLeaf W B0 ao c M) := fun W s => hm7.same s
    have z0 : Same W7 W7 := Fr.refl _ _
    clear r7 hm7
    obtain ⟨n0, n1, n2⟩ := HB.out _ z0
    obtain ⟨f0, f1, c0, c1, c2, k0, k1⟩ := HC.out _ x7
    go_wp2_with fail
    refine (HFm.out _ _ _ _ (HMM.out _ z0)).mono ?_
    rintro e Y1 ⟨rfl, y1⟩
    clear n0 n1 n2 f0 f1 c0 c1 c2 k0 k1
    obtain ⟨n0, n1, n2⟩ := HB.out _ y1
    obtain ⟨f0, f1, c0, c1, c2, k0, k1⟩ := HC.out _ (x7.trans y1)
    go_wp2_with fail
    have d1 : Same W7 Y1.drew := Fr.drew y1
    clear n0 n1 n2 f0 f1 c0 c1 c2 k0 k1
    go_region_held3 (fun W => W.cell? ⟨w.heap.size, 0, none⟩ = some (.int .i64 p) ∧ W.cell? ⟨w.heap.size, 1, none⟩ = some (.int .i64 q) ∧ W.cell? ⟨w.heap.size + 1, 0, none⟩ = some (.slice r.pa N.ps.length r.cp) ∧ W.cell? ⟨w.heap.size + 1, 1, none⟩ = some (.slice r.sa N.ss.length r.cs) ∧ W.cell? ⟨w.heap.size + 1, 2, none⟩ = some (.slice r.ka N.ks.length r.ck) ∧ W.cell? ⟨w.heap.size + 1 + 1, 0, none⟩ = some (.string k) ∧ W.cell? ⟨w.heap.size + 1 + 1, 1, none⟩ = some (.string v)) (first | exact HC.out _ (x7.trans v2) | exact HC.out _ (x7.trans v1) | exact HC.out _ (x7.trans d1)) (first | (go_at_call 12; refine (HL.out _ ((t1.trans x7).trans d1)).mono ?_; rintro e Z3 ⟨gp3, cp3, gs3, cs3, gk3, ck3, rfl, l3, q3⟩; have v1 := Same.trans d1 q3; clear q3) | (go_at_call 13; refine (HFl.out _ _ _ _ _ _ _ _ l3).mono ?_; rintro e Z4 ⟨rfl, q4⟩; have v2 := Same.trans v1 q4; clear q4))
    obtain ⟨g, hao, m0, m1⟩ := HMI.out _ _ _ _ (HMM.out _ v2)
    subst hao
    obtain ⟨n0, n1, n2⟩ := HB.out _ v2
    obtain ⟨f0, f1, c0, c1, c2, k0, k1⟩ := HC.out _ (x7.trans v2)
    go_wp2_with fail
    go_quiet (fail)
    have d2 : Same W7 (Z4.drewN nq) := ⟨v2.os, v2.tape, v2.output, v2.size, v2.block⟩
    clear n0 n1 n2 f0 f1 c0 c1 c2 k0 k1 m0 m1
    obtain ⟨n0, n1, n2⟩ := HB.out _ d2
    obtain ⟨f0, f1, c0, c1, c2, k0, k1⟩ := HC.out _ (x7.trans d2)
    go_wp2_with fail
    refine (HP2.out _ _ _ _ (HMM.out _ d2)).mono ?_
    rintro e Y5 ⟨ao5, c5, rfl, m5, q5⟩
    have v5 := Same.trans d2 q5
    clear n0 n1 n2 f0 f1 c0 c1 c2 k0 k1
    obtain ⟨n0, n1, n2⟩ := HB.out _ v5
    obtain ⟨f0, f1, c0, c1, c2, k0, k1⟩ := HC.out _ (x7.trans v5)
    have n0a := fun o => keepA' n0 o
    have n1a := fun o => keepA' n1 o
    have n2a := fun o => keepA' n2 o
    have f0a := fun o => keepA' f0 o
    have f1a := fun o => keepA' f1 o
    have c0a := fun o => keepA' c0 o
    have c1a := fun o => keepA' c1 o
    have c2a := fun o => keepA' c2 o
    have k0a := fun o => keepA' k0 o
    have k1a := fun o => keepA' k1 o
    go_wp2_with fail
    have v5a : Same W7 (Y5.alloc (.cells #[.slice ao5 M.length c5, .slice none 0 0, .slice none 0 0] 31)) := Fr.alloc v5 _
    refine (HS.out _ _ _ _ _ _ _ (m5.same ((Fr.refl _ Y5).alloc _)) (HMM.out _ v5a)).mono ?_
    rintro e Y6 ⟨rfl, q6⟩
    have v6 := Same.trans v5a q6
    clear n0 n1 n2 f0 f1 c0 c1 c2 k0 k1 n0a n1a n2a f0a f1a c0a c1a c2a k0a k1a
    obtain ⟨n0, n1, n2⟩ := HB.out _ v6
    obtain ⟨f0, f1, c0, c1, c2, k0, k1⟩ := HC.out _ (x7.trans v6)
    go_wp2_with fail
    refine (HR1.out _ _ _ _ (HMM.out _ v6)).mono ?_
    rintro e Y7 ⟨ao7, c7, rfl, m7, q7⟩
    have v7 := Same.trans v6 q7
    clear n0 n1 n2 f0 f1 c0 c1 c2 k0 k1
    obtain ⟨n0, n1, n2⟩ := HB.out _ v7
    obtain ⟨f0, f1, c0, c1, c2, k0, k1⟩ := HC.out _ (x7.trans v7)
    have n0a := fun o => keepA' n0 o
    have n1a := fun o => keepA' n1 o
    have n2a := fun o => keepA' n2 o
    have f0a := fun o => keepA' f0 o
    have f1a := fun o => keepA' f1 o
    have c0a := fun o => keepA' c0 o
    have c1a := fun o => keepA' c1 o
    have c2a := fun o => keepA' c2 o
    have k0a := fun o => keepA' k0 o
    have k1a := fun o => keepA' k1 o
    cases b with
    | false =>
      go_wp2_with fail
      have v7a : Same W7 (Y7.alloc (.cells #[.slice ao7 D.length c7, .slice none 0 0, .slice none 0 0] 31)) := Fr.alloc v7 _
      have m7a := m7.same ((Fr.refl (fun _ => False) Y7).alloc (.cells #[.slice ao7 D.length c7, .slice none 0 0, .slice none 0 0] 31))
      have l0 : (Y7.alloc (.cells #[.slice ao7 D.length c7, .slice none 0 0, .slice none 0 0] 31)).cell? ⟨Y7.heap.size, 0, none⟩ = some (.slice ao7 D.length c7) := by simp
      have l1 : (Y7.alloc (.cells #[.slice ao7 D.length c7, .slice none 0 0, .slice none 0 0] 31)).cell? ⟨Y7.heap.size, 1, none⟩ = some (.slice none 0 0) := by simp
      have l2 : (Y7.alloc (.cells #[.slice ao7 D.length c7, .slice none 0 0, .slice none 0 0] 31)).cell? ⟨Y7.heap.size, 2, none⟩ = some (.slice none 0 0) := by simp
      refine (HSn.out _ _ _ _ (by first | rfl | trivial) ((t1.trans x7).trans v7a) m7a).mono ?_
      rintro e Y8 ⟨rfl, q8⟩
      have vT := Same.trans v7a q8
      have m7a := m7a.same q8
      have l0 := q8.keep l0
      have l1 := q8.keep l1
      have l2 := q8.keep l2
      clear n0 n1 n2 f0 f1 c0 c1 c2 k0 k1 n0a n1a n2a f0a f1a c0a c1a c2a k0a k1a
      obtain ⟨n0, n1, n2⟩ := HB.out _ vT
      obtain ⟨f0, f1, c0, c1, c2, k0, k1⟩ := HC.out _ (x7.trans vT)
      go_wp2_with fail
      refine (HR2.out _ _ _ _ m7a).mono ?_
      rintro e Y9 ⟨ao9, c9, rfl, m9, q9⟩
      have l0 := q9.keep l0
      have l1 := q9.keep l1
      have l2 := q9.keep l2
      have l0a := fun o => keepA' l0 o
      have l1a := fun o => keepA' l1 o
      have l2a := fun o => keepA' l2 o
      have m7b := m7a.same q9
      have v9 := Same.trans vT q9
      go_wp2_with fail
      refine (HSl.out _ _ _ _ _ _ _ (m9.same ((Fr.refl _ Y9).alloc _)) (m7b.same ((Fr.refl _ Y9).alloc _))).mono ?_
      rintro e Y10 ⟨rfl, q10⟩
      have v10 := Same.trans (Fr.alloc v9 _) q10
      go_wp2_with fail
      refine (HA.out _).mono ?_
      rintro e Y11 ⟨rfl, q11⟩
      go_wp2_with fail
      go_ret
      exact ⟨rfl, ((t1.trans x7).trans v10).trans q11⟩
    | true =>
      have v7a : Same W7 (Y7.alloc (.cells #[.slice ao7 D.length c7, .slice none 0 0, .slice none 0 0] 31)) := Fr.alloc v7 _
      have m7a := m7.same ((Fr.refl (fun _ => False) Y7).alloc (.cells #[.slice ao7 D.length c7, .slice none 0 0, .slice none 0 0] 31))
      have l0 : (Y7.alloc (.cells #[.slice ao7 D.length c7, .slice none 0 0, .slice none 0 0] 31)).cell? ⟨Y7.heap.size, 0, none⟩ = some (.slice ao7 D.length c7) := by simp
      have l1 : (Y7.alloc (.cells #[.slice ao7 D.length c7, .slice none 0 0, .slice none 0 0] 31)).cell? ⟨Y7.heap.size, 1, none⟩ = some (.slice none 0 0) := by simp
      have l2 : (Y7.alloc (.cells #[.slice ao7 D.length c7, .slice none 0 0, .slice none 0 0] 31)).cell? ⟨Y7.heap.size, 2, none⟩ = some (.slice none 0 0) := by simp
      have vT := v7a
      go_wp2_with fail
      refine (HR2.out _ _ _ _ m7a).mono ?_
      rintro e Y9 ⟨ao9, c9, rfl, m9, q9⟩
      have l0 := q9.keep l0
      have l1 := q9.keep l1
      have l2 := q9.keep l2
      have l0a := fun o => keepA' l0 o
      have l1a := fun o => keepA' l1 o
      have l2a := fun o => keepA' l2 o
      have m7b := m7a.same q9
      have v9 := Same.trans vT q9
      go_wp2_with fail
      refine (HSl.out _ _ _ _ _ _ _ (m9.same ((Fr.refl _ Y9).alloc _)) (m7b.same ((Fr.refl _ Y9).alloc _))).mono ?_
      rintro e Y10 ⟨rfl, q10⟩
      have v10 := Same.trans (Fr.alloc v9 _) q10
      go_wp2_with fail
      refine (HA.out _).mono ?_
      rintro e Y11 ⟨rfl, q11⟩
      go_wp2_with fail
      go_ret
      exact ⟨rfl, ((t1.trans x7).trans v10).trans q11⟩
end Go.Proofs.Ytcmgdlkpmagmkaa
