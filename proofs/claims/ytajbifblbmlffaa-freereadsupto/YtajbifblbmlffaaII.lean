/- free: the document's Body. -/
import Derived.Test.YtajbifblbmlffaaIH
namespace Go.Proofs.Ytajbifblbmlffaa
open Go.RowKit Go.Maps

theorem bodyOk_eq (p q : Int) (next : Nat) (ns : List Nat) : bodyOk p q next ns = (frameP p q && (!decide (next = 1)) && decide (next < 65536) && (decide (ns.length ≤ entN p q) && riseN 65536 0 ns)) := by
  unfold bodyOk fitsN cntB
  cases frameP p q
  · rfl
  · simp only [Bool.true_and]
    have : (decide (next = 0) || decide (2 ≤ next) && decide (next < 65536)) = ((!decide (next = 1)) && decide (next < 65536)) := by
      by_cases h1 : next = 1
      · subst h1; rfl
      · by_cases h0 : next = 0
        · subst h0; rfl
        · rw [decide_eq_false h0, decide_eq_false h1, decide_eq_true (by omega : 2 ≤ next)]; rfl
    rw [this]
set_option maxRecDepth 100000 in
set_option maxHeartbeats 2000000 in
theorem rbody_bad {p q : Int} {pa : Option Addr} {pb po cp next : Nat} {ns : List Nat} (w : World) (hr : NRow w pa pb po ns) (hn : ns.length ≤ 4611686018427387904) (hx : next < 4294967296) (hb : bodyOk p q next ns = false) :
    Calls Try.prog 42 #[frameV p q, .int .u32 (next : Int), .slice pa ns.length cp] w fun e w' => e = .returned (.tuple #[.string ⟨#[]⟩, .int .i64 2]) ∧ Same w w' := by
  have HM : Hid (∀ W, Calls Try.prog 21 #[.agg #[.int .i64 p, .int .i64 q]] W fun e w' => e = .returned (.bool (frameP p q)) ∧ Same W w') := rframe_calls p q
  have HE : Hid (∀ W, Calls Try.prog 40 #[.agg #[.int .i64 p, .int .i64 q]] W fun e w' => e = .returned (.int .i64 (entN p q : Int)) ∧ Same W w') := rentries_calls p q
  have HRi : Hid (∀ W, Same w W → Calls Try.prog 39 #[.slice pa ns.length cp, .int .i64 (entN p q : Int), .int .u32 65536] W fun e w' => e = .returned (.bool (decide (ns.length ≤ entN p q) && riseN 65536 0 ns)) ∧ Same W w') := fun W s => rrising_calls (pages := 65536) W (hr.same s) hn
  obtain ⟨V, hV⟩ : ∃ V, V = w.alloc (.cells #[.int .i64 p, .int .i64 q] 23) := ⟨_, rfl⟩
  have sx : Same w V := by rw [hV]; exact (Fr.refl _ w).alloc _
  have c0 : V.cell? ⟨w.heap.size, 0, none⟩ = some (.int .i64 p) := by rw [hV]; simp
  have c1 : V.cell? ⟨w.heap.size, 1, none⟩ = some (.int .i64 q) := by rw [hV]; simp
  have HC : Hid (∀ W, Same V W → W.cell? ⟨w.heap.size, 0, none⟩ = some (.int .i64 p) ∧ W.cell? ⟨w.heap.size, 1, none⟩ = some (.int .i64 q)) := fun W h => ⟨h.keep c0, h.keep c1⟩
  rw [bodyOk_eq] at hb
  generalize hri : (decide (ns.length ≤ entN p q) && riseN 65536 0 ns) = ri at *
  generalize ns.length = n at *
  generalize entN p q = en at *
  clear hr hri c0 c1
  cases hfp : frameP p q with
  | false =>
    rw [hfp] at HM
    clear hb
    go_enter Try.func42, Try.ntmps42
    go_wp2_with fail
    rw [← hV]
    clear hV
    refine (HM.out _).mono ?_
    rintro e W0 ⟨rfl, s0⟩
    go_wp2_with fail
    go_ret2
    exact ⟨rfl, sx.trans s0⟩
  | true =>
    rw [hfp] at HM hb
    by_cases h1 : next = 1
    · subst h1
      clear hb
      go_enter Try.func42, Try.ntmps42
      go_wp2_with fail
      rw [← hV]
      clear hV
      refine (HM.out _).mono ?_
      rintro e W0 ⟨rfl, s0⟩
      go_wp2_with fail
      go_ret2
      exact ⟨rfl, sx.trans s0⟩
    · have h1i : decide ((next : Int) = 1) = false := decide_eq_false (by omega)
      have h1j : ((next : Int) == 1) = false := by simp; omega
      by_cases h2 : next < 65536
      · have h2i : decide ((65536 : Int) ≤ (next : Int)) = false := decide_eq_false (by omega)
        have hri : ri = false := by rw [decide_eq_false h1, decide_eq_true h2] at hb; simpa using hb
        subst hri
        clear hb h1 h2 hx
        go_enter Try.func42, Try.ntmps42
        go_wp2_with fail
        rw [← hV]
        clear hV
        refine (HM.out _).mono ?_
        rintro e W0 ⟨rfl, s0⟩
        obtain ⟨c0, c1⟩ := HC.out _ s0
        go_wp2_with fail
        refine (HE.out _).mono ?_
        rintro e W1 ⟨rfl, s1⟩
        have HT : Hid (Same w W1) := sx.trans (s0.trans s1)
        clear c0 c1 s0 s1 sx
        go_wp2_with fail
        refine (HRi.out _ HT.out).mono ?_
        rintro e W2 ⟨rfl, s2⟩
        have HT2 : Hid (Same w W2) := HT.out.trans s2
        clear s2
        go_wp2_with fail
        go_ret2
        exact ⟨rfl, HT2.out⟩
      · have h2i : (65536 : Int) ≤ (next : Int) := by omega
        clear hb h1 h2 hx
        go_enter Try.func42, Try.ntmps42
        go_wp2_with fail
        rw [← hV]
        clear hV
        refine (HM.out _).mono ?_
        rintro e W0 ⟨rfl, s0⟩
        go_wp2_with fail
        go_ret2
        exact ⟨rfl, sx.trans s0⟩
set_option maxRecDepth 100000 in
set_option maxHeartbeats 2000000 in
theorem rbody_good {p q : Int} {pa : Option Addr} {pb po cp next : Nat} {ns : List Nat} (w : World) (hr : NRow w pa pb po ns) (hb : bodyOk p q next ns = true) :
    Calls Try.prog 42 #[frameV p q, .int .u32 (next : Int), .slice pa ns.length cp] w fun e w' => e = .returned (.tuple #[.string ⟨(bodyL next ns).toArray⟩, .int .i64 0]) ∧ Same w w' := by
  rw [bodyOk_eq] at hb
  simp only [Bool.and_eq_true, decide_eq_true_eq, Bool.not_eq_true', decide_eq_false_iff_not] at hb
  obtain ⟨⟨⟨hfp, h1⟩, h2⟩, h3, h4⟩ := hb
  have hen : entN p q ≤ 2038 := by
    rcases entN_cases p q with ⟨_, h2⟩ | ⟨_, _, h3, _⟩ <;> omega
  have hall := rise_all _ _ h4
  have HM : Hid (∀ W, Calls Try.prog 21 #[.agg #[.int .i64 p, .int .i64 q]] W fun e w' => e = .returned (.bool true) ∧ Same W w') := by rw [← hfp]; exact rframe_calls p q
  have HE : Hid (∀ W, Calls Try.prog 40 #[.agg #[.int .i64 p, .int .i64 q]] W fun e w' => e = .returned (.int .i64 (entN p q : Int)) ∧ Same W w') := rentries_calls p q
  have HRi : Hid (∀ W, Same w W → Calls Try.prog 39 #[.slice pa ns.length cp, .int .i64 (entN p q : Int), .int .u32 65536] W fun e w' => e = .returned (.bool true) ∧ Same W w') := fun W s => by
    have := rrising_calls (pages := 65536) (en := entN p q) (cp := cp) W (hr.same s) (by omega)
    rw [h4, decide_eq_true h3] at this
    exact this
  have HF : Hid (∀ k W, k < 4294967296 → Calls Try.prog 51 #[.int .u32 ((k : Nat) : Int)] W fun e w' => e = .returned (.string ⟨(fix4 k).toArray⟩) ∧ Same W w') := fun k W hk => rfour_calls k hk W
  obtain ⟨V, hV⟩ : ∃ V, V = w.alloc (.cells #[.int .i64 p, .int .i64 q] 23) := ⟨_, rfl⟩
  have sx : Same w V := by rw [hV]; exact (Fr.refl _ w).alloc _
  have c0 : V.cell? ⟨w.heap.size, 0, none⟩ = some (.int .i64 p) := by rw [hV]; simp
  have c1 : V.cell? ⟨w.heap.size, 1, none⟩ = some (.int .i64 q) := by rw [hV]; simp
  have HC : Hid (∀ W, Same V W → W.cell? ⟨w.heap.size, 0, none⟩ = some (.int .i64 p) ∧ W.cell? ⟨w.heap.size, 1, none⟩ = some (.int .i64 q)) := fun W h => ⟨h.keep c0, h.keep c1⟩
  have HR : Hid (NRow w pa pb po ns) := hr
  have HAll : Hid (∀ x ∈ ns, x < 4294967296) := fun x hx => by have := (hall x hx).2; omega
  obtain ⟨n, hnn⟩ : ∃ n, n = ns.length := ⟨_, rfl⟩
  have HN : Hid (n = ns.length ∧ n ≤ 2038 ∧ next < 65536) := ⟨hnn, by omega, h2⟩
  rw [← hnn] at HRi ⊢
  generalize entN p q = en at *
  have h1i : decide ((next : Int) = 1) = false := decide_eq_false (by omega)
  have h1j : ((next : Int) == 1) = false := by simp; omega
  have h2i : decide ((65536 : Int) ≤ (next : Int)) = false := decide_eq_false (by omega)
  have hwn : IntKind.u32.wrap (n : Int) = (n : Int) := by rw [IntKind.wrap_u32]; omega
  clear hr hfp h1 h2 h3 h4 hen hall c0 c1 hnn
  go_enter Try.func42, Try.ntmps42
  go_wp2_with fail
  rw [← hV]
  clear hV
  refine (HM.out _).mono ?_
  rintro e W0 ⟨rfl, s0⟩
  obtain ⟨c0, c1⟩ := HC.out _ s0
  go_wp2_with fail
  refine (HE.out _).mono ?_
  rintro e W1 ⟨rfl, s1⟩
  have HT : Hid (Same w W1) := sx.trans (s0.trans s1)
  clear c0 c1 s0 s1 sx
  go_wp2_with fail
  refine (HRi.out _ HT.out).mono ?_
  rintro e W2 ⟨rfl, s2⟩
  have HT2 : Hid (Same w W2) := HT.out.trans s2
  clear s2 h1i h1j h2i
  go_wp2_with fail
  refine (HF.out _ _ (by have := HN.out.2.2; omega)).mono ?_
  rintro e W3 ⟨rfl, s3⟩
  have HT3 : Hid (Same w W3) := HT2.out.trans s3
  clear s3
  go_wp2_with fail
  refine (HF.out _ _ (by have := HN.out.2.1; omega)).mono ?_
  rintro e W4 ⟨rfl, s4⟩
  have HT4 : Hid (Same w W4) := HT3.out.trans s4
  clear s4 hwn
  obtain ⟨T, hT⟩ : ∃ T : ByteArray, T = (⟨(fix4 next).toArray⟩ : ByteArray) ++ (⟨(fix4 n).toArray⟩ : ByteArray) := ⟨_, rfl⟩
  have hTl : T.data.toList = fix4 next ++ fix4 n := by rw [hT]; simp [ByteArray.data_append]
  have hTs : T.size = 8 := by
    have := bytes_length T
    rw [hTl, List.length_append, fix4_len, fix4_len] at this
    exact this.symm
  obtain ⟨cap, W5, hcv, HB⟩ : ∃ cap W5, (convert 9 110 (.string ((⟨(fix4 next).toArray⟩ : ByteArray) ++ (⟨(fix4 n).toArray⟩ : ByteArray)))).run Try.prog W4 = .ok (.slice (some ⟨W4.heap.size, 0, none⟩) 8 cap) W5 ∧ Hid (BRow W5 w.heap.size W4.heap.size 8 cap (fix4 next ++ fix4 n) ∧ Same w W5) := by
    obtain ⟨cs, cap, fr, h1, h2, h3⟩ := str_brow W4 T (by omega)
    rw [hTs] at h1 h3
    rw [hTl] at h3
    rw [← hT]
    exact ⟨cap, _, h1, ⟨by have := HT4.out.size; omega, h3⟩, Fr.alloc (Fr.drew HT4.out) _⟩
  clear hT hTl hTs
  go_wp2_with fail
  clear hcv
  obtain ⟨gb, hgb⟩ : ∃ g, g = W4.heap.size := ⟨_, rfl⟩
  rw [← hgb] at HB ⊢
  clear hgb
  go_loopg [8, 9] n (fun g lv iv wr => ∃ (j g1 m c : Nat), lv = .slice (some ⟨g1, 0, none⟩) m c ∧ iv = .int .i64 (j : Int) ∧ j ≤ n ∧ g = n - j ∧ Hid (m = 8 + 4 * j) ∧ Hid (BRow wr w.heap.size g1 m c (fix4 next ++ fix4 n ++ (ns.take j).flatMap fix4)) ∧ Hid (Same w wr))
  case atStart => exact ⟨0, gb, 8, cap, rfl, rfl, by omega, rfl, rfl, by rw [List.take_zero, List.flatMap_nil, List.append_nil]; exact HB.out.1, HB.out.2⟩
  case round =>
    obtain ⟨j, g1, m, c, rfl, rfl, hj, hg, HMm, HBR, HS⟩ := hrel
    by_cases hgo : j < n
    · have hgi : (j : Int) < (n : Int) := by omega
      obtain ⟨a, hx⟩ : ∃ x, ns[j]? = some x := ⟨_, List.getElem?_eq_getElem (by rw [← HN.out.1]; exact hgo)⟩
      have hrow := HR.out.same HS.out
      have c1 := hrow.cells j a hx
      obtain ⟨hpa, _⟩ := hrow.place (by intro e; rw [e] at hx; simp at hx)
      subst hpa
      have HA : Hid (a < 4294967296) := HAll.out a (List.mem_of_getElem? hx)
      have HTk : Hid ((ns.take (j + 1)).flatMap fix4 = (ns.take j).flatMap fix4 ++ fix4 a) := by
        show _ = _
        have hl : j < ns.length := by rw [← HN.out.1]; exact hgo
        have e : ns[j] = a := by rw [List.getElem?_eq_getElem hl] at hx; exact Option.some.inj hx
        rw [List.take_succ_eq_append_getElem hl, List.flatMap_append, e]
        simp
      have hwj : RowKit.wrap64 ((j : Int) + 1) = (j : Int) + 1 := by have := HN.out.2.1; unfold RowKit.wrap64; omega
      clear hx hrow
      go_wp2_with fail
      refine (HF.out _ _ HA.out).mono ?_
      rintro e X1 ⟨rfl, x1⟩
      have HS1 : Hid (Same w X1) := HS.out.trans x1
      have HB1 : Hid (BRow X1 w.heap.size g1 m c (fix4 next ++ fix4 n ++ (ns.take j).flatMap fix4)) := HBR.out.fr x1 (fun e => e)
      obtain ⟨T, hT⟩ : ∃ T : ByteArray, T = ⟨(fix4 a).toArray⟩ := ⟨_, rfl⟩
      have HTl : Hid (T.data.toList = fix4 a ∧ T.size = 4) := by rw [hT]; exact ⟨rfl, rfl⟩
      rw [← hT]
      have hmb : m + T.size ≤ 140737488355328 := by have := HMm.out; have := HN.out.2.1; have := HTl.out.2; omega
      have hvb : w.heap.size ≤ X1.heap.size := HS1.out.size
      clear x1 c1 hT
      go_wp2_with (at_builtin; go_must (refine wpList_append_strB _ (by rfl) _ _ (by rfl) _ _ _ _ _ (by rfl) HB1.out T (by rfl) hmb hvb ?_; intro g2 c2 X2 b2 gr2))
      have HS2 : Hid (Same w X2) := Fr.trans HS1.out (Fr.grown (S := fun k => k = g1) (Fr.refl _ X1) gr2 (fun k e _ => by injection e with e; exact e.symm)) (fun k hk e => by have := HB1.out.1; omega)
      have HB2 : Hid (BRow X2 w.heap.size g2 (m + T.size) c2 (fix4 next ++ fix4 n ++ (ns.take (j + 1)).flatMap fix4)) := by
        show BRow _ _ _ _ _ _
        rw [HTk.out, ← List.append_assoc, ← HTl.out.1]
        exact b2
      have HM2 : Hid (m + T.size = 8 + 4 * (j + 1)) := by show _ = _; rw [HTl.out.2, HMm.out]; omega
      clear b2 gr2 hmb hvb
      go_wp2_with fail
      go_roundg (n - (j + 1))
      case measure => omega
      case rel => exact ⟨j + 1, g2, _, c2, rfl, by go_num, by omega, rfl, HM2, HB2, HS2⟩
    · have hgi : ¬ (j : Int) < (n : Int) := by omega
      obtain rfl : n = j := by omega
      have HB3 : Hid (BRow wr w.heap.size g1 m c (bodyL next ns)) := by
        show BRow _ _ _ _ _ _
        unfold bodyL
        rw [← HN.out.1]
        have := HBR.out
        rw [List.take_of_length_le (by rw [HN.out.1]; exact Nat.le_refl _)] at this
        exact this
      have hcs := brow_string HB3.out
      clear hgi
      go_wp2_with fail
      go_ret2
      exact ⟨rfl, HS.out⟩
theorem rbody_calls {p q : Int} {pa : Option Addr} {pb po cp next : Nat} {ns : List Nat} (w : World) (hr : NRow w pa pb po ns) (hn : ns.length ≤ 4611686018427387904) (hx : next < 4294967296) :
    Calls Try.prog 42 #[frameV p q, .int .u32 (next : Int), .slice pa ns.length cp] w fun e w' => e = .returned (.tuple #[.string (bodyS p q next ns), .int .i64 (bodyE p q next ns)]) ∧ Same w w' := by
  unfold bodyS bodyE
  cases hb : bodyOk p q next ns with
  | false => exact rbody_bad w hr hn hx hb
  | true => exact rbody_good w hr hb
end Go.Proofs.Ytajbifblbmlffaa
