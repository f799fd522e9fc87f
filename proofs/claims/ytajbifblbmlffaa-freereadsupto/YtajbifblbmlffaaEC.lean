/- free: Body. -/
import Derived.Test.YtajbifblbmlffaaEB
namespace Go.Proofs.Ytajbifblbmlffaa
open Go.RowKit

def fix4 (x : Nat) : List UInt8 := fixB 4 (x : Int)
def bodyL (next : Nat) (ns : List Nat) : List UInt8 := fix4 next ++ fix4 ns.length ++ ns.flatMap fix4
def bodyOk (p q : Int) (next : Nat) (ns : List Nat) : Bool := frameP p q && (decide (next = 0) || cntB next 65536) && fitsN p q ns 65536
def bodyS (p q : Int) (next : Nat) (ns : List Nat) : ByteArray := if bodyOk p q next ns then ⟨(bodyL next ns).toArray⟩ else ⟨#[]⟩
def bodyE (p q : Int) (next : Nat) (ns : List Nat) : Int := if bodyOk p q next ns then 0 else 2
theorem fits_len {p q : Int} {ns : List Nat} {pages : Nat} (h : fitsN p q ns pages = true) : ns.length ≤ 2038 := by
  unfold fitsN at h
  simp only [Bool.and_eq_true, decide_eq_true_eq] at h
  rcases entN_cases p q with ⟨_, h2⟩ | ⟨_, _, h3, _⟩ <;> omega
theorem rise_all {pages : Nat} : ∀ (ns : List Nat) (l : Nat), riseN pages l ns = true → ∀ x ∈ ns, 2 ≤ x ∧ x < pages
  | [], _, _, x, hx => by cases hx
  | y :: ys, l, h, x, hx => by
    unfold riseN at h
    split at h
    · cases h
    · rename_i hc
      split at h
      · cases h
      · rcases List.mem_cons.1 hx with rfl | hx
        · simp only [Bool.not_eq_false] at hc
          unfold cntB at hc
          simp only [Bool.and_eq_true, decide_eq_true_eq] at hc
          exact hc
        · exact rise_all ys y h x hx
theorem wst_base {w W : World} {b : Nat} {bs : List UInt8} (h : WSt w W b bs) : Same w W := h.choose_spec.2.2.2
theorem fix4_len (x : Nat) : (fix4 x).length = 4 := rfl
theorem flat4_len (ns : List Nat) : (ns.flatMap fix4).length = 4 * ns.length := by
  induction ns with
  | nil => rfl
  | cons x xs ih => rw [List.flatMap_cons, List.length_append, ih, fix4_len, List.length_cons]; omega
set_option maxRecDepth 100000 in
set_option maxHeartbeats 1000000 in
theorem fbody_calls {p q : Int} {pa : Option Addr} {pb po cp next : Nat} {ns : List Nat} (w : World) (hr : NRow w pa pb po ns) (hn : ns.length ≤ 4611686018427387904) (hx : next < 4294967296) :
    Calls Try.prog 14 #[frameV p q, .int .u32 (next : Int), .slice pa ns.length cp] w fun e w' => e = .returned (.tuple #[.string (bodyS p q next ns), .int .i64 (bodyE p q next ns)]) ∧ Same w w' := by
  have HM : Hid (∀ W, Calls Try.prog 25 #[.agg #[.int .i64 p, .int .i64 q]] W fun e w' => e = .returned (.bool (frameP p q)) ∧ Same W w') := may_calls p q
  have HCn : Hid (∀ W, Calls Try.prog 28 #[.int .u32 (next : Int), .int .u32 65536] W fun e w' => e = .returned (.bool (cntB next 65536)) ∧ Same W w') := fun W => fcounted_calls next 65536 W
  have HFt : Hid (∀ W, Same w W → Calls Try.prog 26 #[.agg #[.int .i64 p, .int .i64 q], .slice pa ns.length cp, .int .u32 65536] W fun e w' => e = .returned (.bool (fitsN p q ns 65536)) ∧ Same W w') := fun W s => ffits_calls (pages := 65536) W (hr.same s) hn
  obtain ⟨V, hV⟩ : ∃ V, V = w.alloc (.cells #[.int .i64 p, .int .i64 q] 23) := ⟨_, rfl⟩
  have sx : Same w V := by rw [hV]; exact (Fr.refl _ w).alloc _
  have c0 : V.cell? ⟨w.heap.size, 0, none⟩ = some (.int .i64 p) := by rw [hV]; simp
  have c1 : V.cell? ⟨w.heap.size, 1, none⟩ = some (.int .i64 q) := by rw [hV]; simp
  have HC : Hid (∀ W, Same V W → W.cell? ⟨w.heap.size, 0, none⟩ = some (.int .i64 p) ∧ W.cell? ⟨w.heap.size, 1, none⟩ = some (.int .i64 q)) := fun W h => ⟨h.keep c0, h.keep c1⟩
  have HR : Hid (NRow V pa pb po ns) := hr.same sx
  have HX : Hid (next < 4294967296) := hx
  have HBD : Hid (fitsN p q ns 65536 = true → ns.length ≤ 2038 ∧ ∀ x ∈ ns, x < 4294967296) := fun h => ⟨fits_len h, fun x hx => by
    unfold fitsN at h
    simp only [Bool.and_eq_true] at h
    have := rise_all ns 0 h.2 x hx
    omega⟩
  obtain ⟨fb, hfb⟩ : ∃ fb, frameP p q = fb := ⟨_, rfl⟩
  obtain ⟨cb, hcb⟩ : ∃ cb, cntB next 65536 = cb := ⟨_, rfl⟩
  obtain ⟨tb, htb⟩ : ∃ tb, fitsN p q ns 65536 = tb := ⟨_, rfl⟩
  rw [hfb] at HM
  rw [hcb] at HCn
  rw [htb] at HFt HBD
  have HB : Hid (bodyS p q next ns = (if (fb && (decide (next = 0) || cb) && tb) = true then ⟨(bodyL next ns).toArray⟩ else ⟨#[]⟩) ∧ bodyE p q next ns = (if (fb && (decide (next = 0) || cb) && tb) = true then 0 else 2)) := by
    unfold bodyS bodyE bodyOk
    rw [hfb, hcb, htb]
    exact ⟨rfl, rfl⟩
  obtain ⟨n, hnn⟩ : ∃ n, n = ns.length := ⟨_, rfl⟩
  rw [← hnn] at hn HFt HBD ⊢
  have HN : Hid (n = ns.length) := hnn
  clear hr hx hfb hcb htb hnn c0 c1
  go_enter Try.func14, Try.ntmps14
  go_wp2_with fail
  rw [← hV]
  clear hV
  refine (HM.out _).mono ?_
  rintro e W0 ⟨rfl, s0⟩
  obtain ⟨c0, c1⟩ := HC.out _ s0
  cases fb with
  | false =>
    go_wp2_with fail
    go_ret2
    exact ⟨by rw [HB.out.1, HB.out.2]; rfl, sx.trans s0⟩
  | true =>
    have HCH : Hid (∀ W, Same V W → (decide (next = 0) || cb) = true → Calls Try.prog 26 #[.agg #[.int .i64 p, .int .i64 q], .slice pa n cp, .int .u32 65536] W fun e w' => e = .returned (.bool tb) ∧ Same V w') := fun W s _ => (HFt.out W (sx.trans s)).mono fun e w' ⟨h1, h2⟩ => ⟨h1, s.trans h2⟩
    by_cases h0 : next = 0
    · subst h0
      go_wp2_with fail
      refine (HCH.out _ s0 (by simp)).mono ?_
      rintro e W1 ⟨rfl, s1⟩
      cases tb with
      | false =>
        go_wp2_with fail
        go_ret2
        exact ⟨by rw [HB.out.1, HB.out.2]; rfl, sx.trans s1⟩
      | true =>
        have HB2 : Hid (bodyS p q 0 ns = ⟨(bodyL 0 ns).toArray⟩ ∧ bodyE p q 0 ns = 0) := ⟨HB.out.1.trans rfl, HB.out.2.trans rfl⟩
        obtain ⟨hn2, hns⟩ := HBD.out rfl
        have hwn : IntKind.u32.wrap (n : Int) = (n : Int) := by rw [IntKind.wrap_u32]; omega
        have HNS : Hid (∀ x ∈ ns, x < 4294967296) := hns
        clear hns HB HFt HCH HCn HM
        go_wp2_with fail
        refine (new_wst _).mono ?_
        rintro e U0 ⟨rfl, u0⟩
        obtain ⟨wb, hwb⟩ : ∃ wb, wb = W1.heap.size := ⟨_, rfl⟩
        rw [← hwb] at u0 ⊢
        clear hwb
        go_wp2_with fail
        refine (wst_u32 0 (by have := HX.out; omega) u0 (by simp)).mono ?_
        rintro e U1 ⟨rfl, u1⟩
        go_wp2_with fail
        refine (wst_u32 n (by omega) u1 (by simp [fixB])).mono ?_
        rintro e U2 ⟨rfl, u2⟩
        have HU : Hid (WSt W1 U2 wb (fix4 0 ++ fix4 n)) := u2
        have HS1 : Hid (Same V W1) := s1
        clear u0 u1 u2 hwn c0 c1
        go_wp2_with fail
        go_loopg [40] n (fun g iv wr => ∃ (k : Nat), iv = .int .i64 (k : Int) ∧ k ≤ n ∧ g = n - k ∧ Hid (WSt W1 wr wb (fix4 0 ++ fix4 n ++ (ns.take k).flatMap fix4)))
        case atStart => exact ⟨0, rfl, by omega, rfl, by show WSt W1 U2 wb _; rw [List.take_zero, List.flatMap_nil, List.append_nil]; exact HU.out⟩
        case round =>
          obtain ⟨k, rfl, hk, hg, HW⟩ := hrel
          by_cases hgo : k < n
          · obtain ⟨a, hx⟩ : ∃ x, ns[k]? = some x := ⟨_, List.getElem?_eq_getElem (by rw [← HN.out]; exact hgo)⟩
            have sr : Same V wr := HS1.out.trans (wst_base HW.out)
            have hc := (HR.out.same sr).cells k a hx
            obtain ⟨hpa, hlt⟩ := (HR.out.same sr).place (by intro e; rw [e] at hx; simp at hx)
            subst hpa
            have HTK : Hid ((ns.take (k + 1)).flatMap fix4 = (ns.take k).flatMap fix4 ++ fix4 a) := by
              show _ = _
              rw [List.take_add_one, hx, List.flatMap_append]
              simp
            have HAL : Hid (a < 4294967296 ∧ (fix4 0 ++ fix4 n ++ (ns.take k).flatMap fix4).length ≤ 1000000000000) := ⟨HNS.out a (List.mem_of_getElem? hx), by rw [List.length_append, List.length_append, flat4_len, fix4_len, fix4_len, List.length_take]; omega⟩
            clear hx sr
            go_wp2_with fail
            refine (wst_u32 a (by have := HAL.out.1; omega) HW.out HAL.out.2).mono ?_
            rintro e U3 ⟨rfl, u3⟩
            have HU3 : Hid (WSt W1 U3 wb (fix4 0 ++ fix4 n ++ (ns.take (k + 1)).flatMap fix4)) := by show WSt _ _ _ _; rw [HTK.out, ← List.append_assoc]; exact u3
            clear u3
            go_wp2_with fail
            go_roundg (n - (k + 1))
            case measure => omega
            case rel => exact ⟨k + 1, by go_num, by omega, rfl, HU3⟩
          · have HE : Hid (WSt W1 wr wb (bodyL 0 ns)) := by
              show WSt _ _ _ _
              have h1 := HW.out
              rw [List.take_of_length_le (by rw [← HN.out]; omega), HN.out] at h1
              exact h1
            go_wp2_with fail
            refine (wst_string HE.out).mono ?_
            rintro e U4 ⟨rfl, rfl⟩
            go_wp2_with fail
            go_ret2
            exact ⟨by rw [HB2.out.1, HB2.out.2]; rfl, sx.trans (HS1.out.trans (wst_base HE.out))⟩
    · have h0i : ¬ (next : Int) = 0 := by omega
      have hd0 : decide (next = 0) = false := decide_eq_false h0
      go_wp2_with fail
      refine (HCn.out _).mono ?_
      rintro e W00 ⟨rfl, s00⟩
      have s01 := s0.trans s00
      clear c0 c1
      obtain ⟨c0, c1⟩ := HC.out _ s01
      cases cb with
      | false =>
        go_wp2_with fail
        go_ret2
        exact ⟨by rw [HB.out.1, HB.out.2, hd0]; rfl, sx.trans s01⟩
      | true =>
        rw [hd0] at HB HCH
        clear hd0 h0
        go_wp2_with fail
        refine (HCH.out _ s01 rfl).mono ?_
        rintro e W1 ⟨rfl, s1⟩
        clear h0i
        cases tb with
        | false =>
          go_wp2_with fail
          go_ret2
          exact ⟨by rw [HB.out.1, HB.out.2]; rfl, sx.trans s1⟩
        | true =>
          have HB2 : Hid (bodyS p q next ns = ⟨(bodyL next ns).toArray⟩ ∧ bodyE p q next ns = 0) := ⟨HB.out.1.trans rfl, HB.out.2.trans rfl⟩
          obtain ⟨hn2, hns⟩ := HBD.out rfl
          have hwn : IntKind.u32.wrap (n : Int) = (n : Int) := by rw [IntKind.wrap_u32]; omega
          have HNS : Hid (∀ x ∈ ns, x < 4294967296) := hns
          clear hns HB HFt HCH HCn HM
          go_wp2_with fail
          refine (new_wst _).mono ?_
          rintro e U0 ⟨rfl, u0⟩
          obtain ⟨wb, hwb⟩ : ∃ wb, wb = W1.heap.size := ⟨_, rfl⟩
          rw [← hwb] at u0 ⊢
          clear hwb
          go_wp2_with fail
          refine (wst_u32 next (by have := HX.out; omega) u0 (by simp)).mono ?_
          rintro e U1 ⟨rfl, u1⟩
          go_wp2_with fail
          refine (wst_u32 n (by omega) u1 (by simp [fixB])).mono ?_
          rintro e U2 ⟨rfl, u2⟩
          have HU : Hid (WSt W1 U2 wb (fix4 next ++ fix4 n)) := u2
          have HS1 : Hid (Same V W1) := s1
          clear u0 u1 u2 hwn c0 c1
          go_wp2_with fail
          go_loopg [40] n (fun g iv wr => ∃ (k : Nat), iv = .int .i64 (k : Int) ∧ k ≤ n ∧ g = n - k ∧ Hid (WSt W1 wr wb (fix4 next ++ fix4 n ++ (ns.take k).flatMap fix4)))
          case atStart => exact ⟨0, rfl, by omega, rfl, by show WSt W1 U2 wb _; rw [List.take_zero, List.flatMap_nil, List.append_nil]; exact HU.out⟩
          case round =>
            obtain ⟨k, rfl, hk, hg, HW⟩ := hrel
            by_cases hgo : k < n
            · obtain ⟨a, hx⟩ : ∃ x, ns[k]? = some x := ⟨_, List.getElem?_eq_getElem (by rw [← HN.out]; exact hgo)⟩
              have sr : Same V wr := HS1.out.trans (wst_base HW.out)
              have hc := (HR.out.same sr).cells k a hx
              obtain ⟨hpa, hlt⟩ := (HR.out.same sr).place (by intro e; rw [e] at hx; simp at hx)
              subst hpa
              have HTK : Hid ((ns.take (k + 1)).flatMap fix4 = (ns.take k).flatMap fix4 ++ fix4 a) := by
                show _ = _
                rw [List.take_add_one, hx, List.flatMap_append]
                simp
              have HAL : Hid (a < 4294967296 ∧ (fix4 next ++ fix4 n ++ (ns.take k).flatMap fix4).length ≤ 1000000000000) := ⟨HNS.out a (List.mem_of_getElem? hx), by rw [List.length_append, List.length_append, flat4_len, fix4_len, fix4_len, List.length_take]; omega⟩
              clear hx sr
              go_wp2_with fail
              refine (wst_u32 a (by have := HAL.out.1; omega) HW.out HAL.out.2).mono ?_
              rintro e U3 ⟨rfl, u3⟩
              have HU3 : Hid (WSt W1 U3 wb (fix4 next ++ fix4 n ++ (ns.take (k + 1)).flatMap fix4)) := by show WSt _ _ _ _; rw [HTK.out, ← List.append_assoc]; exact u3
              clear u3
              go_wp2_with fail
              go_roundg (n - (k + 1))
              case measure => omega
              case rel => exact ⟨k + 1, by go_num, by omega, rfl, HU3⟩
            · have HE : Hid (WSt W1 wr wb (bodyL next ns)) := by
                show WSt _ _ _ _
                have h1 := HW.out
                rw [List.take_of_length_le (by rw [← HN.out]; omega), HN.out] at h1
                exact h1
              go_wp2_with fail
              refine (wst_string HE.out).mono ?_
              rintro e U4 ⟨rfl, rfl⟩
              go_wp2_with fail
              go_ret2
              exact ⟨by rw [HB2.out.1, HB2.out.2]; rfl, sx.trans (HS1.out.trans (wst_base HE.out))⟩
end Go.Proofs.Ytajbifblbmlffaa
