/- The document's Find and Way; Way. -/
import Derived.Test.YtcmgdlkpmagmkaaK1
import Derived.Test.YtcmgdlkpmagmkaaK7
import Derived.Deep.QuietTactic
namespace Go.Proofs.Ytcmgdlkpmagmkaa
open Go.RowKit

theorem cmp_spec : ∀ a b : List UInt8, (Op.bytesLess a b = true → Lib.compareBytes a b = -1) ∧ (Op.bytesLess a b = false → (a == b) = true → Lib.compareBytes a b = 0) ∧ (Op.bytesLess a b = false → (a == b) = false → Lib.compareBytes a b = 1) := by
  intro a
  induction a with
  | nil => intro b; cases b <;> simp [Op.bytesLess, Lib.compareBytes]
  | cons x a ih =>
    intro b
    cases b with
    | nil => simp [Op.bytesLess, Lib.compareBytes]
    | cons y b =>
      by_cases e : x = y
      · subst e
        have hn : ¬ x < x := UInt8.lt_irrefl x
        have := ih b
        simp only [Op.bytesLess, Lib.compareBytes, hn, decide_false, Bool.false_or, beq_self_eq_true, Bool.true_and, if_false, List.cons_beq_cons]
        exact this
      · rcases UInt8.lt_or_lt_of_ne e with h | h
        · simp [Op.bytesLess, Lib.compareBytes, h]
        · have h2 : ¬ x < y := UInt8.lt_asymm h
          simp [Op.bytesLess, Lib.compareBytes, h, h2, e]
set_option maxRecDepth 100000 in
set_option maxHeartbeats 1000000 in
theorem rfind_calls {pa : Option Addr} {pb po cp : Nat} {sa ka : Option Addr} {ns cs nk ck : Nat} {ps : List (ByteArray × ByteArray)} {key : ByteArray} (w : World) (h : PRow w pa pb po ps) (hn : ps.length ≤ 4611686018427387904) :
    Calls Try.prog 14 #[nodeV pa ps.length cp sa ns cs ka nk ck, .string key] w fun e w' => e = .returned (.tuple #[.int .i64 ((findP key ps 0).1 : Int), .bool (findP key ps 0).2]) ∧ Same w w' := by
  obtain ⟨V, hV⟩ : ∃ V, V = w.alloc (.cells #[.slice pa ps.length cp, .slice sa ns cs, .slice ka nk ck] 31) := ⟨_, rfl⟩
  have t1 : Same w V := by rw [hV]; exact (Fr.refl _ w).alloc _
  have n0 : V.cell? ⟨w.heap.size, 0, none⟩ = some (.slice pa ps.length cp) := by rw [hV]; simp
  have HP : Hid (PRow V pa pb po ps) := h.same t1
  have HN : Hid (∀ W, Same V W → W.cell? ⟨w.heap.size, 0, none⟩ = some (.slice pa ps.length cp)) := fun W s => s.keep n0
  clear h n0
  go_enter Try.func14, Try.ntmps14
  go_wp2_with fail
  rw [← hV]
  clear hV
  go_loopg [6] ps.length (fun g iv wr => ∃ k : Nat, iv = .int .i64 (k : Int) ∧ k ≤ ps.length ∧ g = ps.length - k ∧ Hid (findP key ps 0 = findP key (ps.drop k) k) ∧ Same V wr)
  case atStart => exact ⟨0, rfl, by omega, rfl, rfl, Fr.refl _ V⟩
  case round =>
    obtain ⟨k, rfl, hk, hg, HI, sr⟩ := hrel
    have n0 := HN.out _ sr
    by_cases hgo : k < ps.length
    · obtain ⟨x, hx⟩ : ∃ x, ps[k]? = some x := ⟨_, List.getElem?_eq_getElem hgo⟩
      obtain ⟨x0, x1⟩ := x
      obtain ⟨c0, c1⟩ := (HP.out.same sr).cells k _ hx
      obtain ⟨hpa, _⟩ := (HP.out.same sr).place (by intro e; rw [e] at hx; simp at hx)
      subst hpa
      have hdrop : ps.drop k = (x0, x1) :: ps.drop (k + 1) := by
        have e : ps[k] = (x0, x1) := by rw [List.getElem?_eq_getElem hgo] at hx; exact Option.some.inj hx
        rw [List.drop_eq_getElem_cons hgo, e]
      have HI2 : Hid (findP key ps 0 = if Lib.compareBytes x0.data.toList key.data.toList = 0 then (k, true) else if Lib.compareBytes x0.data.toList key.data.toList = 1 then (k, false) else findP key (ps.drop (k + 1)) (k + 1)) := by
        show _ = _
        rw [HI.out, hdrop]; rfl
      have i1 : (k : Int) < (ps.length : Int) := by omega
      obtain ⟨q1, q2, q3⟩ := cmp_spec x0.data.toList key.data.toList
      rw [← ByteArray.toList_eq, ← ByteArray.toList_eq] at q1 q2 q3
      rw [← ByteArray.toList_eq, ← ByteArray.toList_eq] at HI2
      clear HI hx hdrop HP HN
      cases hb : Op.bytesLess x0.toList key.toList with
      | true =>
        have hr : Hid (findP key ps 0 = findP key (ps.drop (k + 1)) (k + 1)) := by
          show _ = _
          rw [HI2.out, q1 hb]; rfl
        clear HI2 q1 q2 q3
        go_wp2_with fail
        go_roundg (ps.length - (k + 1))
        case measure => omega
        case rel => exact ⟨k + 1, by go_num, by omega, rfl, hr, sr⟩
      | false =>
        cases he : (x0.toList == key.toList) with
        | true =>
          have hr : Hid (findP key ps 0 = (k, true)) := by
            show _ = _
            rw [HI2.out, q2 hb he]; rfl
          clear HI2 q1 q2 q3
          go_wp2_with fail
          go_region_held3 (fun W => W.cell? ⟨w.heap.size, 0, none⟩ = some (.slice (some ⟨pb, po, none⟩) ps.length cp) ∧ W.cell? ⟨pb, po + k * 2, none⟩ = some (.string x0)) (exact ⟨n0, c0⟩) (fail)
          go_wp2_with fail
          go_ret2
          exact ⟨by rw [hr.out]; rfl, t1.trans (Fr.drew sr)⟩
        | false =>
          have hr : Hid (findP key ps 0 = (k, false)) := by
            show _ = _
            rw [HI2.out, q3 hb he]; rfl
          clear HI2 q1 q2 q3
          go_wp2_with fail
          go_region_held3 (fun W => W.cell? ⟨w.heap.size, 0, none⟩ = some (.slice (some ⟨pb, po, none⟩) ps.length cp) ∧ W.cell? ⟨pb, po + k * 2, none⟩ = some (.string x0)) (exact ⟨n0, c0⟩) (fail)
          go_wp2_with fail
          go_ret2
          exact ⟨by rw [hr.out]; rfl, t1.trans (Fr.drew sr)⟩
    · obtain rfl : k = ps.length := by omega
      have hr : Hid (findP key ps 0 = (ps.length, false)) := by
        show _ = _
        rw [HI.out, List.drop_length]; rfl
      clear HI HP HN
      go_wp2_with fail
      go_quiet (fail)
      go_wp2_with fail
      go_ret2
      exact ⟨by rw [hr.out]; rfl, t1.trans ((⟨sr.os, sr.tape, sr.output, sr.size, sr.block⟩ : Same V (wr.drewN nq)))⟩
def aboveB (key x : ByteArray) : Bool := !Op.bytesLess x.toList key.toList && !x.toList == key.toList
def wayI (key : ByteArray) (ss : List ByteArray) : Int := if 0 ≤ firstAt (aboveB key) ss then firstAt (aboveB key) ss else ss.length
theorem above_calls {b : Nat} {x key : ByteArray} (w : World) (h : w.cell? ⟨b, 0, none⟩ = some (.string key)) :
    Calls Try.prog 26 #[.string x, .pointer (some ⟨b, 0, none⟩)] w fun e w' => e = .returned (.bool (aboveB key x)) ∧ Same w w' := by
  go_enter Try.func26, Try.ntmps26
  go_wp2_with fail
  go_ret
  exact ⟨rfl, Fr.refl _ w⟩
set_option maxRecDepth 100000 in
set_option maxHeartbeats 1000000 in
theorem index_texts (f : ByteArray → Bool) {pa : Option Addr} {pb po cp fb : Nat} {ps : List ByteArray} (w : World) (hr : TRow w pa pb po ps) (hn : ps.length ≤ 4611686018427387904)
    (HF : Hid (∀ x W, Same w W → Calls Try.prog 26 #[.string x, .pointer (some ⟨fb, 0, none⟩)] W fun e w' => e = .returned (.bool (f x)) ∧ Same W w')) :
    Calls Try.prog 27 #[.slice pa ps.length cp, .func (.func 26) #[] #[.pointer (some ⟨fb, 0, none⟩)]] w fun e w' => e = .returned (.int .i64 (firstAt f ps)) ∧ Same w w' := by
  have HR : Hid (TRow w pa pb po ps) := hr
  obtain ⟨n, hnn⟩ : ∃ n, n = ps.length := ⟨_, rfl⟩
  rw [← hnn] at hn ⊢
  have HN : Hid (n = ps.length) := hnn
  clear hr hnn
  go_enter Try.func27, Try.ntmps27
  go_wp2_with fail
  go_loopg [8] n (fun g iv wr => ∃ (k : Nat), iv = .int .i64 (k : Int) ∧ k ≤ n ∧ g = n - k ∧ Hid (∀ j x, j < k → ps[j]? = some x → f x = false) ∧ Same w wr)
  case atStart => exact ⟨0, rfl, by omega, rfl, fun j x hj => by omega, Fr.refl _ w⟩
  case round =>
    obtain ⟨k, rfl, hk, hg, HI, sr⟩ := hrel
    by_cases hgo : k < n
    · obtain ⟨x, hx⟩ : ∃ x, ps[k]? = some x := ⟨_, List.getElem?_eq_getElem (by rw [← HN.out]; exact hgo)⟩
      have hc := (HR.out.same sr).cells k x hx
      obtain ⟨hpa, hlt⟩ := (HR.out.same sr).place (by intro e; rw [e] at hx; simp at hx)
      subst hpa
      have HX : Hid (ps[k]? = some x) := hx
      clear hx
      go_wp2_with fail
      refine (HF.out x _ sr).mono ?_
      rintro e W1 ⟨rfl, s1⟩
      have t1 := sr.trans s1
      obtain ⟨b, hb⟩ : ∃ b, f x = b := ⟨_, rfl⟩
      rw [hb]
      cases b
      · have HI2 : Hid (∀ j x, j < k + 1 → ps[j]? = some x → f x = false) := fun j y hj hy => by
          by_cases e : j = k
          · rw [e, HX.out] at hy; rw [← Option.some.inj hy]; exact hb
          · exact HI.out j y (by omega) hy
        clear HI hb
        go_wp2_with fail
        go_roundg (n - (k + 1))
        case measure => omega
        case rel => exact ⟨k + 1, by go_num, by omega, rfl, HI2, t1⟩
      · have hr : Hid (firstAt f ps = (k : Int)) := firstAt_hit HI.out HX.out hb
        clear HI hb
        go_wp2_with fail
        go_ret
        exact ⟨by rw [hr.out]; rfl, t1⟩
    · obtain rfl : k = n := by omega
      have hr : Hid (firstAt f ps = -1) := firstAt_none (fun j x hj hx => HI.out j x (by rw [HN.out]; exact hj) hx)
      clear HI
      go_wp2_with fail
      go_ret
      exact ⟨by rw [hr.out]; rfl, sr⟩
set_option maxRecDepth 100000 in
set_option maxHeartbeats 1000000 in
theorem way_calls {pa : Option Addr} {pb po cp : Nat} {sa ka : Option Addr} {ns cs nk ck : Nat} {ps : List (ByteArray)} {key : ByteArray} (w : World) (h : TRow w pa pb po ps) (hn : ps.length ≤ 4611686018427387904) :
    Calls Try.prog 15 #[nodeV sa ns cs pa ps.length cp ka nk ck, .string key] w fun e w' => e = .returned (.int .i64 (wayI key ps)) ∧ Same w w' := by
  obtain ⟨V, hV⟩ : ∃ V, V = (w.alloc (.cells #[.slice sa ns cs, .slice pa ps.length cp, .slice ka nk ck] 31)).alloc (.cells #[.string key] 9) := ⟨_, rfl⟩
  have t1 : Same w V := by rw [hV]; exact ((Fr.refl _ w).alloc _).alloc _
  have n0 : V.cell? ⟨w.heap.size, 1, none⟩ = some (.slice pa ps.length cp) := by rw [hV]; simp
  have k0 : V.cell? ⟨w.heap.size + 1, 0, none⟩ = some (.string key) := by rw [hV]; simp
  have HX : Hid (Calls Try.prog 27 #[.slice pa ps.length cp, .func (.func 26) #[] #[.pointer (some ⟨w.heap.size + 1, 0, none⟩)]] V fun e w' => e = .returned (.int .i64 (firstAt (aboveB key) ps)) ∧ Same V w') := index_texts _ V (h.same t1) hn (fun x W s => above_calls W (s.keep k0))
  have HW : Hid ((0 ≤ firstAt (aboveB key) ps → wayI key ps = firstAt (aboveB key) ps) ∧ (¬ 0 ≤ firstAt (aboveB key) ps → wayI key ps = (ps.length : Int))) := ⟨fun h => by unfold wayI; rw [if_pos h], fun h => by unfold wayI; rw [if_neg h]⟩
  generalize firstAt (aboveB key) ps = F at *
  generalize wayI key ps = R at *
  clear h k0
  go_enter Try.func15, Try.ntmps15
  go_wp2_with fail
  rw [← hV]
  clear hV
  refine HX.out.mono ?_
  rintro e W1 ⟨rfl, s1⟩
  have n0 := s1.keep n0
  by_cases hF : 0 ≤ F
  · have hR := HW.out.1 hF
    subst hR
    go_wp2_with fail
    go_ret
    exact ⟨rfl, t1.trans s1⟩
  · have hR := HW.out.2 (by omega)
    subst hR
    go_wp2_with fail
    go_ret
    exact ⟨rfl, t1.trans s1⟩
set_option maxRecDepth 100000 in
set_option maxHeartbeats 1000000 in
theorem rway_calls {pa : Option Addr} {pb po cp : Nat} {sa ka : Option Addr} {ns cs nk ck : Nat} {ps : List (ByteArray)} {key : ByteArray} (w : World) (h : TRow w pa pb po ps) (hn : ps.length ≤ 4611686018427387904) :
    Calls Try.prog 16 #[nodeV sa ns cs pa ps.length cp ka nk ck, .string key] w fun e w' => e = .returned (.int .i64 (wayI key ps)) ∧ Same w w' := by
  obtain ⟨V, hV⟩ : ∃ V, V = w.alloc (.cells #[.slice sa ns cs, .slice pa ps.length cp, .slice ka nk ck] 31) := ⟨_, rfl⟩
  have t1 : Same w V := by rw [hV]; exact (Fr.refl _ w).alloc _
  have n0 : V.cell? ⟨w.heap.size, 1, none⟩ = some (.slice pa ps.length cp) := by rw [hV]; simp
  have HP : Hid (TRow V pa pb po ps) := h.same t1
  have HN : Hid (∀ W, Same V W → W.cell? ⟨w.heap.size, 1, none⟩ = some (.slice pa ps.length cp)) := fun W s => s.keep n0
  clear h n0
  go_enter Try.func16, Try.ntmps16
  go_wp2_with fail
  rw [← hV]
  clear hV
  go_loopg [5] ps.length (fun g iv wr => ∃ k : Nat, iv = .int .i64 (k : Int) ∧ k ≤ ps.length ∧ g = ps.length - k ∧ Hid (∀ j x, j < k → ps[j]? = some x → aboveB key x = false) ∧ Same V wr)
  case atStart => exact ⟨0, rfl, by omega, rfl, fun j x hj => by omega, Fr.refl _ V⟩
  case round =>
    obtain ⟨k, rfl, hk, hg, HI, sr⟩ := hrel
    have n0 := HN.out _ sr
    by_cases hgo : k < ps.length
    · obtain ⟨x, hx⟩ : ∃ x, ps[k]? = some x := ⟨_, List.getElem?_eq_getElem hgo⟩
      have c0 := (HP.out.same sr).cells k _ hx
      obtain ⟨hpa, _⟩ := (HP.out.same sr).place (by intro e; rw [e] at hx; simp at hx)
      subst hpa
      have i1 : (k : Int) < (ps.length : Int) := by omega
      have HX : Hid (ps[k]? = some x) := hx
      clear hx HP HN
      cases hb : Op.bytesLess x.toList key.toList with
      | true =>
        have hr : Hid (∀ j x, j < k + 1 → ps[j]? = some x → aboveB key x = false) := fun j y hj hy => by
          by_cases e : j = k
          · rw [e, HX.out] at hy; rw [← Option.some.inj hy]; unfold aboveB; rw [hb]; rfl
          · exact HI.out j y (by omega) hy
        clear HI HX
        go_wp2_with fail
        go_roundg (ps.length - (k + 1))
        case measure => omega
        case rel => exact ⟨k + 1, by go_num, by omega, rfl, hr, sr⟩
      | false =>
        cases he : (x.toList == key.toList) with
        | true =>
          have hr : Hid (∀ j x, j < k + 1 → ps[j]? = some x → aboveB key x = false) := fun j y hj hy => by
            by_cases e : j = k
            · rw [e, HX.out] at hy; rw [← Option.some.inj hy]; unfold aboveB; rw [hb, he]; rfl
            · exact HI.out j y (by omega) hy
          clear HI HX
          go_wp2_with fail
          go_roundg (ps.length - (k + 1))
          case measure => omega
          case rel => exact ⟨k + 1, by go_num, by omega, rfl, hr, sr⟩
        | false =>
          have hr : Hid (wayI key ps = (k : Int)) := by
            have h1 : firstAt (aboveB key) ps = (k : Int) := firstAt_hit HI.out HX.out (by unfold aboveB; rw [hb, he]; rfl)
            show _ = _
            unfold wayI; rw [h1, if_pos (by omega)]
          clear HI HX
          go_wp2_with fail
          go_ret
          exact ⟨by rw [hr.out]; rfl, t1.trans sr⟩
    · obtain rfl : k = ps.length := by omega
      have hr : Hid (wayI key ps = (ps.length : Int)) := by
        have h1 : firstAt (aboveB key) ps = -1 := firstAt_none (fun j x hj hx => HI.out j x hj hx)
        show _ = _
        unfold wayI; rw [h1, if_neg (by omega)]
      clear HI HP HN
      go_wp2_with fail
      go_ret
      exact ⟨by rw [hr.out]; rfl, t1.trans sr⟩
end Go.Proofs.Ytcmgdlkpmagmkaa
