/- IndexFunc, ContainsFunc over pairs and over kids. -/
import Derived.Test.YtjlbkagkmcelgaaN3
import Derived.Deep.DeepMust
namespace Go.Proofs.Ytjlbkagkmcelgaa
open Go.RowKit

theorem firstAt_hit {α : Type} {f : α → Bool} {l : List α} {k : Nat} {y : α} (h : ∀ j x, j < k → l[j]? = some x → f x = false) (hy : l[k]? = some y) (hf : f y = true) : firstAt f l = (k : Int) := by
  have hk := (List.getElem?_eq_some_iff.1 hy)
  obtain ⟨hl, he⟩ := hk
  have : l.findIdx? f = some k := by
    rw [List.findIdx?_eq_some_iff_getElem]
    refine ⟨hl, by rw [he]; exact hf, fun j hj => ?_⟩
    rw [h j l[j] hj (List.getElem?_eq_getElem _)]; simp
  unfold firstAt
  rw [this]
theorem firstAt_none {α : Type} {f : α → Bool} {l : List α} (h : ∀ j x, j < l.length → l[j]? = some x → f x = false) : firstAt f l = -1 := by
  have : l.findIdx? f = none := by
    rw [List.findIdx?_eq_none_iff]
    intro x hx
    obtain ⟨j, hj, rfl⟩ := List.getElem_of_mem hx
    exact h j _ hj (List.getElem?_eq_getElem hj)
  unfold firstAt
  rw [this]
theorem Try.infoKid : (Try.prog.info? 37).map (·.size) = some 33 := by kernel_rfl

set_option maxRecDepth 100000 in
set_option maxHeartbeats 1000000 in
theorem index_long (f : ByteArray × ByteArray → Bool) {pa : Option Addr} {pb po cp fb : Nat} {ps : List (ByteArray × ByteArray)} (w : World) (hr : PRow w pa pb po ps) (hn : ps.length ≤ 4611686018427387904)
    (HF : Hid (∀ x W, Same w W → Calls Try.prog 53 #[.agg #[.string x.1, .string x.2], .pointer (some ⟨fb, 0, none⟩)] W fun e w' => e = .returned (.bool (f x)) ∧ Same W w')) :
    Calls Try.prog 78 #[.slice pa ps.length cp, .func (.func 53) #[] #[.pointer (some ⟨fb, 0, none⟩)]] w fun e w' => e = .returned (.int .i64 (firstAt f ps)) ∧ Same w w' := by
  have HR : Hid (PRow w pa pb po ps) := hr
  obtain ⟨n, hnn⟩ : ∃ n, n = ps.length := ⟨_, rfl⟩
  rw [← hnn] at hn ⊢
  have HN : Hid (n = ps.length) := hnn
  clear hr hnn
  go_enter Try.func78, Try.ntmps78
  go_wp2_with fail
  go_loopg [8] n (fun g iv wr => ∃ (k : Nat), iv = .int .i64 (k : Int) ∧ k ≤ n ∧ g = n - k ∧ Hid (∀ j x, j < k → ps[j]? = some x → f x = false) ∧ Same w wr)
  case atStart => exact ⟨0, rfl, by omega, rfl, fun j x hj => by omega, Fr.refl _ w⟩
  case round =>
    obtain ⟨k, rfl, hk, hg, HI, sr⟩ := hrel
    by_cases hgo : k < n
    · obtain ⟨x, hx⟩ : ∃ x, ps[k]? = some x := ⟨_, List.getElem?_eq_getElem (by rw [← HN.out]; exact hgo)⟩
      have hc := (HR.out.same sr).cells k x hx
      obtain ⟨hpa, hlt⟩ := (HR.out.same sr).place (by intro e; rw [e] at hx; simp at hx)
      subst hpa
      have HX : Hid (ps[k]? = some x) := hx
      have hc0 := hc.1
      have hc1 := hc.2
      clear hc hx
      go_wp2_with fail
      refine (HF.out x _ sr).mono ?_
      rintro e W1 ⟨rfl, s1⟩
      have t1 := sr.trans s1
      obtain ⟨b, hb⟩ : ∃ b, f x = b := ⟨_, rfl⟩
      rw [hb]
      cases b
      · have HI2 : Hid (∀ j x, j < k + 1 → ps[j]? = some x → f x = false) := fun j y hj hy => by
          by_cases e : j = k
          · rw [e, HX.out] at hy; rw [← Option.some.inj hy]; exact hb
          · exact HI.out j y (by omega) hy
        clear HI hb
        go_wp2_with fail
        go_roundg (n - (k + 1))
        case measure => omega
        case rel => exact ⟨k + 1, by go_num, by omega, rfl, HI2, t1⟩
      · have hr : Hid (firstAt f ps = (k : Int)) := firstAt_hit HI.out HX.out hb
        clear HI hb
        go_wp2_with fail
        go_ret
        exact ⟨by rw [hr.out]; rfl, t1⟩
    · obtain rfl : k = n := by omega
      have hr : Hid (firstAt f ps = -1) := firstAt_none (fun j x hj hx => HI.out j x (by rw [HN.out]; exact hj) hx)
      clear HI
      go_wp2_with fail
      go_ret
      exact ⟨by rw [hr.out]; rfl, sr⟩
set_option maxRecDepth 100000 in
theorem contains_long (f : ByteArray × ByteArray → Bool) {pa : Option Addr} {pb po cp fb : Nat} {ps : List (ByteArray × ByteArray)} (w : World) (hr : PRow w pa pb po ps) (hn : ps.length ≤ 4611686018427387904)
    (HF : Hid (∀ x W, Same w W → Calls Try.prog 53 #[.agg #[.string x.1, .string x.2], .pointer (some ⟨fb, 0, none⟩)] W fun e w' => e = .returned (.bool (f x)) ∧ Same W w')) :
    Calls Try.prog 57 #[.slice pa ps.length cp, .func (.func 53) #[] #[.pointer (some ⟨fb, 0, none⟩)]] w fun e w' => e = .returned (.bool (ps.any f)) ∧ Same w w' := by
  have HI : Hid (Calls Try.prog 78 #[.slice pa ps.length cp, .func (.func 53) #[] #[.pointer (some ⟨fb, 0, none⟩)]] w fun e w' => e = .returned (.int .i64 (firstAt f ps)) ∧ Same w w') := index_long f w hr hn HF
  have hany : decide (0 ≤ firstAt f ps) = ps.any f := firstAt_any f ps
  generalize firstAt f ps = F at *
  generalize ps.any f = b at *
  generalize ps.length = n at *
  clear hr HF
  go_enter Try.func57, Try.ntmps57
  go_wp2_with fail
  refine HI.out.mono ?_
  rintro e W1 ⟨rfl, s1⟩
  go_wp2_with fail
  go_ret
  exact ⟨rfl, s1⟩

set_option maxRecDepth 100000 in
set_option maxHeartbeats 1000000 in
theorem index_loose (f : Kid → Bool) {pa : Option Addr} {pb po cp fb : Nat} {ps : List (Kid)} (w : World) (hr : KRow w pa pb po ps) (hn : ps.length ≤ 4611686018427387904) (hok : ∀ x ∈ ps, KidOk x)
    (HF : Hid (∀ x W, KidOk x → Same w W → Calls Try.prog 58 #[kidV x, .pointer (some ⟨fb, 0, none⟩)] W fun e w' => e = .returned (.bool (f x)) ∧ Same W w')) :
    Calls Try.prog 49 #[.slice pa ps.length cp, .func (.func 58) #[] #[.pointer (some ⟨fb, 0, none⟩)]] w fun e w' => e = .returned (.int .i64 (firstAt f ps)) ∧ Same w w' := by
  have HR : Hid (KRow w pa pb po ps) := hr
  obtain ⟨n, hnn⟩ : ∃ n, n = ps.length := ⟨_, rfl⟩
  rw [← hnn] at hn ⊢
  have HN : Hid (n = ps.length) := hnn
  clear hr hnn
  go_enter Try.func49, Try.ntmps49
  go_wp2_with fail
  go_loopg [8] n (fun g iv wr => ∃ (k : Nat), iv = .int .i64 (k : Int) ∧ k ≤ n ∧ g = n - k ∧ Hid (∀ j x, j < k → ps[j]? = some x → f x = false) ∧ Same w wr)
  case atStart => exact ⟨0, rfl, by omega, rfl, fun j x hj => by omega, Fr.refl _ w⟩
  case round =>
    obtain ⟨k, rfl, hk, hg, HI, sr⟩ := hrel
    by_cases hgo : k < n
    · obtain ⟨x, hx⟩ : ∃ x, ps[k]? = some x := ⟨_, List.getElem?_eq_getElem (by rw [← HN.out]; exact hgo)⟩
      have hc := (HR.out.same sr).cells k x hx
      obtain ⟨hpa, hlt⟩ := (HR.out.same sr).place (by intro e; rw [e] at hx; simp at hx)
      subst hpa
      have HX : Hid (ps[k]? = some x) := hx
      have hkl : (Try.prog.info? 37).map (·.size) = some (kcells x).length := by rw [Try.infoKid, kcells_length (hok x (List.mem_of_getElem? hx)).d]
      have hox := hok x (List.mem_of_getElem? hx)
      clear hx
      go_wp2_with (refine wpList_load_mid (by rfl) 37 _ (by rfl) pb (po + k * 33) (by rfl) (kcells x) _ hc Try.underlying37 rfl hkl ?_)
      refine (HF.out x _ hox sr).mono ?_
      rintro e W1 ⟨rfl, s1⟩
      have t1 := sr.trans s1
      obtain ⟨b, hb⟩ : ∃ b, f x = b := ⟨_, rfl⟩
      rw [hb]
      cases b
      · have HI2 : Hid (∀ j x, j < k + 1 → ps[j]? = some x → f x = false) := fun j y hj hy => by
          by_cases e : j = k
          · rw [e, HX.out] at hy; rw [← Option.some.inj hy]; exact hb
          · exact HI.out j y (by omega) hy
        clear HI hb
        go_wp2_with fail
        go_roundg (n - (k + 1))
        case measure => omega
        case rel => exact ⟨k + 1, by go_num, by omega, rfl, HI2, t1⟩
      · have hr : Hid (firstAt f ps = (k : Int)) := firstAt_hit HI.out HX.out hb
        clear HI hb
        go_wp2_with fail
        go_ret
        exact ⟨by rw [hr.out]; rfl, t1⟩
    · obtain rfl : k = n := by omega
      have hr : Hid (firstAt f ps = -1) := firstAt_none (fun j x hj hx => HI.out j x (by rw [HN.out]; exact hj) hx)
      clear HI
      go_wp2_with fail
      go_ret
      exact ⟨by rw [hr.out]; rfl, sr⟩
set_option maxRecDepth 100000 in
theorem contains_loose (f : Kid → Bool) {pa : Option Addr} {pb po cp fb : Nat} {ps : List (Kid)} (w : World) (hr : KRow w pa pb po ps) (hn : ps.length ≤ 4611686018427387904) (hok : ∀ x ∈ ps, KidOk x)
    (HF : Hid (∀ x W, KidOk x → Same w W → Calls Try.prog 58 #[kidV x, .pointer (some ⟨fb, 0, none⟩)] W fun e w' => e = .returned (.bool (f x)) ∧ Same W w')) :
    Calls Try.prog 30 #[.slice pa ps.length cp, .func (.func 58) #[] #[.pointer (some ⟨fb, 0, none⟩)]] w fun e w' => e = .returned (.bool (ps.any f)) ∧ Same w w' := by
  have HI : Hid (Calls Try.prog 49 #[.slice pa ps.length cp, .func (.func 58) #[] #[.pointer (some ⟨fb, 0, none⟩)]] w fun e w' => e = .returned (.int .i64 (firstAt f ps)) ∧ Same w w') := index_loose f w hr hn hok HF
  have hany : decide (0 ≤ firstAt f ps) = ps.any f := firstAt_any f ps
  generalize firstAt f ps = F at *
  generalize ps.any f = b at *
  generalize ps.length = n at *
  clear hr HF
  go_enter Try.func30, Try.ntmps30
  go_wp2_with fail
  refine HI.out.mono ?_
  rintro e W1 ⟨rfl, s1⟩
  go_wp2_with fail
  go_ret
  exact ⟨rfl, s1⟩

set_option maxRecDepth 100000 in
set_option maxHeartbeats 1000000 in
theorem index_home (f : Kid → Bool) {pa : Option Addr} {pb po cp : Nat} {ps : List (Kid)} (w : World) (hr : KRow w pa pb po ps) (hn : ps.length ≤ 4611686018427387904) (hok : ∀ x ∈ ps, KidOk x)
    (HF : Hid (∀ x W, KidOk x → Same w W → Calls Try.prog 31 #[kidV x] W fun e w' => e = .returned (.bool (f x)) ∧ Same W w')) :
    Calls Try.prog 49 #[.slice pa ps.length cp, .func (.func 31) #[] #[]] w fun e w' => e = .returned (.int .i64 (firstAt f ps)) ∧ Same w w' := by
  have HR : Hid (KRow w pa pb po ps) := hr
  obtain ⟨n, hnn⟩ : ∃ n, n = ps.length := ⟨_, rfl⟩
  rw [← hnn] at hn ⊢
  have HN : Hid (n = ps.length) := hnn
  clear hr hnn
  go_enter Try.func49, Try.ntmps49
  go_wp2_with fail
  go_loopg [8] n (fun g iv wr => ∃ (k : Nat), iv = .int .i64 (k : Int) ∧ k ≤ n ∧ g = n - k ∧ Hid (∀ j x, j < k → ps[j]? = some x → f x = false) ∧ Same w wr)
  case atStart => exact ⟨0, rfl, by omega, rfl, fun j x hj => by omega, Fr.refl _ w⟩
  case round =>
    obtain ⟨k, rfl, hk, hg, HI, sr⟩ := hrel
    by_cases hgo : k < n
    · obtain ⟨x, hx⟩ : ∃ x, ps[k]? = some x := ⟨_, List.getElem?_eq_getElem (by rw [← HN.out]; exact hgo)⟩
      have hc := (HR.out.same sr).cells k x hx
      obtain ⟨hpa, hlt⟩ := (HR.out.same sr).place (by intro e; rw [e] at hx; simp at hx)
      subst hpa
      have HX : Hid (ps[k]? = some x) := hx
      have hkl : (Try.prog.info? 37).map (·.size) = some (kcells x).length := by rw [Try.infoKid, kcells_length (hok x (List.mem_of_getElem? hx)).d]
      have hox := hok x (List.mem_of_getElem? hx)
      clear hx
      go_wp2_with (refine wpList_load_mid (by rfl) 37 _ (by rfl) pb (po + k * 33) (by rfl) (kcells x) _ hc Try.underlying37 rfl hkl ?_)
      refine (HF.out x _ hox sr).mono ?_
      rintro e W1 ⟨rfl, s1⟩
      have t1 := sr.trans s1
      obtain ⟨b, hb⟩ : ∃ b, f x = b := ⟨_, rfl⟩
      rw [hb]
      cases b
      · have HI2 : Hid (∀ j x, j < k + 1 → ps[j]? = some x → f x = false) := fun j y hj hy => by
          by_cases e : j = k
          · rw [e, HX.out] at hy; rw [← Option.some.inj hy]; exact hb
          · exact HI.out j y (by omega) hy
        clear HI hb
        go_wp2_with fail
        go_roundg (n - (k + 1))
        case measure => omega
        case rel => exact ⟨k + 1, by go_num, by omega, rfl, HI2, t1⟩
      · have hr : Hid (firstAt f ps = (k : Int)) := firstAt_hit HI.out HX.out hb
        clear HI hb
        go_wp2_with fail
        go_ret
        exact ⟨by rw [hr.out]; rfl, t1⟩
    · obtain rfl : k = n := by omega
      have hr : Hid (firstAt f ps = -1) := firstAt_none (fun j x hj hx => HI.out j x (by rw [HN.out]; exact hj) hx)
      clear HI
      go_wp2_with fail
      go_ret
      exact ⟨by rw [hr.out]; rfl, sr⟩
set_option maxRecDepth 100000 in
theorem contains_home (f : Kid → Bool) {pa : Option Addr} {pb po cp : Nat} {ps : List (Kid)} (w : World) (hr : KRow w pa pb po ps) (hn : ps.length ≤ 4611686018427387904) (hok : ∀ x ∈ ps, KidOk x)
    (HF : Hid (∀ x W, KidOk x → Same w W → Calls Try.prog 31 #[kidV x] W fun e w' => e = .returned (.bool (f x)) ∧ Same W w')) :
    Calls Try.prog 30 #[.slice pa ps.length cp, .func (.func 31) #[] #[]] w fun e w' => e = .returned (.bool (ps.any f)) ∧ Same w w' := by
  have HI : Hid (Calls Try.prog 49 #[.slice pa ps.length cp, .func (.func 31) #[] #[]] w fun e w' => e = .returned (.int .i64 (firstAt f ps)) ∧ Same w w') := index_home f w hr hn hok HF
  have hany : decide (0 ≤ firstAt f ps) = ps.any f := firstAt_any f ps
  generalize firstAt f ps = F at *
  generalize ps.any f = b at *
  generalize ps.length = n at *
  clear hr HF
  go_enter Try.func30, Try.ntmps30
  go_wp2_with fail
  refine HI.out.mono ?_
  rintro e W1 ⟨rfl, s1⟩
  go_wp2_with fail
  go_ret
  exact ⟨rfl, s1⟩

end Go.Proofs.Ytjlbkagkmcelgaa
