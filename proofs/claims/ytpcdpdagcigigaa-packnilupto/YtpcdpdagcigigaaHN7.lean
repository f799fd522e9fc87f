/- PackNil's walk: a nil Writer and a nil Reader answer as none; with no function for each, a count alone. -/
import Derived.Test.YtpcdpdagcigigaaHN6
namespace Go.Proofs.Ytpcdpdagcigigaa
open Go.RowKit

/-- What the walk holds: the step's kind, the calls counted, the document's Reader of nothing. -/
def NK (w W : World) (B C X : Nat) (kd : Int) : Prop := Same w W ∧ W.cell? ⟨B, 0, none⟩ = some (.int .i64 kd) ∧ W.cell? ⟨C, 0, none⟩ = some (.int .i64 0) ∧ RRAt W X ⟨#[]⟩ 0 0
theorem NK.same {w W W' : World} {B C X : Nat} {kd : Int} (h : NK w W B C X kd) (s : Same W W') : NK w W' B C X kd :=
  ⟨Same.trans h.1 s, s.keep h.2.1, s.keep h.2.2.1, h.2.2.2.fr s (fun f => f)⟩
theorem stands_any {w : World} {b x : Nat} {s : ByteArray} {p c : Nat} (h : RdAt w b s p c) (k : RRAt w x s p c) (hs : s.size ≤ 1000000000000) :
    Calls Try.prog 26 #[.pointer (some ⟨b, 0, none⟩), .pointer (some ⟨x, 0, none⟩)] w fun e w' => e = .returned (.bool true) ∧ Same w w' := by
  by_cases hc : c = 0
  · subst hc
    exact stands_ok h k hs
  · exact stands_bad h k hs (by omega)
theorem count_le {s : ByteArray} {p c m n q d : Nat} (h : rCount s p c m = (n, q, d)) : n ≤ m := by
  have h1 := (rFree_lt s p c m).2
  obtain ⟨n', p', c', hr⟩ : ∃ n' p' c', rFree s p c m = (n', p', c') := ⟨_, _, _, rfl⟩
  have hx : rCount s p c m = if s.size - p' < n' then (0, p, 12) else (n', p', c') := by unfold rCount; rw [hr]
  rw [hr] at h1
  simp only at h1
  rw [hx] at h
  split at h
  · simp only [Prod.mk.injEq] at h; omega
  · simp only [Prod.mk.injEq] at h; omega
theorem eq_dig0 (W : World) : (Op.equalIn 10000 45 (.agg (bcells [0, 0, 0, 0, 0, 0, 0, 0, 0, 0, 0, 0, 0, 0, 0, 0, 0, 0, 0, 0, 0, 0, 0, 0, 0, 0, 0, 0, 0, 0, 0, 0]).toArray) (.agg #[.int .u8 0, .int .u8 0, .int .u8 0, .int .u8 0, .int .u8 0, .int .u8 0, .int .u8 0, .int .u8 0, .int .u8 0, .int .u8 0, .int .u8 0, .int .u8 0, .int .u8 0, .int .u8 0, .int .u8 0, .int .u8 0, .int .u8 0, .int .u8 0, .int .u8 0, .int .u8 0, .int .u8 0, .int .u8 0, .int .u8 0, .int .u8 0, .int .u8 0, .int .u8 0, .int .u8 0, .int .u8 0, .int .u8 0, .int .u8 0, .int .u8 0, .int .u8 0])).run Try.prog W = .ok true W := by kernel_rfl
theorem neq_err1 (W : World) : (binOp .neq 50 (.iface 35 (.int .i64 1)) (.iface 35 (.int .i64 1))).run Try.prog W = .ok (.bool false) W := by kernel_rfl
set_option maxRecDepth 100000 in
set_option maxHeartbeats 2000000 in
theorem nils_walk (w : World) (kd : Int) (n : Nat) (i : Int) (s : ByteArray) (pa : Option Addr) (pl pc : Nat) (na : Option Addr) (nl nc : Nat) (wd : Int) (m : Nat) (bd : Int) (va : Option Addr) (N vc : Nat) (bt : ByteArray) (hs : s.size ≤ 1048576) (hN : N ≤ 1048576) (hb : bt.size ≤ 1048576) :
    Calls Try.prog 3 #[stepV kd n i s pa pl pc na nl nc wd m bd, .slice va N vc, .string bt] w fun e w' => e = .returned (.bool true) ∧ Same w w' := by
  have HLAY : Hid (∀ W, Calls Try.prog 4 #[.pointer none, stepV kd n i s pa pl pc na nl nc wd m bd] W fun e w' => e = .returned (.tuple #[]) ∧ Same W w') := fun W => lay_nil kd n i s pa pl pc na nl nc wd m bd (by omega)
  go_enter Try.func3, Try.ntmps3
  go_wp2_with fail
  refine (HLAY.out _).mono ?_
  rintro e w1 ⟨rfl, s1⟩
  have kB : w1.cell? ⟨w.heap.size, 0, none⟩ = some (.int .i64 kd) := s1.keep (by simp)
  have t1 : Same w w1 := Same.trans ((Fr.refl _ w).alloc _) s1
  clear s1 HLAY
  go_wp2_with fail
  refine (each_nilNu _ _ _).mono ?_
  rintro e w2 ⟨rfl, s2⟩
  have kC : w2.cell? ⟨w1.heap.size, 0, none⟩ = some (.int .i64 0) := s2.keep (by simp)
  have s12 : Same w1 w2 := Same.trans ((Fr.refl _ w1).alloc _) s2
  have kB2 := s12.keep kB
  have t2 : Same w w2 := Same.trans t1 s12
  clear kB t1 s2 s12
  go_wp2_with fail
  refine (list_nil _ _).mono ?_
  rintro e w3 ⟨rfl, s3⟩
  have n3 : NK w (w3.alloc (.cells #[.string ⟨#[]⟩, .int .i64 0, .int .i64 0] 37)) w.heap.size w1.heap.size w3.heap.size kd :=
    ⟨(Same.trans t2 s3).alloc _, Same.keep ((Fr.refl _ w3).alloc _) (s3.keep kB2), Same.keep ((Fr.refl _ w3).alloc _) (s3.keep kC), heap_alloc_new w3 _⟩
  clear kB2 kC t2 s3
  go_wp2_with fail
  obtain ⟨B, hB⟩ : ∃ B, B = w.heap.size := ⟨_, rfl⟩
  obtain ⟨C, hC⟩ : ∃ C, C = w1.heap.size := ⟨_, rfl⟩
  obtain ⟨X, hX⟩ : ∃ X, X = w3.heap.size := ⟨_, rfl⟩
  rw [← hB, ← hC, ← hX] at n3
  rw [← hB, ← hC, ← hX]
  obtain ⟨W4, hW4⟩ : ∃ W, W = w3.alloc (.cells #[.string ⟨#[]⟩, .int .i64 0, .int .i64 0] 37) := ⟨_, rfl⟩
  rw [← hW4] at n3 ⊢
  clear hW4 hB hC hX
  refine (wlen_nil _).mono ?_
  rintro e w5 ⟨rfl, s5⟩
  have n5 := n3.same s5
  clear n3 s5
  go_wp2_with fail
  refine (wstring_nil _).mono ?_
  rintro e w6 ⟨rfl, s6⟩
  have n6 := n5.same s6
  have kC := n6.2.2.1
  have kB := n6.2.1
  clear n5 s6
  go_wp2_with fail
  refine (fixed_nil _ _).mono ?_
  rintro e w7 ⟨rfl, s7⟩
  have n7 := n6.same s7
  clear n6 s7 kC kB
  go_wp2_with fail
  refine (rfree_nil _ _).mono ?_
  rintro e w8 ⟨rfl, s8⟩
  have n8 := n7.same s8
  clear n7 s8
  go_wp2_with fail
  refine (rsigned_nil _).mono ?_
  rintro e w9 ⟨rfl, s9⟩
  have n9 := n8.same s9
  clear n8 s9
  go_wp2_with fail
  refine (rraw_nil _ _).mono ?_
  rintro e w10 ⟨rfl, s10⟩
  have n10 := n9.same s10
  clear n9 s10
  go_wp2_with fail
  refine (rtext_nil _).mono ?_
  rintro e w11 ⟨rfl, s11⟩
  have n11 := n10.same s11
  clear n10 s11
  go_wp2_with fail
  refine (rdigest_nil _ _).mono ?_
  rintro e w12 ⟨rfl, s12⟩
  have n12 := n11.same s12
  clear n11 s12
  have hnd := eq_dig0
  go_wp2_with fail
  refine (left_nil _).mono ?_
  rintro e w13 ⟨rfl, rfl⟩
  go_wp2_with fail
  refine (at_nil _).mono ?_
  rintro e w13 ⟨rfl, rfl⟩
  go_wp2_with fail
  refine (fault_nil _).mono ?_
  rintro e w13 ⟨rfl, rfl⟩
  go_wp2_with fail
  refine (end_nil _).mono ?_
  rintro e w13 ⟨rfl, s13⟩
  have n13 := n12.same s13
  clear n12 s13 hnd
  have HRL : Hid (∀ W, RRAt W X ⟨#[]⟩ 0 0 → Calls Try.prog 21 #[.pointer (some ⟨X, 0, none⟩)] W fun e w' => e = .returned (.int .i64 0) ∧ Same W w') := fun W hW => rrleft_calls W hW (Nat.zero_le _) (by decide)
  have hne := neq_err1
  go_wp2_with fail
  clear hne
  refine (HRL.out _ n13.2.2.2).mono ?_
  rintro e w14 ⟨rfl, s14⟩
  have t14 := Same.trans n13.1 s14
  clear n13 s14 HRL
  go_wp2_with fail
  refine (new_calls _).mono ?_
  rintro e w15 ⟨rfl, h15⟩
  have k15 : WrAt w15 w14.heap.size none [] := by rw [h15]; exact wr_new w14
  have s15 : Same w14 w15 := by rw [h15]; exact (Fr.refl _ w14).alloc _
  have t15 : Same w w15 := Same.trans t14 s15
  clear h15 s15
  obtain ⟨Z, hZ⟩ : ∃ Z, Z = w14.heap.size := ⟨_, rfl⟩
  rw [← hZ] at k15 ⊢
  have hwZ : w.heap.size ≤ Z := by rw [hZ]; exact t14.size
  clear hZ t14
  go_wp2_with fail
  refine (each_none va N vc (by omega) k15 (by simp)).mono ?_
  rintro e w16 ⟨rfl, g, k16, st16⟩
  rw [List.nil_append] at k16
  have t16 : Same w w16 := Fr.trans t15 st16.1 (fun i hi e => by rcases e with e | e; · omega
                                                                 · cases e)
  clear k15 t15 st16
  go_wp2_with fail
  refine (open_calls _ bt).mono ?_
  rintro e w17 ⟨rfl, h17⟩
  have r17 : RdAt w17 w16.heap.size bt 0 0 := by rw [h17]; exact rd_open w16 bt (by omega)
  have s17 : Same w16 w17 := by rw [h17]; exact (Fr.refl _ w16).alloc _
  have k17 := k16.same s17
  have t17 : Same w w17 := Same.trans t16 s17
  obtain ⟨P, hP⟩ : ∃ P, P = w16.heap.size := ⟨_, rfl⟩
  rw [← hP] at r17 ⊢
  have hwP : w.heap.size ≤ P := by rw [hP]; exact t16.size
  have hZP : Z ≠ P := by have := k16.lt.1; omega
  have hgP : ∀ k, g = some k → k ≠ P := fun k hk => by have := k16.lt.2 k hk; omega
  clear h17 s17 k16 hP
  go_wp2_with fail
  obtain ⟨Q, hQ⟩ : ∃ Q, Q = w17.heap.size := ⟨_, rfl⟩
  obtain ⟨W18, hW18⟩ : ∃ W, W = w17.alloc (.cells #[.string bt, .int .i64 0, .int .i64 0] 37) := ⟨_, rfl⟩
  rw [← hW18, ← hQ]
  have q18 : RRAt W18 Q bt 0 0 := by rw [hW18, hQ]; exact heap_alloc_new w17 _
  have s18 : Same w17 W18 := by rw [hW18]; exact (Fr.refl _ w17).alloc _
  have r18 := r17.same s18
  have k18 := k17.same s18
  have t18 : Same w W18 := Same.trans t17 s18
  have hPQ : P < Q := by rw [hQ]; exact r17.lt
  have hZQ : Z < Q := by rw [hQ]; exact k17.lt.1
  have hgQ : ∀ k, g = some k → k < Q := fun k hk => by rw [hQ]; exact k17.lt.2 k hk
  clear hQ hW18 s18 r17 k17 t17 t16
  obtain ⟨cn, cp, cc, hcc⟩ : ∃ cn cp cc, rCount bt 0 0 1099511627776 = (cn, cp, cc) := ⟨_, _, _, rfl⟩
  have HK : Calls Try.prog 24 #[.pointer (some ⟨Q, 0, none⟩), .int .i64 1099511627776] W18 fun e w' => e = .returned (.int .i64 (cn : Int)) ∧ RRAt w' Q bt cp cc ∧ Fr (fun k => k = Q) W18 w' := by
    have hk := rrcount_calls (m := 1099511627776) W18 q18 (Nat.zero_le _) (by omega) (by omega)
    rw [hcc] at hk
    exact hk
  refine HK.mono ?_
  rintro e w19 ⟨rfl, q19, f19⟩
  have r19 := r18.frame f19 (by omega)
  have k19 := k18.frame f19 (by omega) (fun i hi => by have := hgQ i hi; omega)
  have t19 : Same w w19 := Fr.trans t18 f19 (fun i hi e => by omega)
  clear HK r18 k18 t18 f19 q18
  have HLn := list_none r19 (by omega)
  rw [hcc] at HLn
  have hcn : cn ≤ 1099511627776 := count_le hcc
  clear hcc
  go_wp2_with fail
  refine HLn.mono ?_
  rintro e w20 ⟨ao, cap, rfl, hz, r20, f20⟩
  have q20 := q19.fr f20 (by omega)
  have k20 := k19.frame f20 (by omega) (fun i hi => hgP i hi)
  have t20 : Same w w20 := Fr.trans t19 f20 (fun i hi e => by omega)
  clear HLn q19 k19 t19 f20 r19
  go_wp2_with fail
  refine (wstring_calls k20).mono ?_
  rintro e w21 ⟨rfl, rfl⟩
  have wn : IntKind.u64.wrap (N : Int) = (N : Int) := by rw [IntKind.wrap_u64]; omega
  go_wp2_with fail
  refine (xfreeB_calls N _ (by omega)).mono ?_
  rintro e w22 ⟨rfl, s22⟩
  have r22 := r20.same s22
  have q22 := q20.fr s22 (fun f => f)
  have t22 := Same.trans t20 s22
  have HZ : Hid (∀ k, k < cn → ∃ q, ao = some ⟨q, 0, none⟩ ∧ w22.cell? ⟨q, k, none⟩ = some (.int .u64 0)) := fun k hk => by
    obtain ⟨q, hq, hc⟩ := hz k hk
    exact ⟨q, hq, s22.keep hc⟩
  clear hz s22 r20 q20 t20 k20
  go_wp2_with fail
  refine (stands_any r22 q22 (by omega)).mono ?_
  rintro e w23 ⟨rfl, s23⟩
  have t23 := Same.trans t22 s23
  have HZ3 : Hid (∀ k, k < cn → ∃ q, ao = some ⟨q, 0, none⟩ ∧ w23.cell? ⟨q, k, none⟩ = some (.int .u64 0)) := fun k hk => by
    obtain ⟨q, hq, hc⟩ := HZ.out k hk
    exact ⟨q, hq, s23.keep hc⟩
  clear HZ s23 t22 r22 q22
  go_wp2_with fail
  go_loopw [17] (fun iv wr => ∃ k : Nat, iv = .int .i64 k ∧ k ≤ cn ∧ Same w23 wr) (fun iv _ => cn - (intOf iv).toNat)
  case atStart => exact ⟨0, rfl, by omega, Fr.refl _ _⟩
  case round =>
    obtain ⟨k, rfl, hk, hsm⟩ := hrel
    by_cases hgo : k < cn
    · obtain ⟨q, rfl, hcell⟩ := HZ3.out k hgo
      have hcell2 := hsm.keep hcell
      have i0 : (0 : Int) ≤ (k : Int) := by omega
      have i1 : (k : Int) < (cn : Int) := by omega
      go_wp2_with fail
      go_roundw
      case rel => exact ⟨k + 1, by go_num, by omega, hsm⟩
      case measure => simp [intOf]; omega
    · obtain rfl : k = cn := by omega
      go_wp2_with fail
      refine (lives_calls _).mono ?_
      rintro e w30 ⟨rfl, s30⟩
      go_wp2_with fail
      go_ret
      exact ⟨rfl, Same.trans (Same.trans t23 hsm) s30⟩
end Go.Proofs.Ytpcdpdagcigigaa
