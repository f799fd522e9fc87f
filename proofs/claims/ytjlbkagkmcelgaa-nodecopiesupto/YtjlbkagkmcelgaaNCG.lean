/- The three families of rows that a node has; spoil. -/
import Derived.Test.YtjlbkagkmcelgaaNCAJ
import Derived.Lib.Strings
namespace Go.Proofs.Ytjlbkagkmcelgaa
open Go.RowKit Go.Maps

theorem one_str (W : World) (c : Nat) (hc : c < 256) : (convert 44 9 (.slice (some ⟨W.heap.size, 0, none⟩) 1 1)).run Try.prog (W.alloc (.cells #[.int .u8 c] 5)) = .ok (.string ⟨#[UInt8.ofNat c]⟩) (W.alloc (.cells #[.int .u8 c] 5)) := by
  have hown : Owns (W.alloc (.cells #[.int .u8 c] 5)) (.slice (some ⟨W.heap.size, 0, none⟩) 1 1) [UInt8.ofNat c] := by
    refine ⟨rfl, Or.inr ⟨W.heap.size, 1, #[.int .u8 c], rfl, Nat.zero_le _, heap_alloc_new W _, Nat.le_refl _, by decide, rfl, ?_⟩⟩
    simp [bcells]
    omega
  exact owns_string (P := Try.prog) hown 44 9 Try.underlying44 Try.underlying5 Try.underlying9

/-- A mark's text: below 256 an 'x' and that byte, above it a 'y' and that byte. -/
def mkS (a : Nat) : ByteArray := if a < 256 then (⟨#[120]⟩ : ByteArray) ++ ⟨#[UInt8.ofNat a]⟩ else (⟨#[121]⟩ : ByteArray) ++ ⟨#[UInt8.ofNat (a - 256)]⟩
/-- A mark's page. -/
def mkG (a : Nat) : Nat := if a < 256 then a else a - 256 + 100
def FP : Fam := ⟨33, 2, fun a => [.string (mkS a), .string ⟨#[]⟩], fun _ => rfl, fun a v hv => by simp at hv; rcases hv with rfl | rfl <;> rfl, by decide⟩
def FS : Fam := ⟨9, 1, fun a => [.string (mkS a)], fun _ => rfl, fun a v hv => by simp at hv; subst hv; rfl, by decide⟩
def FK : Fam := ⟨37, 33, fun a => [.int .u32 (mkG a : Nat), .int .u8 0, .int .u8 0, .int .u8 0, .int .u8 0, .int .u8 0, .int .u8 0, .int .u8 0, .int .u8 0, .int .u8 0, .int .u8 0, .int .u8 0, .int .u8 0, .int .u8 0, .int .u8 0, .int .u8 0, .int .u8 0, .int .u8 0, .int .u8 0, .int .u8 0, .int .u8 0, .int .u8 0, .int .u8 0, .int .u8 0, .int .u8 0, .int .u8 0, .int .u8 0, .int .u8 0, .int .u8 0, .int .u8 0, .int .u8 0, .int .u8 0, .int .u8 0], fun _ => rfl, fun a v hv => by simp at hv; rcases hv with rfl | rfl <;> rfl, by decide⟩
section
variable {F G : Fam} {W W' w : World} {x y : Sl} {cs ds : List Value}
theorem MkI.same {k a : Nat} (h : MkI F w W x k a) (s : Same W W') : MkI F w W' x k a := by
  obtain ⟨⟨cs, h1, h2⟩, h3⟩ := h
  exact ⟨⟨cs, h1.fr s (fun _ _ f => f), h2⟩, Fr.trans h3 s (fun _ _ f => f.elim)⟩
/-- Rows of unlike families lie apart. -/
theorem RX.off (h : RX F W x cs) (k : RX G W y ds) (hne : F.e ≠ G.e) : ∀ b, x.blk = some b → ¬ y.blk = some b := fun _ hb e => by
  obtain ⟨_, _, A, fr, h2⟩ := k.at_ e
  exact h.ne h2 hne hb
theorem RX.lt (h : RX F W x cs) : ∀ b, x.blk = some b → b < W.heap.size := fun _ hb => (h.at_ hb).2.1
theorem RX.ao (h : RX F W x cs) (hn : 0 < x.n) : ∃ g, x.ao = some ⟨g, 0, none⟩ := by
  rcases h.2 with ⟨_, h0⟩ | ⟨g, c, cur, hv, _⟩
  · omega
  · injection hv with e1
    exact ⟨g, e1⟩
end
/-- Which blocks a node's rows lie in. -/
def inN (p s k : Sl) (b : Nat) : Prop := p.blk = some b ∨ s.blk = some b ∨ k.blk = some b
abbrev nV (p s k : Sl) : Value := .agg #[p.v, s.v, k.v]
set_option maxRecDepth 100000 in
set_option maxHeartbeats 4000000 in
theorem spoil_calls (m : Nat) (hm : m < 100) {p s k : Sl} {cp cs ck : List Value} (w : World) (hP : RX FP w p cp) (hS : RX FS w s cs) (hK : RX FK w k ck) (l1 : p.n ≤ 1048700) (l2 : s.n ≤ 1048700) (l3 : k.n ≤ 1048700) :
    Calls Try.prog 9 #[nV p s k, .int .u32 (m : Nat)] w fun e w' => e = .returned (.tuple #[]) ∧ RX FP w' p (rp FP p.n m) ∧ RX FS w' s (rp FS s.n m) ∧ RX FK w' k (rp FK k.n m) ∧ Fr (inN p s k) w w' := by
  obtain ⟨V, hV⟩ : ∃ V, V = w.alloc (.cells #[p.v, s.v, k.v] 26) := ⟨_, rfl⟩
  have sx : Same w V := by rw [hV]; exact (Fr.refl _ w).alloc _
  have a0 : V.cell? ⟨w.heap.size, 0, none⟩ = some p.v := by rw [hV]; simp
  have a1 : V.cell? ⟨w.heap.size, 1, none⟩ = some s.v := by rw [hV]; simp
  have a2 : V.cell? ⟨w.heap.size, 2, none⟩ = some k.v := by rw [hV]; simp
  have offb : ¬ inN p s k w.heap.size := fun h => by
    rcases h with h | h | h
    · have := hP.lt _ h; omega
    · have := hS.lt _ h; omega
    · have := hK.lt _ h; omega
  have HC : Hid (∀ W, Fr (inN p s k) V W → W.cell? ⟨w.heap.size, 0, none⟩ = some p.v ∧ W.cell? ⟨w.heap.size, 1, none⟩ = some s.v ∧ W.cell? ⟨w.heap.size, 2, none⟩ = some k.v) := fun W f => ⟨(f.cell (World.block_lt_of_cell? _ _ a0) offb).trans a0, (f.cell (World.block_lt_of_cell? _ _ a1) offb).trans a1, (f.cell (World.block_lt_of_cell? _ _ a2) offb).trans a2⟩
  have HP : Hid (RX FP V p cp) := hP.fr sx (fun _ _ f => f)
  have HS : Hid (∀ W, Fr (fun b => p.blk = some b) V W → RX FS W s cs) := fun W f => (hS.fr sx (fun _ _ f => f)).fr f (fun b hb e => hS.off hP (by decide) b hb e)
  have HK : Hid (∀ W, Fr (fun b => p.blk = some b ∨ s.blk = some b) V W → RX FK W k ck) := fun W f => (hK.fr sx (fun _ _ f => f)).fr f (fun b hb e => by
    rcases e with e | e
    · exact hK.off hP (by decide) b hb e
    · exact hK.off hS (by decide) b hb e)
  have KP : Hid (∀ W W', RX FP W p (rp FP p.n m) → Fr (fun b => s.blk = some b) W W' → RX FP W' p (rp FP p.n m)) := fun W W' h f => h.fr f (fun b hb e => hP.off hS (by decide) b hb e)
  have KP2 : Hid (∀ W W', RX FP W p (rp FP p.n m) → Fr (fun b => k.blk = some b) W W' → RX FP W' p (rp FP p.n m)) := fun W W' h f => h.fr f (fun b hb e => hP.off hK (by decide) b hb e)
  have KS2 : Hid (∀ W W', RX FS W s (rp FS s.n m) → Fr (fun b => k.blk = some b) W W' → RX FS W' s (rp FS s.n m)) := fun W W' h f => h.fr f (fun b hb e => hS.off hK (by decide) b hb e)
  have hcv := fun W => one_str W m (by omega)
  have hw1 : IntKind.u8.wrap (m : Int) = (m : Int) := by rw [IntKind.wrap_u8]; omega
  have hadd := fun W => run_string_add_sum (P := Try.prog) W (⟨#[120]⟩ : ByteArray) (⟨#[UInt8.ofNat m]⟩ : ByteArray) (by have : (⟨#[120]⟩ : ByteArray).size = 1 := rfl; have : (⟨#[UInt8.ofNat m]⟩ : ByteArray).size = 1 := rfl; omega)
  have emk : mkS m = (⟨#[120]⟩ : ByteArray) ++ ⟨#[UInt8.ofNat m]⟩ := if_pos (by omega)
  have emg : mkG m = m := if_pos (by omega)
  obtain ⟨X, hX⟩ : ∃ X : ByteArray, X = (⟨#[120]⟩ : ByteArray) ++ ⟨#[UInt8.ofNat m]⟩ := ⟨_, rfl⟩
  rw [← hX] at hadd emk
  have mP : Hid (FP.mrk m = [.string X, .string ⟨#[]⟩]) := by show [Value.string (mkS m), .string ⟨#[]⟩] = _; rw [emk]
  have mS : Hid (FS.mrk m = [.string X]) := by show [Value.string (mkS m)] = _; rw [emk]
  have mK : Hid (FK.mrk m = [.int .u32 (m : Nat), .int .u8 0, .int .u8 0, .int .u8 0, .int .u8 0, .int .u8 0, .int .u8 0, .int .u8 0, .int .u8 0, .int .u8 0, .int .u8 0, .int .u8 0, .int .u8 0, .int .u8 0, .int .u8 0, .int .u8 0, .int .u8 0, .int .u8 0, .int .u8 0, .int .u8 0, .int .u8 0, .int .u8 0, .int .u8 0, .int .u8 0, .int .u8 0, .int .u8 0, .int .u8 0, .int .u8 0, .int .u8 0, .int .u8 0, .int .u8 0, .int .u8 0, .int .u8 0]) := by show [Value.int .u32 (mkG m : Nat), .int .u8 0, .int .u8 0, .int .u8 0, .int .u8 0, .int .u8 0, .int .u8 0, .int .u8 0, .int .u8 0, .int .u8 0, .int .u8 0, .int .u8 0, .int .u8 0, .int .u8 0, .int .u8 0, .int .u8 0, .int .u8 0, .int .u8 0, .int .u8 0, .int .u8 0, .int .u8 0, .int .u8 0, .int .u8 0, .int .u8 0, .int .u8 0, .int .u8 0, .int .u8 0, .int .u8 0, .int .u8 0, .int .u8 0, .int .u8 0, .int .u8 0, .int .u8 0] = _; rw [emg]
  clear hX emk emg hP hS hK offb
  obtain ⟨C, hC⟩ : ∃ C : ByteArray, C = ⟨#[UInt8.ofNat m]⟩ := ⟨_, rfl⟩
  rw [← hC] at hadd
  simp only [← hC] at hcv
  clear hC
  obtain ⟨pa, pn, pc⟩ := p
  obtain ⟨sa, sn, sc⟩ := s
  obtain ⟨ka, kn, kc⟩ := k
  simp only [Sl.v] at a0 a1 a2 HC hV l1 l2 l3
  unfold nV
  simp only [Sl.v]
  go_enter Try.func9, Try.ntmps9
  go_wp2_with fail
  rw [← hV]
  clear hV a0 a1 a2
  go_loopg [4] pn (fun g iv wr => ∃ j : Nat, iv = .int .i64 (j : Int) ∧ j ≤ pn ∧ g = pn - j ∧ Hid (MkI FP V wr ⟨pa, pn, pc⟩ j m))
  case atStart => exact ⟨0, rfl, by omega, rfl, MkI.start HP.out m⟩
  case round =>
    obtain ⟨j, rfl, hj, hg, HM⟩ := hrel
    obtain ⟨a0, a1, a2⟩ := HC.out _ (Fr.mono HM.out.base (fun _ _ e => Or.inl e))
    by_cases hgo : j < pn
    · obtain ⟨cs0, hrow, _⟩ := HM.out.row
      obtain ⟨gg, hgg⟩ := hrow.ao (Nat.lt_of_le_of_lt (Nat.zero_le j) hgo)
      have HN0 : Hid (MkI FP V (wr.alloc (.cells #[.int .u8 (m : Nat)] 5)) ⟨pa, pn, pc⟩ j m) := HM.out.same ((Fr.refl _ wr).alloc _)
      have th := (HN0.out.row.choose_spec.1).there hgg hgo
      have HN1 := HN0.out.next hgg hgo
      rw [mP.out] at HN1
      have HN : Hid (MkI FP V ((wr.alloc (.cells #[.int .u8 (m : Nat)] 5)).setCells gg (j * 2) [.string X, .string ⟨#[]⟩]) ⟨pa, pn, pc⟩ (j + 1) m) := HN1
      have th2 : (wr.alloc (.cells #[.int .u8 (m : Nat)] 5)).there gg (j * 2) 2 := th
      simp only at hgg
      have HGG : Hid (pa = some ⟨gg, 0, none⟩) := hgg
      rw [hgg] at a0
      have i1 : (j : Int) < (pn : Int) := by omega
      have i0 : (0 : Int) ≤ (j : Int) := by omega
      clear HN0 HN1 th hrow hgg
      go_wp2_with (refine wpList_store_mid (by rfl) 33 _ _ (by rfl) gg (j * 2) #[.string X, .string ⟨#[]⟩] (by rfl) (by rfl) th2 (by kernel_rfl) (by kernel_rfl) ?_)
      go_roundg (pn - (j + 1))
      case measure => omega
      case rel => exact ⟨j + 1, by go_num, by omega, rfl, HN⟩
    · obtain rfl : pn = j := by omega
      have HDP : Hid (MkI FP V wr ⟨pa, pn, pc⟩ pn m) := HM
      clear HM
      go_wp2_with fail
      clear a0 a1 a2
      obtain ⟨W1, hW1⟩ : ∃ W1, W1 = wr := ⟨_, rfl⟩
      rw [← hW1]
      rw [← hW1] at HDP
      clear hW1
      go_loopg [5] sn (fun g iv wr => ∃ j : Nat, iv = .int .i64 (j : Int) ∧ j ≤ sn ∧ g = sn - j ∧ Hid (MkI FS W1 wr ⟨sa, sn, sc⟩ j m))
      case atStart => exact ⟨0, rfl, by omega, rfl, MkI.start (HS.out _ HDP.out.base) m⟩
      case round =>
        obtain ⟨j, rfl, hj, hg, HM⟩ := hrel
        obtain ⟨a0, a1, a2⟩ := HC.out _ (Fr.trans (Fr.mono HDP.out.base (fun _ _ e => Or.inl e)) HM.out.base (fun _ _ e => Or.inr (Or.inl e)))
        by_cases hgo : j < sn
        · obtain ⟨cs0, hrow, _⟩ := HM.out.row
          obtain ⟨gg, hgg⟩ := hrow.ao (Nat.lt_of_le_of_lt (Nat.zero_le j) hgo)
          have HN0 : Hid (MkI FS W1 (wr.alloc (.cells #[.int .u8 (m : Nat)] 5)) ⟨sa, sn, sc⟩ j m) := HM.out.same ((Fr.refl _ wr).alloc _)
          have th := (HN0.out.row.choose_spec.1).there hgg hgo
          have HN1 := HN0.out.next hgg hgo
          rw [mS.out] at HN1
          have HN : Hid (MkI FS W1 ((wr.alloc (.cells #[.int .u8 (m : Nat)] 5)).setCells gg (j * 1) [.string X]) ⟨sa, sn, sc⟩ (j + 1) m) := HN1
          have th2 : (wr.alloc (.cells #[.int .u8 (m : Nat)] 5)).there gg (j * 1) 1 := th
          simp only at hgg
          have HGG : Hid (sa = some ⟨gg, 0, none⟩) := hgg
          rw [hgg] at a1
          have i1 : (j : Int) < (sn : Int) := by omega
          have i0 : (0 : Int) ≤ (j : Int) := by omega
          clear HN0 HN1 th hrow hgg
          obtain ⟨t1, t2⟩ := th2 0 (by simp)
          rw [Nat.mul_one, Nat.add_zero] at t1 t2
          obtain ⟨ov, hov⟩ := Option.isSome_iff_exists.1 t1
          rw [Nat.mul_one] at HN
          go_wp2_with fail
          go_roundg (sn - (j + 1))
          case measure => omega
          case rel => exact ⟨j + 1, by go_num, by omega, rfl, HN⟩
        · obtain rfl : sn = j := by omega
          have HDS : Hid (MkI FS W1 wr ⟨sa, sn, sc⟩ sn m) := HM
          clear HM
          go_wp2_with fail
          clear a0 a1 a2
          obtain ⟨W2, hW2⟩ : ∃ W2, W2 = wr := ⟨_, rfl⟩
          rw [← hW2]
          rw [← hW2] at HDS
          clear hW2
          go_loopg [6] kn (fun g iv wr => ∃ j : Nat, iv = .int .i64 (j : Int) ∧ j ≤ kn ∧ g = kn - j ∧ Hid (MkI FK W2 wr ⟨ka, kn, kc⟩ j m))
          case atStart => exact ⟨0, rfl, by omega, rfl, MkI.start (HK.out _ (Fr.trans (Fr.mono HDP.out.base (fun _ _ e => Or.inl e)) HDS.out.base (fun _ _ e => Or.inr e))) m⟩
          case round =>
            obtain ⟨j, rfl, hj, hg, HM⟩ := hrel
            obtain ⟨a0, a1, a2⟩ := HC.out _ (Fr.trans (Fr.trans (Fr.mono HDP.out.base (fun _ _ e => Or.inl e)) HDS.out.base (fun _ _ e => Or.inr (Or.inl e))) HM.out.base (fun _ _ e => Or.inr (Or.inr e)))
            by_cases hgo : j < kn
            · obtain ⟨cs0, hrow, _⟩ := HM.out.row
              obtain ⟨gg, hgg⟩ := hrow.ao (Nat.lt_of_le_of_lt (Nat.zero_le j) hgo)
              have HN0 : Hid (MkI FK W2 wr ⟨ka, kn, kc⟩ j m) := HM.out
              have th := (HN0.out.row.choose_spec.1).there hgg hgo
              have HN1 := HN0.out.next hgg hgo
              rw [mK.out] at HN1
              have HN : Hid (MkI FK W2 (wr.setCells gg (j * 33) [.int .u32 (m : Nat), .int .u8 0, .int .u8 0, .int .u8 0, .int .u8 0, .int .u8 0, .int .u8 0, .int .u8 0, .int .u8 0, .int .u8 0, .int .u8 0, .int .u8 0, .int .u8 0, .int .u8 0, .int .u8 0, .int .u8 0, .int .u8 0, .int .u8 0, .int .u8 0, .int .u8 0, .int .u8 0, .int .u8 0, .int .u8 0, .int .u8 0, .int .u8 0, .int .u8 0, .int .u8 0, .int .u8 0, .int .u8 0, .int .u8 0, .int .u8 0, .int .u8 0, .int .u8 0]) ⟨ka, kn, kc⟩ (j + 1) m) := HN1
              have th2 : wr.there gg (j * 33) 33 := th
              simp only at hgg
              have HGG : Hid (ka = some ⟨gg, 0, none⟩) := hgg
              rw [hgg] at a2
              have i1 : (j : Int) < (kn : Int) := by omega
              have i0 : (0 : Int) ≤ (j : Int) := by omega
              clear HN0 HN1 th hrow hgg
              go_wp2_with (show wpList _ _ _ ({ dst := none, op := Op.store 37 _ _, type := _, pos := _, after := _, guard := _ } :: _) _ _; refine wpList_store_mid (by rfl) 37 _ _ (by rfl) gg (j * 33) #[.int .u32 (m : Nat), .int .u8 0, .int .u8 0, .int .u8 0, .int .u8 0, .int .u8 0, .int .u8 0, .int .u8 0, .int .u8 0, .int .u8 0, .int .u8 0, .int .u8 0, .int .u8 0, .int .u8 0, .int .u8 0, .int .u8 0, .int .u8 0, .int .u8 0, .int .u8 0, .int .u8 0, .int .u8 0, .int .u8 0, .int .u8 0, .int .u8 0, .int .u8 0, .int .u8 0, .int .u8 0, .int .u8 0, .int .u8 0, .int .u8 0, .int .u8 0, .int .u8 0, .int .u8 0] (by rfl) (by rfl) th2 (by kernel_rfl) (by kernel_rfl) ?_)
              go_roundg (kn - (j + 1))
              case measure => omega
              case rel => exact ⟨j + 1, by go_num, by omega, rfl, HN⟩
            · obtain rfl : kn = j := by omega
              have HDK : Hid (MkI FK W2 wr ⟨ka, kn, kc⟩ kn m) := HM
              go_wp2_with fail
              refine bodyPost_end (results_none rfl _ _ _) rfl ?_
              have f1 := HDS.out.base
              have f2 := HDK.out.base
              refine ⟨rfl, KP2.out _ _ (KP.out _ _ HDP.out.done f1) f2, KS2.out _ _ HDS.out.done f2, HDK.out.done, ?_⟩
              exact Fr.trans (Fr.mono sx (fun _ _ e => e.elim)) (Fr.trans (Fr.trans (Fr.mono HDP.out.base (fun _ _ e => Or.inl e)) f1 (fun _ _ e => Or.inr (Or.inl e))) f2 (fun _ _ e => Or.inr (Or.inr e))) (fun _ _ e => e)
end Go.Proofs.Ytjlbkagkmcelgaa
