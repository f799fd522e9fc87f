/- The walk of spoil. -/
import Derived.Test.YtkkjalmedogmeaaB7
import Derived.Test.YtkkjalmedogmeaaKN
namespace Go.Proofs.Ytkkjalmedogmeaa
open Go.RowKit

theorem Own.some_of {W : World} {e : TypeId} {sz n c : Nat} {ao : Option Addr} (h : Own W e sz ao n c) (hn : 0 < n) : ∃ g, ao = some ⟨g, 0, none⟩ := by
  cases ao with
  | none =>
    obtain ⟨xs, h1, ⟨h2, h3⟩ | ⟨g, cap, cur, h2, _⟩⟩ := h
    · omega
    · cases h2
  | some a =>
    obtain ⟨cur, _, _, e1⟩ := h.blk
    exact ⟨a.block, by rw [e1]⟩
set_option maxRecDepth 100000 in
set_option maxHeartbeats 4000000 in
theorem spoil_calls {S : Nat → Prop} {pa : Option Addr} {np cp : Nat} {sa : Option Addr} {ns cs : Nat} {ka : Option Addr} {nk ck : Nat} (w : World) (hp : Own w 30 2 pa np cp) (hs : Own w 9 1 sa ns cs) (hk : Own w 46 33 ka nk ck)
    (h1 : np ≤ 1048576) (h2 : ns ≤ 1048576) (h3 : nk ≤ 1048576) (hS : ∀ a, (pa = some a ∨ sa = some a ∨ ka = some a) → S a.block) :
    Calls Try.prog 9 #[nodeV pa np cp sa ns cs ka nk ck] w fun e w' => (∃ n : Int, e = .returned (.int .i64 n)) ∧ Fr S w w' := by
  obtain ⟨V, hV⟩ : ∃ V, V = w.alloc (.cells #[.slice pa np cp, .slice sa ns cs, .slice ka nk ck] 28) := ⟨_, rfl⟩
  have Z0 : SP S w V w.heap.size pa np cp sa ns cs ka nk ck := by
    have hb := heap_alloc_new w (.cells #[.slice pa np cp, .slice sa ns cs, .slice ka nk ck] 28)
    rw [← hV] at hb
    refine ⟨hb, ?_, ?_, ?_, by rw [hV]; exact (Fr.refl S w).alloc _, fun a ha _ => hS a ha, Nat.le_refl _⟩
    · exact hp.keep (fun a e => by subst e; rw [hV]; exact Below.heap_alloc _ _ _ hp.lt)
    · exact hs.keep (fun a e => by subst e; rw [hV]; exact Below.heap_alloc _ _ _ hs.lt)
    · exact hk.keep (fun a e => by subst e; rw [hV]; exact Below.heap_alloc _ _ _ hk.lt)
  obtain ⟨i0P, hiP, hz0P, hz1P, hz2P⟩ := info_parts Try.infPair
  obtain ⟨i0S, hiS, hz0S, hz1S, hz2S⟩ := info_parts Try.infStr
  obtain ⟨i0K, hiK, hz0K, hz1K, hz2K⟩ := info_parts Try.infKid
  have HZ0 : Hid (SP S w V w.heap.size pa np cp sa ns cs ka nk ck) := Z0
  obtain ⟨m0, m1, m2, _, _, _⟩ := Z0.box
  clear Z0 hp hs hk hS
  go_enter Try.func9, Try.ntmps9
  go_wp2_with fail
  rw [← hV]
  clear hV m0 m1 m2
  go_loopg [3] np (fun g iv wr => ∃ j : Nat, iv = .int .i64 (j : Int) ∧ j ≤ np ∧ g = np - j ∧ Hid (SP S w wr w.heap.size pa np cp sa ns cs ka nk ck))
  case atStart => exact ⟨0, rfl, by omega, rfl, HZ0⟩
  case round =>
    obtain ⟨j, rfl, hj, hg, HL⟩ := hrel
    obtain ⟨m0, m1, m2, _, _, _⟩ := HL.out.box
    by_cases hgo : j < np
    · obtain ⟨gg, hgg⟩ := HL.out.oP.some_of (by omega)
      have HL2 := HL.out
      rw [hgg] at HL2 m0
      obtain ⟨Z2, th⟩ := HL2.putP (j * 2) [.string ⟨#[111, 118, 101, 114]⟩, .string ⟨#[111, 118, 101, 114]⟩] (show j * 2 + 2 ≤ np * 2 by omega)
      have i1 : (j : Int) < (np : Int) := by omega
      have i0 : (0 : Int) ≤ (j : Int) := by omega
      have HZ2 : Hid (SP S w (wr.setCells gg (j * 2) [.string ⟨#[111, 118, 101, 114]⟩, .string ⟨#[111, 118, 101, 114]⟩]) w.heap.size pa np cp sa ns cs ka nk ck) := by rw [hgg]; exact Z2
      have HGG : Hid (pa = some ⟨gg, 0, none⟩) := hgg
      clear HL2 Z2 HL hgg
      go_wp2_with (refine wpList_store_mid (by rfl) 30 _ _ (by rfl) gg (j * 2) #[.string ⟨#[111, 118, 101, 114]⟩, .string ⟨#[111, 118, 101, 114]⟩] (by rfl) (by rfl) th (by kernel_rfl) (by kernel_rfl) ?_)
      go_roundg (np - (j + 1))
      case measure => omega
      case rel => exact ⟨j + 1, by go_num, by omega, rfl, HZ2⟩
    · obtain rfl : np = j := by omega
      go_wp2_with fail
      clear m0 m1 m2
      go_loopg [4] ns (fun g iv wr => ∃ j : Nat, iv = .int .i64 (j : Int) ∧ j ≤ ns ∧ g = ns - j ∧ Hid (SP S w wr w.heap.size pa np cp sa ns cs ka nk ck))
      case atStart => exact ⟨0, rfl, by omega, rfl, HL⟩
      case round =>
        obtain ⟨j, rfl, hj, hg, HL⟩ := hrel
        obtain ⟨m0, m1, m2, _, _, _⟩ := HL.out.box
        by_cases hgo : j < ns
        · obtain ⟨gg, hgg⟩ := HL.out.oS.some_of (by omega)
          have HL2 := HL.out
          rw [hgg] at HL2 m1
          obtain ⟨Z2, th⟩ := HL2.putS (j * 1) [.string ⟨#[111, 118, 101, 114]⟩] (show j * 1 + 1 ≤ ns * 1 by omega)
          have i1 : (j : Int) < (ns : Int) := by omega
          have i0 : (0 : Int) ≤ (j : Int) := by omega
          have HZ2 : Hid (SP S w (wr.setCells gg (j * 1) [.string ⟨#[111, 118, 101, 114]⟩]) w.heap.size pa np cp sa ns cs ka nk ck) := by rw [hgg]; exact Z2
          have HGG : Hid (sa = some ⟨gg, 0, none⟩) := hgg
          clear HL2 Z2 HL hgg
          obtain ⟨t1, t2⟩ := th 0 (by simp)
          rw [Nat.mul_one, Nat.add_zero] at t1 t2
          obtain ⟨ov, hov⟩ := Option.isSome_iff_exists.1 t1
          rw [Nat.mul_one] at HZ2
          go_wp2_with fail
          go_roundg (ns - (j + 1))
          case measure => omega
          case rel => exact ⟨j + 1, by go_num, by omega, rfl, HZ2⟩
        · obtain rfl : ns = j := by omega
          go_wp2_with fail
          clear m0 m1 m2
          go_loopg [5] nk (fun g iv wr => ∃ j : Nat, iv = .int .i64 (j : Int) ∧ j ≤ nk ∧ g = nk - j ∧ Hid (SP S w wr w.heap.size pa np cp sa ns cs ka nk ck))
          case atStart => exact ⟨0, rfl, by omega, rfl, HL⟩
          case round =>
            obtain ⟨j, rfl, hj, hg, HL⟩ := hrel
            obtain ⟨m0, m1, m2, _, _, _⟩ := HL.out.box
            by_cases hgo : j < nk
            · obtain ⟨gg, hgg⟩ := HL.out.oK.some_of (by omega)
              have HL2 := HL.out
              rw [hgg] at HL2 m2
              obtain ⟨Z2, th⟩ := HL2.putK (j * 33) [.int .u32 99, .int .u8 0, .int .u8 0, .int .u8 0, .int .u8 0, .int .u8 0, .int .u8 0, .int .u8 0, .int .u8 0, .int .u8 0, .int .u8 0, .int .u8 0, .int .u8 0, .int .u8 0, .int .u8 0, .int .u8 0, .int .u8 0, .int .u8 0, .int .u8 0, .int .u8 0, .int .u8 0, .int .u8 0, .int .u8 0, .int .u8 0, .int .u8 0, .int .u8 0, .int .u8 0, .int .u8 0, .int .u8 0, .int .u8 0, .int .u8 0, .int .u8 0, .int .u8 0] (show j * 33 + 33 ≤ nk * 33 by omega)
              have i1 : (j : Int) < (nk : Int) := by omega
              have i0 : (0 : Int) ≤ (j : Int) := by omega
              have HZ2 : Hid (SP S w (wr.setCells gg (j * 33) [.int .u32 99, .int .u8 0, .int .u8 0, .int .u8 0, .int .u8 0, .int .u8 0, .int .u8 0, .int .u8 0, .int .u8 0, .int .u8 0, .int .u8 0, .int .u8 0, .int .u8 0, .int .u8 0, .int .u8 0, .int .u8 0, .int .u8 0, .int .u8 0, .int .u8 0, .int .u8 0, .int .u8 0, .int .u8 0, .int .u8 0, .int .u8 0, .int .u8 0, .int .u8 0, .int .u8 0, .int .u8 0, .int .u8 0, .int .u8 0, .int .u8 0, .int .u8 0, .int .u8 0]) w.heap.size pa np cp sa ns cs ka nk ck) := by rw [hgg]; exact Z2
              have HGG : Hid (ka = some ⟨gg, 0, none⟩) := hgg
              clear HL2 Z2 HL hgg
              have th33 : wr.there gg (j * 33) 33 := th
              clear th
              go_wp2_with (show wpList _ _ _ ({ dst := none, op := Op.store 46 _ _, type := _, pos := _, after := _, guard := _ } :: _) _ _; refine wpList_store_mid (by rfl) 46 _ _ (by rfl) gg (j * 33) #[.int .u32 99, .int .u8 0, .int .u8 0, .int .u8 0, .int .u8 0, .int .u8 0, .int .u8 0, .int .u8 0, .int .u8 0, .int .u8 0, .int .u8 0, .int .u8 0, .int .u8 0, .int .u8 0, .int .u8 0, .int .u8 0, .int .u8 0, .int .u8 0, .int .u8 0, .int .u8 0, .int .u8 0, .int .u8 0, .int .u8 0, .int .u8 0, .int .u8 0, .int .u8 0, .int .u8 0, .int .u8 0, .int .u8 0, .int .u8 0, .int .u8 0, .int .u8 0, .int .u8 0] (by rfl) (by rfl) th33 (by kernel_rfl) (by kernel_rfl) ?_)
              go_roundg (nk - (j + 1))
              case measure => omega
              case rel => exact ⟨j + 1, by go_num, by omega, rfl, HZ2⟩
            · obtain rfl : nk = j := by omega
              go_wp2_with fail
              clear m0 m1 m2
              go_loopg [6] 6 (fun g iv wr => ∃ (j : Nat) (pa : Option Addr) (np cp : Nat) (sa : Option Addr) (ns cs : Nat) (ka : Option Addr) (nk ck : Nat), iv = .int .i64 (j : Int) ∧ j ≤ 6 ∧ g = 6 - j ∧ np ≤ 1048576 + j ∧ ns ≤ 1048576 + j ∧ nk ≤ 1048576 + j ∧ Hid (SP S w wr w.heap.size pa np cp sa ns cs ka nk ck))
              case atStart => exact ⟨0, _, _, _, _, _, _, _, _, _, rfl, by omega, rfl, by omega, by omega, by omega, HL⟩
              case round =>
                clear HL
                obtain ⟨j, pa, np, cp, sa, ns, cs, ka, nk, ck, rfl, hj, hg, b1, b2, b3, HL⟩ := hrel
                obtain ⟨m0, m1, m2, f0, f1, f2⟩ := HL.out.box
                by_cases hgo : j < 6
                · have i1 : (j : Int) < 6 := by omega
                  obtain ⟨xP, oP⟩ := (HL.out.alloc (.cells #[.string ⟨#[109, 111, 114, 101]⟩, .string ⟨#[]⟩] 30)).oP
                  go_wp2_with (at_builtin; go_must (refine wpList_append_lies _ (by rfl) _ _ _ (by rfl) 0 30 i0P (.agg #[.string ⟨#[]⟩, .string ⟨#[]⟩]) 2 32 Try.underlying24 hiP hz0P hz1P hz2P rfl (by decide) _ _ _ (by rfl) oP ⟨wr.heap.size, 0, none⟩ 1 1 [.string ⟨#[109, 111, 114, 101]⟩, .string ⟨#[]⟩] (by rfl) rfl (World.news_of_block (heap_alloc_new wr _)) (by simp [Value.oneCell']) (by decide) ?_ ?_ (Nat.zero_le _) _ rfl ?_))
                  · unfold maxLen; omega
                  · omega
                  intro g2 cap2 w6 own6 grow6 hat6 _
                  obtain ⟨L1, ⟨a0, a1, a2⟩, a3⟩ := (HL.out.alloc (.cells #[.string ⟨#[109, 111, 114, 101]⟩, .string ⟨#[]⟩] 30)).growP own6 grow6 (hat6.imp id (fun e => by have := HL.out.fr.size; omega))
                  have HL1 : Hid (SP S w (w6.setCell ⟨w.heap.size, 0, none⟩ (.slice (some ⟨g2, 0, none⟩) (np + 1) cap2)) w.heap.size (some ⟨g2, 0, none⟩) (np + 1) cap2 sa ns cs ka nk ck) := L1
                  obtain ⟨xS, oS⟩ := (L1.alloc (.cells #[.string ⟨#[109, 111, 114, 101]⟩] 9)).oS
                  clear L1 HL own6 grow6 m0 m1 m2 f0 f1 f2 oP hat6
                  go_wp2_with (at_builtin; go_must (refine wpList_append_lies _ (by rfl) _ _ _ (by rfl) 0 9 i0S (.string ⟨#[]⟩) 1 16 Try.underlying25 hiS hz0S hz1S hz2S rfl (by decide) _ _ _ (by rfl) oS ⟨w6.heap.size, 0, none⟩ 1 1 [.string ⟨#[109, 111, 114, 101]⟩] (by rfl) rfl (World.news_of_block (heap_put_new w6 _ _ _)) (by simp [Value.oneCell']) (by decide) ?_ ?_ (Nat.zero_le _) _ rfl ?_))
                  · unfold maxLen; omega
                  · omega
                  intro g3 cap3 w7 own7 grow7 hat7 _
                  obtain ⟨L2, ⟨c0, c1, c2⟩, c3⟩ := (HL1.out.alloc (.cells #[.string ⟨#[109, 111, 114, 101]⟩] 9)).growS own7 grow7 (hat7.imp id (fun e => by have := HL1.out.fr.size; simp [World.setCell] at this; omega))
                  have HL2 : Hid (SP S w (w7.setCell ⟨w.heap.size, 1, none⟩ (.slice (some ⟨g3, 0, none⟩) (ns + 1) cap3)) w.heap.size (some ⟨g2, 0, none⟩) (np + 1) cap2 (some ⟨g3, 0, none⟩) (ns + 1) cap3 ka nk ck) := L2
                  obtain ⟨xK, oK⟩ := (L2.alloc (.cells #[.int .u32 98, .int .u8 0, .int .u8 0, .int .u8 0, .int .u8 0, .int .u8 0, .int .u8 0, .int .u8 0, .int .u8 0, .int .u8 0, .int .u8 0, .int .u8 0, .int .u8 0, .int .u8 0, .int .u8 0, .int .u8 0, .int .u8 0, .int .u8 0, .int .u8 0, .int .u8 0, .int .u8 0, .int .u8 0, .int .u8 0, .int .u8 0, .int .u8 0, .int .u8 0, .int .u8 0, .int .u8 0, .int .u8 0, .int .u8 0, .int .u8 0, .int .u8 0, .int .u8 0] 46)).oK
                  clear L2 HL1 own7 grow7 a0 a1 a2 a3 oS hat7
                  go_wp2_with (at_builtin; go_must (refine wpList_append_lies _ (by rfl) _ _ _ (by rfl) 0 46 i0K (kidV zeroKid) 33 36 Try.underlying26 hiK hz0K hz1K hz2K rfl (by decide) _ _ _ (by rfl) oK ⟨w7.heap.size, 0, none⟩ 1 1 [.int .u32 98, .int .u8 0, .int .u8 0, .int .u8 0, .int .u8 0, .int .u8 0, .int .u8 0, .int .u8 0, .int .u8 0, .int .u8 0, .int .u8 0, .int .u8 0, .int .u8 0, .int .u8 0, .int .u8 0, .int .u8 0, .int .u8 0, .int .u8 0, .int .u8 0, .int .u8 0, .int .u8 0, .int .u8 0, .int .u8 0, .int .u8 0, .int .u8 0, .int .u8 0, .int .u8 0, .int .u8 0, .int .u8 0, .int .u8 0, .int .u8 0, .int .u8 0, .int .u8 0] (by rfl) rfl (World.news_of_block (heap_put_new w7 _ _ _)) (by decide +kernel) (by decide) ?_ ?_ (Nat.zero_le _) _ rfl ?_))
                  · unfold maxLen; omega
                  · omega
                  intro g4 cap4 w8 own8 grow8 hat8 _
                  obtain ⟨L3, ⟨d0, d1, d2⟩, d3⟩ := (HL2.out.alloc (.cells #[.int .u32 98, .int .u8 0, .int .u8 0, .int .u8 0, .int .u8 0, .int .u8 0, .int .u8 0, .int .u8 0, .int .u8 0, .int .u8 0, .int .u8 0, .int .u8 0, .int .u8 0, .int .u8 0, .int .u8 0, .int .u8 0, .int .u8 0, .int .u8 0, .int .u8 0, .int .u8 0, .int .u8 0, .int .u8 0, .int .u8 0, .int .u8 0, .int .u8 0, .int .u8 0, .int .u8 0, .int .u8 0, .int .u8 0, .int .u8 0, .int .u8 0, .int .u8 0, .int .u8 0] 46)).growK own8 grow8 (hat8.imp id (fun e => by have := HL2.out.fr.size; simp [World.setCell] at this; omega))
                  have HL3 : Hid (SP S w (w8.setCell ⟨w.heap.size, 2, none⟩ (.slice (some ⟨g4, 0, none⟩) (nk + 1) cap4)) w.heap.size (some ⟨g2, 0, none⟩) (np + 1) cap2 (some ⟨g3, 0, none⟩) (ns + 1) cap3 (some ⟨g4, 0, none⟩) (nk + 1) cap4) := L3
                  clear L3 HL2 own8 grow8 c0 c1 c2 c3 oK hat8
                  go_wp2_with fail
                  go_roundg (6 - (j + 1))
                  case measure => omega
                  case rel => exact ⟨j + 1, _, _, _, _, _, _, _, _, _, by go_num, by omega, rfl, by omega, by omega, by omega, HL3⟩
                · obtain rfl : j = 6 := by omega
                  go_wp2_with fail
                  go_ret
                  exact ⟨⟨_, rfl⟩, HL.out.fr⟩
end Go.Proofs.Ytkkjalmedogmeaa
