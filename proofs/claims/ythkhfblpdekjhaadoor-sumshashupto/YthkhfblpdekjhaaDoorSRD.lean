/-
  Walks: the document's block.
-/
import Derived.Test.YthkhfblpdekjhaaDoorSRE
import Derived.Test.YthkhfblpdekjhaaDoorS5
import Derived.Deep.QuietTactic
import Derived.BigQuiet
namespace Go.Proofs.YthkhfblpdekjhaaDoor
open Go.RowKit

set_option maxRecDepth 100000 in
set_option maxHeartbeats 8000000 in
theorem block_calls (w : World) (hg ho hc kg kc bg bo bc : Nat) (H : W8) (B : List UInt8) (hB : B.length = 64) (hH : UAt w hg ho [H.a, H.b, H.c, H.d, H.e, H.f, H.g, H.h]) (hK : UAt w kg 0 kTab) (hb : BAt8 w bg bo B) :
    Calls Tryd.prog 49 #[.slice (some ⟨hg, ho, none⟩) 8 hc, .slice (some ⟨kg, 0, none⟩) 64 kc, .slice (some ⟨bg, bo, none⟩) 64 bc] w fun e w' => ∃ g cap, e = .returned (.slice (some ⟨g, 0, none⟩) 8 cap) ∧ UAt w' g 0 [(mixB H B).a, (mixB H B).b, (mixB H B).c, (mixB H B).d, (mixB H B).e, (mixB H B).f, (mixB H B).g, (mixB H B).h] ∧ Same w w' := by
  obtain ⟨i0, hi, hi0, hi1, hi2⟩ := info_parts Tryd.infoU32
  have HB : Hid (BAt8 w bg bo B) := hb
  have HH : Hid (UAt w hg ho [H.a, H.b, H.c, H.d, H.e, H.f, H.g, H.h]) := hH
  have HK : Hid (UAt w kg 0 kTab) := hK
  clear hb hH hK
  go_enter Tryd.func49, Tryd.ntmps49
  go_wp2_with fail
  go_loopg [7, 8] 16 (fun gg v iv wr => ∃ (k : Nat) (ao : Option Addr) (c : Nat), v = .slice ao k c ∧ iv = .int .i64 k ∧ k ≤ 16 ∧ gg = 16 - k ∧ (k ≠ 0 → ∃ g', ao = some ⟨g', 0, none⟩) ∧ Hid (wr.ownsRow w.heap.size 57 1 (.slice ao k c) k (ucells ((List.range k).map (be4At B)))) ∧ Same w wr)
  case atStart => exact ⟨0, none, 0, rfl, rfl, by omega, rfl, fun e => absurd rfl e, World.ownsRow_nil _ _ _ _, Fr.refl _ _⟩
  case round =>
    obtain ⟨k, ao, c, rfl, rfl, hk, rfl, hao, hown, sr⟩ := hrel
    by_cases hgo : k < 16
    · have hat := HB.out.same sr
      have hget : ∀ j, j < 64 → wr.cell? ⟨bg, bo + j, none⟩ = some (.int .u8 (B.getD j 0).toNat) := fun j hj => hat j _ (by rw [List.getD_eq_getElem?_getD, List.getElem?_eq_getElem (by omega)]; rfl)
      have hgetw : ∀ j, j < 64 → w.cell? ⟨bg, bo + j, none⟩ = some (.int .u8 (B.getD j 0).toNat) := fun j hj => HB.out j _ (by rw [List.getD_eq_getElem?_getD, List.getElem?_eq_getElem (by omega)]; rfl)
      have d0 := hgetw (4 * k) (by omega)
      have d1 := hgetw (4 * k + 1) (by omega)
      have d2 := hgetw (4 * k + 2) (by omega)
      have d3 := hgetw (4 * k + 3) (by omega)
      have c0 := hget (4 * k) (by omega)
      have c1 := hget (4 * k + 1) (by omega)
      have c2 := hget (4 * k + 2) (by omega)
      have c3 := hget (4 * k + 3) (by omega)
      have hval : be4At B k = be4 (B.getD (4 * k) 0) (B.getD (4 * k + 1) 0) (B.getD (4 * k + 2) 0) (B.getD (4 * k + 3) 0) := rfl
      have HV0 : Hid (be4At B k = be4 (B.getD (4 * k) 0) (B.getD (4 * k + 1) 0) (B.getD (4 * k + 2) 0) (B.getD (4 * k + 3) 0)) := hval
      generalize B.getD (4 * k) 0 = x0 at *
      generalize B.getD (4 * k + 1) 0 = x1 at *
      generalize B.getD (4 * k + 2) 0 = x2 at *
      generalize B.getD (4 * k + 3) 0 = x3 at *
      have q0 := x0.toNat_lt
      have q1 := x1.toNat_lt
      have q2 := x2.toNat_lt
      have q3 := x3.toNat_lt
      obtain ⟨y0, hy0⟩ : ∃ y, y = x0.toUInt32 <<< UInt32.ofNat 24 := ⟨_, rfl⟩
      obtain ⟨y1, hy1⟩ : ∃ y, y = x1.toUInt32 <<< UInt32.ofNat 16 := ⟨_, rfl⟩
      obtain ⟨y2, hy2⟩ : ∃ y, y = x2.toUInt32 <<< UInt32.ofNat 8 := ⟨_, rfl⟩
      obtain ⟨y3, hy3⟩ : ∃ y, y = x3.toUInt32 := ⟨_, rfl⟩
      obtain ⟨z1, hz1⟩ : ∃ z, z = y0 ||| y1 := ⟨_, rfl⟩
      obtain ⟨z2, hz2⟩ : ∃ z, z = z1 ||| y2 := ⟨_, rfl⟩
      obtain ⟨x, hx⟩ : ∃ z, z = z2 ||| y3 := ⟨_, rfl⟩
      have u0 : (x0.toNat : Int) % 4294967296 = (x0.toNat : Int) := by omega
      have u1 : (x1.toNat : Int) % 4294967296 = (x1.toNat : Int) := by omega
      have u2 : (x2.toNat : Int) % 4294967296 = (x2.toNat : Int) := by omega
      have u3 : (x3.toNat : Int) % 4294967296 = (y3.toNat : Int) := by rw [hy3, UInt8.toNat_toUInt32]; omega
      have v0 : (x0.toNat : Int) * 16777216 = (y0.toNat : Int) := by
        have := l32 x0.toUInt32 24 (by decide)
        rw [← hy0, IntKind.wrap_u32, UInt8.toNat_toUInt32] at this
        have e : ((2 ^ 24 : Nat) : Int) = 16777216 := rfl
        rw [e] at this; omega
      have v1 : (x1.toNat : Int) * 65536 = (y1.toNat : Int) := by
        have := l32 x1.toUInt32 16 (by decide)
        rw [← hy1, IntKind.wrap_u32, UInt8.toNat_toUInt32] at this
        have e : ((2 ^ 16 : Nat) : Int) = 65536 := rfl
        rw [e] at this; omega
      have v2 : (x2.toNat : Int) * 256 = (y2.toNat : Int) := by
        have := l32 x2.toUInt32 8 (by decide)
        rw [← hy2, IntKind.wrap_u32, UInt8.toNat_toUInt32] at this
        have e : ((2 ^ 8 : Nat) : Int) = 256 := rfl
        rw [e] at this; omega
      have o1 : bits .or .u32 (y0.toNat : Int) (y1.toNat : Int) = (z1.toNat : Int) := by rw [hz1]; exact o32 y0 y1
      have o2 : bits .or .u32 (z1.toNat : Int) (y2.toNat : Int) = (z2.toNat : Int) := by rw [hz2]; exact o32 z1 y2
      have o3 : bits .or .u32 (z2.toNat : Int) (y3.toNat : Int) = (x.toNat : Int) := by rw [hx]; exact o32 z2 y3
      have HX : Hid (be4At B k = x) := by
        show _ = _
        rw [HV0.out, ← be4_eq, hx, hz2, hz1, hy0, hy1, hy2, hy3]
      obtain ⟨p0, hp0⟩ : ∃ p, p = 4 * k := ⟨_, rfl⟩
      obtain ⟨p1, hp1⟩ : ∃ p, p = 4 * k + 1 := ⟨_, rfl⟩
      obtain ⟨p2, hp2⟩ : ∃ p, p = 4 * k + 2 := ⟨_, rfl⟩
      obtain ⟨p3, hp3⟩ : ∃ p, p = 4 * k + 3 := ⟨_, rfl⟩
      rw [← hp0] at c0 d0
      rw [← hp1] at c1 d1
      rw [← hp2] at c2 d2
      rw [← hp3] at c3 d3
      have iw0 : IntKind.i64.wrap (4 * (k : Int)) = (p0 : Int) := by rw [IntKind.wrap_i64]; omega
      have iw1 : IntKind.i64.wrap ((p0 : Int) + 1) = (p1 : Int) := by rw [IntKind.wrap_i64]; omega
      have iw2 : IntKind.i64.wrap ((p0 : Int) + 2) = (p2 : Int) := by rw [IntKind.wrap_i64]; omega
      have iw3 : IntKind.i64.wrap ((p0 : Int) + 3) = (p3 : Int) := by rw [IntKind.wrap_i64]; omega
      have b0 : (p0 : Int) < 64 := by omega
      have b1 : (p1 : Int) < 64 := by omega
      have b2 : (p2 : Int) < 64 := by omega
      have b3 : (p3 : Int) < 64 := by omega
      have u0' : IntKind.u32.wrap (x0.toNat : Int) = (x0.toNat : Int) := by rw [IntKind.wrap_u32]; exact u0
      have u1' : IntKind.u32.wrap (x1.toNat : Int) = (x1.toNat : Int) := by rw [IntKind.wrap_u32]; exact u1
      have u2' : IntKind.u32.wrap (x2.toNat : Int) = (x2.toNat : Int) := by rw [IntKind.wrap_u32]; exact u2
      have u3' : IntKind.u32.wrap (x3.toNat : Int) = (y3.toNat : Int) := by rw [IntKind.wrap_u32]; exact u3
      have t0 := wr32 y0
      have t1 := wr32 y1
      have t2 := wr32 y2
      clear hp0 hp1 hp2 hp3
      have hown' := hown.out
      have hsz := sr.size
      have hone : ∀ u ∈ [Value.int .u32 x.toNat], u.oneCell' = true := by intro u hu; simp at hu; subst hu; rfl
      have hS4 : ∀ W, Same w W → W.cell? ⟨bg, bo + p0, none⟩ = some (.int .u8 x0.toNat) ∧ W.cell? ⟨bg, bo + p1, none⟩ = some (.int .u8 x1.toNat) ∧ W.cell? ⟨bg, bo + p2, none⟩ = some (.int .u8 x2.toNat) ∧ W.cell? ⟨bg, bo + p3, none⟩ = some (.int .u8 x3.toNat) := fun W sW => ⟨sW.keep d0, sW.keep d1, sW.keep d2, sW.keep d3⟩
      have hmx : k + 1 ≤ maxLen := by unfold maxLen; omega
      have hby : (k + 1) * 4 ≤ 140737488355328 := by omega
      have hbs : ∀ o, w.heap.size ≤ (wr.alloc o).drew.heap.size := fun o => by simp; omega
      have hHs : ∀ o, (wr.alloc o).drew.heap.size = wr.heap.size + 1 := fun o => by simp
      have hfar : ∀ b, (Value.slice ao k c).ownBlock = some b → b < w.heap.size → False := fun b hb hlt => by have := (hown'.lt b hb).1; omega
      clear d0 d1 d2 d3
      clear hval HV0 hy0 hy1 hy2 hy3 hz1 hz2 hx hget hgetw hat
      go_wp2_with fail
      go_region_held3 (fun w' => w'.cell? ⟨bg, bo + p0, none⟩ = some (.int .u8 x0.toNat) ∧ w'.cell? ⟨bg, bo + p1, none⟩ = some (.int .u8 x1.toNat) ∧ w'.cell? ⟨bg, bo + p2, none⟩ = some (.int .u8 x2.toNat) ∧ w'.cell? ⟨bg, bo + p3, none⟩ = some (.int .u8 x3.toNat)) (first | go_keep | exact k4) (first | (refine step_append_lies _ (by rfl) _ _ _ (by rfl) w.heap.size 57 i0 (.int .u32 0) 1 4 Tryd.underlying67 hi hi0 hi1 hi2 rfl (by decide) _ _ _ (by rfl) (own_drew (hown'.alloc _)) ⟨wr.heap.size, 0, none⟩ 1 1 [Value.int .u32 x.toNat] (by rfl) (by rfl) (World.news_of_block (cs := #[Value.int .u32 x.toNat]) (heap_alloc_new wr _)) hone (by decide) hmx hby (hbs _) (wr.heap.size + 1) (hHs _) ?_; intro g5 cap5 W5 hown5 hgrow5 hat5 _; have s5 : Same w W5 := Fr.grown ((sr.alloc _).drew) hgrow5 hfar; have k4 := hS4 W5 s5))
      have O5 : W5.ownsRow w.heap.size 57 1 (.slice (some ⟨g5, 0, none⟩) (k + 1) cap5) (k + 1) (ucells ((List.range (k + 1)).map (be4At B))) := by
        rw [List.range_succ, List.map_append, ucells_append, List.map_singleton, HX.out]
        exact hown5
      clear k4 hown5 hgrow5 hat5 hS4 hfar hbs hHs c0 c1 c2 c3
      go_wp2_with fail
      go_roundg (16 - (k + 1))
      case measure => omega
      case rel => exact ⟨k + 1, some ⟨g5, 0, none⟩, cap5, rfl, by go_num, by omega, rfl, fun _ => ⟨g5, rfl⟩, O5, s5⟩
    · have hk16 : (k : Int) = 16 := by omega
      rw [hk16]
      clear hk16
      obtain rfl : k = 16 := by omega
      obtain ⟨g1, rfl⟩ := hao (by omega)
      have W16 : Hid (words4 B = (List.range 16).map (be4At B)) := words4_range 16 B (by omega)
      rw [← W16.out] at hown
      clear hao
      go_wp2_with fail
      have L0 : (words4 B).length = 16 := by rw [W16.out]; simp
      obtain ⟨Wd, hWd⟩ : ∃ l, l = extW 48 (words4 B) := ⟨_, rfl⟩
      have E0 : Hid (extW 48 (words4 B) = Wd) := hWd.symm
      have HWd : Hid (Wd = extW 48 (words4 B)) := hWd
      clear hWd
      go_loopg [7, 9] 48 (fun gg v iv wr => ∃ (i g c n : Nat) (L : List UInt32), v = .slice (some ⟨g, 0, none⟩) i c ∧ iv = .int .i64 i ∧ 16 ≤ i ∧ i ≤ 64 ∧ gg = n ∧ n + i = 64 ∧ Hid (L.length = i) ∧ Hid (extW n L = Wd) ∧ Hid (wr.ownsRow w.heap.size 57 1 (.slice (some ⟨g, 0, none⟩) i c) i (ucells L)) ∧ Same w wr)
      case atStart => exact ⟨16, g1, c, 48, words4 B, rfl, rfl, by omega, by omega, rfl, by omega, L0, E0, hown, sr⟩
      case round =>
        clear hown W16 E0 L0 sr
        obtain ⟨i, g, c, n, L, rfl, rfl, h16, h64, hgn, hni, hLn, HE, hown, sr⟩ := hrel
        by_cases hgo : i < 64
        · have hown' := hown.out
          have hu := own_uat hown'
          have hL := hLn.out
          have cl : ∀ m : Nat, m < i → wr.cell? ⟨g, m, none⟩ = some (.int .u32 ((L.getD m 0).toNat : Int)) := by
            intro m hm
            have := hu m (L.getD m 0) (by rw [List.getD_eq_getElem?_getD, List.getElem?_eq_getElem (by omega)]; rfl)
            rw [Nat.zero_add] at this
            exact this
          have c1 := cl (i - 15) (by omega)
          have c2 := cl (i - 2) (by omega)
          have c3 := cl (i - 16) (by omega)
          have c4 := cl (i - 7) (by omega)
          clear cl hu
          have hn : nextW L = L.getD (i - 16) 0 + L.getD (i - 7) 0 + sg0 (L.getD (i - 15) 0) + sg1 (L.getD (i - 2) 0) := by unfold nextW; rw [hL]
          generalize L.getD (i - 15) 0 = x1 at *
          generalize L.getD (i - 2) 0 = x2 at *
          generalize hx3 : L.getD (i - 16) 0 = x3 at *
          generalize hx4 : L.getD (i - 7) 0 = x4 at *
          obtain ⟨p15, hp15⟩ : ∃ p, p = i - 15 := ⟨_, rfl⟩
          obtain ⟨p2, hp2⟩ : ∃ p, p = i - 2 := ⟨_, rfl⟩
          obtain ⟨p16, hp16⟩ : ∃ p, p = i - 16 := ⟨_, rfl⟩
          obtain ⟨p7, hp7⟩ : ∃ p, p = i - 7 := ⟨_, rfl⟩
          rw [← hp15] at c1
          rw [← hp2] at c2
          rw [← hp16] at c3
          rw [← hp7] at c4
          have iw15 : IntKind.i64.wrap ((i : Int) - 15) = (p15 : Int) := by rw [IntKind.wrap_i64]; omega
          have iw2 : IntKind.i64.wrap ((i : Int) - 2) = (p2 : Int) := by rw [IntKind.wrap_i64]; omega
          have iw16 : IntKind.i64.wrap ((i : Int) - 16) = (p16 : Int) := by rw [IntKind.wrap_i64]; omega
          have iw7 : IntKind.i64.wrap ((i : Int) - 7) = (p7 : Int) := by rw [IntKind.wrap_i64]; omega
          have b15 : (p15 : Int) < (i : Int) := by omega
          have b2 : (p2 : Int) < (i : Int) := by omega
          have b16 : (p16 : Int) < (i : Int) := by omega
          have b7 : (p7 : Int) < (i : Int) := by omega
          obtain ⟨r7, hr7⟩ : ∃ r, r = rotr x1 7 := ⟨_, rfl⟩
          obtain ⟨r18, hr18⟩ : ∃ r, r = rotr x1 18 := ⟨_, rfl⟩
          obtain ⟨r17, hr17⟩ : ∃ r, r = rotr x2 17 := ⟨_, rfl⟩
          obtain ⟨r19, hr19⟩ : ∃ r, r = rotr x2 19 := ⟨_, rfl⟩
          obtain ⟨h3, hh3⟩ : ∃ r, r = x1 >>> 3 := ⟨_, rfl⟩
          obtain ⟨h10, hh10⟩ : ∃ r, r = x2 >>> 10 := ⟨_, rfl⟩
          obtain ⟨q1, hq1⟩ : ∃ r, r = r7 ^^^ r18 := ⟨_, rfl⟩
          obtain ⟨a1, ha1⟩ : ∃ r, r = q1 ^^^ h3 := ⟨_, rfl⟩
          obtain ⟨q3, hq3⟩ : ∃ r, r = r17 ^^^ r19 := ⟨_, rfl⟩
          obtain ⟨a2, ha2⟩ : ∃ r, r = q3 ^^^ h10 := ⟨_, rfl⟩
          obtain ⟨s1, hs1⟩ : ∃ r, r = x3 + a1 := ⟨_, rfl⟩
          obtain ⟨s2, hs2⟩ : ∃ r, r = s1 + x4 := ⟨_, rfl⟩
          obtain ⟨x, hx⟩ : ∃ r, r = s2 + a2 := ⟨_, rfl⟩
          have T7 : Hid (∀ W, Calls Tryd.prog 55 #[.int .u32 x1.toNat, .int .i64 7] W fun e w' => e = .returned (.int .u32 r7.toNat) ∧ w' = W) := by rw [hr7]; exact fun W => rturn7 W x1
          have T18 : Hid (∀ W, Calls Tryd.prog 55 #[.int .u32 x1.toNat, .int .i64 18] W fun e w' => e = .returned (.int .u32 r18.toNat) ∧ w' = W) := by rw [hr18]; exact fun W => rturn18 W x1
          have T17 : Hid (∀ W, Calls Tryd.prog 55 #[.int .u32 x2.toNat, .int .i64 17] W fun e w' => e = .returned (.int .u32 r17.toNat) ∧ w' = W) := by rw [hr17]; exact fun W => rturn17 W x2
          have T19 : Hid (∀ W, Calls Tryd.prog 55 #[.int .u32 x2.toNat, .int .i64 19] W fun e w' => e = .returned (.int .u32 r19.toNat) ∧ w' = W) := by rw [hr19]; exact fun W => rturn19 W x2
          have e1 : bits .xor .u32 (r7.toNat : Int) (r18.toNat : Int) = (q1.toNat : Int) := by rw [hq1]; exact x32 r7 r18
          have e2 : (x1.toNat : Int) / (8 : Int) = (h3.toNat : Int) := by rw [hh3]; exact r32 x1 3 (by decide)
          have e3 : bits .xor .u32 (q1.toNat : Int) (h3.toNat : Int) = (a1.toNat : Int) := by rw [ha1]; exact x32 q1 h3
          have e4 : bits .xor .u32 (r17.toNat : Int) (r19.toNat : Int) = (q3.toNat : Int) := by rw [hq3]; exact x32 r17 r19
          have e5 : (x2.toNat : Int) / (1024 : Int) = (h10.toNat : Int) := by rw [hh10]; exact r32 x2 10 (by decide)
          have e6 : bits .xor .u32 (q3.toNat : Int) (h10.toNat : Int) = (a2.toNat : Int) := by rw [ha2]; exact x32 q3 h10
          have e7 : IntKind.u32.wrap ((x3.toNat : Int) + (a1.toNat : Int)) = (s1.toNat : Int) := by rw [hs1]; exact p32 x3 a1
          have e8 : IntKind.u32.wrap ((s1.toNat : Int) + (x4.toNat : Int)) = (s2.toNat : Int) := by rw [hs2]; exact p32 s1 x4
          have e9 : IntKind.u32.wrap ((s2.toNat : Int) + (a2.toNat : Int)) = (x.toNat : Int) := by rw [hx]; exact p32 s2 a2
          have HX : Hid (nextW L = x) := by
            show _ = _
            rw [hn, hx, hs2, hs1, ha1, ha2, hq1, hq3, hh3, hh10, hr7, hr18, hr17, hr19]
            unfold sg0 sg1
            have sw : ∀ a b c d : UInt32, a + b + c + d = a + c + b + d := fun a b c d => by rw [UInt32.add_assoc a b c, UInt32.add_comm b c, ← UInt32.add_assoc]
            exact sw _ _ _ _
          have hsz := sr.size
          have hone : ∀ u ∈ [Value.int .u32 x.toNat], u.oneCell' = true := by intro u hu; simp at hu; subst hu; rfl
          have hmx : i + 1 ≤ maxLen := by unfold maxLen; omega
          have hby : (i + 1) * 4 ≤ 140737488355328 := by omega
          have HU2 : Hid (∀ W, UAt W g 0 L → W.cell? ⟨g, p16, none⟩ = some (.int .u32 (x3.toNat : Int)) ∧ W.cell? ⟨g, p7, none⟩ = some (.int .u32 (x4.toNat : Int))) := by
            intro W hu
            have a3 := hu.get (i - 16) (by rw [hL]; omega)
            have a4 := hu.get (i - 7) (by rw [hL]; omega)
            rw [hx3, ← hp16, Nat.zero_add] at a3
            rw [hx4, ← hp7, Nat.zero_add] at a4
            exact ⟨a3, a4⟩
          clear hx3 hx4
          clear hn hp15 hp2 hp16 hp7 hr7 hr18 hr17 hr19 hh3 hh10 hq1 ha1 hq3 ha2 hs1 hs2 hx hL
          go_wp2_with fail
          go_quiet (first | (with_reducible exact Calls.quiet_of_same (T7.out _)) | (with_reducible exact Calls.quiet_of_same (T18.out _)))
          go_wp2_with fail
          have n2 : (wr.drewN nq).cell? ⟨g, p2, none⟩ = some (.int .u32 (x2.toNat : Int)) := c2
          have n3 : (wr.drewN nq).cell? ⟨g, p16, none⟩ = some (.int .u32 (x3.toNat : Int)) := c3
          have n4 : (wr.drewN nq).cell? ⟨g, p7, none⟩ = some (.int .u32 (x4.toNat : Int)) := c4
          have hown2 : (wr.drewN nq).ownsRow w.heap.size 57 1 (.slice (some ⟨g, 0, none⟩) i c) i (ucells L) := hown'
          have sr2 : Same w (wr.drewN nq) := sr.drewN nq
          clear c1 c2 c3 c4 hown' hown sr hsz
          generalize wr.drewN nq = W2 at *
          clear nq
          go_quiet (first | (with_reducible exact Calls.quiet_of_same (T17.out _)) | (with_reducible exact Calls.quiet_of_same (T19.out _)))
          go_wp2_with fail
          have c3 : (W2.drewN nq).cell? ⟨g, p16, none⟩ = some (.int .u32 (x3.toNat : Int)) := n3
          have c4 : (W2.drewN nq).cell? ⟨g, p7, none⟩ = some (.int .u32 (x4.toNat : Int)) := n4
          have hown3 : (W2.drewN nq).ownsRow w.heap.size 57 1 (.slice (some ⟨g, 0, none⟩) i c) i (ucells L) := hown2
          have sr3 : Same w (W2.drewN nq) := sr2.drewN nq
          clear n2 n3 n4 hown2 sr2
          generalize W2.drewN nq = W3 at *
          clear nq
          have hsz := sr3.size
          have hbs : ∀ o, w.heap.size ≤ (W3.alloc o).drew.heap.size := fun o => by simp; omega
          have hHs : ∀ o, (W3.alloc o).drew.heap.size = W3.heap.size + 1 := fun o => by simp
          have hfar : ∀ b, (some g : Option Nat) = some b → b < w.heap.size → False := fun b hb hlt => by
            have := (hown3.lt b hb).1
            omega
          have hibb : i + 1 ≤ 1099511627776 := by omega
          have hS2 : ∀ W, UAt W g 0 L → W.cell? ⟨g, p16, none⟩ = some (.int .u32 (x3.toNat : Int)) ∧ W.cell? ⟨g, p7, none⟩ = some (.int .u32 (x4.toNat : Int)) := HU2.out
          have hnx : ∀ (o : Array Value), o = #[.int .u32 x.toNat] → (W3.alloc (.cells o 57)).drew.cell? ⟨W3.heap.size, 0, none⟩ = some (.int .u32 x.toNat) := by
            rintro o rfl; exact (cell_of_row _ _ _ _ _ _ (heap_alloc_new W3 _))
          go_region_held3 (fun w' => w'.cell? ⟨g, p16, none⟩ = some (.int .u32 (x3.toNat : Int)) ∧ w'.cell? ⟨g, p7, none⟩ = some (.int .u32 (x4.toNat : Int))) (first | go_keep | exact k2) (first | (refine step_append_kept _ (by rfl) _ _ (by rfl) w.heap.size g i c L (by rfl) (own_drew (hown3.alloc _)) ⟨W3.heap.size, 0, none⟩ 1 x (by rfl) (hnx _ rfl) hibb (hbs _) ?_; intro g5 cap5 W5 hown5 hgrow5 hu5; have s5 : Same w W5 := Fr.grown ((sr3.alloc _).drew) hgrow5 hfar; have k2 := hS2 W5 hu5))
          have HE5 : Hid (∃ n', n = n' + 1 ∧ extW n' (L ++ [x]) = Wd) := by
            obtain ⟨n', rfl⟩ : ∃ n', n = n' + 1 := ⟨n - 1, by omega⟩
            refine ⟨n', rfl, ?_⟩
            have := HE.out
            rw [extW, HX.out] at this
            exact this
          have HL5 : Hid ((L ++ [x]).length = i + 1) := by
            show _ = _
            rw [List.length_append, hLn.out]; rfl
          obtain ⟨n', hn', he'⟩ := HE5.out
          have HE6 : Hid (extW n' (L ++ [x]) = Wd) := he'
          have HO5 : Hid (W5.ownsRow w.heap.size 57 1 (.slice (some ⟨g5, 0, none⟩) (i + 1) cap5) (i + 1) (ucells (L ++ [x]))) := hown5
          clear HE5 HE he' hown5 hgrow5 hu5 k2 hS2 HU2 c3 c4 hown3 hfar hnx hbs hHs
          go_wp2_with fail
          go_roundg n'
          case measure => omega
          case rel => exact ⟨i + 1, g5, cap5, n', L ++ [x], rfl, by go_num, by omega, by omega, rfl, by omega, HL5, HE6, HO5, s5⟩
        · have hi64 : (i : Int) = 64 := by omega
          rw [hi64]
          clear hi64
          obtain rfl : i = 64 := by omega
          obtain rfl : n = 0 := by omega
          have HLW : Hid (L = Wd) := HE.out
          have hown4 := hown.out
          rw [HLW.out] at hown4
          have hlw : Hid (Wd.length = 64) := by
            show _ = _
            rw [← HLW.out]; exact hLn.out
          clear HE HLW hLn hown hgn hni
          have HO4 : Hid (wr.ownsRow w.heap.size 57 1 (.slice (some ⟨g, 0, none⟩) 64 c) 64 (ucells Wd)) := hown4
          clear hown4
          have hnews : ∀ j u, (ucells [H.a, H.b, H.c, H.d, H.e, H.f, H.g, H.h])[j]? = some u → wr.cell? ((⟨hg, ho, none⟩ : Addr).add j) = some u := by
            intro j u hu
            rw [ucells, List.getElem?_map, Option.map_eq_some_iff] at hu
            obtain ⟨y, hy, rfl⟩ := hu
            rw [Addr.add_mid]
            exact (HH.out.same sr) j y hy
          have hn1 : ∀ u ∈ ucells [H.a, H.b, H.c, H.d, H.e, H.f, H.g, H.h], u.oneCell' = true := by
            intro u hu
            simp only [ucells, List.mem_map] at hu
            obtain ⟨c, _, rfl⟩ := hu
            rfl
          have hsz := sr.size
          go_wp2_with (at_builtin; go_must (refine wpList_append_lies _ (by rfl) _ _ _ (by rfl) wr.heap.size 57 i0 (.int .u32 0) 1 4 Tryd.underlying67 hi hi0 hi1 hi2 rfl (by decide) _ _ _ (by rfl) (World.ownsRow_nil _ _ _ _) ⟨hg, ho, none⟩ 8 hc (ucells [H.a, H.b, H.c, H.d, H.e, H.f, H.g, H.h]) (by rfl) (by rfl) hnews hn1 (by decide) (by unfold maxLen; omega) (by omega) (Nat.le_refl _) wr.heap.size rfl ?_; intro g6 cap6 W6 hown6 hgrow6 hat6 _))
          have s6 : Same w W6 := Fr.grown sr hgrow6 (fun k hk _ => by simp [Value.ownBlock] at hk)
          have U6 : Hid (UAt W6 g6 0 [H.a, H.b, H.c, H.d, H.e, H.f, H.g, H.h]) := own_uat (by simpa using hown6)
          have UW : Hid (UAt W6 g 0 Wd) := by
            intro j x hx
            have := own_uat HO4.out j x hx
            exact hgrow6.cell this (by simp [Value.ownBlock])
          have UK : Hid (UAt W6 kg 0 kTab) := HK.out.same s6
          obtain ⟨R, hR⟩ : ∃ R, R = rnds kTab Wd H := ⟨_, rfl⟩
          have HR0 : Hid (rnds (kTab.drop 0) (Wd.drop 0) H = R) := hR.symm
          have HRR : Hid (R = rnds kTab Wd H) := hR
          clear hown6 hgrow6 hat6 hnews hn1 HO4 hR hsz
          go_loopg [12, 13] 64 (fun gg v iv wq => ∃ (i gv cv : Nat) (q : W8), v = .slice (some ⟨gv, 0, none⟩) 8 cv ∧ iv = .int .i64 i ∧ i ≤ 64 ∧ gg = 64 - i ∧ Hid (UAt wq gv 0 [q.a, q.b, q.c, q.d, q.e, q.f, q.g, q.h]) ∧ Hid (rnds (kTab.drop i) (Wd.drop i) q = R) ∧ Same W6 wq)
          case atStart => exact ⟨0, g6, cap6, H, rfl, rfl, by omega, rfl, U6, HR0, Fr.refl _ _⟩
          case round =>
            clear U6 HR0
            obtain ⟨i, gv, cv, ⟨va, vb, vc, vd, ve, vf, vg, vh⟩, rfl, rfl, hi64, rfl, HU, HR, s7⟩ := hrel
            by_cases hgo : i < 64
            · have hkl : kTab.length = 64 := rfl
              have HR' : Hid (rnds (kTab.drop (i + 1)) (Wd.drop (i + 1)) (rnd ⟨va, vb, vc, vd, ve, vf, vg, vh⟩ (kTab.getD i 0) (Wd.getD i 0)) = R) := by
                show _ = _
                rw [← rnds_cons (by rw [hkl]; exact hgo) (by rw [hlw.out]; exact hgo)]
                exact HR.out
              have ck := (UK.out.same s7).get i (by rw [hkl]; exact hgo)
              have cw := (UW.out.same s7).get i (by rw [hlw.out]; exact hgo)
              rw [Nat.zero_add] at ck cw
              have c0 : wr.cell? ⟨gv, 0, none⟩ = some (.int .u32 (va.toNat : Int)) := HU.out 0 va rfl
              have c1 : wr.cell? ⟨gv, 1, none⟩ = some (.int .u32 (vb.toNat : Int)) := HU.out 1 vb rfl
              have c2 : wr.cell? ⟨gv, 2, none⟩ = some (.int .u32 (vc.toNat : Int)) := HU.out 2 vc rfl
              have c3 : wr.cell? ⟨gv, 3, none⟩ = some (.int .u32 (vd.toNat : Int)) := HU.out 3 vd rfl
              have c4 : wr.cell? ⟨gv, 4, none⟩ = some (.int .u32 (ve.toNat : Int)) := HU.out 4 ve rfl
              have c5 : wr.cell? ⟨gv, 5, none⟩ = some (.int .u32 (vf.toNat : Int)) := HU.out 5 vf rfl
              have c6 : wr.cell? ⟨gv, 6, none⟩ = some (.int .u32 (vg.toNat : Int)) := HU.out 6 vg rfl
              have c7 : wr.cell? ⟨gv, 7, none⟩ = some (.int .u32 (vh.toNat : Int)) := HU.out 7 vh rfl
              clear HR HU hkl
              generalize kTab.getD i 0 = xk at *
              generalize Wd.getD i 0 = yw at *
              have bi0 : (0 : Int) ≤ (i : Int) := by omega
              have bi1 : (i : Int) < 64 := by omega
              obtain ⟨r6, h_r6⟩ : ∃ z, z = rotr ve 6 := ⟨_, rfl⟩
              obtain ⟨r11, h_r11⟩ : ∃ z, z = rotr ve 11 := ⟨_, rfl⟩
              obtain ⟨r25, h_r25⟩ : ∃ z, z = rotr ve 25 := ⟨_, rfl⟩
              obtain ⟨q1, h_q1⟩ : ∃ z, z = r6 ^^^ r11 := ⟨_, rfl⟩
              obtain ⟨big, h_big⟩ : ∃ z, z = q1 ^^^ r25 := ⟨_, rfl⟩
              obtain ⟨ef, h_ef⟩ : ∃ z, z = ve &&& vf := ⟨_, rfl⟩
              obtain ⟨ne, h_ne⟩ : ∃ z, z = ~~~ ve := ⟨_, rfl⟩
              obtain ⟨ng, h_ng⟩ : ∃ z, z = ne &&& vg := ⟨_, rfl⟩
              obtain ⟨ch, h_ch⟩ : ∃ z, z = ef ^^^ ng := ⟨_, rfl⟩
              obtain ⟨t1, h_t1⟩ : ∃ z, z = vh + big := ⟨_, rfl⟩
              obtain ⟨t2, h_t2⟩ : ∃ z, z = t1 + ch := ⟨_, rfl⟩
              obtain ⟨t3, h_t3⟩ : ∃ z, z = t2 + xk := ⟨_, rfl⟩
              obtain ⟨one, h_one⟩ : ∃ z, z = t3 + yw := ⟨_, rfl⟩
              obtain ⟨r2, h_r2⟩ : ∃ z, z = rotr va 2 := ⟨_, rfl⟩
              obtain ⟨r13, h_r13⟩ : ∃ z, z = rotr va 13 := ⟨_, rfl⟩
              obtain ⟨r22, h_r22⟩ : ∃ z, z = rotr va 22 := ⟨_, rfl⟩
              obtain ⟨q2, h_q2⟩ : ∃ z, z = r2 ^^^ r13 := ⟨_, rfl⟩
              obtain ⟨small, h_small⟩ : ∃ z, z = q2 ^^^ r22 := ⟨_, rfl⟩
              obtain ⟨ab, h_ab⟩ : ∃ z, z = va &&& vb := ⟨_, rfl⟩
              obtain ⟨ac, h_ac⟩ : ∃ z, z = va &&& vc := ⟨_, rfl⟩
              obtain ⟨mx, h_mx⟩ : ∃ z, z = ab ^^^ ac := ⟨_, rfl⟩
              obtain ⟨bc2, h_bc2⟩ : ∃ z, z = vb &&& vc := ⟨_, rfl⟩
              obtain ⟨most, h_most⟩ : ∃ z, z = mx ^^^ bc2 := ⟨_, rfl⟩
              obtain ⟨o1, h_o1⟩ : ∃ z, z = one + small := ⟨_, rfl⟩
              obtain ⟨na, h_na⟩ : ∃ z, z = o1 + most := ⟨_, rfl⟩
              obtain ⟨nd, h_nd⟩ : ∃ z, z = vd + one := ⟨_, rfl⟩
              have T6 : Hid (∀ W, Calls Tryd.prog 55 #[.int .u32 ve.toNat, .int .i64 6] W fun e w' => e = .returned (.int .u32 r6.toNat) ∧ w' = W) := by rw [h_r6]; exact fun W => rturn6 W ve
              have T11 : Hid (∀ W, Calls Tryd.prog 55 #[.int .u32 ve.toNat, .int .i64 11] W fun e w' => e = .returned (.int .u32 r11.toNat) ∧ w' = W) := by rw [h_r11]; exact fun W => rturn11 W ve
              have T25 : Hid (∀ W, Calls Tryd.prog 55 #[.int .u32 ve.toNat, .int .i64 25] W fun e w' => e = .returned (.int .u32 r25.toNat) ∧ w' = W) := by rw [h_r25]; exact fun W => rturn25 W ve
              have e_q1 : bits .xor .u32 (r6.toNat : Int) (r11.toNat : Int) = (q1.toNat : Int) := by rw [h_q1]; exact x32 r6 r11
              have e_big : bits .xor .u32 (q1.toNat : Int) (r25.toNat : Int) = (big.toNat : Int) := by rw [h_big]; exact x32 q1 r25
              have e_ef : bits .and .u32 (ve.toNat : Int) (vf.toNat : Int) = (ef.toNat : Int) := by rw [h_ef]; exact a32 ve vf
              have e_ne : bits .xor .u32 IntKind.u32.max (ve.toNat : Int) = (ne.toNat : Int) := by rw [h_ne]; exact n32 ve
              have e_ne' : bits .xor .u32 4294967295 (ve.toNat : Int) = (ne.toNat : Int) := e_ne
              have e_ng : bits .and .u32 (ne.toNat : Int) (vg.toNat : Int) = (ng.toNat : Int) := by rw [h_ng]; exact a32 ne vg
              have e_ch : bits .xor .u32 (ef.toNat : Int) (ng.toNat : Int) = (ch.toNat : Int) := by rw [h_ch]; exact x32 ef ng
              have e_t1 : IntKind.u32.wrap ((vh.toNat : Int) + (big.toNat : Int)) = (t1.toNat : Int) := by rw [h_t1]; exact p32 vh big
              have e_t2 : IntKind.u32.wrap ((t1.toNat : Int) + (ch.toNat : Int)) = (t2.toNat : Int) := by rw [h_t2]; exact p32 t1 ch
              have e_t3 : IntKind.u32.wrap ((t2.toNat : Int) + (xk.toNat : Int)) = (t3.toNat : Int) := by rw [h_t3]; exact p32 t2 xk
              have e_one : IntKind.u32.wrap ((t3.toNat : Int) + (yw.toNat : Int)) = (one.toNat : Int) := by rw [h_one]; exact p32 t3 yw
              have T2 : Hid (∀ W, Calls Tryd.prog 55 #[.int .u32 va.toNat, .int .i64 2] W fun e w' => e = .returned (.int .u32 r2.toNat) ∧ w' = W) := by rw [h_r2]; exact fun W => rturn2 W va
              have T13 : Hid (∀ W, Calls Tryd.prog 55 #[.int .u32 va.toNat, .int .i64 13] W fun e w' => e = .returned (.int .u32 r13.toNat) ∧ w' = W) := by rw [h_r13]; exact fun W => rturn13 W va
              have T22 : Hid (∀ W, Calls Tryd.prog 55 #[.int .u32 va.toNat, .int .i64 22] W fun e w' => e = .returned (.int .u32 r22.toNat) ∧ w' = W) := by rw [h_r22]; exact fun W => rturn22 W va
              have e_q2 : bits .xor .u32 (r2.toNat : Int) (r13.toNat : Int) = (q2.toNat : Int) := by rw [h_q2]; exact x32 r2 r13
              have e_small : bits .xor .u32 (q2.toNat : Int) (r22.toNat : Int) = (small.toNat : Int) := by rw [h_small]; exact x32 q2 r22
              have e_ab : bits .and .u32 (va.toNat : Int) (vb.toNat : Int) = (ab.toNat : Int) := by rw [h_ab]; exact a32 va vb
              have e_ac : bits .and .u32 (va.toNat : Int) (vc.toNat : Int) = (ac.toNat : Int) := by rw [h_ac]; exact a32 va vc
              have e_mx : bits .xor .u32 (ab.toNat : Int) (ac.toNat : Int) = (mx.toNat : Int) := by rw [h_mx]; exact x32 ab ac
              have e_bc2 : bits .and .u32 (vb.toNat : Int) (vc.toNat : Int) = (bc2.toNat : Int) := by rw [h_bc2]; exact a32 vb vc
              have e_most : bits .xor .u32 (mx.toNat : Int) (bc2.toNat : Int) = (most.toNat : Int) := by rw [h_most]; exact x32 mx bc2
              have e_o1 : IntKind.u32.wrap ((one.toNat : Int) + (small.toNat : Int)) = (o1.toNat : Int) := by rw [h_o1]; exact p32 one small
              have e_na : IntKind.u32.wrap ((o1.toNat : Int) + (most.toNat : Int)) = (na.toNat : Int) := by rw [h_na]; exact p32 o1 most
              have e_nd : IntKind.u32.wrap ((vd.toNat : Int) + (one.toNat : Int)) = (nd.toNat : Int) := by rw [h_nd]; exact p32 vd one
              have HQ : Hid (rnd ⟨va, vb, vc, vd, ve, vf, vg, vh⟩ xk yw = ⟨na, va, vb, vc, nd, ve, vf, vg⟩) := by
                show _ = _
                have ho : vh + bg1 ve + cho ve vf vg + (xk + yw) = one := by
                  rw [h_one, h_t3, h_t2, h_t1, h_big, h_q1, h_r6, h_r11, h_r25, h_ch, h_ef, h_ng, h_ne, UInt32.add_assoc _ xk yw]
                  rfl
                have hna : one + bg0 va + maj va vb vc = na := by
                  rw [h_na, h_o1, h_small, h_q2, h_r2, h_r13, h_r22, h_most, h_mx, h_ab, h_ac, h_bc2]
                  rfl
                unfold rnd
                simp only [ho, hna, h_nd]
              rw [HQ.out] at HR'
              clear HQ h_r6 h_r11 h_r25 h_q1 h_big h_ef h_ne h_ng h_ch h_t1 h_t2 h_t3 h_one h_r2 h_r13 h_r22 h_q2 h_small h_ab h_ac h_mx h_bc2 h_most h_o1 h_na h_nd
              go_wp2_with fail
              go_quiet (first | (with_reducible exact Calls.quiet_of_same (T6.out _)) | (with_reducible exact Calls.quiet_of_same (T11.out _)) | (with_reducible exact Calls.quiet_of_same (T25.out _)))
              go_wp2_with fail
              have n0 : (wr.drewN nq).cell? ⟨gv, 0, none⟩ = some (.int .u32 (va.toNat : Int)) := c0
              have n1 : (wr.drewN nq).cell? ⟨gv, 1, none⟩ = some (.int .u32 (vb.toNat : Int)) := c1
              have n2 : (wr.drewN nq).cell? ⟨gv, 2, none⟩ = some (.int .u32 (vc.toNat : Int)) := c2
              have n3 : (wr.drewN nq).cell? ⟨gv, 3, none⟩ = some (.int .u32 (vd.toNat : Int)) := c3
              have n4 : (wr.drewN nq).cell? ⟨gv, 4, none⟩ = some (.int .u32 (ve.toNat : Int)) := c4
              have n5 : (wr.drewN nq).cell? ⟨gv, 5, none⟩ = some (.int .u32 (vf.toNat : Int)) := c5
              have n6 : (wr.drewN nq).cell? ⟨gv, 6, none⟩ = some (.int .u32 (vg.toNat : Int)) := c6
              have n7 : (wr.drewN nq).cell? ⟨gv, 7, none⟩ = some (.int .u32 (vh.toNat : Int)) := c7
              have nk : (wr.drewN nq).cell? ⟨kg, i, none⟩ = some (.int .u32 (xk.toNat : Int)) := ck
              have nw : (wr.drewN nq).cell? ⟨g, i, none⟩ = some (.int .u32 (yw.toNat : Int)) := cw
              have sn : Same W6 (wr.drewN nq) := s7.drewN nq
              clear s7 c0 c1 c2 c3 c4 c5 c6 c7 ck cw
              generalize wr.drewN nq = V1 at *
              clear nq
              have c0 := n0
              have c1 := n1
              have c2 := n2
              have c3 := n3
              have c4 := n4
              have c5 := n5
              have c6 := n6
              have c7 := n7
              have ck := nk
              have cw := nw
              have s7 := sn
              clear sn n0 n1 n2 n3 n4 n5 n6 n7 nk nw
              go_quiet (fail)
              go_wp2_with fail
              have n0 : (V1.drewN nq).cell? ⟨gv, 0, none⟩ = some (.int .u32 (va.toNat : Int)) := c0
              have n1 : (V1.drewN nq).cell? ⟨gv, 1, none⟩ = some (.int .u32 (vb.toNat : Int)) := c1
              have n2 : (V1.drewN nq).cell? ⟨gv, 2, none⟩ = some (.int .u32 (vc.toNat : Int)) := c2
              have n3 : (V1.drewN nq).cell? ⟨gv, 3, none⟩ = some (.int .u32 (vd.toNat : Int)) := c3
              have n4 : (V1.drewN nq).cell? ⟨gv, 4, none⟩ = some (.int .u32 (ve.toNat : Int)) := c4
              have n5 : (V1.drewN nq).cell? ⟨gv, 5, none⟩ = some (.int .u32 (vf.toNat : Int)) := c5
              have n6 : (V1.drewN nq).cell? ⟨gv, 6, none⟩ = some (.int .u32 (vg.toNat : Int)) := c6
              have n7 : (V1.drewN nq).cell? ⟨gv, 7, none⟩ = some (.int .u32 (vh.toNat : Int)) := c7
              have nk : (V1.drewN nq).cell? ⟨kg, i, none⟩ = some (.int .u32 (xk.toNat : Int)) := ck
              have nw : (V1.drewN nq).cell? ⟨g, i, none⟩ = some (.int .u32 (yw.toNat : Int)) := cw
              have sn : Same W6 (V1.drewN nq) := s7.drewN nq
              clear s7 c0 c1 c2 c3 c4 c5 c6 c7 ck cw
              generalize V1.drewN nq = V2 at *
              clear nq
              have c0 := n0
              have c1 := n1
              have c2 := n2
              have c3 := n3
              have c4 := n4
              have c5 := n5
              have c6 := n6
              have c7 := n7
              have ck := nk
              have cw := nw
              have s7 := sn
              clear sn n0 n1 n2 n3 n4 n5 n6 n7 nk nw
              go_quiet (fail)
              go_wp2_with fail
              have n0 : (V2.drewN nq).cell? ⟨gv, 0, none⟩ = some (.int .u32 (va.toNat : Int)) := c0
              have n1 : (V2.drewN nq).cell? ⟨gv, 1, none⟩ = some (.int .u32 (vb.toNat : Int)) := c1
              have n2 : (V2.drewN nq).cell? ⟨gv, 2, none⟩ = some (.int .u32 (vc.toNat : Int)) := c2
              have n3 : (V2.drewN nq).cell? ⟨gv, 3, none⟩ = some (.int .u32 (vd.toNat : Int)) := c3
              have n4 : (V2.drewN nq).cell? ⟨gv, 4, none⟩ = some (.int .u32 (ve.toNat : Int)) := c4
              have n5 : (V2.drewN nq).cell? ⟨gv, 5, none⟩ = some (.int .u32 (vf.toNat : Int)) := c5
              have n6 : (V2.drewN nq).cell? ⟨gv, 6, none⟩ = some (.int .u32 (vg.toNat : Int)) := c6
              have n7 : (V2.drewN nq).cell? ⟨gv, 7, none⟩ = some (.int .u32 (vh.toNat : Int)) := c7
              have nk : (V2.drewN nq).cell? ⟨kg, i, none⟩ = some (.int .u32 (xk.toNat : Int)) := ck
              have nw : (V2.drewN nq).cell? ⟨g, i, none⟩ = some (.int .u32 (yw.toNat : Int)) := cw
              have sn : Same W6 (V2.drewN nq) := s7.drewN nq
              clear s7 c0 c1 c2 c3 c4 c5 c6 c7 ck cw
              generalize V2.drewN nq = V3 at *
              clear nq
              have c0 := n0
              have c1 := n1
              have c2 := n2
              have c3 := n3
              have c4 := n4
              have c5 := n5
              have c6 := n6
              have c7 := n7
              have ck := nk
              have cw := nw
              have s7 := sn
              clear sn n0 n1 n2 n3 n4 n5 n6 n7 nk nw
              go_quiet (first | (with_reducible exact Calls.quiet_of_same (T2.out _)) | (with_reducible exact Calls.quiet_of_same (T13.out _)) | (with_reducible exact Calls.quiet_of_same (T22.out _)))
              go_wp2_with fail
              have n0 : (V3.drewN nq).cell? ⟨gv, 0, none⟩ = some (.int .u32 (va.toNat : Int)) := c0
              have n1 : (V3.drewN nq).cell? ⟨gv, 1, none⟩ = some (.int .u32 (vb.toNat : Int)) := c1
              have n2 : (V3.drewN nq).cell? ⟨gv, 2, none⟩ = some (.int .u32 (vc.toNat : Int)) := c2
              have n3 : (V3.drewN nq).cell? ⟨gv, 3, none⟩ = some (.int .u32 (vd.toNat : Int)) := c3
              have n4 : (V3.drewN nq).cell? ⟨gv, 4, none⟩ = some (.int .u32 (ve.toNat : Int)) := c4
              have n5 : (V3.drewN nq).cell? ⟨gv, 5, none⟩ = some (.int .u32 (vf.toNat : Int)) := c5
              have n6 : (V3.drewN nq).cell? ⟨gv, 6, none⟩ = some (.int .u32 (vg.toNat : Int)) := c6
              have n7 : (V3.drewN nq).cell? ⟨gv, 7, none⟩ = some (.int .u32 (vh.toNat : Int)) := c7
              have nk : (V3.drewN nq).cell? ⟨kg, i, none⟩ = some (.int .u32 (xk.toNat : Int)) := ck
              have nw : (V3.drewN nq).cell? ⟨g, i, none⟩ = some (.int .u32 (yw.toNat : Int)) := cw
              have sn : Same W6 (V3.drewN nq) := s7.drewN nq
              clear s7 c0 c1 c2 c3 c4 c5 c6 c7 ck cw
              generalize V3.drewN nq = V4 at *
              clear nq
              have c0 := n0
              have c1 := n1
              have c2 := n2
              have c3 := n3
              have c4 := n4
              have c5 := n5
              have c6 := n6
              have c7 := n7
              have ck := nk
              have cw := nw
              have s7 := sn
              clear sn n0 n1 n2 n3 n4 n5 n6 n7 nk nw
              go_quiet (fail)
              go_wp2_with fail
              have n0 : (V4.drewN nq).cell? ⟨gv, 0, none⟩ = some (.int .u32 (va.toNat : Int)) := c0
              have n1 : (V4.drewN nq).cell? ⟨gv, 1, none⟩ = some (.int .u32 (vb.toNat : Int)) := c1
              have n2 : (V4.drewN nq).cell? ⟨gv, 2, none⟩ = some (.int .u32 (vc.toNat : Int)) := c2
              have n3 : (V4.drewN nq).cell? ⟨gv, 3, none⟩ = some (.int .u32 (vd.toNat : Int)) := c3
              have n4 : (V4.drewN nq).cell? ⟨gv, 4, none⟩ = some (.int .u32 (ve.toNat : Int)) := c4
              have n5 : (V4.drewN nq).cell? ⟨gv, 5, none⟩ = some (.int .u32 (vf.toNat : Int)) := c5
              have n6 : (V4.drewN nq).cell? ⟨gv, 6, none⟩ = some (.int .u32 (vg.toNat : Int)) := c6
              have n7 : (V4.drewN nq).cell? ⟨gv, 7, none⟩ = some (.int .u32 (vh.toNat : Int)) := c7
              have nk : (V4.drewN nq).cell? ⟨kg, i, none⟩ = some (.int .u32 (xk.toNat : Int)) := ck
              have nw : (V4.drewN nq).cell? ⟨g, i, none⟩ = some (.int .u32 (yw.toNat : Int)) := cw
              have sn : Same W6 (V4.drewN nq) := s7.drewN nq
              clear s7 c0 c1 c2 c3 c4 c5 c6 c7 ck cw
              generalize V4.drewN nq = V5 at *
              clear nq
              have c0 := n0
              have c1 := n1
              have c2 := n2
              have c3 := n3
              have c4 := n4
              have c5 := n5
              have c6 := n6
              have c7 := n7
              have ck := nk
              have cw := nw
              have s7 := sn
              clear sn n0 n1 n2 n3 n4 n5 n6 n7 nk nw
              clear ck cw c7
              go_region_held3 (fun w' => w'.cell? ⟨gv, 0, none⟩ = some (.int .u32 (va.toNat : Int)) ∧ w'.cell? ⟨gv, 1, none⟩ = some (.int .u32 (vb.toNat : Int)) ∧ w'.cell? ⟨gv, 2, none⟩ = some (.int .u32 (vc.toNat : Int)) ∧ w'.cell? ⟨gv, 3, none⟩ = some (.int .u32 (vd.toNat : Int)) ∧ w'.cell? ⟨gv, 4, none⟩ = some (.int .u32 (ve.toNat : Int)) ∧ w'.cell? ⟨gv, 5, none⟩ = some (.int .u32 (vf.toNat : Int)) ∧ w'.cell? ⟨gv, 6, none⟩ = some (.int .u32 (vg.toNat : Int))) (first | go_keep) (first | fail)
              have U8 : ∀ W, W.heap[V5.heap.size]? = some (.cells #[.int .u32 (na.toNat : Int), .int .u32 (va.toNat : Int), .int .u32 (vb.toNat : Int), .int .u32 (vc.toNat : Int), .int .u32 (nd.toNat : Int), .int .u32 (ve.toNat : Int), .int .u32 (vf.toNat : Int), .int .u32 (vg.toNat : Int)] 57 (0, 0)) → UAt W V5.heap.size 0 [na, va, vb, vc, nd, ve, vf, vg] := by
                intro W hW j x hx
                rw [Nat.zero_add, cell_of_row _ _ _ _ _ _ hW]
                match j, hx with
                | 0, hx => simp at hx; subst hx; rfl
                | 1, hx => simp at hx; subst hx; rfl
                | 2, hx => simp at hx; subst hx; rfl
                | 3, hx => simp at hx; subst hx; rfl
                | 4, hx => simp at hx; subst hx; rfl
                | 5, hx => simp at hx; subst hx; rfl
                | 6, hx => simp at hx; subst hx; rfl
                | 7, hx => simp at hx; subst hx; rfl
                | j + 8, hx => simp at hx
              have U9 := U8 _ (heap_alloc_new V5 _)
              have s8 := (s7.alloc (.cells #[.int .u32 (na.toNat : Int), .int .u32 (va.toNat : Int), .int .u32 (vb.toNat : Int), .int .u32 (vc.toNat : Int), .int .u32 (nd.toNat : Int), .int .u32 (ve.toNat : Int), .int .u32 (vf.toNat : Int), .int .u32 (vg.toNat : Int)] 57)).drew
              clear U8 c0 c1 c2 c3 c4 c5 c6
              go_wp2_with fail
              go_roundg (64 - (i + 1))
              case measure => omega
              case rel => exact ⟨i + 1, V5.heap.size, 8, ⟨na, va, vb, vc, nd, ve, vf, vg⟩, rfl, by go_num, by omega, rfl, U9, HR', s8⟩
            · have hi64' : (i : Int) = 64 := by omega
              rw [hi64']
              clear hi64'
              obtain rfl : i = 64 := by omega
              have hq : (⟨va, vb, vc, vd, ve, vf, vg, vh⟩ : W8) = R := by
                have h1 := HR.out
                rw [List.drop_of_length_le (by decide), List.drop_of_length_le (by rw [hlw.out]; omega)] at h1
                exact h1
              have HQ : Hid ((⟨va, vb, vc, vd, ve, vf, vg, vh⟩ : W8) = R) := hq
              obtain ⟨QL, hQL⟩ : ∃ l, l = [va, vb, vc, vd, ve, vf, vg, vh] := ⟨_, rfl⟩
              obtain ⟨HL, hHL⟩ : ∃ l, l = [H.a, H.b, H.c, H.d, H.e, H.f, H.g, H.h] := ⟨_, rfl⟩
              have hQ8 : QL.length = 8 := by rw [hQL]; rfl
              have hH8 : HL.length = 8 := by rw [hHL]; rfl
              have UQ : UAt wr gv 0 QL := by rw [hQL]; exact HU.out
              have UH : UAt wr hg ho HL := by rw [hHL]; exact HH.out.same (s6.trans s7)
              have HQL : Hid (QL = [va, vb, vc, vd, ve, vf, vg, vh] ∧ HL = [H.a, H.b, H.c, H.d, H.e, H.f, H.g, H.h]) := ⟨hQL, hHL⟩
              have HUQ : Hid (UAt wr gv 0 QL ∧ UAt wr hg ho HL ∧ QL.length = 8 ∧ HL.length = 8) := ⟨UQ, UH, hQ8, hH8⟩
              have s67 : Same w wr := s6.trans s7
              clear hQL hHL UQ UH hQ8 hH8 hq HR HU s7 UK UW
              generalize wr = W9 at *
              go_wp2_with fail
              go_loopg [19, 20] 8 (fun gg v iv wq => ∃ (k : Nat) (ao : Option Addr) (c : Nat), v = .slice ao k c ∧ iv = .int .i64 k ∧ k ≤ 8 ∧ gg = 8 - k ∧ (k ≠ 0 → ∃ g', ao = some ⟨g', 0, none⟩) ∧ Hid (wq.ownsRow W9.heap.size 57 1 (.slice ao k c) k (ucells ((List.range k).map (fun j => HL.getD j 0 + QL.getD j 0)))) ∧ Same W9 wq)
              case atStart => exact ⟨0, none, 0, rfl, rfl, by omega, rfl, fun e => absurd rfl e, World.ownsRow_nil _ _ _ _, Fr.refl _ _⟩
              case round =>
                obtain ⟨k, ao, c8, rfl, rfl, hk, rfl, hao, hown, s9⟩ := hrel
                by_cases hgo : k < 8
                · obtain ⟨UQ, UH, hQ8, hH8⟩ := HUQ.out
                  have cq := (UQ.same s9).get k (by omega)
                  have chh := (UH.same s9).get k (by omega)
                  rw [Nat.zero_add] at cq
                  have hS2 : ∀ W, Same W9 W → W.cell? ⟨hg, ho + k, none⟩ = some (.int .u32 ((HL.getD k 0).toNat : Int)) ∧ W.cell? ⟨gv, k, none⟩ = some (.int .u32 ((QL.getD k 0).toNat : Int)) := by
                    intro W sW
                    have a1 := (UQ.same sW).get k (by omega)
                    rw [Nat.zero_add] at a1
                    exact ⟨(UH.same sW).get k (by omega), a1⟩
                  obtain ⟨x, hx⟩ : ∃ x, x = HL.getD k 0 + QL.getD k 0 := ⟨_, rfl⟩
                  have HX : Hid (HL.getD k 0 + QL.getD k 0 = x) := hx.symm
                  have ex : IntKind.u32.wrap (((HL.getD k 0).toNat : Int) + ((QL.getD k 0).toNat : Int)) = (x.toNat : Int) := by rw [hx]; exact p32 _ _
                  obtain ⟨xh, hxh⟩ : ∃ z, z = HL.getD k 0 := ⟨_, rfl⟩
                  obtain ⟨xq, hxq⟩ : ∃ z, z = QL.getD k 0 := ⟨_, rfl⟩
                  rw [← hxh] at chh hS2 ex
                  rw [← hxq] at cq hS2 ex
                  clear hxh hxq
                  have hown' := hown.out
                  have hsz := s9.size
                  have hone : ∀ u ∈ [Value.int .u32 x.toNat], u.oneCell' = true := by intro u hu; simp at hu; subst hu; rfl
                  have hmx : k + 1 ≤ maxLen := by unfold maxLen; omega
                  have hby : (k + 1) * 4 ≤ 140737488355328 := by omega
                  have hbs : ∀ o, W9.heap.size ≤ (wr.alloc o).drew.heap.size := fun o => by simp; omega
                  have hHs : ∀ o, (wr.alloc o).drew.heap.size = wr.heap.size + 1 := fun o => by simp
                  have hfar : ∀ b, (Value.slice ao k c8).ownBlock = some b → b < W9.heap.size → False := fun b hb hlt => by have := (hown'.lt b hb).1; omega
                  have bk0 : (0 : Int) ≤ (k : Int) := by omega
                  have bk1 : (k : Int) < 8 := by omega
                  clear hx UQ UH hQ8 hH8
                  go_wp2_with fail
                  go_region_held3 (fun w' => w'.cell? ⟨hg, ho + k, none⟩ = some (.int .u32 (xh.toNat : Int)) ∧ w'.cell? ⟨gv, k, none⟩ = some (.int .u32 (xq.toNat : Int))) (first | go_keep | exact k4) (first | (refine step_append_lies _ (by rfl) _ _ _ (by rfl) W9.heap.size 57 i0 (.int .u32 0) 1 4 Tryd.underlying67 hi hi0 hi1 hi2 rfl (by decide) _ _ _ (by rfl) (own_drew (hown'.alloc _)) ⟨wr.heap.size, 0, none⟩ 1 1 [Value.int .u32 x.toNat] (by rfl) (by rfl) (World.news_of_block (cs := #[Value.int .u32 x.toNat]) (heap_alloc_new wr _)) hone (by decide) hmx hby (hbs _) (wr.heap.size + 1) (hHs _) ?_; intro g5 cap5 W5 hown5 hgrow5 hat5 _; have s5 : Same W9 W5 := Fr.grown ((s9.alloc _).drew) hgrow5 hfar; have k4 := hS2 W5 s5))
                  have O5 : W5.ownsRow W9.heap.size 57 1 (.slice (some ⟨g5, 0, none⟩) (k + 1) cap5) (k + 1) (ucells ((List.range (k + 1)).map (fun j => HL.getD j 0 + QL.getD j 0))) := by
                    rw [List.range_succ, List.map_append, ucells_append, List.map_singleton, HX.out]
                    exact hown5
                  clear k4 hown5 hgrow5 hat5 hS2 hfar hbs hHs cq chh
                  go_wp2_with fail
                  go_roundg (8 - (k + 1))
                  case measure => omega
                  case rel => exact ⟨k + 1, some ⟨g5, 0, none⟩, cap5, rfl, by go_num, by omega, rfl, fun _ => ⟨g5, rfl⟩, O5, s5⟩
                · obtain rfl : k = 8 := by omega
                  obtain ⟨g9, rfl⟩ := hao (by omega)
                  have HF : Hid (UAt wr g9 0 [(mixB H B).a, (mixB H B).b, (mixB H B).c, (mixB H B).d, (mixB H B).e, (mixB H B).f, (mixB H B).g, (mixB H B).h]) := by
                    have hu := own_uat hown.out
                    have hm : mixB H B = H.add R := by unfold mixB; rw [← HWd.out, ← HRR.out]
                    have e : (List.range 8).map (fun j => HL.getD j 0 + QL.getD j 0) = [(mixB H B).a, (mixB H B).b, (mixB H B).c, (mixB H B).d, (mixB H B).e, (mixB H B).f, (mixB H B).g, (mixB H B).h] := by
                      rw [hm, ← HQ.out, HQL.out.1, HQL.out.2]
                      rfl
                    rw [e] at hu
                    exact hu
                  clear hown
                  go_wp2_with fail
                  go_ret
                  exact ⟨g9, c8, rfl, HF.out, s67.trans s9⟩
end Go.Proofs.YthkhfblpdekjhaaDoor
