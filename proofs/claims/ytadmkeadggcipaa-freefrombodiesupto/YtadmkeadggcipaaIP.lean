/- free: the walk of apart. -/
import Derived.Test.YtadmkeadggcipaaIO
import Derived.Test.YtadmkeadggcipaaYB
namespace Go.Proofs.Ytadmkeadggcipaa
open Go.RowKit Go.Maps

theorem found {w W : World} {lb lo n gm mc : Nat} {L M : List Rw} (h : Grw w W (some ⟨lb, lo, none⟩) lb lo L n (some ⟨gm, 0, none⟩) mc M) (hl : ∀ x ∈ L, x.n ≤ 1099511627000) (i : Nat) (hi : i < L.length) (hn : i < n) : ∃ x y gy, Fnd W lb lo gm i x y gy := by
  obtain ⟨x, hx⟩ : ∃ x, L[i]? = some x := ⟨_, List.getElem?_eq_getElem hi⟩
  obtain ⟨⟨y, hy, hyn, hyr, _⟩, gx, hnr⟩ := h.fin i x hn hx
  obtain ⟨gy, hya, _⟩ := own_some hyr (by rw [hyn]; omega)
  have hyr3 := hyr
  unfold RIs at hyr3
  rw [hya] at hyr3
  refine ⟨x, y, gy, hya, hyn, hl x (List.mem_of_getElem? hx), h.out.cells i x hx, own_cell (own_base h.more (Nat.zero_le _)) (by rw [List.getElem?_map, hy]; rfl), fun k hk => ?_, fun k hk hk2 => ?_⟩
  · have hnn := hnr.place (by intro e; have := congrArg List.length e; simp at this; omega)
    refine ⟨gx, hnn.1, ?_, ?_⟩
    · have := hnr.cells k (100000 + i) (by rw [List.getElem?_replicate, if_pos hk])
      rw [Nat.zero_add] at this
      rw [this]; congr 2
    · refine (own_cell hyr3 (j := k) (u := .int .u32 ((100000 + i : Nat) : Int)) ?_).trans (by congr 2)
      unfold ncells
      rw [List.getElem?_map, List.getElem?_append_left (by simpa using hk), List.getElem?_replicate, if_pos hk]
      rfl
  · refine (own_cell hyr3 (j := k) (u := .int .u32 ((300000 + i : Nat) : Int)) ?_).trans (by congr 2)
    unfold ncells
    rw [List.getElem?_map, List.getElem?_append_right (by simpa using hk), List.length_replicate, List.getElem?_replicate, if_pos (by omega)]
    rfl
set_option maxRecDepth 100000 in
set_option maxHeartbeats 2000000 in
theorem apartN_true {la : Option Addr} {lb lo lc : Nat} {L : List Rw} (w : World) (ho : OutAt w la lb lo L) (hr : Apt w L) (hl : L.length ≤ 1000000) (hne : L ≠ []) :
    Calls Try.prog 17 #[.slice la L.length lc, .slice none 0 0] w fun e w' => e = .returned (.bool true) ∧ Fr (inB L) w w' := by
  have HM0 : Hid (Mkd w w la lb lo L 0) := ⟨ho, hr, fun i x hi => absurd hi (Nat.not_lt_zero _), Fr.refl _ w⟩
  have HLen : Hid (∀ x ∈ L, x.n ≤ 1099511627000) := hr.len
  have HSt : Hid (St w lb L) := ⟨hr.dis, fun i x k hx hk => by obtain ⟨xs, hxs⟩ := hr.rows i x hx; exact (hxs.blk hk).2, fun hne => by obtain ⟨_, cs, fr, h2⟩ := ho.place hne; exact lt_of_heap h2⟩
  obtain ⟨n, hnn⟩ : ∃ n, n = L.length := ⟨_, rfl⟩
  rw [← hnn] at hl ⊢
  have HN : Hid (n = L.length) := hnn
  have HNe : Hid (L ≠ []) := hne
  clear ho hr hnn hne
  go_enter Try.func17, Try.ntmps17
  go_wp2_with fail
  go_loopg [5] n (fun g iv wr => ∃ i : Nat, iv = .int .i64 (i : Int) ∧ i ≤ n ∧ g = n - i ∧ Hid (Mkd w wr la lb lo L i))
  case atStart => exact ⟨0, rfl, by omega, rfl, HM0⟩
  case round =>
    obtain ⟨i, rfl, hi, hg, HM⟩ := hrel
    by_cases hgo : i < n
    · have hgi : (i : Int) < (n : Int) := by omega
      obtain ⟨x, hx⟩ : ∃ x, L[i]? = some x := ⟨_, List.getElem?_eq_getElem (by rw [← HN.out]; exact hgo)⟩
      have hne : L ≠ [] := by intro e; rw [e] at hx; simp at hx
      obtain ⟨hla, _⟩ := HM.out.out.place hne
      subst hla
      have HX : Hid (L[i]? = some x) := hx
      have hxn := HLen.out x (List.mem_of_getElem? hx)
      obtain ⟨xa, xn, xc⟩ := x
      have hxn : xn ≤ 1099511627000 := hxn
      have hwj : RowKit.wrap64 (100000 + (i : Int)) = 100000 + (i : Int) := by unfold RowKit.wrap64; omega
      have hwk : IntKind.u32.wrap (100000 + (i : Int)) = 100000 + (i : Int) := by rw [IntKind.wrap_u32]; omega
      have HI : Hid (i < n ∧ n ≤ 1000000) := ⟨hgo, hl⟩
      clear hx hne
      go_wp2_with fail
      generalize wr = W1 at *
      have hgi1 := hgi
      go_loopg [6] xn (fun g iv wr => ∃ (k : Nat) (xs : List Nat), iv = .int .i64 (k : Int) ∧ k ≤ xn ∧ g = xn - k ∧ Hid (Mkd w wr (some ⟨lb, lo, none⟩) lb lo L i ∧ RIs wr ⟨xa, xn, xc⟩ xs ∧ xs.take k = List.replicate k (100000 + i)))
      case atStart =>
        obtain ⟨xs, hxs⟩ := HM.out.apt.rows i _ HX.out
        exact ⟨0, xs, rfl, by omega, rfl, HM.out, hxs, rfl⟩
      case round =>
        obtain ⟨k, xs, rfl, hk, hg2, HK⟩ := hrel
        have c1 := HK.out.1.out.cells i _ HX.out
        have c1 : wr.cell? ⟨lb, lo + i, none⟩ = some (.slice xa xn xc) := c1
        by_cases hgk : k < xn
        · have hki : (k : Int) < (xn : Int) := by omega
          obtain ⟨g, rfl, _⟩ := own_some (HK.out.2.1) (by show xn ≠ 0; omega)
          have hlx := HK.out.2.1.len
          have hlx : xs.length = xn := hlx
          obtain ⟨y, hy⟩ : ∃ y, xs[k]? = some y := ⟨_, List.getElem?_eq_getElem (by omega)⟩
          have c2 : wr.cell? ⟨g, k, none⟩ = some (.int .u32 (y : Int)) := own_cell HK.out.2.1 (by unfold ncells; rw [List.getElem?_map, hy]; rfl)
          have hfz : wr.frozen? ⟨g, k, none⟩ = false := own_frozen HK.out.2.1
          clear hy hlx
          obtain ⟨W2, hW2⟩ : ∃ W2, W2 = wr.setCell ⟨g, k, none⟩ (.int .u32 (100000 + (i : Int))) := ⟨_, rfl⟩
          have HK2 : Hid (Mkd w W2 (some ⟨lb, lo, none⟩) lb lo L i ∧ RIs W2 ⟨some ⟨g, 0, none⟩, xn, xc⟩ (xs.set k (100000 + i)) ∧ (xs.set k (100000 + i)).take (k + 1) = List.replicate (k + 1) (100000 + i)) := by
            obtain ⟨q1, q2⟩ := HK.out.1.put (k := k) (v := 100000 + i) HX.out HK.out.2.1 rfl W2 (by rw [hW2]; congr 2)
            exact ⟨q1, q2, set_rep (by have := HK.out.2.1.len; show k < xs.length; rw [this]; exact hgk) HK.out.2.2⟩
          go_wp2_with fail
          rw [← hW2]
          clear hW2 c2 hfz
          go_roundg (xn - (k + 1))
          case measure => omega
          case rel => exact ⟨k + 1, _, by go_num, by omega, rfl, HK2⟩
        · have hki : ¬ (k : Int) < (xn : Int) := by omega
          obtain rfl : xn = k := by omega
          have HM2 : Hid (Mkd w wr (some ⟨lb, lo, none⟩) lb lo L (i + 1)) := HK.out.1.next HX.out HK.out.2.1 HK.out.2.2
          go_wp2_with fail
          go_roundg (n - (i + 1))
          case measure => omega
          case rel => exact ⟨i + 1, by go_num, by omega, rfl, HM2⟩
    · have hgi : ¬ (i : Int) < (n : Int) := by omega
      obtain rfl : n = i := by omega
      go_wp2_with fail
      go_loopg [7] 0 (fun g iv W => iv = .int .i64 0 ∧ g = 0 ∧ Hid (Mkd w W la lb lo L n))
      case atStart => exact ⟨rfl, rfl, HM⟩
      case round =>
        clear HM
        obtain ⟨rfl, hg, HM⟩ := hrel
        go_wp2_with fail
        have HG0 : Hid (Grw w wr la lb lo L 0 none 0 []) := Grw.start HM.out HN.out
        clear HM
        go_loopg [9, 10] n (fun g mv iv W => ∃ (i : Nat) (ma : Option Addr) (mc : Nat) (M : List Rw), mv = .slice ma i mc ∧ iv = .int .i64 (i : Int) ∧ i ≤ n ∧ g = n - i ∧ Hid (Grw w W la lb lo L i ma mc M))
        case atStart => exact ⟨0, none, 0, [], rfl, rfl, by omega, rfl, HG0⟩
        case round =>
          clear HG0
          obtain ⟨i, ma, mc, M, rfl, rfl, hi, hg3, HG⟩ := hrel
          by_cases hgo : i < n
          · have hgi : (i : Int) < (n : Int) := by omega
            obtain ⟨x, hx⟩ : ∃ x, L[i]? = some x := ⟨_, List.getElem?_eq_getElem (by rw [← HN.out]; exact hgo)⟩
            have hne : L ≠ [] := by intro e; rw [e] at hx; simp at hx
            obtain ⟨hla, _⟩ := HG.out.out.place hne
            subst hla
            have HX : Hid (L[i]? = some x) := hx
            have hxn := HLen.out x (List.mem_of_getElem? hx)
            have HR1 : Hid (Gr1 wr wr x (100000 + i) (300000 + i) 0 x) := Gr1.start (HG.out.left i x (Nat.le_refl _) hx)
            have c1 := HG.out.out.cells i _ hx
            have HXn : Hid (x.n ≤ 1099511627000) := hxn
            obtain ⟨xa, xn, xc⟩ := x
            have c1 : wr.cell? ⟨lb, lo + i, none⟩ = some (.slice xa xn xc) := c1
            have hwj : RowKit.wrap64 (300000 + (i : Int)) = 300000 + (i : Int) := by unfold RowKit.wrap64; omega
            have hwk : IntKind.u32.wrap (300000 + (i : Int)) = 300000 + (i : Int) := by rw [IntKind.wrap_u32]; omega
            obtain ⟨b, hb⟩ : ∃ b : Nat, b = 300000 + i := ⟨_, rfl⟩
            have hbi : 300000 + (i : Int) = (b : Int) := by omega
            rw [← hb] at HR1
            rw [hbi] at hwj hwk
            have HBB : Hid (b = 300000 + i) := hb
            clear hx hne hxn hb
            go_wp2_with fail
            clear c1
            generalize wr = W0 at *
            go_loopg [11, 12] 70 (fun g rv iv W => ∃ (k : Nat) (r : Rw), rv = .slice r.ao r.n r.c ∧ iv = .int .i64 (k : Int) ∧ k ≤ 70 ∧ g = 70 - k ∧ Hid (Gr1 W0 W ⟨xa, xn, xc⟩ (100000 + i) b k r))
            case atStart => exact ⟨0, _, rfl, rfl, by omega, rfl, HR1⟩
            case round =>
              clear HR1
              obtain ⟨k, r, rfl, rfl, hk, hg4, HR⟩ := hrel
              by_cases hgk : k < 70
              · have hki : (k : Int) < 70 := by omega
                have HRA : Hid (Gr1 W0 (wr.alloc (.cells #[.int .u32 (b : Int)] 27)) ⟨xa, xn, xc⟩ (100000 + i) b k r) := HR.out.same ((Fr.refl _ wr).alloc _)
                have hjb : r.n + 1 ≤ 1099511627776 := by have h1 := HR.out.n; have h2 := HXn.out; simp only at h1 h2; omega
                have hrl : r.n = (List.replicate xn (100000 + i) ++ List.replicate k b).length := HR.out.row.len.symm
                have hrow := HRA.out.row
                have HRW : Hid ((wr.alloc (.cells #[.int .u32 (b : Int)] 27)).ownsRow 0 27 1 (.slice r.ao r.n r.c) r.n (ncells (List.replicate xn (100000 + i) ++ List.replicate k b))) := hrow
                have hcell : (wr.alloc (.cells #[.int .u32 (b : Int)] 27)).cell? ⟨wr.heap.size, 0, none⟩ = some (.int .u32 (b : Int)) := by simp
                have HCE : Hid ((wr.alloc (.cells #[.int .u32 (b : Int)] 27)).cell? ⟨wr.heap.size, 0, none⟩ = some (.int .u32 (b : Int))) := hcell
                have HRL : Hid (r.n = (List.replicate xn (100000 + i) ++ List.replicate k b).length) := hrl
                obtain ⟨ra, rn, rc⟩ := r
                clear hrow hcell hrl HR
                go_wp2_with (at_builtin; go_must (refine wpList_append_nboth _ (by rfl) _ _ (by rfl) 0 _ _ _ _ HRL.out (by rfl) HRW.out ⟨wr.heap.size, 0, none⟩ 1 b (by rfl) HCE.out hjb (Nat.zero_le _) ?_; intro g2 c2 X2 o2 gr2 kp2 at2))
                have HR2 : Hid (Gr1 W0 X2 ⟨xa, xn, xc⟩ (100000 + i) b (k + 1) ⟨some ⟨g2, 0, none⟩, rn + 1, c2⟩) := HRA.out.step o2 gr2 kp2 at2
                clear o2 gr2 kp2 at2 hjb
                go_wp2_with fail
                go_roundg (70 - (k + 1))
                case measure => omega
                case rel => exact ⟨k + 1, ⟨some ⟨g2, 0, none⟩, rn + 1, c2⟩, rfl, by go_num, by omega, rfl, HR2⟩
              · have hki : ¬ (k : Int) < 70 := by omega
                obtain rfl : k = 70 := by omega
                obtain ⟨ra, rn, rc⟩ := r
                have HMo : Hid ((wr.alloc (.cells #[.slice ra rn rc] 28)).ownsRow w.heap.size 28 1 (.slice ma i mc) i (M.map Rw.v)) := own_frameB HG.out.more (Fr.alloc HR.out.base _) (HG.out.mne HX.out)
                have HRb : Hid (Gr1 W0 wr ⟨xa, xn, xc⟩ (100000 + i) (300000 + i) 70 ⟨ra, rn, rc⟩) := by rw [← HBB.out]; exact HR
                have hjb : i + 1 ≤ 1099511627776 := by omega
                have hvb : w.heap.size ≤ (wr.alloc (.cells #[.slice ra rn rc] 28)).heap.size := by
                  have h1 := HG.out.base.size
                  have h2 := HR.out.base.size
                  rw [World.size_alloc]
                  omega
                clear HR
                go_wp2_with (at_builtin; go_must (refine wpList_partLss _ (by rfl) _ _ (by rfl) (by rfl) HMo.out (x := ⟨some ⟨wr.heap.size, 0, none⟩, 1, 1, [.slice ra rn rc]⟩) (by rfl) (part_oneN _ _ (heap_alloc_new wr _) rfl) hjb hvb ?_; intro ma2 mc2 X2 o2 gr2))
                have HG2 : Hid (Grw w X2 (some ⟨lb, lo, none⟩) lb lo L (i + 1) ma2 mc2 (M ++ [⟨ra, rn, rc⟩])) := by
                  have e : (Value.slice ma i mc).ownBlock = ma.map (·.block) := Rw.blk_map ⟨ma, i, mc⟩
                  rw [e] at gr2
                  refine HG.out.next HSt.out HX.out HRb.out (Fr.grown (S := fun k => ma.map (·.block) = some k) ((Fr.refl _ wr).alloc _) gr2 (fun k e _ => e)) ?_
                  rw [List.map_append]
                  exact o2
                clear o2 gr2 hjb hvb
                go_wp2_with fail
                go_roundg (n - (i + 1))
                case measure => omega
                case rel => exact ⟨i + 1, ma2, mc2, _, rfl, by go_num, by omega, rfl, HG2⟩
          · have hgi : ¬ (i : Int) < (n : Int) := by omega
            obtain rfl : n = i := by omega
            go_wp2_with fail
            go_loopg [14] 0 (fun g iv W => iv = .int .i64 0 ∧ g = 0 ∧ Hid (Grw w W la lb lo L n ma mc M))
            case atStart => exact ⟨rfl, rfl, HG⟩
            case round =>
              clear HG
              obtain ⟨rfl, hg5, HG⟩ := hrel
              go_wp2_with fail
              obtain ⟨hla, _⟩ := HG.out.out.place HNe.out
              subst hla
              obtain ⟨gm, rfl, _⟩ := own_some (own_base HG.out.more (Nat.zero_le _)) (by have := HN.out; have := List.length_pos_iff.2 HNe.out; omega)
              refine outLoop (gm := gm) (mc := mc) (lb := lb) (lo := lo) (n := n) (lc := lc) _ _ ⟨rfl, rfl, rfl, rfl, rfl⟩ rfl hl (fun i hi => found HG.out HLen.out i (by rw [← HN.out]; exact hi) hi) (fun a I => ?_)
              simp only [Exit.then, Exit.inBlock, ↓reduceIte]
              go_step
              change Code.wp _ (cEnd _) _ _ _
              refine endC a _ I (fun a2 hd h4 => ?_)
              refine bodyPost_ret (results_tmp rfl _ _ _) hd ?_
              change _ = Ending.returned (.bool true) ∧ _
              refine ⟨congrArg Ending.returned h4, HG.out.base⟩
end Go.Proofs.Ytadmkeadggcipaa
