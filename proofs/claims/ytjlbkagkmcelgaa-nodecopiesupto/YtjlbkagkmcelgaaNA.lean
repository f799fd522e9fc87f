/- A branch's kids laid: Each over kids. -/
import Derived.Test.YtjlbkagkmcelgaaN9
import Derived.Deep.OwnRows
namespace Go.Proofs.Ytjlbkagkmcelgaa
open Go.RowKit

def kidsB (pages : Bool) (q : Int) : Bool → List ByteArray → List Kid → List UInt8
  | _, _, [] => []
  | true, ss, k :: ks => kidB pages q k ++ kidsB pages q false ss ks
  | false, [], k :: ks => kidB pages q k ++ kidsB pages q false [] ks
  | false, s :: ss, k :: ks => textB s ++ kidB pages q k ++ kidsB pages q false ss ks
theorem KSt.same {w W W' : World} {b : Nat} {bs : List UInt8} {fb sb : Nat} {f : Bool} {sv : Value} (h : KSt w W b bs fb sb f sv) (s : Same W W') : KSt w W' b bs fb sb f sv := by
  obtain ⟨g, hw, hs⟩ := h.step
  exact hs _ g bs (hw.same1 s) ⟨s.mono (fun _ _ f => f.elim), fun _ hk => Or.inl hk⟩
def zeroKid : Kid := ⟨0, List.replicate 32 0⟩
theorem zeroKid_lit : (#[.int .u32 0, .int .u8 0, .int .u8 0, .int .u8 0, .int .u8 0, .int .u8 0, .int .u8 0, .int .u8 0, .int .u8 0, .int .u8 0, .int .u8 0, .int .u8 0, .int .u8 0, .int .u8 0, .int .u8 0, .int .u8 0, .int .u8 0, .int .u8 0, .int .u8 0, .int .u8 0, .int .u8 0, .int .u8 0, .int .u8 0, .int .u8 0, .int .u8 0, .int .u8 0, .int .u8 0, .int .u8 0, .int .u8 0, .int .u8 0, .int .u8 0, .int .u8 0, .int .u8 0] : Array Value) = (kcells zeroKid).toArray := rfl
theorem kcells_one (k : Kid) : (kcells k).toArray.all (·.oneCell') = true := all_oneCell_toArray (by
  intro x hx
  simp only [kcells, List.mem_cons, bcells, List.mem_map] at hx
  rcases hx with rfl | ⟨b, _, rfl⟩ <;> rfl)
theorem wst_kst {w W : World} {b : Nat} {bs : List UInt8} {fb sb : Nat} {f : Bool} {sv : Value} (h : KSt w W b bs fb sb f sv) : WSt w W b bs := by
  obtain ⟨g, hw, hg⟩ := h.wr
  exact ⟨g, hw, h.ne.1, fun k hk => (hg k hk).1, h.base⟩
/-- What is still to be laid. -/
def restB (pages : Bool) (q : Int) (ss : List ByteArray) (ks : List Kid) (k : Nat) : List UInt8 := kidsB pages q (decide (k = 0)) (ss.drop (k - 1)) (ks.drop k)
theorem restB_zero (pages : Bool) (q : Int) (ss : List ByteArray) (ks : List Kid) : restB pages q ss ks 0 = kidsB pages q true ss ks := rfl
theorem restB_first {pages : Bool} {q : Int} {ss : List ByteArray} {ks : List Kid} {x : Kid} (hx : ks[0]? = some x) : restB pages q ss ks 0 = kidB pages q x ++ restB pages q ss ks 1 := by
  cases ks with
  | nil => simp at hx
  | cons y ks => simp at hx; subst hx; rfl
theorem restB_next {pages : Bool} {q : Int} {ss : List ByteArray} {ks : List Kid} {x : Kid} {s : ByteArray} {k : Nat} (hx : ks[k + 1]? = some x) (hs : ss[k]? = some s) : restB pages q ss ks (k + 1) = textB s ++ kidB pages q x ++ restB pages q ss ks (k + 2) := by
  have hl := (List.getElem?_eq_some_iff.1 hx).1
  have hl2 := (List.getElem?_eq_some_iff.1 hs).1
  have e1 : ks.drop (k + 1) = x :: ks.drop (k + 2) := by
    have e : ks[k + 1] = x := by rw [List.getElem?_eq_getElem hl] at hx; exact Option.some.inj hx
    rw [List.drop_eq_getElem_cons hl, e]
  have e2 : ss.drop k = s :: ss.drop (k + 1) := by
    have e : ss[k] = s := by rw [List.getElem?_eq_getElem hl2] at hs; exact Option.some.inj hs
    rw [List.drop_eq_getElem_cons hl2, e]
  unfold restB
  rw [show k + 1 - 1 = k from rfl, show k + 2 - 1 = k + 1 from rfl, e1, e2]
  rfl
theorem restB_len {pages : Bool} {q : Int} {ss : List ByteArray} {ks : List Kid} {k : Nat} (h : ks.length ≤ k) : restB pages q ss ks k = [] := by
  unfold restB
  rw [List.drop_of_length_le h]
  cases (decide (k = 0)) <;> cases (ss.drop (k - 1)) <;> rfl

theorem eql_kids_page (W : World) (fb sb xb ab : Nat) : (binOp .eql 69 (.func (.func 47) #[] #[.pointer (some ⟨fb, 0, none⟩), .pointer (some ⟨sb, 0, none⟩), .pointer (some ⟨xb, 0, none⟩), .pointer (some ⟨ab, 0, none⟩)]) .nilFunc).run Try.prog W = .ok (.bool false) W := by kernel_rfl
set_option maxRecDepth 100000 in
set_option maxHeartbeats 1000000 in
theorem eachKid_page {w W : World} {b : Nat} {bs : List UInt8} {fb sb xb ab : Nat} {q : Int} {ss : List ByteArray} {ks : List Kid} {sa ka : Option Addr} {rb ro cs kb ko ck : Nat} (hS : TRow w sa rb ro ss) (hK : KRow w ka kb ko ks) (hok : ∀ x ∈ ks, KidOk x) (hsl : ss.length + 1 = ks.length) (hcs : ss.length ≤ cs) (hcm : cs ≤ 9223372036854775807) (hn : ks.length ≤ 100000000000)
    (h : KSt w W b bs fb sb true (.slice sa ss.length cs)) (hl : bs.length + (kidsB true q true ss ks).length ≤ 600000000000)
    (hx : w.cell? ⟨xb, 0, none⟩ = some (.func (.func 39) #[] #[])) (ha : w.cell? ⟨ab, 1, none⟩ = some (.int .i64 q)) :
    Calls Try.prog 46 #[.pointer (some ⟨b, 0, none⟩), .slice ka ks.length ck, .func (.func 47) #[] #[.pointer (some ⟨fb, 0, none⟩), .pointer (some ⟨sb, 0, none⟩), .pointer (some ⟨xb, 0, none⟩), .pointer (some ⟨ab, 0, none⟩)]] W fun e w' => e = .returned (.tuple #[]) ∧ WSt w w' b (bs ++ (freeB ks.length ++ kidsB true q true ss ks)) := by
  have hef := fun W => eql_kids_page W fb sb xb ab
  obtain ⟨n, hnn⟩ : ∃ n, n = ks.length := ⟨_, rfl⟩
  rw [← hnn] at hn ⊢
  have HT : Hid (Calls Try.prog 64 #[.pointer (some ⟨b, 0, none⟩)] W fun e w' => e = .returned (.bool true) ∧ W = w') := wst_there (wst_kst h)
  have HFR : Hid (Calls Try.prog 66 #[.pointer (some ⟨b, 0, none⟩), .int .u64 n] W fun e w' => e = .returned (.tuple #[]) ∧ KSt w w' b (bs ++ freeB n) fb sb true (.slice sa ss.length cs)) := by
    obtain ⟨g, hw, hst⟩ := h.step
    exact (wfree_calls n (by omega) hw (by omega)).mono fun e w' ⟨he, g', hw', st⟩ => ⟨he, hst _ g' _ hw' st⟩
  have hfl := freeB_length n
  have HP : Hid (TRow w sa rb ro ss ∧ KRow w ka kb ko ks ∧ (∀ x ∈ ks, KidOk x) ∧ ss.length + 1 = ks.length ∧ ss.length ≤ cs ∧ cs ≤ 9223372036854775807 ∧ bs.length + (kidsB true q true ss ks).length ≤ 600000000000 ∧ n = ks.length) := ⟨hS, hK, hok, hsl, hcs, hcm, hl, hnn⟩
  have HXA : Hid (w.cell? ⟨xb, 0, none⟩ = some (.func (.func 39) #[] #[]) ∧ w.cell? ⟨ab, 1, none⟩ = some (.int .i64 q)) := ⟨hx, ha⟩
  have hzl := zeroKid_lit
  have hzs : (kcells zeroKid).toArray.size = 33 := rfl
  obtain ⟨ZK, hZK⟩ : ∃ ZK, ZK = (kcells zeroKid).toArray := ⟨_, rfl⟩
  rw [← hZK] at hzl hzs
  clear hZK hS hK hok hsl hcs hcm hl hnn hx ha h
  go_enter Try.func46, Try.ntmps46
  go_wp2_with (go_at_call 64; refine HT.out.mono ?_; rintro e w' ⟨rfl, rfl⟩)
  refine HFR.out.mono ?_
  rintro e w1 ⟨rfl, h1⟩
  clear HT HFR
  go_wp2_with fail
  go_loopg [20] n (fun gk iv wr => ∃ (k : Nat) (cur : List UInt8) (ra : Option Addr), iv = .int .i64 (k : Int) ∧ k ≤ n ∧ gk = n - k ∧ Hid (KSt w wr b cur fb sb (decide (k = 0)) (.slice ra (ss.length - (k - 1)) (cs - (k - 1)))) ∧ Hid (bs ++ (freeB n ++ kidsB true q true ss ks) = cur ++ restB true q ss ks k) ∧ Hid (k - 1 < ss.length → ra = some ⟨rb, ro + (k - 1), none⟩))
  case atStart => exact ⟨0, bs ++ freeB n, sa, rfl, by omega, rfl, h1, by show _ = _; rw [restB_zero, List.append_assoc], fun hlt => (HP.out.1.place (by intro e; rw [e] at hlt; simp at hlt)).1⟩
  case round =>
    obtain ⟨k, cur, ra, rfl, hk, hgk, HW, HCU, HRA⟩ := hrel
    obtain ⟨p1, p2, p3, p4, p5, p6, p7, p8⟩ := HP.out
    by_cases hgo : k < n
    · obtain ⟨x, hx⟩ : ∃ x, ks[k]? = some x := ⟨_, List.getElem?_eq_getElem (by rw [← p8]; exact hgo)⟩
      have hox := p3 x (List.mem_of_getElem? hx)
      have hkl : (Try.prog.info? 37).map (·.size) = some (kcells x).length := by rw [Try.infoKid, kcells_length hox.d]
      have hkz := Try.infoKid2 hox
      have hks : (kcells x).toArray.size = 33 := by rw [List.size_toArray, kcells_length hox.d]
      have hko := kcells_one x
      obtain ⟨hka, hklt⟩ := p2.place (by intro e; rw [e] at hx; simp at hx)
      have hc := (p2.same HW.out.base).cells k x hx
      have HC : Hid (∀ V, Same wr V → Calls Try.prog 47 #[.pointer (some ⟨b, 0, none⟩), kidV x, .pointer (some ⟨fb, 0, none⟩), .pointer (some ⟨sb, 0, none⟩), .pointer (some ⟨xb, 0, none⟩), .pointer (some ⟨ab, 0, none⟩)] V fun e w' => e = .returned (.tuple #[]) ∧ ∃ cur2 ra2, KSt w w' b cur2 fb sb false (.slice ra2 (ss.length - k) (cs - k)) ∧ bs ++ (freeB n ++ kidsB true q true ss ks) = cur2 ++ restB true q ss ks (k + 1) ∧ (k < ss.length → ra2 = some ⟨rb, ro + k, none⟩)) := by
        intro V hV
        have hkv := HW.out.same hV
        have htot : cur.length + (restB true q ss ks k).length ≤ 600000000100 := by
          have := congrArg List.length HCU.out
          simp only [List.length_append] at this
          omega
        cases k with
        | zero =>
          have e1 := restB_first (pages := true) (q := q) (ss := ss) hx
          refine (kidFirst_page q x hox hkv (by omega) HXA.out.1 HXA.out.2).mono fun e w' ⟨he, h3⟩ => ⟨he, cur ++ kidB true q x, ra, h3, ?_, fun hlt => HRA.out hlt⟩
          rw [HCU.out, e1, List.append_assoc]
        | succ k =>
          obtain ⟨s, hs⟩ : ∃ s, ss[k]? = some s := ⟨_, List.getElem?_eq_getElem (by omega)⟩
          have e1 := restB_next (pages := true) (q := q) hx hs
          have hra := HRA.out (show k + 1 - 1 < ss.length by omega)
          have hse : w.cell? ⟨rb, ro + k, none⟩ = some (.string s) := p1.cells k s hs
          rw [show k + 1 - 1 = k from rfl] at hra hkv
          rw [hra, show ss.length - k = (ss.length - (k + 1)) + 1 from by omega, show decide (k + 1 = 0) = false from rfl] at hkv
          have hll : cur.length + (textB s).length ≤ 700000000000 := by
            rw [e1, List.length_append, List.length_append] at htot; omega
          refine (kidNext_page q x hox hkv hll HXA.out.1 HXA.out.2 hse (by omega) (by omega)).mono fun e w' ⟨he, ra2, h3, h4⟩ => ⟨he, cur ++ textB s ++ kidB true q x, ra2, ?_, ?_, fun hlt => ?_⟩
          · rw [show cs - (k + 1) = cs - k - 1 from by omega]; exact h3
          · rw [HCU.out, e1]; simp [List.append_assoc]
          · rw [h4 (by omega)]; rfl
      unfold kidV at HC
      have HCL : Hid (wr.rangeAt kb (ko + k * 33) (kcells x)) := hc
      subst hka
      clear p1 p2 p3 p4 p5 p6 p7 p8 hx hox HW HCU HRA hc
      have hc := HCL.out
      clear HCL
      generalize kcells x = KL at *
      go_wp2_with (first | (refine wpList_load_mid (by rfl) 37 _ (by rfl) kb (ko + k * 33) (by rfl) KL _ hc Try.underlying37 rfl hkl ?_) | (refine wpList_store_whole (by rfl) 37 _ _ (by rfl) wr.heap.size KL.toArray ZK 37 (by rfl) (by rfl) (heap_alloc_new wr _) (by rw [hzs, hks]) hkz hko ?_; intro W3 r3 f3; have s3 : Same wr W3 := Fr.trans ((Fr.refl _ wr).alloc _) f3 (fun i hi e => by omega)) | (refine wpList_load_row (by rfl) 37 _ (by rfl) wr.heap.size (by rfl) 37 KL.toArray (0, 0) _ r3 Try.underlying37 rfl hkz ?_))
      refine (HC.out _ s3).mono ?_
      rintro e w2 ⟨rfl, cur2, ra2, h3, h4, h5⟩
      have H3 : Hid (KSt w w2 b cur2 fb sb false (.slice ra2 (ss.length - k) (cs - k))) := h3
      have H4 : Hid (bs ++ (freeB n ++ kidsB true q true ss ks) = cur2 ++ restB true q ss ks (k + 1)) := h4
      have H5 : Hid (k < ss.length → ra2 = some ⟨rb, ro + k, none⟩) := h5
      clear h3 h4 h5 HC r3 f3 s3 hc
      go_wp2_with fail
      go_roundg (n - (k + 1))
      case measure => omega
      case rel => exact ⟨k + 1, cur2, ra2, by go_num, by omega, rfl, H3, H4, H5⟩
    · obtain rfl : k = n := by omega
      have HE : Hid (cur = bs ++ (freeB k ++ kidsB true q true ss ks)) := by
        show _ = _
        have := HCU.out
        rw [restB_len (by omega), List.append_nil] at this
        exact this.symm
      have HWS : Hid (WSt w wr b cur) := wst_kst HW.out
      clear HW HCU HRA p1 p2 p3 p4 p5 p6 p7 p8
      go_wp2_with fail
      go_end0
      refine ⟨rfl, ?_⟩
      rw [← HE.out]; exact HWS.out
theorem eql_kids_plain (W : World) (fb sb xb ab : Nat) : (binOp .eql 69 (.func (.func 47) #[] #[.pointer (some ⟨fb, 0, none⟩), .pointer (some ⟨sb, 0, none⟩), .pointer (some ⟨xb, 0, none⟩), .pointer (some ⟨ab, 0, none⟩)]) .nilFunc).run Try.prog W = .ok (.bool false) W := by kernel_rfl
set_option maxRecDepth 100000 in
set_option maxHeartbeats 1000000 in
theorem eachKid_plain {w W : World} {b : Nat} {bs : List UInt8} {fb sb xb ab : Nat} {q : Int} {ss : List ByteArray} {ks : List Kid} {sa ka : Option Addr} {rb ro cs kb ko ck : Nat} (hS : TRow w sa rb ro ss) (hK : KRow w ka kb ko ks) (hok : ∀ x ∈ ks, KidOk x) (hsl : ss.length + 1 = ks.length) (hcs : ss.length ≤ cs) (hcm : cs ≤ 9223372036854775807) (hn : ks.length ≤ 100000000000)
    (h : KSt w W b bs fb sb true (.slice sa ss.length cs)) (hl : bs.length + (kidsB false q true ss ks).length ≤ 600000000000)
    (hx : w.cell? ⟨xb, 0, none⟩ = some (.func (.func 50) #[] #[])) (ha : w.cell? ⟨ab, 1, none⟩ = some (.int .i64 q)) :
    Calls Try.prog 46 #[.pointer (some ⟨b, 0, none⟩), .slice ka ks.length ck, .func (.func 47) #[] #[.pointer (some ⟨fb, 0, none⟩), .pointer (some ⟨sb, 0, none⟩), .pointer (some ⟨xb, 0, none⟩), .pointer (some ⟨ab, 0, none⟩)]] W fun e w' => e = .returned (.tuple #[]) ∧ WSt w w' b (bs ++ (freeB ks.length ++ kidsB false q true ss ks)) := by
  have hef := fun W => eql_kids_plain W fb sb xb ab
  obtain ⟨n, hnn⟩ : ∃ n, n = ks.length := ⟨_, rfl⟩
  rw [← hnn] at hn ⊢
  have HT : Hid (Calls Try.prog 64 #[.pointer (some ⟨b, 0, none⟩)] W fun e w' => e = .returned (.bool true) ∧ W = w') := wst_there (wst_kst h)
  have HFR : Hid (Calls Try.prog 66 #[.pointer (some ⟨b, 0, none⟩), .int .u64 n] W fun e w' => e = .returned (.tuple #[]) ∧ KSt w w' b (bs ++ freeB n) fb sb true (.slice sa ss.length cs)) := by
    obtain ⟨g, hw, hst⟩ := h.step
    exact (wfree_calls n (by omega) hw (by omega)).mono fun e w' ⟨he, g', hw', st⟩ => ⟨he, hst _ g' _ hw' st⟩
  have hfl := freeB_length n
  have HP : Hid (TRow w sa rb ro ss ∧ KRow w ka kb ko ks ∧ (∀ x ∈ ks, KidOk x) ∧ ss.length + 1 = ks.length ∧ ss.length ≤ cs ∧ cs ≤ 9223372036854775807 ∧ bs.length + (kidsB false q true ss ks).length ≤ 600000000000 ∧ n = ks.length) := ⟨hS, hK, hok, hsl, hcs, hcm, hl, hnn⟩
  have HXA : Hid (w.cell? ⟨xb, 0, none⟩ = some (.func (.func 50) #[] #[]) ∧ w.cell? ⟨ab, 1, none⟩ = some (.int .i64 q)) := ⟨hx, ha⟩
  have hzl := zeroKid_lit
  have hzs : (kcells zeroKid).toArray.size = 33 := rfl
  obtain ⟨ZK, hZK⟩ : ∃ ZK, ZK = (kcells zeroKid).toArray := ⟨_, rfl⟩
  rw [← hZK] at hzl hzs
  clear hZK hS hK hok hsl hcs hcm hl hnn hx ha h
  go_enter Try.func46, Try.ntmps46
  go_wp2_with (go_at_call 64; refine HT.out.mono ?_; rintro e w' ⟨rfl, rfl⟩)
  refine HFR.out.mono ?_
  rintro e w1 ⟨rfl, h1⟩
  clear HT HFR
  go_wp2_with fail
  go_loopg [20] n (fun gk iv wr => ∃ (k : Nat) (cur : List UInt8) (ra : Option Addr), iv = .int .i64 (k : Int) ∧ k ≤ n ∧ gk = n - k ∧ Hid (KSt w wr b cur fb sb (decide (k = 0)) (.slice ra (ss.length - (k - 1)) (cs - (k - 1)))) ∧ Hid (bs ++ (freeB n ++ kidsB false q true ss ks) = cur ++ restB false q ss ks k) ∧ Hid (k - 1 < ss.length → ra = some ⟨rb, ro + (k - 1), none⟩))
  case atStart => exact ⟨0, bs ++ freeB n, sa, rfl, by omega, rfl, h1, by show _ = _; rw [restB_zero, List.append_assoc], fun hlt => (HP.out.1.place (by intro e; rw [e] at hlt; simp at hlt)).1⟩
  case round =>
    obtain ⟨k, cur, ra, rfl, hk, hgk, HW, HCU, HRA⟩ := hrel
    obtain ⟨p1, p2, p3, p4, p5, p6, p7, p8⟩ := HP.out
    by_cases hgo : k < n
    · obtain ⟨x, hx⟩ : ∃ x, ks[k]? = some x := ⟨_, List.getElem?_eq_getElem (by rw [← p8]; exact hgo)⟩
      have hox := p3 x (List.mem_of_getElem? hx)
      have hkl : (Try.prog.info? 37).map (·.size) = some (kcells x).length := by rw [Try.infoKid, kcells_length hox.d]
      have hkz := Try.infoKid2 hox
      have hks : (kcells x).toArray.size = 33 := by rw [List.size_toArray, kcells_length hox.d]
      have hko := kcells_one x
      obtain ⟨hka, hklt⟩ := p2.place (by intro e; rw [e] at hx; simp at hx)
      have hc := (p2.same HW.out.base).cells k x hx
      have HC : Hid (∀ V, Same wr V → Calls Try.prog 47 #[.pointer (some ⟨b, 0, none⟩), kidV x, .pointer (some ⟨fb, 0, none⟩), .pointer (some ⟨sb, 0, none⟩), .pointer (some ⟨xb, 0, none⟩), .pointer (some ⟨ab, 0, none⟩)] V fun e w' => e = .returned (.tuple #[]) ∧ ∃ cur2 ra2, KSt w w' b cur2 fb sb false (.slice ra2 (ss.length - k) (cs - k)) ∧ bs ++ (freeB n ++ kidsB false q true ss ks) = cur2 ++ restB false q ss ks (k + 1) ∧ (k < ss.length → ra2 = some ⟨rb, ro + k, none⟩)) := by
        intro V hV
        have hkv := HW.out.same hV
        have htot : cur.length + (restB false q ss ks k).length ≤ 600000000100 := by
          have := congrArg List.length HCU.out
          simp only [List.length_append] at this
          omega
        cases k with
        | zero =>
          have e1 := restB_first (pages := false) (q := q) (ss := ss) hx
          refine (kidFirst_plain q x hox hkv (by omega) HXA.out.1 HXA.out.2).mono fun e w' ⟨he, h3⟩ => ⟨he, cur ++ kidB false q x, ra, h3, ?_, fun hlt => HRA.out hlt⟩
          rw [HCU.out, e1, List.append_assoc]
        | succ k =>
          obtain ⟨s, hs⟩ : ∃ s, ss[k]? = some s := ⟨_, List.getElem?_eq_getElem (by omega)⟩
          have e1 := restB_next (pages := false) (q := q) hx hs
          have hra := HRA.out (show k + 1 - 1 < ss.length by omega)
          have hse : w.cell? ⟨rb, ro + k, none⟩ = some (.string s) := p1.cells k s hs
          rw [show k + 1 - 1 = k from rfl] at hra hkv
          rw [hra, show ss.length - k = (ss.length - (k + 1)) + 1 from by omega, show decide (k + 1 = 0) = false from rfl] at hkv
          have hll : cur.length + (textB s).length ≤ 700000000000 := by
            rw [e1, List.length_append, List.length_append] at htot; omega
          refine (kidNext_plain q x hox hkv hll HXA.out.1 HXA.out.2 hse (by omega) (by omega)).mono fun e w' ⟨he, ra2, h3, h4⟩ => ⟨he, cur ++ textB s ++ kidB false q x, ra2, ?_, ?_, fun hlt => ?_⟩
          · rw [show cs - (k + 1) = cs - k - 1 from by omega]; exact h3
          · rw [HCU.out, e1]; simp [List.append_assoc]
          · rw [h4 (by omega)]; rfl
      unfold kidV at HC
      have HCL : Hid (wr.rangeAt kb (ko + k * 33) (kcells x)) := hc
      subst hka
      clear p1 p2 p3 p4 p5 p6 p7 p8 hx hox HW HCU HRA hc
      have hc := HCL.out
      clear HCL
      generalize kcells x = KL at *
      go_wp2_with (first | (refine wpList_load_mid (by rfl) 37 _ (by rfl) kb (ko + k * 33) (by rfl) KL _ hc Try.underlying37 rfl hkl ?_) | (refine wpList_store_whole (by rfl) 37 _ _ (by rfl) wr.heap.size KL.toArray ZK 37 (by rfl) (by rfl) (heap_alloc_new wr _) (by rw [hzs, hks]) hkz hko ?_; intro W3 r3 f3; have s3 : Same wr W3 := Fr.trans ((Fr.refl _ wr).alloc _) f3 (fun i hi e => by omega)) | (refine wpList_load_row (by rfl) 37 _ (by rfl) wr.heap.size (by rfl) 37 KL.toArray (0, 0) _ r3 Try.underlying37 rfl hkz ?_))
      refine (HC.out _ s3).mono ?_
      rintro e w2 ⟨rfl, cur2, ra2, h3, h4, h5⟩
      have H3 : Hid (KSt w w2 b cur2 fb sb false (.slice ra2 (ss.length - k) (cs - k))) := h3
      have H4 : Hid (bs ++ (freeB n ++ kidsB false q true ss ks) = cur2 ++ restB false q ss ks (k + 1)) := h4
      have H5 : Hid (k < ss.length → ra2 = some ⟨rb, ro + k, none⟩) := h5
      clear h3 h4 h5 HC r3 f3 s3 hc
      go_wp2_with fail
      go_roundg (n - (k + 1))
      case measure => omega
      case rel => exact ⟨k + 1, cur2, ra2, by go_num, by omega, rfl, H3, H4, H5⟩
    · obtain rfl : k = n := by omega
      have HE : Hid (cur = bs ++ (freeB k ++ kidsB false q true ss ks)) := by
        show _ = _
        have := HCU.out
        rw [restB_len (by omega), List.append_nil] at this
        exact this.symm
      have HWS : Hid (WSt w wr b cur) := wst_kst HW.out
      clear HW HCU HRA p1 p2 p3 p4 p5 p6 p7 p8
      go_wp2_with fail
      go_end0
      refine ⟨rfl, ?_⟩
      rw [← HE.out]; exact HWS.out
end Go.Proofs.Ytjlbkagkmcelgaa
