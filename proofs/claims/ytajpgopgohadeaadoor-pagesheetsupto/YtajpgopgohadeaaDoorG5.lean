/- parse. -/
import Derived.Test.YtajpgopgohadeaaDoorG4
import Derived.Laws.ResultCell
import Derived.Laws.Rows
namespace Go.Proofs.YtajpgopgohadeaaDoor
open Go.RowKit

theorem results_row_tmp {P : Program} {fn : Func} {p u : Tmp} {ty : TypeId} (h : fn.results = #[.cell p ty, .tmp u]) (tmps : Array Value) (w : World) (g : Nat) (t : TypeId) (cs : Array Value) (fr : Nat × Nat) (d : TypeDesc)
    (hp : tmps.getD p undef = .pointer (some ⟨g, 0, none⟩)) (hg : w.heap[g]? = some (.cells cs t fr))
    (hu : P.underlying ty = some d) (hd : (match d with | .struct _ | .array _ _ => true | _ => false) = true) (hi : (P.info? ty).map (·.size) = some cs.size) :
    (results fn tmps).run P w = .ok (.tuple #[.agg cs, tmps.getD u undef]) w := by
  have hp' : tmps[p]?.getD undef = .pointer (some ⟨g, 0, none⟩) := by simpa using hp
  simp [results, h, hp', asAddr, run_loadVar_row w g t ty cs fr d hg hu hd hi]

/-- A page's row at the block that w lacks yet, and a Reader behind it. -/
def PSt (w W : World) (b : Nat) (s : ByteArray) (p c : Nat) (cs : Array Value) : Prop :=
  RdAt W b s p c ∧ w.heap.size < b ∧ W.heap[w.heap.size]? = some (.cells cs 41 (0, 0)) ∧ Same w W
theorem PSt.step {w W W' : World} {b : Nat} {s : ByteArray} {p p' c c' : Nat} {cs : Array Value} (h : PSt w W b s p c cs) (h' : RdAt W' b s p' c') (st : RdStep b W W') : PSt w W' b s p' c' cs :=
  ⟨h', h.2.1, by rw [st.block _ (lt_of_heap h.2.2.1) (fun e => by have := h.2.1; omega)]; exact h.2.2.1, Fr.trans h.2.2.2 st (fun i hi e => by have := h.2.1; omega)⟩
theorem PSt.same {w W W' : World} {b : Nat} {s : ByteArray} {p c : Nat} {cs : Array Value} (h : PSt w W b s p c cs) (st : Same W W') : PSt w W' b s p c cs :=
  ⟨h.1.same st, h.2.1, by rw [st.block _ (lt_of_heap h.2.2.1) (fun e => e)]; exact h.2.2.1, h.2.2.2.trans st⟩
theorem PSt.put {w W : World} {b : Nat} {s : ByteArray} {p c : Nat} {cs : Array Value} (h : PSt w W b s p c cs) (i : Nat) (v : Value) : PSt w (W.setCell ⟨w.heap.size, i, none⟩ v) b s p c (cs.setIfInBounds i v) := by
  have f : Fr (fun k => k = w.heap.size) W (W.setCell ⟨w.heap.size, i, none⟩ v) := (Fr.refl (fun k => k = w.heap.size) W).setCell (p := ⟨w.heap.size, i, none⟩) (fun _ => rfl) v
  exact ⟨h.1.frame f (fun e => by have := h.2.1; omega), h.2.1, heap_setCell_same W _ i cs _ v h.2.2.1, Fr.trans h.2.2.2 f (fun i hi e => by omega)⟩
theorem PSt.cell {w W : World} {b : Nat} {s : ByteArray} {p c : Nat} {cs : Array Value} (h : PSt w W b s p c cs) (i : Nat) (v : Value) (hv : cs[i]? = some v) : W.cell? ⟨w.heap.size, i, none⟩ = some v ∧ W.frozen? ⟨w.heap.size, i, none⟩ = false := by
  have hr := h.2.2.1
  constructor
  · simp [World.cell?, hr, hv]
  · simp [World.frozen?, hr]
theorem pst_open (w : World) (s : ByteArray) (hs : s.size ≤ 281474976710656) (cs : Array Value) : PSt w ((w.alloc (.cells cs 41)).alloc (.cells #[.bool true, .string s, .int .i64 0, .int .i64 0] 121)) (w.heap.size + 1) s 0 0 cs :=
  ⟨⟨heap_alloc2_new w _ _, Nat.zero_le _, hs⟩, by omega, heap_alloc2_old w _ _, ((Fr.refl _ w).alloc _).alloc _⟩
theorem pst_raw {w W : World} {b : Nat} {s : ByteArray} {p c : Nat} {cs : Array Value} (n : Int) (hn : n ≤ 1000000) (h : PSt w W b s p c cs) :
    Calls Tryd.prog 49 #[.pointer (some ⟨b, 0, none⟩), .int .i64 n] W fun e w' => e = .returned (.string (rRaw s p c n).1) ∧ PSt w w' b s (rRaw s p c n).2.1 (rRaw s p c n).2.2 cs :=
  (rraw_calls h.1 n (by omega)).mono fun e w' ⟨he, h', st⟩ => ⟨he, h.step h' st⟩
theorem pst_raw_ok {w W : World} {b : Nat} {s : ByteArray} {p : Nat} {cs : Array Value} (n : Nat) (hn : n ≤ 1000000) (hp : p + n ≤ s.size) (h : PSt w W b s p 0 cs) :
    Calls Tryd.prog 49 #[.pointer (some ⟨b, 0, none⟩), .int .i64 n] W fun e w' => e = .returned (.string (s.extract p (p + n))) ∧ PSt w w' b s (p + n) 0 cs := by
  have hr := pst_raw (n : Int) (by omega) h
  rw [rRaw_ok s p n hp] at hr
  exact hr
theorem pst_left {w W : World} {b : Nat} {s : ByteArray} {p c : Nat} {cs : Array Value} (h : PSt w W b s p c cs) :
    Calls Tryd.prog 53 #[.pointer (some ⟨b, 0, none⟩)] W fun e w' => e = .returned (.int .i64 ((s.size : Int) - (p : Int))) ∧ PSt w w' b s p c cs :=
  (left_calls h.1).mono fun _ _ ⟨he, st⟩ => ⟨he, h.same st⟩
theorem pst_u16 {w W : World} {b : Nat} {s : ByteArray} {p : Nat} {cs : Array Value} (hp : p + 2 ≤ s.size) (h : PSt w W b s p 0 cs) :
    Calls Tryd.prog 51 #[.pointer (some ⟨b, 0, none⟩)] W fun e w' => e = .returned (.int .u16 (beAt s p 2)) ∧ PSt w w' b s (p + 2) 0 cs := by
  have hr := take_u16 h.1
  have e := rRaw_ok s p 2 hp
  rw [show (((2 : Nat)) : Int) = 2 from rfl] at e
  rw [e] at hr
  have hl := beAt_lt s p 2 hp
  have hw : IntKind.u16.wrap (beN (s.extract p (p + 2)).data.toList : Nat) = (beAt s p 2 : Int) := by
    have : beN (s.extract p (p + 2)).data.toList = beAt s p 2 := rfl
    rw [this, IntKind.wrap_u16]
    omega
  simp only [hw] at hr
  exact hr.mono fun e w' ⟨he, h', st⟩ => ⟨he, h.step h' st⟩
theorem pst_u32 {w W : World} {b : Nat} {s : ByteArray} {p : Nat} {cs : Array Value} (hp : p + 4 ≤ s.size) (h : PSt w W b s p 0 cs) :
    Calls Tryd.prog 47 #[.pointer (some ⟨b, 0, none⟩)] W fun e w' => e = .returned (.int .u32 (beAt s p 4)) ∧ PSt w w' b s (p + 4) 0 cs := by
  have hr := take_u32 h.1
  have e := rRaw_ok s p 4 hp
  rw [show (((4 : Nat)) : Int) = 4 from rfl] at e
  rw [e] at hr
  have hl := beAt_lt s p 4 hp
  have hw : IntKind.u32.wrap (beN (s.extract p (p + 4)).data.toList : Nat) = (beAt s p 4 : Int) := by
    have : beN (s.extract p (p + 4)).data.toList = beAt s p 4 := rfl
    rw [this, IntKind.wrap_u32]
    omega
  simp only [hw] at hr
  exact hr.mono fun e w' ⟨he, h', st⟩ => ⟨he, h.step h' st⟩
theorem pst_u64 {w W : World} {b : Nat} {s : ByteArray} {p : Nat} {cs : Array Value} (hp : p + 8 ≤ s.size) (h : PSt w W b s p 0 cs) :
    Calls Tryd.prog 52 #[.pointer (some ⟨b, 0, none⟩)] W fun e w' => e = .returned (.int .u64 (beAt s p 8)) ∧ PSt w w' b s (p + 8) 0 cs := by
  have hr := take_u64 h.1
  have e := rRaw_ok s p 8 hp
  rw [show (((8 : Nat)) : Int) = 8 from rfl] at e
  rw [e] at hr
  have hl := beAt_lt s p 8 hp
  have hw : IntKind.u64.wrap (beN (s.extract p (p + 8)).data.toList : Nat) = (beAt s p 8 : Int) := by
    have : beN (s.extract p (p + 8)).data.toList = beAt s p 8 := rfl
    rw [this, IntKind.wrap_u64]
    omega
  simp only [hw] at hr
  exact hr.mono fun e w' ⟨he, h', st⟩ => ⟨he, h.step h' st⟩
theorem pst_pkind {w W : World} {b : Nat} {s : ByteArray} {p : Nat} {cs : Array Value} (hp : p + 1 ≤ s.size) (h : PSt w W b s p 0 cs) :
    Calls Tryd.prog 50 #[.pointer (some ⟨b, 0, none⟩)] W fun e w' => e = .returned (.int .u8 (beAt s p 1)) ∧ PSt w w' b s (p + 1) 0 cs := by
  have hr := take_pkind h.1
  have e := rRaw_ok s p 1 hp
  rw [show (((1 : Nat)) : Int) = 1 from rfl] at e
  rw [e] at hr
  have hl := beAt_lt s p 1 hp
  have hw : IntKind.u8.wrap (beN (s.extract p (p + 1)).data.toList : Nat) = (beAt s p 1 : Int) := by
    have : beN (s.extract p (p + 1)).data.toList = beAt s p 1 := rfl
    rw [this, IntKind.wrap_u8]
    omega
  simp only [hw] at hr
  exact hr.mono fun e w' ⟨he, h', st⟩ => ⟨he, h.step h' st⟩

theorem row4_cells {W : World} {g : Nat} {a b c d : Value} {t : TypeId} (h : W.heap[g]? = some (.cells #[a, b, c, d] t (0, 0))) :
    W.cell? ⟨g, 0, none⟩ = some a ∧ W.cell? ⟨g, 1, none⟩ = some b ∧ W.cell? ⟨g, 2, none⟩ = some c ∧ W.cell? ⟨g, 3, none⟩ = some d ∧ W.frozen? ⟨g, 0, none⟩ = false ∧ W.frozen? ⟨g, 1, none⟩ = false ∧ W.frozen? ⟨g, 2, none⟩ = false ∧ W.frozen? ⟨g, 3, none⟩ = false := by
  refine ⟨?_, ?_, ?_, ?_, ?_, ?_, ?_, ?_⟩ <;> simp [World.cell?, World.frozen?, h]
theorem row4_set {W : World} {g : Nat} {a b c d : Value} {t : TypeId} (h : W.heap[g]? = some (.cells #[a, b, c, d] t (0, 0))) :
    ((((W.setCell ⟨g, 0, none⟩ a).setCell ⟨g, 1, none⟩ b).setCell ⟨g, 2, none⟩ c).setCell ⟨g, 3, none⟩ d).heap[g]? = some (.cells #[a, b, c, d] t (0, 0)) := by
  have := heap_setCell_same _ g 3 _ t d (heap_setCell_same _ g 2 _ t c (heap_setCell_same _ g 1 _ t b (heap_setCell_same W g 0 _ t a h)))
  simpa using this

/-- The body that a form tells of: none, if it would be longer than what is left. -/
def bodyAt (s : ByteArray) : ByteArray := (rRaw s 32 0 (beAt s 6 2)).1
/-- What stands behind the body. -/
def restAt (s : ByteArray) : ByteArray := (rRaw s (rRaw s 32 0 (beAt s 6 2)).2.1 (rRaw s 32 0 (beAt s 6 2)).2.2 ((s.size : Int) - ((rRaw s 32 0 (beAt s 6 2)).2.1 : Int))).1
/-- Whether the page that s speaks of is laid in it as a form lays it. -/
def laidB (s : ByteArray) : Bool := ((s.extract 0 28).toList == (headS (beAt s 5 1) (beAt s 8 4) (beAt s 16 8) (bodyAt s).size).toList) && (((restAt s).data.toList.count 0 : Int) == ((restAt s).size : Int))

set_option maxRecDepth 100000 in
set_option maxHeartbeats 4000000 in
theorem parse_calls (s : ByteArray) (hs : 32 ≤ s.size) (hl : s.size ≤ 100000) (w : World) :
    Calls Tryd.prog 32 #[.string s] w fun e w' => e = .returned (.tuple #[pageV (beAt s 5 1) (beAt s 8 4) (beAt s 16 8) (bodyAt s), .bool (laidB s)]) ∧ Same w w' := by
  have a1 : (28 : Int) ≤ (s.size : Int) := by omega
  have lK := beAt_lt s 5 1 (by omega)
  have lN := beAt_lt s 6 2 (by omega)
  have lNO := beAt_lt s 8 4 (by omega)
  have lVS := beAt_lt s 16 8 (by omega)
  have HK := fun (W : World) (b : Nat) (cs : Array Value) (h : PSt w W b s 5 0 cs) => pst_pkind (by omega) h
  have HN := fun (W : World) (b : Nat) (cs : Array Value) (h : PSt w W b s 6 0 cs) => pst_u16 (by omega) h
  have HNO := fun (W : World) (b : Nat) (cs : Array Value) (h : PSt w W b s 8 0 cs) => pst_u32 (by omega) h
  have HVS := fun (W : World) (b : Nat) (cs : Array Value) (h : PSt w W b s 16 0 cs) => pst_u64 (by omega) h
  have H5 := fun (W : World) (b : Nat) (cs : Array Value) (h : PSt w W b s 0 0 cs) => pst_raw_ok 5 (by omega) (by omega) h
  have H4 := fun (W : World) (b : Nat) (cs : Array Value) (h : PSt w W b s 12 0 cs) => pst_raw_ok 4 (by omega) (by omega) h
  have H8 := fun (W : World) (b : Nat) (cs : Array Value) (h : PSt w W b s 24 0 cs) => pst_raw_ok 8 (by omega) (by omega) h
  have HB := fun (W : World) (b : Nat) (cs : Array Value) (h : PSt w W b s 32 0 cs) => pst_raw (beAt s 6 2 : Int) (by omega) h
  have HBS : (bodyAt s).size ≤ beAt s 6 2 := by
    have := rRaw_size s 32 0 (beAt s 6 2 : Int)
    rw [Int.toNat_natCast] at this
    exact this
  have HHD := head_calls (beAt s 5 1) (beAt s 8 4) (beAt s 16 8) (bodyAt s) lK lNO lVS (by omega)
  have hpl := rRaw_place s 32 0 (beAt s 6 2 : Int) hs
  have HRS : Hid (restAt s = (rRaw s (rRaw s 32 0 (beAt s 6 2)).2.1 (rRaw s 32 0 (beAt s 6 2)).2.2 ((s.size : Int) - ((rRaw s 32 0 (beAt s 6 2)).2.1 : Int))).1) := rfl
  have HLD : Hid (laidB s = (((s.extract 0 28).toList == (headS (beAt s 5 1) (beAt s 8 4) (beAt s 16 8) (bodyAt s).size).toList) && (((restAt s).data.toList.count 0 : Int) == ((restAt s).size : Int)))) := rfl
  obtain ⟨KD, hK⟩ : ∃ KD, KD = beAt s 5 1 := ⟨_, rfl⟩
  obtain ⟨N, hN⟩ : ∃ N, N = beAt s 6 2 := ⟨_, rfl⟩
  obtain ⟨NO, hNO⟩ : ∃ N, N = beAt s 8 4 := ⟨_, rfl⟩
  obtain ⟨VS, hVS⟩ : ∃ N, N = beAt s 16 8 := ⟨_, rfl⟩
  obtain ⟨BD, hBD⟩ : ∃ B, B = bodyAt s := ⟨_, rfl⟩
  have hBD2 : BD = (rRaw s 32 0 (N : Int)).1 := by rw [hBD, hN]; rfl
  rw [← hK] at HK HHD HLD ⊢
  rw [← hN] at HN HB HRS hpl lN
  rw [← hNO] at HNO HHD HLD ⊢
  rw [← hVS] at HVS HHD HLD ⊢
  rw [← hBD] at HHD HLD ⊢
  rw [← hBD2] at HB
  obtain ⟨p2, hp2⟩ : ∃ p2, p2 = (rRaw s 32 0 (N : Int)).2.1 := ⟨_, rfl⟩
  obtain ⟨c2, hc2⟩ : ∃ c2, c2 = (rRaw s 32 0 (N : Int)).2.2 := ⟨_, rfl⟩
  rw [← hp2, ← hc2] at HB HRS
  rw [← hp2] at hpl
  obtain ⟨m, hm⟩ : ∃ m : Nat, (s.size : Int) - (p2 : Int) = (m : Int) := ⟨s.size - p2, by omega⟩
  have hml : m ≤ 100000 := by omega
  rw [hm] at HRS
  have HLF := fun (W : World) (b : Nat) (cs : Array Value) (h : PSt w W b s p2 c2 cs) => pst_left h
  rw [hm] at HLF
  have HRR := fun (W : World) (b : Nat) (cs : Array Value) (h : PSt w W b s p2 c2 cs) => pst_raw (m : Int) (by omega) h
  rw [← HRS.out] at HRR
  obtain ⟨RS, hRS⟩ : ∃ R, R = restAt s := ⟨_, rfl⟩
  rw [← hRS] at HRR HLD
  have HCT := count0_calls RS
  obtain ⟨CT, hCT⟩ : ∃ C : Nat, C = RS.data.toList.count 0 := ⟨_, rfl⟩
  have hCT2 : Lib.countByte RS.data.toList 0 = CT := by rw [hCT]; rfl
  rw [hCT2] at HCT
  rw [← hCT] at HLD
  have HO : Hid (PSt w ((w.alloc (.cells #[.int .u8 0, .int .u32 0, .int .u64 0, .string ⟨#[]⟩] 41)).alloc (.cells #[.bool true, .string s, .int .i64 0, .int .i64 0] 121)) (w.heap.size + 1) s 0 0 #[.int .u8 0, .int .u32 0, .int .u64 0, .string ⟨#[]⟩]) := pst_open w s (by omega) _
  have hwn : IntKind.i64.wrap (N : Int) = (N : Int) := by rw [IntKind.wrap_i64]; omega
  obtain ⟨HS, hHS⟩ : ∃ HS, HS = headS KD NO VS BD.size := ⟨_, rfl⟩
  have HHD2 : Hid (∀ W : World, Calls Tryd.prog 22 #[pageV KD NO VS BD] W fun e w' => e = .returned (.string HS) ∧ Same W w') := fun W => by rw [hHS]; exact HHD W
  rw [← hHS] at HLD
  obtain ⟨q1, hq1⟩ : ∃ q1, q1 = ((s.extract 0 28).toList == HS.toList) := ⟨_, rfl⟩
  obtain ⟨q2, hq2⟩ : ∃ q2, q2 = ((CT : Int) == (RS.size : Int)) := ⟨_, rfl⟩
  rw [← hq1, ← hq2] at HLD
  rw [HLD.out]
  have hq1' := hq1.symm
  have hq2' := hq2.symm
  clear HHD hHS hq1 hq2
  clear hK hN hNO hVS hBD hBD2 hp2 hc2 hm hRS hCT hCT2 lK lNO lVS HBS hpl hs hl HRS
  go_enter Tryd.func32, Tryd.ntmps32
  go_wp2_with fail
  refine (open_calls _ s).mono ?_
  rintro e W1 ⟨rfl, hW1⟩
  have K1 : PSt w W1 (w.heap.size + 1) s 0 0 #[.int .u8 0, .int .u32 0, .int .u64 0, .string ⟨#[]⟩] := by rw [hW1]; exact HO.out
  clear hW1 HO
  rw [show (w.alloc (.cells #[.int .u8 0, .int .u32 0, .int .u64 0, .string ⟨#[]⟩] 41)).heap.size = w.heap.size + 1 from by simp]
  go_wp2_with fail
  refine (H5 _ _ _ K1).mono ?_
  rintro e W2 ⟨rfl, K2⟩
  clear K1 H5
  go_wp2_with fail
  refine (HK _ _ _ K2).mono ?_
  rintro e W3 ⟨rfl, K3⟩
  obtain ⟨x3, f3⟩ := K3.cell 0 _ rfl
  have K3' : PSt w (W3.setCell ⟨w.heap.size, 0, none⟩ (.int .u8 KD)) (w.heap.size + 1) s 6 0 #[.int .u8 KD, .int .u32 0, .int .u64 0, .string ⟨#[]⟩] := by have := K3.put 0 (.int .u8 KD); simpa using this
  clear K2 K3 HK
  go_wp2_with fail
  refine (HN _ _ _ K3').mono ?_
  rintro e W4 ⟨rfl, K4⟩
  clear K3' HN x3 f3
  go_wp2_with fail
  refine (HNO _ _ _ K4).mono ?_
  rintro e W5 ⟨rfl, K5⟩
  obtain ⟨x5, f5⟩ := K5.cell 1 _ rfl
  have K5' : PSt w (W5.setCell ⟨w.heap.size, 1, none⟩ (.int .u32 NO)) (w.heap.size + 1) s 12 0 #[.int .u8 KD, .int .u32 NO, .int .u64 0, .string ⟨#[]⟩] := by have := K5.put 1 (.int .u32 NO); simpa using this
  clear K4 K5 HNO
  go_wp2_with fail
  refine (H4 _ _ _ K5').mono ?_
  rintro e W6 ⟨rfl, K6⟩
  clear K5' H4 x5 f5
  go_wp2_with fail
  refine (HVS _ _ _ K6).mono ?_
  rintro e W7 ⟨rfl, K7⟩
  obtain ⟨x7, f7⟩ := K7.cell 2 _ rfl
  have K7' : PSt w (W7.setCell ⟨w.heap.size, 2, none⟩ (.int .u64 VS)) (w.heap.size + 1) s 24 0 #[.int .u8 KD, .int .u32 NO, .int .u64 VS, .string ⟨#[]⟩] := by have := K7.put 2 (.int .u64 VS); simpa using this
  clear K6 K7 HVS
  go_wp2_with fail
  refine (H8 _ _ _ K7').mono ?_
  rintro e W8 ⟨rfl, K8⟩
  clear K7' H8 x7 f7
  go_wp2_with fail
  refine (HB _ _ _ K8).mono ?_
  rintro e W9 ⟨rfl, K9⟩
  obtain ⟨x9, f9⟩ := K9.cell 3 _ rfl
  have K9' : PSt w (W9.setCell ⟨w.heap.size, 3, none⟩ (.string BD)) (w.heap.size + 1) s p2 c2 #[.int .u8 KD, .int .u32 NO, .int .u64 VS, .string BD] := by have := K9.put 3 (.string BD); simpa using this
  clear K8 K9 HB
  go_wp2_with fail
  refine (HLF _ _ _ K9').mono ?_
  rintro e W10 ⟨rfl, K10⟩
  clear K9' HLF x9 f9
  go_wp2_with fail
  refine (HRR _ _ _ K10).mono ?_
  rintro e W11 ⟨rfl, K11⟩
  clear K10 HRR
  obtain ⟨y0, z0⟩ := K11.cell 0 _ rfl
  obtain ⟨y1, z1⟩ := K11.cell 1 _ rfl
  obtain ⟨y2, z2⟩ := K11.cell 2 _ rfl
  obtain ⟨y3, z3⟩ := K11.cell 3 _ rfl
  have R11 := K11.2.2.1
  have s11 := K11.2.2.2
  clear K11
  go_wp2_with fail
  have HSS : Hid (∀ W : World, Same W11 W → (fun w' => w'.cell? ⟨w.heap.size, 0, none⟩ = some (.int .u8 KD) ∧ w'.cell? ⟨w.heap.size, 1, none⟩ = some (.int .u32 NO) ∧ w'.cell? ⟨w.heap.size, 2, none⟩ = some (.int .u64 VS) ∧ w'.cell? ⟨w.heap.size, 3, none⟩ = some (.string BD) ∧ w'.frozen? ⟨w.heap.size, 0, none⟩ = false ∧ w'.frozen? ⟨w.heap.size, 1, none⟩ = false ∧ w'.frozen? ⟨w.heap.size, 2, none⟩ = false ∧ w'.frozen? ⟨w.heap.size, 3, none⟩ = false) W) := by
    intro W h
    have hlt : w.heap.size < W11.heap.size := lt_of_heap R11
    exact ⟨h.keep y0, h.keep y1, h.keep y2, h.keep y3, (h.frozen (p := ⟨w.heap.size, 0, none⟩) hlt (fun f => f)).trans z0, (h.frozen (p := ⟨w.heap.size, 1, none⟩) hlt (fun f => f)).trans z1, (h.frozen (p := ⟨w.heap.size, 2, none⟩) hlt (fun f => f)).trans z2, (h.frozen (p := ⟨w.heap.size, 3, none⟩) hlt (fun f => f)).trans z3⟩
  clear y0 y1 y2 y3 z0 z1 z2 z3
  rcases q1 with _ | _
  · refine wp_region_held_drew (S := fun w' => w'.cell? ⟨w.heap.size, 0, none⟩ = some (.int .u8 KD) ∧ w'.cell? ⟨w.heap.size, 1, none⟩ = some (.int .u32 NO) ∧ w'.cell? ⟨w.heap.size, 2, none⟩ = some (.int .u64 VS) ∧ w'.cell? ⟨w.heap.size, 3, none⟩ = some (.string BD) ∧ w'.frozen? ⟨w.heap.size, 0, none⟩ = false ∧ w'.frozen? ⟨w.heap.size, 1, none⟩ = false ∧ w'.frozen? ⟨w.heap.size, 2, none⟩ = false ∧ w'.frozen? ⟨w.heap.size, 3, none⟩ = false) (by kernel_rfl) (HSS.out _ (Fr.drew (Fr.refl _ _))) (fun hHeld => ?_)
    refine wpAnyH_take (i := 0) (oi := { dst := some 35, op := Op.load 41 (Operand.tmp 2), type := 41, pos := "form.go:82", after := #[], guard := none }) (v := .agg #[.int .u8 KD, .int .u32 NO, .int .u64 VS, .string BD]) rfl (by kernel_rfl) (by kernel_rfl) (by kernel_rfl) (fun _ _ _ h => h) (Or.inl ⟨by rfl, fun w hSw => by (obtain ⟨y0, y1, y2, y3, z0, z1, z2, z3⟩ := hSw; go_simp)⟩) (by assumption) ?_
    try simp only [Act.put, List.setIfInBounds_toArray, List.set_cons_zero, List.set_cons_succ]
    refine wpAnyH_take (i := 1) (oi := { dst := some 36, op := Op.move (Operand.tmp 0), type := 9, pos := "form.go:82", after := #[], guard := none }) (v := .string s) rfl (by kernel_rfl) (by kernel_rfl) (by kernel_rfl) (fun _ _ _ h => h) (Or.inl ⟨by rfl, fun w hSw => by (obtain ⟨y0, y1, y2, y3, z0, z1, z2, z3⟩ := hSw; go_simp)⟩) (by assumption) ?_
    try simp only [Act.put, List.setIfInBounds_toArray, List.set_cons_zero, List.set_cons_succ]
    refine wpAnyH_take (i := 2) (oi := { dst := some 37, op := Op.slice 9 (Operand.tmp 36) none (some (Operand.const (Value.int IntKind.i64 28))) none, type := 9, pos := "form.go:82", after := #[{ on := 1, ground := Ground.data }], guard := none }) (v := .string (s.extract 0 28)) rfl (by kernel_rfl) (by kernel_rfl) (by kernel_rfl) (fun _ _ _ h => h) (Or.inl ⟨by rfl, fun w hSw => by (obtain ⟨y0, y1, y2, y3, z0, z1, z2, z3⟩ := hSw; go_simp)⟩) (by assumption) ?_
    try simp only [Act.put, List.setIfInBounds_toArray, List.set_cons_zero, List.set_cons_succ]
    refine wpAnyH_take (i := 3) (oi := { dst := some 38, op := Op.load 41 (Operand.tmp 2), type := 41, pos := "form.go:82", after := #[], guard := none }) (v := .agg #[.int .u8 KD, .int .u32 NO, .int .u64 VS, .string BD]) rfl (by kernel_rfl) (by kernel_rfl) (by kernel_rfl) (fun _ _ _ h => h) (Or.inl ⟨by rfl, fun w hSw => by (obtain ⟨y0, y1, y2, y3, z0, z1, z2, z3⟩ := hSw; go_simp)⟩) (by assumption) ?_
    try simp only [Act.put, List.setIfInBounds_toArray, List.set_cons_zero, List.set_cons_succ]
    refine wpAnyH_ready (rs := [4]) (by kernel_rfl) (by simp) ?_
    refine AllReadyH.cons (o := { dst := some 39, op := Op.call { callee := Callee.value (Operand.func 22), args := #[Operand.tmp 38], argTypes := #[41] }, type := 9, pos := "form.go:82", after := #[{ on := 3, ground := Ground.data }], guard := none }) rfl (fun K hK => ?_) AllReadyH.nil
    go_simp
    go_at_call 22
    refine (HHD2.out _).mono ?_
    rintro e W12 ⟨rfl, s12⟩
    try go_wp2_with fail
    have k12 : Same W11 W12 := Same.trans (Fr.drew (Fr.refl _ W11)) s12
    refine hK.out _ _ (HSS.out _ k12) (fun hHeld => ?_)
    clear hK K
    try simp only [Act.put, List.setIfInBounds_toArray, List.set_cons_zero, List.set_cons_succ]
    refine wpAnyH_take (i := 5) (oi := { dst := some 40, op := Op.binOp BinOp.eql 9 (Operand.tmp 37) (Operand.tmp 39) 9, type := 4, pos := "form.go:82", after := #[{ on := 2, ground := Ground.data }, { on := 4, ground := Ground.data }], guard := none }) (v := .bool false) rfl (by kernel_rfl) (by kernel_rfl) (by kernel_rfl) (fun _ _ _ h => h) (Or.inl ⟨by rfl, fun w hSw => by (obtain ⟨y0, y1, y2, y3, z0, z1, z2, z3⟩ := hSw; go_simp)⟩) (by assumption) ?_
    try simp only [Act.put, List.setIfInBounds_toArray, List.set_cons_zero, List.set_cons_succ]
    refine wpAnyH_take (i := 6) (oi := { dst := some 41, op := Op.move (Operand.tmp 40), type := 4, pos := "form.go:82", after := #[{ on := 5, ground := Ground.data }, { on := 4, ground := Ground.chain }], guard := none }) (v := .bool false) rfl (by kernel_rfl) (by kernel_rfl) (by kernel_rfl) (fun _ _ _ h => h) (Or.inl ⟨by rfl, fun w hSw => by (obtain ⟨y0, y1, y2, y3, z0, z1, z2, z3⟩ := hSw; go_simp)⟩) (by assumption) ?_
    try simp only [Act.put, List.setIfInBounds_toArray, List.set_cons_zero, List.set_cons_succ]
    refine wpAnyH_take (i := 7) (oi := { dst := some 42, op := Op.move (Operand.tmp 6), type := 9, pos := "form.go:82", after := #[{ on := 6, ground := Ground.guard }], guard := some (6, true) }) (v := undef) rfl (by kernel_rfl) (by kernel_rfl) (by kernel_rfl) (fun _ _ _ h => h) (Or.inr ⟨by rfl, rfl⟩) (by assumption) ?_
    try simp only [Act.put, List.setIfInBounds_toArray, List.set_cons_zero, List.set_cons_succ]
    refine wpAnyH_take (i := 8) (oi := { dst := some 43, op := Op.call { callee := Callee.value (Operand.func 54), args := #[Operand.tmp 42, Operand.const (Value.string { data := #[0] })], argTypes := #[9, 9] }, type := 3, pos := "form.go:82", after := #[{ on := 7, ground := Ground.data }, { on := 6, ground := Ground.chain }, { on := 6, ground := Ground.guard }], guard := some (6, true) }) (v := undef) rfl (by kernel_rfl) (by kernel_rfl) (by kernel_rfl) (fun _ _ _ h => h) (Or.inr ⟨by rfl, rfl⟩) (by assumption) ?_
    try simp only [Act.put, List.setIfInBounds_toArray, List.set_cons_zero, List.set_cons_succ]
    refine wpAnyH_take (i := 9) (oi := { dst := some 44, op := Op.move (Operand.tmp 6), type := 9, pos := "form.go:82", after := #[{ on := 6, ground := Ground.guard }], guard := some (6, true) }) (v := undef) rfl (by kernel_rfl) (by kernel_rfl) (by kernel_rfl) (fun _ _ _ h => h) (Or.inr ⟨by rfl, rfl⟩) (by assumption) ?_
    try simp only [Act.put, List.setIfInBounds_toArray, List.set_cons_zero, List.set_cons_succ]
    refine wpAnyH_take (i := 10) (oi := { dst := some 45, op := Op.call { callee := Callee.builtin Builtin.len, args := #[Operand.tmp 44], argTypes := #[9] }, type := 3, pos := "form.go:82", after := #[{ on := 9, ground := Ground.data }, { on := 6, ground := Ground.guard }], guard := some (6, true) }) (v := undef) rfl (by kernel_rfl) (by kernel_rfl) (by kernel_rfl) (fun _ _ _ h => h) (Or.inr ⟨by rfl, rfl⟩) (by assumption) ?_
    try simp only [Act.put, List.setIfInBounds_toArray, List.set_cons_zero, List.set_cons_succ]
    refine wpAnyH_take (i := 11) (oi := { dst := some 46, op := Op.binOp BinOp.eql 3 (Operand.tmp 43) (Operand.tmp 45) 3, type := 4, pos := "form.go:82", after := #[{ on := 8, ground := Ground.data }, { on := 10, ground := Ground.data }, { on := 6, ground := Ground.guard }, { on := 13, ground := Ground.gcOnly Departure.lateStores }], guard := some (6, true) }) (v := undef) rfl (by kernel_rfl) (by kernel_rfl) (by kernel_rfl) (fun _ _ _ h => h) (Or.inr ⟨by rfl, rfl⟩) (by assumption) ?_
    try simp only [Act.put, List.setIfInBounds_toArray, List.set_cons_zero, List.set_cons_succ]
    refine wpAnyH_take (i := 12) (oi := { dst := some 47, op := Op.pick (Operand.tmp 41) (Operand.tmp 46) (Operand.const (Value.bool false)), type := 4, pos := "form.go:82", after := #[{ on := 6, ground := Ground.data }, { on := 11, ground := Ground.data }, { on := 13, ground := Ground.gcOnly Departure.lateStores }], guard := none }) (v := .bool false) rfl (by kernel_rfl) (by kernel_rfl) (by kernel_rfl) (fun _ _ _ h => h) (Or.inl ⟨by rfl, fun w hSw => by (obtain ⟨y0, y1, y2, y3, z0, z1, z2, z3⟩ := hSw; go_simp)⟩) (by assumption) ?_
    try simp only [Act.put, List.setIfInBounds_toArray, List.set_cons_zero, List.set_cons_succ]
    refine wpAnyH_ready (rs := [13]) (by kernel_rfl) (by simp) ?_
    refine AllReadyH.cons (o := { dst := none, op := Op.store 41 (Operand.tmp 2) (Operand.tmp 35), type := 0, pos := "form.go:82", after := #[{ on := 0, ground := Ground.data }, { on := 8, ground := Ground.chain }, { on := 0, ground := Ground.phase }, { on := 1, ground := Ground.textOnly Departure.lateStores }, { on := 2, ground := Ground.textOnly Departure.lateStoresUnsure }, { on := 3, ground := Ground.phase }, { on := 4, ground := Ground.textOnly Departure.lateStoresUnsure }, { on := 5, ground := Ground.textOnly Departure.lateStores }, { on := 6, ground := Ground.textOnly Departure.lateStores }, { on := 7, ground := Ground.textOnly Departure.lateStores }, { on := 8, ground := Ground.textOnly Departure.lateStoresUnsure }, { on := 9, ground := Ground.textOnly Departure.lateStores }, { on := 10, ground := Ground.textOnly Departure.lateStoresUnsure }, { on := 11, ground := Ground.textOnly Departure.lateStores }, { on := 12, ground := Ground.textOnly Departure.lateStores }], guard := none }) rfl (fun K hK => ?_) AllReadyH.nil
    obtain ⟨j0, j1, j2, j3, g0, g1, g2, g3⟩ := HSS.out _ k12
    go_simp
    obtain ⟨X, hX⟩ : ∃ X, X = ((((W12.setCell ⟨w.heap.size, 0, none⟩ (.int .u8 KD)).setCell ⟨w.heap.size, 1, none⟩ (.int .u32 NO)).setCell ⟨w.heap.size, 2, none⟩ (.int .u64 VS)).setCell ⟨w.heap.size, 3, none⟩ (.string BD)) := ⟨_, rfl⟩
    have RX : X.heap[w.heap.size]? = some (.cells #[.int .u8 KD, .int .u32 NO, .int .u64 VS, .string BD] 41 (0, 0)) := by rw [hX]; exact row4_set ((k12.block w.heap.size (lt_of_heap R11) (fun f => f)).trans R11)
    have SX : Same w X := by rw [hX]; exact ((((s11.trans k12).setCell (p := ⟨w.heap.size, 0, none⟩) (fun h => absurd h (Nat.lt_irrefl _)) _).setCell (p := ⟨w.heap.size, 1, none⟩) (fun h => absurd h (Nat.lt_irrefl _)) _).setCell (p := ⟨w.heap.size, 2, none⟩) (fun h => absurd h (Nat.lt_irrefl _)) _).setCell (p := ⟨w.heap.size, 3, none⟩) (fun h => absurd h (Nat.lt_irrefl _)) _
    rw [← hX]
    clear hX
    refine hK.out _ _ (row4_cells RX) (fun hHeld => ?_)
    clear hK K j0 j1 j2 j3 g0 g1 g2 g3
    try simp only [Act.put, List.setIfInBounds_toArray, List.set_cons_zero, List.set_cons_succ]
    refine wpAnyH_take (i := 14) (oi := { dst := some 3, op := Op.assign (Operand.tmp 47), type := 4, pos := "form.go:82", after := #[{ on := 12, ground := Ground.data }, { on := 13, ground := Ground.chain }, { on := 0, ground := Ground.phase }, { on := 1, ground := Ground.phase }, { on := 2, ground := Ground.phase }, { on := 3, ground := Ground.phase }, { on := 4, ground := Ground.phase }, { on := 5, ground := Ground.phase }, { on := 6, ground := Ground.phase }, { on := 7, ground := Ground.phase }, { on := 8, ground := Ground.phase }, { on := 9, ground := Ground.phase }, { on := 10, ground := Ground.phase }, { on := 11, ground := Ground.phase }, { on := 12, ground := Ground.phase }, { on := 13, ground := Ground.phase }], guard := none }) (v := .bool false) rfl (by kernel_rfl) (by kernel_rfl) (by kernel_rfl) (fun _ _ _ h => h) (Or.inl ⟨by rfl, fun w hSw => by (obtain ⟨y0, y1, y2, y3, z0, z1, z2, z3⟩ := hSw; go_simp)⟩) (by assumption) ?_
    try simp only [Act.put, List.setIfInBounds_toArray, List.set_cons_zero, List.set_cons_succ]
    refine wpAnyH_done (by kernel_rfl) ?_ _
    go_wp2_with fail
    exact bodyPost_ret (results_row_tmp (p := 2) (u := 3) (ty := 41) (by kernel_rfl) _ _ w.heap.size 41 _ (0, 0) _ rfl RX Tryd.underlying41 rfl (by kernel_rfl)) rfl ⟨rfl, SX⟩
  · refine wp_region_held_drew (S := fun w' => w'.cell? ⟨w.heap.size, 0, none⟩ = some (.int .u8 KD) ∧ w'.cell? ⟨w.heap.size, 1, none⟩ = some (.int .u32 NO) ∧ w'.cell? ⟨w.heap.size, 2, none⟩ = some (.int .u64 VS) ∧ w'.cell? ⟨w.heap.size, 3, none⟩ = some (.string BD) ∧ w'.frozen? ⟨w.heap.size, 0, none⟩ = false ∧ w'.frozen? ⟨w.heap.size, 1, none⟩ = false ∧ w'.frozen? ⟨w.heap.size, 2, none⟩ = false ∧ w'.frozen? ⟨w.heap.size, 3, none⟩ = false) (by kernel_rfl) (HSS.out _ (Fr.drew (Fr.refl _ _))) (fun hHeld => ?_)
    refine wpAnyH_take (i := 0) (oi := { dst := some 35, op := Op.load 41 (Operand.tmp 2), type := 41, pos := "form.go:82", after := #[], guard := none }) (v := .agg #[.int .u8 KD, .int .u32 NO, .int .u64 VS, .string BD]) rfl (by kernel_rfl) (by kernel_rfl) (by kernel_rfl) (fun _ _ _ h => h) (Or.inl ⟨by rfl, fun w hSw => by (obtain ⟨y0, y1, y2, y3, z0, z1, z2, z3⟩ := hSw; go_simp)⟩) (by assumption) ?_
    try simp only [Act.put, List.setIfInBounds_toArray, List.set_cons_zero, List.set_cons_succ]
    refine wpAnyH_take (i := 1) (oi := { dst := some 36, op := Op.move (Operand.tmp 0), type := 9, pos := "form.go:82", after := #[], guard := none }) (v := .string s) rfl (by kernel_rfl) (by kernel_rfl) (by kernel_rfl) (fun _ _ _ h => h) (Or.inl ⟨by rfl, fun w hSw => by (obtain ⟨y0, y1, y2, y3, z0, z1, z2, z3⟩ := hSw; go_simp)⟩) (by assumption) ?_
    try simp only [Act.put, List.setIfInBounds_toArray, List.set_cons_zero, List.set_cons_succ]
    refine wpAnyH_take (i := 2) (oi := { dst := some 37, op := Op.slice 9 (Operand.tmp 36) none (some (Operand.const (Value.int IntKind.i64 28))) none, type := 9, pos := "form.go:82", after := #[{ on := 1, ground := Ground.data }], guard := none }) (v := .string (s.extract 0 28)) rfl (by kernel_rfl) (by kernel_rfl) (by kernel_rfl) (fun _ _ _ h => h) (Or.inl ⟨by rfl, fun w hSw => by (obtain ⟨y0, y1, y2, y3, z0, z1, z2, z3⟩ := hSw; go_simp)⟩) (by assumption) ?_
    try simp only [Act.put, List.setIfInBounds_toArray, List.set_cons_zero, List.set_cons_succ]
    refine wpAnyH_take (i := 3) (oi := { dst := some 38, op := Op.load 41 (Operand.tmp 2), type := 41, pos := "form.go:82", after := #[], guard := none }) (v := .agg #[.int .u8 KD, .int .u32 NO, .int .u64 VS, .string BD]) rfl (by kernel_rfl) (by kernel_rfl) (by kernel_rfl) (fun _ _ _ h => h) (Or.inl ⟨by rfl, fun w hSw => by (obtain ⟨y0, y1, y2, y3, z0, z1, z2, z3⟩ := hSw; go_simp)⟩) (by assumption) ?_
    try simp only [Act.put, List.setIfInBounds_toArray, List.set_cons_zero, List.set_cons_succ]
    refine wpAnyH_ready (rs := [4]) (by kernel_rfl) (by simp) ?_
    refine AllReadyH.cons (o := { dst := some 39, op := Op.call { callee := Callee.value (Operand.func 22), args := #[Operand.tmp 38], argTypes := #[41] }, type := 9, pos := "form.go:82", after := #[{ on := 3, ground := Ground.data }], guard := none }) rfl (fun K hK => ?_) AllReadyH.nil
    go_simp
    go_at_call 22
    refine (HHD2.out _).mono ?_
    rintro e W12 ⟨rfl, s12⟩
    try go_wp2_with fail
    have k12 : Same W11 W12 := Same.trans (Fr.drew (Fr.refl _ W11)) s12
    refine hK.out _ _ (HSS.out _ k12) (fun hHeld => ?_)
    clear hK K
    try simp only [Act.put, List.setIfInBounds_toArray, List.set_cons_zero, List.set_cons_succ]
    refine wpAnyH_take (i := 5) (oi := { dst := some 40, op := Op.binOp BinOp.eql 9 (Operand.tmp 37) (Operand.tmp 39) 9, type := 4, pos := "form.go:82", after := #[{ on := 2, ground := Ground.data }, { on := 4, ground := Ground.data }], guard := none }) (v := .bool true) rfl (by kernel_rfl) (by kernel_rfl) (by kernel_rfl) (fun _ _ _ h => h) (Or.inl ⟨by rfl, fun w hSw => by (obtain ⟨y0, y1, y2, y3, z0, z1, z2, z3⟩ := hSw; go_simp)⟩) (by assumption) ?_
    try simp only [Act.put, List.setIfInBounds_toArray, List.set_cons_zero, List.set_cons_succ]
    refine wpAnyH_take (i := 6) (oi := { dst := some 41, op := Op.move (Operand.tmp 40), type := 4, pos := "form.go:82", after := #[{ on := 5, ground := Ground.data }, { on := 4, ground := Ground.chain }], guard := none }) (v := .bool true) rfl (by kernel_rfl) (by kernel_rfl) (by kernel_rfl) (fun _ _ _ h => h) (Or.inl ⟨by rfl, fun w hSw => by (obtain ⟨y0, y1, y2, y3, z0, z1, z2, z3⟩ := hSw; go_simp)⟩) (by assumption) ?_
    try simp only [Act.put, List.setIfInBounds_toArray, List.set_cons_zero, List.set_cons_succ]
    refine wpAnyH_take (i := 7) (oi := { dst := some 42, op := Op.move (Operand.tmp 6), type := 9, pos := "form.go:82", after := #[{ on := 6, ground := Ground.guard }], guard := some (6, true) }) (v := .string RS) rfl (by kernel_rfl) (by kernel_rfl) (by kernel_rfl) (fun _ _ _ h => h) (Or.inl ⟨by rfl, fun w hSw => by (obtain ⟨y0, y1, y2, y3, z0, z1, z2, z3⟩ := hSw; go_simp)⟩) (by assumption) ?_
    try simp only [Act.put, List.setIfInBounds_toArray, List.set_cons_zero, List.set_cons_succ]
    refine wpAnyH_take (i := 9) (oi := { dst := some 44, op := Op.move (Operand.tmp 6), type := 9, pos := "form.go:82", after := #[{ on := 6, ground := Ground.guard }], guard := some (6, true) }) (v := .string RS) rfl (by kernel_rfl) (by kernel_rfl) (by kernel_rfl) (fun _ _ _ h => h) (Or.inl ⟨by rfl, fun w hSw => by (obtain ⟨y0, y1, y2, y3, z0, z1, z2, z3⟩ := hSw; go_simp)⟩) (by assumption) ?_
    try simp only [Act.put, List.setIfInBounds_toArray, List.set_cons_zero, List.set_cons_succ]
    refine wpAnyH_take (i := 10) (oi := { dst := some 45, op := Op.call { callee := Callee.builtin Builtin.len, args := #[Operand.tmp 44], argTypes := #[9] }, type := 3, pos := "form.go:82", after := #[{ on := 9, ground := Ground.data }, { on := 6, ground := Ground.guard }], guard := some (6, true) }) (v := .int .i64 RS.size) rfl (by kernel_rfl) (by kernel_rfl) (by kernel_rfl) (fun _ _ _ h => h) (Or.inl ⟨by rfl, fun w hSw => by (obtain ⟨y0, y1, y2, y3, z0, z1, z2, z3⟩ := hSw; go_simp)⟩) (by assumption) ?_
    try simp only [Act.put, List.setIfInBounds_toArray, List.set_cons_zero, List.set_cons_succ]
    refine wpAnyH_ready (rs := [8]) (by kernel_rfl) (by simp) ?_
    refine AllReadyH.cons (o := { dst := some 43, op := Op.call { callee := Callee.value (Operand.func 54), args := #[Operand.tmp 42, Operand.const (Value.string { data := #[0] })], argTypes := #[9, 9] }, type := 3, pos := "form.go:82", after := #[{ on := 7, ground := Ground.data }, { on := 6, ground := Ground.chain }, { on := 6, ground := Ground.guard }], guard := some (6, true) }) rfl (fun K hK => ?_) AllReadyH.nil
    go_simp
    go_at_call 54
    refine (HCT _).mono ?_
    rintro e W13 ⟨rfl, hW13⟩
    try go_wp2_with fail
    try rw [hW13]
    refine hK.out _ _ (HSS.out _ k12) (fun hHeld => ?_)
    clear hK K
    try simp only [Act.put, List.setIfInBounds_toArray, List.set_cons_zero, List.set_cons_succ]
    refine wpAnyH_take (i := 11) (oi := { dst := some 46, op := Op.binOp BinOp.eql 3 (Operand.tmp 43) (Operand.tmp 45) 3, type := 4, pos := "form.go:82", after := #[{ on := 8, ground := Ground.data }, { on := 10, ground := Ground.data }, { on := 6, ground := Ground.guard }, { on := 13, ground := Ground.gcOnly Departure.lateStores }], guard := some (6, true) }) (v := .bool q2) rfl (by kernel_rfl) (by kernel_rfl) (by kernel_rfl) (fun _ _ _ h => h) (Or.inl ⟨by rfl, fun w hSw => by (obtain ⟨y0, y1, y2, y3, z0, z1, z2, z3⟩ := hSw; go_simp)⟩) (by assumption) ?_
    try simp only [Act.put, List.setIfInBounds_toArray, List.set_cons_zero, List.set_cons_succ]
    refine wpAnyH_take (i := 12) (oi := { dst := some 47, op := Op.pick (Operand.tmp 41) (Operand.tmp 46) (Operand.const (Value.bool false)), type := 4, pos := "form.go:82", after := #[{ on := 6, ground := Ground.data }, { on := 11, ground := Ground.data }, { on := 13, ground := Ground.gcOnly Departure.lateStores }], guard := none }) (v := .bool q2) rfl (by kernel_rfl) (by kernel_rfl) (by kernel_rfl) (fun _ _ _ h => h) (Or.inl ⟨by rfl, fun w hSw => by (obtain ⟨y0, y1, y2, y3, z0, z1, z2, z3⟩ := hSw; go_simp)⟩) (by assumption) ?_
    try simp only [Act.put, List.setIfInBounds_toArray, List.set_cons_zero, List.set_cons_succ]
    refine wpAnyH_ready (rs := [13]) (by kernel_rfl) (by simp) ?_
    refine AllReadyH.cons (o := { dst := none, op := Op.store 41 (Operand.tmp 2) (Operand.tmp 35), type := 0, pos := "form.go:82", after := #[{ on := 0, ground := Ground.data }, { on := 8, ground := Ground.chain }, { on := 0, ground := Ground.phase }, { on := 1, ground := Ground.textOnly Departure.lateStores }, { on := 2, ground := Ground.textOnly Departure.lateStoresUnsure }, { on := 3, ground := Ground.phase }, { on := 4, ground := Ground.textOnly Departure.lateStoresUnsure }, { on := 5, ground := Ground.textOnly Departure.lateStores }, { on := 6, ground := Ground.textOnly Departure.lateStores }, { on := 7, ground := Ground.textOnly Departure.lateStores }, { on := 8, ground := Ground.textOnly Departure.lateStoresUnsure }, { on := 9, ground := Ground.textOnly Departure.lateStores }, { on := 10, ground := Ground.textOnly Departure.lateStoresUnsure }, { on := 11, ground := Ground.textOnly Departure.lateStores }, { on := 12, ground := Ground.textOnly Departure.lateStores }], guard := none }) rfl (fun K hK => ?_) AllReadyH.nil
    obtain ⟨j0, j1, j2, j3, g0, g1, g2, g3⟩ := HSS.out _ k12
    go_simp
    obtain ⟨X, hX⟩ : ∃ X, X = ((((W12.setCell ⟨w.heap.size, 0, none⟩ (.int .u8 KD)).setCell ⟨w.heap.size, 1, none⟩ (.int .u32 NO)).setCell ⟨w.heap.size, 2, none⟩ (.int .u64 VS)).setCell ⟨w.heap.size, 3, none⟩ (.string BD)) := ⟨_, rfl⟩
    have RX : X.heap[w.heap.size]? = some (.cells #[.int .u8 KD, .int .u32 NO, .int .u64 VS, .string BD] 41 (0, 0)) := by rw [hX]; exact row4_set ((k12.block w.heap.size (lt_of_heap R11) (fun f => f)).trans R11)
    have SX : Same w X := by rw [hX]; exact ((((s11.trans k12).setCell (p := ⟨w.heap.size, 0, none⟩) (fun h => absurd h (Nat.lt_irrefl _)) _).setCell (p := ⟨w.heap.size, 1, none⟩) (fun h => absurd h (Nat.lt_irrefl _)) _).setCell (p := ⟨w.heap.size, 2, none⟩) (fun h => absurd h (Nat.lt_irrefl _)) _).setCell (p := ⟨w.heap.size, 3, none⟩) (fun h => absurd h (Nat.lt_irrefl _)) _
    rw [← hX]
    clear hX
    refine hK.out _ _ (row4_cells RX) (fun hHeld => ?_)
    clear hK K j0 j1 j2 j3 g0 g1 g2 g3
    try simp only [Act.put, List.setIfInBounds_toArray, List.set_cons_zero, List.set_cons_succ]
    refine wpAnyH_take (i := 14) (oi := { dst := some 3, op := Op.assign (Operand.tmp 47), type := 4, pos := "form.go:82", after := #[{ on := 12, ground := Ground.data }, { on := 13, ground := Ground.chain }, { on := 0, ground := Ground.phase }, { on := 1, ground := Ground.phase }, { on := 2, ground := Ground.phase }, { on := 3, ground := Ground.phase }, { on := 4, ground := Ground.phase }, { on := 5, ground := Ground.phase }, { on := 6, ground := Ground.phase }, { on := 7, ground := Ground.phase }, { on := 8, ground := Ground.phase }, { on := 9, ground := Ground.phase }, { on := 10, ground := Ground.phase }, { on := 11, ground := Ground.phase }, { on := 12, ground := Ground.phase }, { on := 13, ground := Ground.phase }], guard := none }) (v := .bool q2) rfl (by kernel_rfl) (by kernel_rfl) (by kernel_rfl) (fun _ _ _ h => h) (Or.inl ⟨by rfl, fun w hSw => by (obtain ⟨y0, y1, y2, y3, z0, z1, z2, z3⟩ := hSw; go_simp)⟩) (by assumption) ?_
    try simp only [Act.put, List.setIfInBounds_toArray, List.set_cons_zero, List.set_cons_succ]
    refine wpAnyH_done (by kernel_rfl) ?_ _
    go_wp2_with fail
    exact bodyPost_ret (results_row_tmp (p := 2) (u := 3) (ty := 41) (by kernel_rfl) _ _ w.heap.size 41 _ (0, 0) _ rfl RX Tryd.underlying41 rfl (by kernel_rfl)) rfl ⟨rfl, SX⟩
end Go.Proofs.YtajpgopgohadeaaDoor
