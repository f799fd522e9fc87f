/- Nodes opened, with the room behind their lists. -/
import Derived.Test.YtmgkdnejjemfeaaKV
import Derived.Test.YtmgkdnejjemfeaaCB
namespace Go.Proofs.Ytmgkdnejjemfeaa
open Go.ChangeShapes Go.WideShapes Go.ChangeAt Go.RowKit

set_option maxRecDepth 100000 in
theorem open_nodeC {H : Type} {enc : TypeId × Value → H} {W : World} {v : Value} {d : DataW H} {pl : List MemPlace} {base : Nat}
    (hv : Value.okWide Try.prog W .any base 28 v) (h : DataW.Trod enc Try.prog W 0 (fun _ => true) true 28 v d pl) (hb : Rows.uptoBulk d ≤ 1048576) :
    ∃ (r : Nr) (N : Nd), v = ndV r N ∧ NdIn W r N ∧ NdCapN r N ∧ NdSmall N := by
  obtain ⟨cs, rfl, hz⟩ := okWide_struct Try.underlying28 hv
  rw [show Try.prog.cellsOf 28 = 3 from by kernel_rfl] at hz
  obtain ⟨fuel, hf⟩ := h
  obtain ⟨x, y, z, rfl⟩ : ∃ x y z, cs = #[x, y, z] := by
    obtain ⟨l⟩ := cs
    match l, hz with
    | [x, y, z], _ => exact ⟨x, y, z, rfl⟩
  obtain ⟨y0, y1, y2, n, hx, _, f0, f1, f2⟩ := Deep.trod_struct3 Try.underlying28 hf
  have c0 : Try.prog.cellsOf 24 = 1 := by kernel_rfl
  have c1 : Try.prog.cellsOf 25 = 1 := by kernel_rfl
  have c2 : Try.prog.cellsOf 26 = 1 := by kernel_rfl
  simp only [Value.cells, c0, c1, c2, List.drop_succ_cons, List.drop_zero, List.take_succ_cons, List.take_zero] at f0 f1 f2
  obtain ⟨pa, pb, po, cp, ps, e0, l0, m0, a0, b0, _, z0, s0⟩ := open_rows (α := ByteArray × ByteArray) 2 (by decide) (fun x => [.string x.1, .string x.2]) (fun _ => True) (fun x => x.1.size + x.2.size + 3) Try.underlying24 (by kernel_rfl) (fun m c x hc h => open_pair_in hc h) f0
  obtain ⟨sa, sb, so, cs', ss, e1, l1, m1, a1, b1, _, z1, s1⟩ := open_rows (α := ByteArray) 1 (by decide) (fun x => [.string x]) (fun _ => True) (fun x => x.size + 1) Try.underlying25 (by kernel_rfl) (fun m c x hc h => open_text_in h) f1
  obtain ⟨ka, kb, ko, ck, ks, e2, l2, m2, a2, b2, k2, z2, s2⟩ := open_rows (α := Kid) 33 (by decide) kcells KidOk (fun _ => 1) Try.underlying26 (by kernel_rfl) (fun m c x hc h => open_kid_in hc h) f2
  simp only [List.cons.injEq, and_true] at e0 e1 e2
  subst e0 e1 e2
  have hd : d = (DataW.agg [y0.1, y1.1, y2.1] : DataW H) := congrArg Prod.fst hx
  rw [hd] at hb
  simp only [Rows.uptoBulk, Rows.uptoBulkAll] at hb
  have n0 := sum_len (fun x : ByteArray × ByteArray => x.1.size + x.2.size + 3) ps (fun x _ => by omega)
  have n1 := sum_len (fun x : ByteArray => x.size + 1) ss (fun x _ => by omega)
  have n2 := sum_len (fun _ : Kid => 1) ks (fun x _ => by omega)
  have sm : NdSmall ⟨ps, ss, ks⟩ := ⟨by show (ps.map _).sum ≤ _; omega, by show (ss.map _).sum ≤ _; omega, by show ks.length ≤ _; omega⟩
  have hml : maxLen = 9223372036854775807 := rfl
  have P : PRow W pa pb po ps := ⟨a0, fun j x hx => ⟨b0 j x hx 0 _ rfl, b0 j x hx 1 _ rfl⟩⟩
  have T : TRow W sa sb so ss := ⟨a1, fun j x hx => by have := b1 j x hx 0 _ rfl; simpa using this⟩
  have K : KRow W ka kb ko ks := ⟨a2, b2⟩
  exact ⟨⟨pa, pb, po, cp, sa, sb, so, cs', ka, kb, ko, ck⟩, ⟨ps, ss, ks⟩, rfl, ⟨⟨P, T, K, k2, by show ps.length ≤ _; omega, by show ss.length ≤ _; omega, by show ks.length ≤ _; omega⟩, prow_part P z0, trow_part T z1, krow_part k2 K z2⟩, ⟨l0, l1, l2⟩, sm⟩
end Go.Proofs.Ytmgkdnejjemfeaa
