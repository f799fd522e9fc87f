/- free: the walk of FreeFromBodies, out of apart's contract. -/
import Derived.Test.YtadmkeadggcipaaIM
import Derived.Test.YtadmkeadggcipaaIO
namespace Go.Proofs.Ytadmkeadggcipaa
open Go.RowKit Go.Maps

/-- What FromBody answers, of both sides, the good way and the bad one at once. -/
def fbNx (p q : Int) (s : ByteArray) : Nat := if docOk p q s then num4 s 0 else 0
def fbNs (p q : Int) (s : ByteArray) : List Nat := if docOk p q s then docNs s else []
def fbE (p q : Int) (s : ByteArray) : Int := if docOk p q s then 0 else if frameP p q then 90 else 2
def FbIs (nx : Nat) (ns : List Nat) (er : Int) (w : World) (e : Ending) (w' : World) : Prop :=
  ∃ ao c, e = .returned (.tuple #[.int .u32 (nx : Int), .slice ao ns.length c, .int .i64 er]) ∧ w'.ownsRow w.heap.size 27 1 (.slice ao ns.length c) ns.length (ncells ns)
theorem fb_doc {p q : Int} {s : ByteArray} {w w' : World} {e : Ending} (h : RFromIs p q s w e w') : FbIs (fbNx p q s) (fbNs p q s) (fbE p q s) w e w' := by
  unfold FbIs fbNx fbNs fbE
  rcases h with ⟨h1, ao, c, h2, h3⟩ | ⟨h1, h2⟩
  · rw [h1]; exact ⟨ao, c, h2, h3⟩
  · rw [h1]; exact ⟨none, 0, h2, own_nil⟩
theorem fb_code {p q : Int} {s : ByteArray} {w w' : World} {e : Ending} (h : FromIs p q s w e w') : FbIs (fbNx p q s) (fbNs p q s) (fbE p q s) w e w' := by
  obtain ⟨k1, k2⟩ := from_both (p := p) (q := q) (s := s)
  unfold FbIs fbNx fbNs fbE
  rcases h with ⟨h1, ao, c, h2, h3⟩ | ⟨h1, h2⟩
  · obtain ⟨e1, e2⟩ := k2 h1
    rw [← k1, h1]
    rw [e1, e2] at h2
    rw [e2] at h3
    exact ⟨ao, c, h2, h3⟩
  · rw [← k1, h1]; exact ⟨none, 0, h2, own_nil⟩
theorem fbNs_len (p q : Int) (s : ByteArray) : (fbNs p q s).length ≤ 2038 := by
  unfold fbNs
  split
  · rename_i h
    unfold docOk at h
    simp only [Bool.and_eq_true, decide_eq_true_eq] at h
    unfold docNs
    rw [List.length_map, List.length_range]
    have h1 := h.1.2
    rcases entN_cases p q with ⟨_, h2⟩ | ⟨_, _, h2, _⟩ <;> omega
  · exact Nat.zero_le _
/-- Two rows, the one older than the other. -/
theorem two_apt {W : World} {B1 B2 n c1 c2 : Nat} {a1 a2 : Option Addr} {xs ys : List Value} {zs : List Nat} (hx : xs = ncells zs) (hy : ys = ncells zs) (h1 : W.ownsRow B1 27 1 (.slice a1 n c1) n xs) (h2 : W.ownsRow B2 27 1 (.slice a2 n c2) n ys) (hlt : ∀ a, a1 = some a → a.block < B2) (hn : n ≤ 1099511627000) : Apt W [⟨a1, n, c1⟩, ⟨a2, n, c2⟩] := by
  have b1 : ∀ k, (Value.slice a1 n c1).ownBlock = some k → k < B2 := fun k hk => by
    have e := Rw.blk_map ⟨a1, n, c1⟩
    unfold Rw.v at e
    simp only at e
    rw [e] at hk
    cases a1 with
    | none => cases hk
    | some a => simp only [Option.map_some, Option.some.injEq] at hk; rw [← hk]; exact hlt a rfl
  have b2 : ∀ k, (Value.slice a2 n c2).ownBlock = some k → B2 ≤ k := fun k hk => by
    have e := Rw.blk_map ⟨a2, n, c2⟩
    unfold Rw.v at e
    simp only at e
    rw [e] at hk
    cases a2 with
    | none => cases hk
    | some a => simp only [Option.map_some, Option.some.injEq] at hk; rw [← hk]; exact (own_ge h2).1
  refine ⟨fun i x hi => ?_, fun i j x y k hi hj hx2 hy2 => ?_, fun x hm => ?_⟩
  · match i, hi with
    | 0, hi => obtain rfl := Option.some.inj hi; exact ⟨zs, by unfold RIs; rw [← hx]; exact own_base h1 (Nat.zero_le _)⟩
    | 1, hi => obtain rfl := Option.some.inj hi; exact ⟨zs, by unfold RIs; rw [← hy]; exact own_base h2 (Nat.zero_le _)⟩
  · match i, j, hi, hj with
    | 0, 0, _, _ => rfl
    | 1, 1, _, _ => rfl
    | 0, 1, hi, hj =>
      obtain rfl := Option.some.inj hi; obtain rfl := Option.some.inj hj
      have := b1 k hx2; have := b2 k hy2; omega
    | 1, 0, hi, hj =>
      obtain rfl := Option.some.inj hi; obtain rfl := Option.some.inj hj
      have := b2 k hx2; have := b1 k hy2; omega
  · simp only [List.mem_cons, List.not_mem_nil, or_false] at hm
    rcases hm with rfl | rfl <;> exact hn
end Go.Proofs.Ytadmkeadggcipaa
