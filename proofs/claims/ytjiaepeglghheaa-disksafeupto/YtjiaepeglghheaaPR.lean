/- DiskSafe: its loop over the image's pages, whole. -/
import Derived.Test.YtjiaepeglghheaaPQ
namespace Go.Proofs.Ytjiaepeglghheaa
open Go.RowKit

/-- What the law asks of a page of the image. -/
structure PgOk (T : Nat → List ByteArray) (Sy : List ByteArray) (blank got : ByteArray) (p : Nat) : Prop where
  size : got.size = 1024
  osize : ((Sy[p]?).getD blank).size = 1024
  kept : (T p).length = 0 → got = (Sy[p]?).getD blank
  tl : (T p).length ≤ 1048576
  ts : ∀ s ∈ T p, s.size = 1024
  sec : ∀ k, k < 8 → secS 128 got k = secS 128 ((Sy[p]?).getD blank) k ∨ ∃ s ∈ T p, secS 128 got k = secS 128 s k
theorem pg_one {T : Nat → List ByteArray} {Sy : List ByteArray} {blank got : ByteArray} {p yc : Nat} {yo : Option Addr} {w : World} (h : PgOk T Sy blank got p) (hy : w.ownsRow 0 9 1 (.slice yo (T p).length yc) (T p).length (scells (T p))) :
    ∀ k : Nat, k < 8 → ∀ Z, Same w Z → Calls Try.prog 20 #[.int .i64 (k : Int), .string got, .string ((Sy[p]?).getD blank), .slice yo (T p).length yc] Z fun e w' => e = .returned (.bool true) ∧ w' = Z := by
  intro k hk Z sZ
  refine one_true (A := k * 128) (B := k * 128 + 128) Z h.size h.osize h.tl (own_frameB hy sZ (fun _ _ f => f)) h.ts hk rfl rfl ?_
  rcases h.sec k hk with e | ⟨s, hs, e⟩
  · exact Or.inl (sec_extract rfl rfl e)
  · exact Or.inr ⟨s, hs, sec_extract rfl rfl e⟩
theorem pq4L {ic sc bw Bi Bs : Nat} {ia sa : Option Addr} {Im Sy : List ByteArray} {T : Nat → List ByteArray} {V : Nat → Prop} {blank : ByteArray} {v5 v24 : Value} {Q : Exit → Act → World → Prop} (hQp : ∀ c (a : Act) d v w, Q (.panic c) (a.put d v) w → Q (.panic c) a w) (a0 : Act) (w : World)
    (I0 : IPQ v5 (.slice sa Sy.length sc) (.slice (some ⟨bw, 0, none⟩) 8 8) (.slice ia Im.length ic) (.string blank) (.int .i64 ((0 : Nat) : Int)) v24 a0) (hi : w.ownsRow Bi 9 1 (.slice ia Im.length ic) Im.length (scells Im)) (hs : w.ownsRow Bs 9 1 (.slice sa Sy.length sc) Sy.length (scells Sy)) (hw : WrAt w bw T V) (hl : Im.length ≤ 8) (hp : ∀ p x, Im[p]? = some x → PgOk T Sy blank x p)
    (hQ : ∀ a W v23 v24, IPQ v5 (.slice sa Sy.length sc) (.slice (some ⟨bw, 0, none⟩) 8 8) (.slice ia Im.length ic) (.string blank) v23 v24 a → Same w W → Q (.exit 6) a W) : (Code.loop cPL4).wp Try.prog Q a0 w := by
  refine wp_loop (fun a W => ∃ (p : Nat) (v : Value), p ≤ Im.length ∧ IPQ v5 (.slice sa Sy.length sc) (.slice (some ⟨bw, 0, none⟩) 8 8) (.slice ia Im.length ic) (.string blank) (.int .i64 (p : Int)) v a ∧ Same w W) (fun a _ => Im.length - kOf a 23) ⟨0, v24, Nat.zero_le _, I0, Fr.refl _ _⟩ ?_
  rintro a W ⟨p, v, hpl, I1, s1⟩
  by_cases hgo : p < Im.length
  · obtain ⟨x, hx⟩ : ∃ x, Im[p]? = some x := ⟨_, List.getElem?_eq_getElem hgo⟩
    have ok := hp p x hx
    have hp8 : p < 8 := by omega
    have hi1 := own_base (own_frameB hi s1 (fun _ _ f => f)) (Nat.zero_le _)
    have hs1 := own_base (own_frameB hs s1 (fun _ _ f => f)) (Nat.zero_le _)
    obtain ⟨yo, yc, cy, hy, _⟩ := (hw.fr s1 (fun _ _ f => f)).hdr hp8
    have hO := pg_one ok hy
    obtain ⟨gi, rfl, _⟩ := own_some hi1 (by omega)
    have cx : W.cell? ⟨gi, p, none⟩ = some (.string x) := own_cell hi1 (by unfold scells; rw [List.getElem?_map, hx]; rfl)
    have next : ∀ a' W3 u24, IPQ v5 (.slice sa Sy.length sc) (.slice (some ⟨bw, 0, none⟩) 8 8) (.slice (some ⟨gi, 0, none⟩) Im.length ic) (.string blank) (.int .i64 ((p : Int) + 1)) u24 a' → Same W W3 →
        (∃ (p' : Nat) (v : Value), p' ≤ Im.length ∧ IPQ v5 (.slice sa Sy.length sc) (.slice (some ⟨bw, 0, none⟩) 8 8) (.slice (some ⟨gi, 0, none⟩) Im.length ic) (.string blank) (.int .i64 (p' : Int)) v a' ∧ Same w W3) ∧ Im.length - kOf a' 23 < Im.length - kOf a 23 := by
      intro a' W3 u24 i3 s3
      have h4 : a'.eval (.tmp 23) = .int .i64 ((p + 1 : Nat) : Int) := i3.s23
      refine ⟨⟨p + 1, u24, hgo, i3, s1.trans s3⟩, ?_⟩
      rw [kOf_eq h4, kOf_eq I1.s23]
      omega
    by_cases hps : p < Sy.length
    · obtain ⟨z, hz⟩ : ∃ z, Sy[p]? = some z := ⟨_, List.getElem?_eq_getElem hps⟩
      obtain ⟨gs, rfl, _⟩ := own_some hs1 (by omega)
      have cz : W.cell? ⟨gs, p, none⟩ = some (.string z) := own_cell hs1 (by unfold scells; rw [List.getElem?_map, hz]; rfl)
      have eo : (Sy[p]?).getD blank = z := by rw [hz]; rfl
      have hk := ok.kept
      rw [eo] at hO hk
      by_cases hn : (T p).length = 0
      · have e := hk hn
        rw [hn] at cy hO
        rw [e] at cx hO
        exact pq4oe (Q := Exit.then _ Q) hQp a W I1 hgo hp8 cx cy (e ▸ ok.size) hps cz hO next
      · exact pq4on (Q := Exit.then _ Q) hQp a W I1 hgo hp8 cx cy ok.size hps cz hn hO next
    · have eo : (Sy[p]?).getD blank = blank := by rw [List.getElem?_eq_none (by omega)]; rfl
      have hk := ok.kept
      rw [eo] at hO hk
      by_cases hn : (T p).length = 0
      · have e := hk hn
        rw [hn] at cy hO
        rw [e] at cx hO
        exact pq4be (Q := Exit.then _ Q) hQp a W I1 hgo hp8 cx cy (e ▸ ok.size) hps hO next
      · exact pq4bn (Q := Exit.then _ Q) hQp a W I1 hgo hp8 cx cy ok.size hps hn hO next
  · obtain rfl : Im.length = p := by omega
    exact pq4E a W I1 (Nat.le_refl _) (fun a' i2 => hQ a' W _ _ i2 s1)
end Go.Proofs.Ytjiaepeglghheaa
