/- What node reads, as a node. -/
import Derived.Test.YtjlbkagkmcelgaaNK
namespace Go.Proofs.Ytjlbkagkmcelgaa
open Go.RowKit

theorem rText_small (s : ByteArray) (p c : Nat) (n : Int) : (rText s p c n).1.size ≤ n.toNat := by
  unfold rText; split
  · exact Nat.zero_le _
  · have h1 := rRaw_size s (rFree s p c n.toNat).2.1 (rFree s p c n.toNat).2.2 (rFree s p c n.toNat).1
    have h2 := (rFree_lt s p c n.toNat).2
    omega
theorem rCount_most (s : ByteArray) (p c most : Nat) : (rCount s p c most).1 ≤ most := by
  unfold rCount; split
  · exact Nat.zero_le _
  · exact (rFree_lt s p c most).2
theorem rMany_all {α : Type} {rd : Nat → Nat → α × Nat × Nat} {P : α → Prop} (h : ∀ p c, P (rd p c).1) : ∀ (n p c : Nat) (acc : List α), (∀ x ∈ acc, P x) → (∀ x ∈ (rMany rd n p c acc).1, P x) ∧ (rMany rd n p c acc).1.length ≤ acc.length + n := by
  intro n
  induction n with
  | zero => intro p c acc ha; exact ⟨ha, Nat.le_refl _⟩
  | succ n ih =>
    intro p c acc ha
    rw [rMany]
    split
    · obtain ⟨h1, h2⟩ := ih (rd p c).2.1 (rd p c).2.2 (acc ++ [(rd p c).1]) (fun x hx => by
        simp at hx; rcases hx with hx | rfl
        · exact ha x hx
        · exact h p c)
      refine ⟨h1, ?_⟩
      simp at h2; omega
    · exact ⟨ha, by show acc.length ≤ _; omega⟩
theorem rListG_all {α : Type} {rd : Nat → Nat → α × Nat × Nat} {P : α → Prop} (h : ∀ p c, P (rd p c).1) (s : ByteArray) (p c most : Nat) : (∀ x ∈ (rListG rd s p c most).1, P x) ∧ (rListG rd s p c most).1.length ≤ most := by
  obtain ⟨h1, h2⟩ := rMany_all h (rCount s p c most).1 (rCount s p c most).2.1 (rCount s p c most).2.2 [] (by simp)
  have h3 := rCount_most s p c most
  unfold rListG; split
  · exact ⟨h1, by simp at h2; omega⟩
  · exact ⟨by simp, by simp⟩
theorem rKids_all {rd : Nat → Nat → Kid × Nat × Nat} {rt : Nat → Nat → ByteArray × Nat × Nat} {P : ByteArray → Prop} (h : ∀ p c, P (rt p c).1) : ∀ (n p c : Nat) (sl : List ByteArray) (ks : List Kid), (∀ x ∈ sl, P x) → (∀ x ∈ (rKids rd rt n p c sl ks).1, P x) ∧ (rKids rd rt n p c sl ks).1.length ≤ sl.length + n ∧ (rKids rd rt n p c sl ks).2.1.length ≤ ks.length + n := by
  intro n
  induction n with
  | zero => intro p c sl ks ha; exact ⟨ha, Nat.le_refl _, Nat.le_refl _⟩
  | succ n ih =>
    intro p c sl ks ha
    rw [rKids]
    split
    · split
      · obtain ⟨h1, h2, h3⟩ := ih (rd p c).2.1 (rd p c).2.2 sl (ks ++ [(rd p c).1]) ha
        refine ⟨h1, by omega, ?_⟩
        simp at h3; omega
      · obtain ⟨h1, h2, h3⟩ := ih (rd (rt p c).2.1 (rt p c).2.2).2.1 (rd (rt p c).2.1 (rt p c).2.2).2.2 (sl ++ [(rt p c).1]) (ks ++ [(rd (rt p c).2.1 (rt p c).2.2).1]) (fun x hx => by
          simp at hx; rcases hx with hx | rfl
          · exact ha x hx
          · exact h p c)
        refine ⟨h1, ?_, ?_⟩
        · simp at h2; omega
        · simp at h3; omega
    · exact ⟨ha, by show sl.length ≤ _; omega, by show ks.length ≤ _; omega⟩
theorem rListK_all {rd : Nat → Nat → Kid × Nat × Nat} {rt : Nat → Nat → ByteArray × Nat × Nat} {P : ByteArray → Prop} (h : ∀ p c, P (rt p c).1) (hk : ∀ p c, KidOk (rd p c).1) (s : ByteArray) (p c most : Nat) : (∀ x ∈ (rListK rd rt s p c most).1, P x) ∧ (∀ x ∈ (rListK rd rt s p c most).2.1, KidOk x) ∧ (rListK rd rt s p c most).1.length ≤ most ∧ (rListK rd rt s p c most).2.1.length ≤ most := by
  obtain ⟨h1, h2, h4⟩ := rKids_all (rd := rd) h (rCount s p c most).1 (rCount s p c most).2.1 (rCount s p c most).2.2 [] [] (by simp)
  have h5 := rKids_ok (rt := rt) hk (rCount s p c most).1 (rCount s p c most).2.1 (rCount s p c most).2.2 [] [] (by simp)
  have h3 := rCount_most s p c most
  simp only [List.length_nil, Nat.zero_add] at h2 h4
  refine ⟨h1, ?_, Nat.le_trans h2 h3, ?_⟩
  · unfold rListK; dsimp only
    split
    · exact h5
    · simp
  · unfold rListK; dsimp only
    split
    · omega
    · simp
theorem flat_len {α : Type} (f : α → List UInt8) (B : Nat) (l : List α) (h : ∀ x ∈ l, (f x).length ≤ B) : (l.flatMap f).length ≤ l.length * B := by
  induction l with
  | nil => simp
  | cons x l ih =>
    have h1 := h x (by simp)
    have h2 := ih (fun y hy => h y (by simp [hy]))
    rw [List.flatMap_cons, List.length_append, List.length_cons, Nat.succ_mul]; omega
theorem textB_len10 (s : ByteArray) : (textB s).length ≤ 10 + s.size := by
  unfold textB; rw [List.length_append, bytes_length]
  have := freeB_length s.size
  omega
theorem kidsB_len (pages : Bool) (q : Int) (B : Nat) : ∀ (ks : List Kid) (b : Bool) (ss : List ByteArray), (∀ x ∈ ss, x.size ≤ B) → (∀ x ∈ ks, KidOk x) → (kidsB pages q b ss ks).length ≤ ks.length * (B + 46) := by
  intro ks
  induction ks with
  | nil => intro b ss _ _; cases b <;> simp [kidsB]
  | cons k ks ih =>
    intro b ss hs hk
    have h1 := kidB_len pages q k (hk k (by simp))
    have hk2 : ∀ x ∈ ks, KidOk x := fun x hx => hk x (by simp [hx])
    rw [List.length_cons, Nat.succ_mul]
    cases b with
    | true =>
      have h2 := ih false ss hs hk2
      rw [kidsB, List.length_append]; omega
    | false =>
      cases ss with
      | nil =>
        have h2 := ih false [] (by simp) hk2
        rw [kidsB, List.length_append]; omega
      | cons s ss =>
        have h2 := ih false ss (fun x hx => hs x (by simp [hx])) hk2
        have h3 := textB_len10 s
        have h4 := hs s (by simp)
        rw [kidsB, List.length_append, List.length_append]; omega
/-- The node that is read of bytes. -/
def rdNode_page (pg q : Int) (s : ByteArray) : Nd := if (rKind s).1 = 1 then ⟨rdLeaf pg s, [], []⟩ else if (rKind s).1 = 2 then ⟨[], (rdBranch_page pg q s).1, (rdBranch_page pg q s).2.1⟩ else ⟨[], [], []⟩
theorem node_page {pg q : Int} (hpg : pg = 1024 ∨ pg = 2048 ∨ pg = 4096 ∨ pg = 8192) (w : World) (s : ByteArray) (hsz : s.size ≤ 1000000000) :
    Calls Try.prog 52 #[pageV, frameV pg q, .string s] w fun e w' => ∃ r, e = .returned (ndV r (rdNode_page pg q s)) ∧ NdOk w' r q (rdNode_page pg q s) ∧ Same w w' := by
  by_cases h1 : (rKind s).1 = 1
  · have hN : rdNode_page pg q s = ⟨rdLeaf pg s, [], []⟩ := by unfold rdNode_page; rw [if_pos h1]
    obtain ⟨b1, b2⟩ := rListG_all (rd := rdPair pg s) (P := fun x => x.1.size ≤ 1024 ∧ x.2.size ≤ 1024) (fun p c => ⟨by have := rText_small s p c (pg / 16); show (rText s p c (pg / 16)).1.size ≤ _; omega, by have := rText_small s (rText s p c (pg / 16)).2.1 (rText s p c (pg / 16)).2.2 (pg / 8); show (rText s _ _ (pg / 8)).1.size ≤ _; omega⟩) s (rKind s).2.1 (rKind s).2.2 (pg - 32).toNat
    have b3 : (rdLeaf pg s).length ≤ 8160 := by show (rListG _ _ _ _ _).1.length ≤ _; omega
    have b4 : (pairsB (rdLeaf pg s)).length ≤ (rdLeaf pg s).length * 2068 := flat_len pairB 2068 _ (fun x hx => by
      have h3 := b1 x hx
      have h4   := textB_len10 x.1
      have h5   := textB_len10 x.2
      unfold pairB; rw [List.length_append]; omega)
    have b5 := freeB_length (rdLeaf pg s).length
    have b6 : ∀ t, (formN t q ⟨rdLeaf pg s, [], []⟩).length ≤ 50000000000 := fun t => by
      unfold formN; rw [if_pos (by rfl), List.length_cons, List.length_append]
      show _ + (pairsB (rdLeaf pg s)).length + 1 ≤ _
      show (freeB (rdLeaf pg s).length).length + _ + 1 ≤ _
      omega
    rw [hN]
    refine (nodeLeaf hpg w s hsz _ _ h1).mono ?_
    rintro e w' ⟨ao, cap, he, ho, hs⟩
    obtain ⟨g, hg⟩ := own_prow ho rfl
    exact ⟨⟨ao, g, 0, cap, none, 0, 0, 0, none, 0, 0, 0⟩, he, ⟨⟨hg, ⟨fun e => absurd rfl e, fun j x hx => by simp at hx⟩, ⟨fun e => absurd rfl e, fun j x hx => by simp at hx⟩, by simp, by show (rdLeaf pg s).length ≤ _; omega, by simp, by simp⟩, ⟨by simp, by simp⟩, b6 _, b6 _⟩, hs⟩
  · by_cases h2 : (rKind s).1 = 2
    · have hN : rdNode_page pg q s = ⟨[], (rdBranch_page pg q s).1, (rdBranch_page pg q s).2.1⟩ := by unfold rdNode_page; rw [if_neg h1, if_pos h2]
      obtain ⟨b1, b2, b3, b4⟩ := rListK_all (rd := rdKid q s) (rt := fun p c => rText s p c (pg / 16)) (P := fun x => x.size ≤ 1024) (fun p c => by have := rText_small s p c (pg / 16); show (rText s p c (pg / 16)).1.size ≤ _; omega) (rdKid_ok q s) s (rKind s).2.1 (rKind s).2.2 (pg - 32).toNat
      have c3 : (rdBranch_page pg q s).1.length ≤ 8160 := by show (rListK _ _ _ _ _ _).1.length ≤ _; omega
      have c4 : (rdBranch_page pg q s).2.1.length ≤ 8160 := by show (rListK _ _ _ _ _ _).2.1.length ≤ _; omega
      have b6 : ∀ t, (formN t q ⟨[], (rdBranch_page pg q s).1, (rdBranch_page pg q s).2.1⟩).length ≤ 50000000000 := fun t => by
        have k1 := kidsB_len t q 1024 (rdBranch_page pg q s).2.1 true (rdBranch_page pg q s).1 b1 b2
        have k2 := freeB_length (rdBranch_page pg q s).2.1.length
        unfold formN; split
        · simp only [List.length_cons, List.length_append]
          have := freeB_length ([] : List (ByteArray × ByteArray)).length
          show (freeB ([] : List (ByteArray × ByteArray)).length).length + (pairsB []).length + 1 ≤ _
          have e : (pairsB []).length = 0 := rfl
          omega
        · rw [List.length_cons, List.length_append]
          show (freeB (rdBranch_page pg q s).2.1.length).length + (kidsB t q true (rdBranch_page pg q s).1 (rdBranch_page pg q s).2.1).length + 1 ≤ _
          omega
      rw [hN]
      refine (nodeBranch_page hpg w s hsz _ h2).mono ?_
      rintro e w' ⟨ka, ck, ao, cap, he, ho, hk, hs⟩
      obtain ⟨g, hg⟩ := own_trow ho rfl
      obtain ⟨g2, hg2⟩ := own_krow b2 hk rfl
      obtain ⟨d1, d2⟩ := own_cap ho
      unfold maxLen at d2
      exact ⟨⟨none, 0, 0, 0, ao, g, 0, cap, ka, g2, 0, ck⟩, he, ⟨⟨⟨fun e => absurd rfl e, fun j x hx => by simp at hx⟩, hg, hg2, b2, by simp, by show (rdBranch_page pg q s).1.length ≤ _; omega, by show (rdBranch_page pg q s).2.1.length ≤ _; omega⟩, ⟨d1, by show cap ≤ _; omega⟩, b6 _, b6 _⟩, hs⟩
    · have hN : rdNode_page pg q s = ⟨[], [], []⟩ := by unfold rdNode_page; rw [if_neg h1, if_neg h2]
      rw [hN]
      refine (nodeOther hpg w s hsz _ _ h1 h2).mono ?_
      rintro e w' ⟨he, hs⟩
      have b6 : ∀ t, (formN t q ⟨[], [], []⟩).length ≤ 50000000000 := fun t => by
        unfold formN; rw [if_pos (by rfl), List.length_cons, List.length_append]
        have := freeB_length ([] : List (ByteArray × ByteArray)).length
        show (freeB ([] : List (ByteArray × ByteArray)).length).length + (pairsB []).length + 1 ≤ _
        have e : (pairsB []).length = 0 := rfl
        omega
      exact ⟨⟨none, 0, 0, 0, none, 0, 0, 0, none, 0, 0, 0⟩, he, ⟨⟨⟨fun e => absurd rfl e, fun j x hx => by simp at hx⟩, ⟨fun e => absurd rfl e, fun j x hx => by simp at hx⟩, ⟨fun e => absurd rfl e, fun j x hx => by simp at hx⟩, by simp, by simp, by simp, by simp⟩, ⟨by simp, by simp⟩, b6 _, b6 _⟩, hs⟩
end Go.Proofs.Ytjlbkagkmcelgaa
