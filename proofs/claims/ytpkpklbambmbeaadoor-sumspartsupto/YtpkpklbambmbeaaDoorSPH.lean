/-
  Walks: Parts of any text: one answer, by the program and by the document.
-/
import Derived.Test.YtpkpklbambmbeaaDoorSPG
namespace Go.Proofs.YtpkpklbambmbeaaDoor
open Go.RowKit

theorem flat_len (ss : List ByteArray) : 4 * ss.length ≤ (ss.flatMap partB).length := by
  induction ss with
  | nil => simp
  | cons s ss ih =>
    have hp : (partB s).length = 4 + s.size := by simp [partB, by4]; omega
    rw [List.flatMap_cons, List.length_append, hp, List.length_cons]
    omega
/-- The program's Parts answers that tag, an owned row of these texts, and that error. -/
def PartsIs (T tg : ByteArray) (ss : List ByteArray) (er : Int) : Prop := ∀ w : World, Calls Tryd.prog 7 #[.string T] w fun e w' => ∃ pa pc, e = .returned (.tuple #[.string tg, .slice pa ss.length pc, .int .i64 er]) ∧ w'.ownsRow w.heap.size 9 1 (.slice pa ss.length pc) ss.length (scells ss) ∧ Same w w'
/-- The document's Parts answers them. -/
def RPartsIs (T tg : ByteArray) (ss : List ByteArray) (er : Int) : Prop := ∀ w : World, Calls Tryd.prog 8 #[.string T] w fun e w' => ∃ pa pb pc, e = .returned (.tuple #[.string tg, .slice pa ss.length pc, .int .i64 er]) ∧ SAt w' pa pb 0 ss ∧ (ss ≠ [] → w.heap.size ≤ pb) ∧ Same w w'
theorem parts_any (T : ByteArray) (hl : T.size ≤ 1048577) : ∃ tg ss er, ss.length ≤ 4194304 ∧ PartsIs T tg ss er ∧ RPartsIs T tg ss er := by
  have none3 : ∀ (f : FuncId), (∀ w : World, Calls Tryd.prog f #[.string T] w fun e w' => e = .returned (.tuple #[.string ⟨#[]⟩, .slice none 0 0, .int .i64 21]) ∧ Same w w') → (∀ w : World, Calls Tryd.prog f #[.string T] w fun e w' => ∃ pa pc, e = .returned (.tuple #[.string ⟨#[]⟩, .slice pa 0 pc, .int .i64 21]) ∧ w'.ownsRow w.heap.size 9 1 (.slice pa 0 pc) 0 (scells []) ∧ Same w w') ∧ (∀ w : World, Calls Tryd.prog f #[.string T] w fun e w' => ∃ pa pb pc, e = .returned (.tuple #[.string ⟨#[]⟩, .slice pa 0 pc, .int .i64 21]) ∧ SAt w' pa pb 0 [] ∧ (([] : List ByteArray) ≠ [] → w.heap.size ≤ pb) ∧ Same w w') := by
    intro f h
    constructor
    · intro w
      exact (h w).mono fun e w' ⟨he, sm⟩ => ⟨none, 0, he, World.ownsRow_nil _ _ _ _, sm⟩
    · intro w
      exact (h w).mono fun e w' ⟨he, sm⟩ => ⟨none, 0, 0, he, ⟨fun e => absurd rfl e, fun j s hj => by simp at hj⟩, fun e => absurd rfl e, sm⟩
  rcases split_text T.data.toList with hb | ⟨tag, ss, R, ht, hT, hz, hR⟩
  · exact ⟨⟨#[]⟩, [], 21, by simp, (none3 _ (fun w => parts_notag w T hb)).1, (none3 _ (fun w => rparts_notag w T hb (by omega))).2⟩
  · have hsz : 1 + tag.size + ((ss.flatMap partB).length + R.length) = T.size := by
      have := congrArg List.length hT
      simp only [List.length_cons, List.length_append, bytes_length] at this
      omega
    have hfl := flat_len ss
    have hsl : ss.length ≤ 4194304 := by omega
    have hr := fun w => rparts_calls w T tag ht ss R hT hz hR (by omega) hsl
    by_cases hR0 : R = []
    · subst hR0
      have eT : T = ⟨(textP tag ss).toArray⟩ := by
        obtain ⟨⟨l⟩⟩ := T
        simp only [List.append_nil] at hT
        simp only [textP]
        rw [← hT]
      refine ⟨tag, ss, 0, hsl, ?_, ?_⟩
      · intro w
        rw [eT]
        exact parts_own w tag ht ss hz (by rw [eT] at hl; simp only [ByteArray.size, List.size_toArray] at hl; omega) hsl
      · intro w
        refine (hr w).mono fun e w' ⟨he, sm⟩ => ?_
        rcases he with ⟨_, pa, pb, pc, he, hS, hB⟩ | ⟨hn, _⟩
        · exact ⟨pa, pb, pc, he, hS, hB, sm⟩
        · exact absurd rfl hn
    · have hb : badR R := hR.resolve_left hR0
      refine ⟨⟨#[]⟩, [], 21, by simp, (none3 _ (fun w => parts_bad w T tag ht ss R hT hz hb (by omega) hsl)).1, (none3 _ (fun w => (hr w).mono fun e w' ⟨he, sm⟩ => ?_)).2⟩
      rcases he with ⟨hn, _⟩ | ⟨_, he⟩
      · exact absurd hn hR0
      · exact ⟨he, sm⟩
end Go.Proofs.YtpkpklbambmbeaaDoor
