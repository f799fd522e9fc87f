/- free: the document's Body. -/
import Derived.Test.YtbpoklkaffaleaaIH
namespace Go.Proofs.Ytbpoklkaffaleaa
open Go.RowKit Go.Maps

theorem bodyOk_eq (p q : Int) (next : Nat) (ns : List Nat) : bodyOk p q next ns = (frameP p q && (!decide (next = 1)) && decide (next < 65536) && (decide (ns.length ≤ entN p q) && riseN 65536 0 ns)) := by
  unfold bodyOk fitsN cntB
  cases frameP p q
  · rfl
  · simp only [Bool.true_and]
    have : (decide (next = 0) || decide (2 ≤ next) && decide (next < 65536)) = ((!decide (next = 1)) && decide (next < 65536)) := by
      by_cases h1 : next = 1
      · subst h1; rfl
      · by_cases h0 : next = 0
        · subst h0; rfl
        · rw [decide_eq_false h0, decide_eq_false h1, decide_eq_true (by omega : 2 ≤ next)]; rfl
    rw [this]
end Go.Proofs.Ytbpoklkaffaleaa
