/-
  Walks: Free and Signed of a Reader.
-/
import Derived.Test.YtaknpcimdpdekaaDoorW7
import Derived.Laws.DeepNot64
namespace Go.Proofs.YtaknpcimdpdekaaDoor
open Go.RowKit

theorem extract_drop (s : ByteArray) (p : Nat) : (s.extract p s.size).data.toList = s.data.toList.drop p := by
  rw [Lib.extract_data, List.take_of_length_le]
  rw [List.length_drop, bytes_length]; omega

def zag (n : Nat) : Int := if n % 2 = 1 then -((n / 2 : Nat) : Int) - 1 else ((n / 2 : Nat) : Int)

end Go.Proofs.YtaknpcimdpdekaaDoor
