/- LAYER 3: a row that is filled from below. -/
import Derived.Test.YtggemncdnclhnaaBig3
namespace Go.Proofs.Ytggemncdnclhnaa
open Go.RowKit
set_option linter.unusedVariables false
set_option linter.unusedSimpArgs false

/-- What was moved up, the limbs below k laid, the others 0. -/
def rowL (s : Nat) : Nat → Array Value
  | 0 => #[.int .u64 0, .int .u64 0, .int .u64 0, .int .u64 0]
  | 1 => #[.int .u64 (lim s 0 : Int), .int .u64 0, .int .u64 0, .int .u64 0]
  | 2 => #[.int .u64 (lim s 0 : Int), .int .u64 (lim s 1 : Int), .int .u64 0, .int .u64 0]
  | 3 => #[.int .u64 (lim s 0 : Int), .int .u64 (lim s 1 : Int), .int .u64 (lim s 2 : Int), .int .u64 0]
  | _ => #[.int .u64 (lim s 0 : Int), .int .u64 (lim s 1 : Int), .int .u64 (lim s 2 : Int), .int .u64 (lim s 3 : Int)]
end Go.Proofs.Ytggemncdnclhnaa
