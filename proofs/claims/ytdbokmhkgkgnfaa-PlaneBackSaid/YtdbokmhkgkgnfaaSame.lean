import Derived.Test.YtdbokmhkgkgnfaaRows
import Derived.Test.YtdbokmhkgkgnfaaBytes
import Derived.LoopTactic
import Derived.Outline
import Derived.Deep.QuietTactic
import Derived.BigQuiet
namespace Go.Proofs.Ytdbokmhkgkgnfaa
open Go.RowKit

theorem first_apart {l1 l2 : List UInt8} (hl : l1.length = l2.length) (hne : l1 ≠ l2) : ∀ k, k ≤ l1.length → l1.take k = l2.take k → k < l1.length := by
  intro k hk he
  rcases Nat.lt_or_ge k l1.length with h | h
  · exact h
  · have hk' : k = l1.length := by omega
    subst hk'
    rw [List.take_of_length_le (Nat.le_refl _), hl, List.take_of_length_le (Nat.le_refl _)] at he
    exact absurd he hne

end Go.Proofs.Ytdbokmhkgkgnfaa
