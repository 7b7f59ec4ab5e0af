import Derived.Test.YtgdjhppahgchpaaRows
import Derived.Test.YtgdjhppahgchpaaBytes
import Derived.LoopTactic
import Derived.Outline
import Derived.Deep.QuietTactic
import Derived.BigQuiet
namespace Go.Proofs.Ytgdjhppahgchpaa
open Go.RowKit

set_option maxHeartbeats 400000 in
/-- Same of two slices that read alike: true. -/
theorem same_yes (v1 v2 : Value) (l : List UInt8) (w : World) (h1 : Rd w v1 l) (h2 : Rd w v2 l) :
    Calls Try.prog 14 #[v1, v2] w fun e w' => e = .returned (.bool true) ∧ Nx w w' := by
  obtain ⟨A1, c1, rfl, hc1, hm1, ha1⟩ := h1
  obtain ⟨A2, c2, rfl, hc2, hm2, ha2⟩ := h2
  unfold maxLen at hm1
  have hne : ((l.length : Int) != (l.length : Int)) = false := by simp
  go_enter Try.func14, Try.ntmps14
  go_wp2
  go_loopw [5] (fun i wr => ∃ k : Nat, k ≤ l.length ∧ i = .int .i64 k ∧ ∃ n, wr = w.drewN n) (fun i _ => l.length - (intOf i).toNat)
  case atStart => exact ⟨0, by omega, rfl, 0, rfl⟩
  case round =>
    obtain ⟨k, hk, rfl, n, rfl⟩ := hrel
    by_cases hlt : k < l.length
    · obtain ⟨b1, o1, rfl, hb1, hc1⟩ := ha1 (by omega)
      obtain ⟨b2, o2, rfl, hb2, hc2⟩ := ha2 (by omega)
      have g1 := hc1 k hlt
      have g2 := hc2 k hlt
      clear hc1 hc2 hne
      have hlt' : (k : Int) < (l.length : Int) := by omega
      have hne2 : ((l[k].toNat : Int) != (l[k].toNat : Int)) = false := by simp
      go_wp2
      go_quiet (fail)
      go_wp2
      go_roundw
      case rel => exact ⟨k + 1, by omega, by go_num, _, rfl⟩
      case measure => simp [intOf]; omega
    · go_wp2
      go_ret
      exact ⟨rfl, (Nx.refl w).drewN n⟩
end Go.Proofs.Ytgdjhppahgchpaa
