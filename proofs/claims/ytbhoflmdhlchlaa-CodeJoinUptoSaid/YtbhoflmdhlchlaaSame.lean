import Derived.Test.YtbhoflmdhlchlaaRows
import Derived.Test.YtbhoflmdhlchlaaBytes
import Derived.LoopTactic
import Derived.Outline
import Derived.Deep.QuietTactic
import Derived.BigQuiet
namespace Go.Proofs.Ytbhoflmdhlchlaa
open Go.RowKit

set_option maxHeartbeats 400000 in
/-- Same of two slices that read alike: true. -/
theorem same_yes (v1 v2 : Value) (l : List UInt8) (w : World) (h1 : Rd w v1 l) (h2 : Rd w v2 l) :
    Calls Try.prog 16 #[v1, v2] w fun e w' => e = .returned (.bool true) ∧ Nx w w' := by
  obtain ⟨A1, c1, rfl, hc1, hm1, ha1⟩ := h1
  obtain ⟨A2, c2, rfl, hc2, hm2, ha2⟩ := h2
  unfold maxLen at hm1
  have hne : ((l.length : Int) != (l.length : Int)) = false := by simp
  go_enter Try.func16, Try.ntmps16
  go_wp2
  go_loopw [5] (fun i wr => ∃ k : Nat, k ≤ l.length ∧ i = .int .i64 k ∧ ∃ n, wr = w.drewN n) (fun i _ => l.length - (intOf i).toNat)
  case atStart => exact ⟨0, by omega, rfl, 0, rfl⟩
  case round =>
    obtain ⟨k, hk, rfl, n, rfl⟩ := hrel
    by_cases hlt : k < l.length
    · obtain ⟨b1, o1, rfl, hb1, hc1⟩ := ha1 (by omega)
      obtain ⟨b2, o2, rfl, hb2, hc2⟩ := ha2 (by omega)
      have g1 := hc1 k hlt
      have g2 := hc2 k hlt
      clear hc1 hc2 hne
      have hlt' : (k : Int) < (l.length : Int) := by omega
      have hne2 : ((l[k].toNat : Int) != (l[k].toNat : Int)) = false := by simp
      go_wp2
      go_quiet (fail)
      go_wp2
      go_roundw
      case rel => exact ⟨k + 1, by omega, by go_num, _, rfl⟩
      case measure => simp [intOf]; omega
    · go_wp2
      go_ret
      exact ⟨rfl, (Nx.refl w).drewN n⟩

theorem first_apart {l1 l2 : List UInt8} (hl : l1.length = l2.length) (hne : l1 ≠ l2) : ∀ k, k ≤ l1.length → l1.take k = l2.take k → k < l1.length := by
  intro k hk he
  rcases Nat.lt_or_ge k l1.length with h | h
  · exact h
  · have hk' : k = l1.length := by omega
    subst hk'
    rw [List.take_of_length_le (Nat.le_refl _), hl, List.take_of_length_le (Nat.le_refl _)] at he
    exact absurd he hne

set_option maxHeartbeats 400000 in
/-- Same of two slices that do not read alike: false. -/
theorem same_no (v1 v2 : Value) (l1 l2 : List UInt8) (w : World) (h1 : Rd w v1 l1) (h2 : Rd w v2 l2) (hne : l1 ≠ l2) :
    Calls Try.prog 16 #[v1, v2] w fun e w' => e = .returned (.bool false) ∧ Nx w w' := by
  obtain ⟨A1, c1, rfl, hc1, hm1, ha1⟩ := h1
  obtain ⟨A2, c2, rfl, hc2, hm2, ha2⟩ := h2
  unfold maxLen at hm1
  by_cases hl : l1.length = l2.length
  · have hle : ((l1.length : Int) != (l2.length : Int)) = false := by simp [hl]
    have HF := Lib.hid (first_apart hl hne)
    have HL := Lib.hid hl
    have hl1 : l1.length ≤ l2.length := by omega
    clear hl hne
    go_enter Try.func16, Try.ntmps16
    go_wp2
    go_loopw [5] (fun i wr => ∃ k : Nat, k ≤ l1.length ∧ i = .int .i64 k ∧ Hid (l1.take k = l2.take k) ∧ ∃ n, wr = w.drewN n) (fun i _ => l1.length - (intOf i).toNat)
    case atStart => exact ⟨0, by omega, rfl, show _ = _ by simp, 0, rfl⟩
    case round =>
      obtain ⟨k, hk, rfl, HE, n, rfl⟩ := hrel
      have hlt := HF.out k hk HE.out
      obtain ⟨b1, o1, rfl, hb1, hc1⟩ := ha1 (by omega)
      obtain ⟨b2, o2, rfl, hb2, hc2⟩ := ha2 (by omega)
      have g1 := hc1 k hlt
      have g2 := hc2 k (by omega)
      clear hc1 hc2 hle ha1 ha2
      have hlt' : (k : Int) < (l1.length : Int) := by omega
      have hlt2 : (k : Int) < (l2.length : Int) := by omega
      by_cases hx : l1[k] = l2[k]
      · have hne2 : ((l1[k].toNat : Int) != (l2[k].toNat : Int)) = false := by rw [hx]; simp
        have HX := Lib.hid hx
        clear hx
        go_wp2
        go_quiet (fail)
        go_wp2
        go_roundw
        case rel => exact ⟨k + 1, by omega, by go_num, show _ = _ by rw [List.take_succ_eq_append_getElem hlt, List.take_succ_eq_append_getElem (by omega), HE.out, HX.out], _, rfl⟩
        case measure => simp [intOf]; omega
      · have hne2 : ((l1[k].toNat : Int) != (l2[k].toNat : Int)) = true := by
          have : l1[k].toNat ≠ l2[k].toNat := fun e => hx (UInt8.toNat_inj.1 e)
          rw [bne_iff_ne]; omega
        clear hx
        go_wp2
        go_quiet (fail)
        go_wp2
        go_ret
        exact ⟨rfl, by first | exact ((Nx.refl w).drewN _).drewN _ | exact (Nx.refl w).drewN _⟩
  · have hle : ((l1.length : Int) != (l2.length : Int)) = true := by rw [bne_iff_ne]; omega
    clear hl
    go_enter Try.func16, Try.ntmps16
    go_wp2
    go_ret
    exact ⟨rfl, Nx.refl w⟩
end Go.Proofs.Ytbhoflmdhlchlaa
