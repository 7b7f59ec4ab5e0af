/- LAYER 9, plainly: each one's way leads to the root. -/
import Derived.Test.YtjbeemoobmagnaaDoorMerP
namespace Go.Proofs.YtjbeemoobmagnaaDoor
open Go Go.RowKit
set_option linter.unusedVariables false
set_option linter.unusedSimpArgs false
set_option linter.unusedVariables false
set_option linter.unusedSimpArgs false

theorem way_step (l : Hs) (n : Nat) (hn : n < l.length) (h1 : ¬ l.length ≤ 1) :
    (if n % 2 = 1 then join2 (l.getD (nbr n l.length) []) (l.getD n []) else if n + 1 < l.length then join2 (l.getD n []) (l.getD (nbr n l.length) []) else join2 (l.getD n []) (l.getD n [])) = (abv l).getD (n / 2) [] := by
  have hh : n / 2 < (abv l).length := by rw [abv_length]; unfold halfN; omega
  rw [List.getD_eq_getElem?_getD (l := abv l), List.getElem?_eq_getElem hh, Option.getD_some, abv_get]
  rcases Nat.mod_two_eq_zero_or_one n with h | h
  · obtain ⟨q, rfl⟩ : ∃ q, n = 2 * q := ⟨n / 2, by omega⟩
    rw [if_neg (by omega), show 2 * q / 2 = q by omega]
    split
    · rfl
    · rename_i hl
      rw [show nbr (2 * q) l.length = 2 * q by unfold nbr; rw [if_neg (by omega), if_neg hl]]
  · obtain ⟨q, rfl⟩ : ∃ q, n = 2 * q + 1 := ⟨n / 2, by omega⟩
    rw [if_pos h, show (2 * q + 1) / 2 = q by omega, show nbr (2 * q + 1) l.length = 2 * q by unfold nbr; rw [if_pos h]; omega, show nbr (2 * q) l.length = 2 * q + 1 by unfold nbr; rw [if_neg (by omega), if_pos hn]]
theorem way_leads : ∀ (l : Hs) (n : Nat), n < l.length → leadsF (l.getD n []) n l.length (wayF l n) = (topR l).getD 0 [] := by
  intro l
  induction hn : l.length using Nat.strongRecOn generalizing l with
  | _ m ih =>
    intro n hlt
    by_cases h1 : l.length ≤ 1
    · rw [wayF_le h1, topR_le h1]
      obtain rfl : n = 0 := by omega
      rfl
    · rw [wayF_gt h1, topR_gt h1, leadsF, ← hn, way_step l n (by omega) h1]
      have := ih _ (by rw [← hn]; exact abv_lt h1) (abv l) rfl (n / 2) (by rw [abv_length]; unfold halfN; omega)
      rw [abv_length] at this
      exact this
theorem way_below : ∀ (l : Hs) (n : Nat), (wayF l n).length = belowF l.length := by
  intro l
  induction hn : l.length using Nat.strongRecOn generalizing l with
  | _ m ih =>
    intro n
    by_cases h1 : l.length ≤ 1
    · rw [wayF_le h1, belowF_le (by omega)]; rfl
    · rw [wayF_gt h1, ← hn, belowF_gt h1, List.length_cons, ← abv_length]
      rw [ih _ (by rw [← hn]; exact abv_lt h1) (abv l) rfl (n / 2)]
theorem root_way (l : Hs) (n : Nat) (hn : n < l.length) (hs : rootB l = true) : leadsF (l.getD n []) n l.length (wayF l n) = rootH l := by
  rw [way_leads l n hn]
  unfold rootH
  rw [if_pos hs]
theorem rootB_pos {l : Hs} (h : rootB l = true) : 0 < l.length := by
  unfold rootB at h
  simp only [Bool.and_eq_true, decide_eq_true_eq] at h
  exact h.1
end Go.Proofs.YtjbeemoobmagnaaDoor
