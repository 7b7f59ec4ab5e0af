/- LAYER 9, plainly: unlike lists of one root have two unlike pairs of one hash. -/
import Derived.Test.YtjbeemoobmagnaaDoorMerW
namespace Go.Proofs.YtjbeemoobmagnaaDoor
open Go Go.RowKit
set_option linter.unusedVariables false
set_option linter.unusedSimpArgs false
set_option linter.unusedVariables false
set_option linter.unusedSimpArgs false

/-- The text of pair i. -/
def textP (l : Hs) (i : Nat) : List UInt8 := l.getD (2 * i) [] ++ l.getD (nbr (2 * i) l.length) []
/-- Have unlike texts at place i one hash? -/
def colAt (a b : Hs) (i : Nat) : Bool := decide (shaL (shaL (textP a i)) = shaL (shaL (textP b i))) && !decide (textP a i = textP b i)
def colTo (a b : Hs) (k : Nat) : Bool := (List.range k).any (colAt a b)
theorem colTo_next (a b : Hs) (k : Nat) : colTo a b (k + 1) = (colTo a b k || colAt a b k) := by
  unfold colTo
  rw [List.range_succ, List.any_append]; simp
def colB (a b : Hs) : Bool := if h : a.length ≤ 1 then false else colTo a b (halfN a.length) || colB (abv a) (abv b)
termination_by a.length
decreasing_by exact abv_lt h
theorem colB_le {a : Hs} (b : Hs) (h : a.length ≤ 1) : colB a b = false := by rw [colB, dif_pos h]
theorem colB_gt {a : Hs} (b : Hs) (h : ¬ a.length ≤ 1) : colB a b = (colTo a b (halfN a.length) || colB (abv a) (abv b)) := by rw [colB, dif_neg h]
theorem abv_text (l : Hs) (i : Nat) (hi : i < halfN l.length) : (abv l)[i]? = some (shaL (shaL (textP l i))) := by
  rw [List.getElem?_eq_getElem (by rw [abv_length]; exact hi), abv_get]
  rfl
theorem col_all : ∀ (a b : Hs), a.length = b.length → H32 a → H32 b → a ≠ b → (topR a).getD 0 [] = (topR b).getD 0 [] → colB a b = true := by
  intro a
  induction hn : a.length using Nat.strongRecOn generalizing a with
  | _ m ih =>
    intro b hl ha hb hne ht
    by_cases h1 : a.length ≤ 1
    · exfalso
      rw [topR_le h1, topR_le (by omega)] at ht
      rcases a with _ | ⟨x, a⟩
      · have : b = [] := List.eq_nil_of_length_eq_zero (by simp only [List.length_nil] at hn; omega)
        exact hne this.symm
      · have ha0 : a = [] := List.eq_nil_of_length_eq_zero (by simp only [List.length_cons] at h1; omega)
        subst ha0
        rcases b with _ | ⟨y, b⟩
        · simp only [List.length_cons, List.length_nil] at hn hl; omega
        · have hb0 : b = [] := List.eq_nil_of_length_eq_zero (by simp only [List.length_cons, List.length_nil] at hn hl; omega)
          subst hb0
          exact hne (by simpa using ht)
    · rw [colB_gt b h1, Bool.or_eq_true]
      rcases hc : colTo a b (halfN a.length) with _ | _
      · right
        have hlb : ¬ b.length ≤ 1 := by omega
        have heach : ∀ i, i < halfN a.length → shaL (shaL (textP a i)) = shaL (shaL (textP b i)) → textP a i = textP b i := fun i hi hj => by
          have h2 : colAt a b i = false := by
            unfold colTo at hc
            rw [List.any_eq_false] at hc
            have := hc i (List.mem_range.2 hi)
            simpa using this
          unfold colAt at h2
          rw [hj] at h2
          simpa using h2
        have hne2 : abv a ≠ abv b := fun he => hne (by
          apply List.ext_getElem (by omega)
          intro q q1 q2
          have hqi : q / 2 < halfN a.length := by unfold halfN; omega
          have e1 := abv_text a (q / 2) hqi
          have e2 := abv_text b (q / 2) (by rw [← show a.length = b.length by omega]; exact hqi)
          rw [he] at e1
          have e3 := heach (q / 2) hqi (Option.some.inj (e1.symm.trans e2))
          unfold textP at e3
          rw [← show a.length = b.length by omega] at e3
          have hq2 : 2 * (q / 2) < a.length := by omega
          obtain ⟨f1, f2⟩ := List.append_inj e3 (by rw [ha.getD hq2, hb.getD (by omega)])
          rcases Nat.mod_two_eq_zero_or_one q with h | h
          · rw [show 2 * (q / 2) = q by omega] at f1
            rw [List.getD_eq_getElem?_getD, List.getD_eq_getElem?_getD, List.getElem?_eq_getElem q1, List.getElem?_eq_getElem q2] at f1
            exact f1
          · rw [show nbr (2 * (q / 2)) a.length = q by unfold nbr; rw [if_neg (by omega), if_pos (by omega)]; omega] at f2
            rw [List.getD_eq_getElem?_getD, List.getD_eq_getElem?_getD, List.getElem?_eq_getElem q1, List.getElem?_eq_getElem q2] at f2
            exact f2)
        rw [topR_gt h1, topR_gt hlb] at ht
        exact ih _ (by rw [← hn]; exact abv_lt h1) (abv a) rfl (abv b) (by rw [abv_length, abv_length, show a.length = b.length by omega]) (abv_32 a) (abv_32 b) hne2 ht
      · left; rfl
theorem one_root {a b : Hs} (hl : a.length = b.length) (ha : H32 a) (hb : H32 b) (hne : a ≠ b) (sa : rootB a = true) (sb : rootB b = true) (hr : rootH a = rootH b) : colB a b = true := by
  unfold rootH at hr
  rw [if_pos sa, if_pos sb] at hr
  exact col_all a b hl ha hb hne hr
end Go.Proofs.YtjbeemoobmagnaaDoor
