/- PLAIN FACTS: the bits of a number, as the cells of an array. -/
import Derived.Test.YtggemncdnclhnaaBigPure2
import Derived.Test.YtggemncdnclhnaaRowU
import Derived.Deep.WholeRow
namespace Go.Proofs.Ytggemncdnclhnaa
open Go.RowKit
set_option linter.unusedVariables false
set_option linter.unusedSimpArgs false

/-- Bools as the cells of an array. -/
def bcel (l : List Bool) : Array Value := (l.map Value.bool).toArray
theorem bcel_size (l : List Bool) : (bcel l).size = l.length := by simp [bcel]
theorem bcel_get (l : List Bool) (i : Nat) (h : i < l.length) : (bcel l)[i]? = some (.bool l[i]) := by simp [bcel, h]
theorem bcel_one (l : List Bool) : (bcel l).all (·.oneCell') = true := by
  rw [Array.all_eq_true']
  intro x hx
  simp only [bcel, List.mem_toArray, List.mem_map] at hx
  obtain ⟨y, _, rfl⟩ := hx
  rfl
theorem bcel_set (l : List Bool) (i : Nat) (x : Bool) : (bcel l).setIfInBounds i (.bool x) = bcel (l.set i x) := by
  simp [bcel, List.map_set]
/-- No bit. -/
def zb : List Bool := List.replicate 256 false
/-- The bits of n below 256, the lowest first. -/
def bitsL (n : Nat) : List Bool := (List.range 256).map n.testBit
theorem bitsL_length (n : Nat) : (bitsL n).length = 256 := by simp [bitsL]
theorem bitsL_get (n i : Nat) (h : i < (bitsL n).length) : (bitsL n)[i] = n.testBit i := by simp [bitsL]
/-- So many bits laid, the others false. -/
def bitsK (n k : Nat) : List Bool := (bitsL n).take k ++ List.replicate (256 - k) false
theorem bitsK_length (n k : Nat) (h : k ≤ 256) : (bitsK n k).length = 256 := by simp [bitsK, bitsL_length]; omega
theorem bitsK_set (n k : Nat) (h : k < 256) : (bitsK n k).set k (n.testBit k) = bitsK n (k + 1) := by
  unfold bitsK
  have hk : k < (bitsL n).length := by rw [bitsL_length]; exact h
  rw [List.take_succ_eq_append_getElem hk, bitsL_get n k hk, show 256 - k = (256 - (k + 1)) + 1 by omega, List.replicate_succ, List.append_assoc]
  have := List.set_append_right k (n.testBit k) (s := (bitsL n).take k) (t := false :: List.replicate (256 - (k + 1)) false) (by rw [List.length_take]; omega)
  rw [this]
  have e : k - ((bitsL n).take k).length = 0 := by simp [bitsL_length]; omega
  rw [e]
  rfl
theorem bitsK_zero (n : Nat) : bitsK n 0 = zb := by rw [zb, bitsK, List.take_zero, List.nil_append, Nat.sub_zero]
theorem bitsK_all (n : Nat) : bitsK n 256 = bitsL n := by rw [bitsK, List.take_of_length_le (show (bitsL n).length ≤ 256 by rw [bitsL_length]; omega), Nat.sub_self, List.replicate_zero, List.append_nil]
theorem bit_of_limb (a i q r : Nat) (h : i = 64 * q + r) (hr : r < 64) : ((((lim a q / 2 ^ r : Nat) : Int) % 2) == 1) = a.testBit i := by
  subst h
  have e : lim a q / 2 ^ r % 2 = a / 2 ^ (64 * q + r) % 2 := by
    unfold lim
    rw [Nat.pow_add, ← Nat.div_div_eq_div_mul]
    generalize a / 2 ^ (64 * q) = y
    have hs := pow_split (p := r) (by omega)
    rw [hs, Nat.mul_comm, Nat.mod_mul, Nat.add_mul_div_left _ _ (Nat.pow_pos (by omega)), Nat.div_eq_of_lt (Nat.mod_lt _ (Nat.pow_pos (by omega))), Nat.zero_add]
    rw [show 64 - r = 1 + (63 - r) by omega, Nat.pow_add, Nat.pow_one, Nat.mod_mul_right_mod]
  rw [Nat.testBit_eq_decide_div_mod_eq, Bool.eq_iff_iff, ← e]
  simp only [beq_iff_eq, decide_eq_true_eq]
  omega
end Go.Proofs.Ytggemncdnclhnaa
