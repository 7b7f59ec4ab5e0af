/- PLAIN FACTS: targets and their bits. -/
import Derived.Test.YtggemncdnclhnaaBigLen
import Derived.Test.YtggemncdnclhnaaBigPure3
namespace Go.Proofs.Ytggemncdnclhnaa
open Go.RowKit
set_option linter.unusedVariables false
set_option linter.unusedSimpArgs false

/-- a times 256 to the power of n, without what is above and below. -/
def shN (a : Nat) (n : Int) : Nat := if n < 0 then a / 2 ^ (8 * (-n).toNat) else a * 2 ^ (8 * n.toNat) % top
/-- The target that bits tell, whether they may be or not. -/
def tN (b : Nat) : Nat := shN (b % 8388608) ((b / 16777216 : Nat) - 3 : Int)
/-- How many bytes. -/
def sizeN (t : Nat) : Nat := (blen t + 7) / 8
def manN (t : Nat) : Nat := lim (shN t (3 - (sizeN t : Int))) 0 % 4294967296
/-- The bits of a target. -/
def bN (t : Nat) : Nat := if 8388607 < manN t then (sizeN t + 1) * 16777216 + manN t / 256 else sizeN t * 16777216 + manN t
def ofE (b : Nat) : Int := if tN b = 0 ∨ bN (tN b) ≠ b then 5 else 0
def ofT (b : Nat) : Nat := if tN b = 0 ∨ bN (tN b) ≠ b then 0 else tN b

theorem blen_le256 (t : Nat) (h : t < top) : blen t ≤ 256 := by
  unfold blen
  split
  · omega
  · rename_i h0
    have : t.log2 < 256 := (Nat.log2_lt h0).2 (top_eq ▸ h)
    omega
theorem sizeN_le (t : Nat) (h : t < top) : sizeN t ≤ 32 := by have := blen_le256 t h; unfold sizeN; omega
theorem shN_lt (a : Nat) (n : Int) (h : a < top) : shN a n < top := by
  unfold shN
  split
  · exact Nat.lt_of_le_of_lt (Nat.div_le_self _ _) h
  · exact Nat.mod_lt _ (by decide)
theorem tN_lt (b : Nat) : tN b < top := shN_lt _ _ (Nat.lt_of_lt_of_le (Nat.mod_lt _ (by decide)) (by decide))
/-- The three highest bytes. -/
theorem shN_small (t : Nat) (h : t < top) : shN t (3 - (sizeN t : Int)) < 16777216 := by
  have hs := sizeN_le t h
  have hb := blen_spec t
  have h8 : blen t ≤ 8 * sizeN t := by unfold sizeN; omega
  have ht : t < 2 ^ (8 * sizeN t) := Nat.lt_of_lt_of_le hb (Nat.pow_le_pow_right (by decide) h8)
  unfold shN
  generalize sizeN t = s at *
  by_cases hn : (3 - (s : Int)) < 0
  · rw [if_pos hn, Nat.div_lt_iff_lt_mul (Nat.pow_pos (by decide)), show (16777216 : Nat) = 2 ^ 24 by decide, ← Nat.pow_add]
    rw [show 24 + 8 * (-(3 - (s : Int))).toNat = 8 * s by omega]
    exact ht
  · rw [if_neg hn]
    refine Nat.lt_of_le_of_lt (Nat.mod_le _ _) ?_
    have : t * 2 ^ (8 * (3 - (s : Int)).toNat) < 2 ^ (8 * s) * 2 ^ (8 * (3 - (s : Int)).toNat) := Nat.mul_lt_mul_of_pos_right ht (Nat.pow_pos (by decide))
    rw [← Nat.pow_add, show 8 * s + 8 * (3 - (s : Int)).toNat = 24 by omega] at this
    exact this
theorem manN_eq (t : Nat) (h : t < top) : manN t = shN t (3 - (sizeN t : Int)) := by
  have := shN_small t h
  unfold manN
  rw [lim0]
  omega
theorem manN_lt (t : Nat) (h : t < top) : manN t < 16777216 := by rw [manN_eq t h]; exact shN_small t h
theorem bN_lt (t : Nat) (h : t < top) : bN t < 4294967296 := by
  have h1 := manN_lt t h
  have h2 := sizeN_le t h
  unfold bN
  split <;> omega
theorem ofT_lt (b : Nat) : ofT b < top := by
  unfold ofT
  split
  · decide
  · exact tN_lt b
end Go.Proofs.Ytggemncdnclhnaa
