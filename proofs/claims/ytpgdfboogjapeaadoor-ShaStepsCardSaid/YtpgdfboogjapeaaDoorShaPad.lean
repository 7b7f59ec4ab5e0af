/- PLAIN: what is padded is told by the padded bytes. -/
import Derived.Test.YtpgdfboogjapeaaDoorShaPure2
namespace Go.Proofs.YtpgdfboogjapeaaDoor
open Go.RowKit
set_option linter.unusedVariables false
set_option linter.unusedSimpArgs false
theorem pad_take (l : List UInt8) : (padL l).take l.length = l := by unfold padL; simp
theorem pad_get (l : List UInt8) : (padL l)[l.length]? = some 128 := by unfold padL padB; simp
theorem pad_end (l : List UInt8) : (padL l).drop ((padL l).length - 8) = beR (8 * l.length) 8 := by
  have h := padL_length l
  have h2 : padL l = (l ++ (128 :: List.replicate (gapN l.length) 0)) ++ beR (8 * l.length) 8 := by unfold padL padB; simp
  have h3 : (l ++ ((128 : UInt8) :: List.replicate (gapN l.length) 0)).length = (padL l).length - 8 := by rw [h]; simp; omega
  rw [← h3]
  conv => lhs; rw [h2]
  rw [List.drop_left]
theorem beR_inj {n m : Nat} (hn : n ≤ 1000) (hm : m ≤ 1000) (h : beR (8 * n) 8 = beR (8 * m) 8) : n = m := by
  simp only [beR, List.cons.injEq, and_true] at h
  obtain ⟨-, -, -, -, -, -, h6, h7⟩ := h
  have h6' := congrArg UInt8.toNat h6
  have h7' := congrArg UInt8.toNat h7
  simp only [UInt8.toNat_ofNat', Nat.pow_zero, Nat.div_one, Nat.pow_one] at h6' h7'
  omega
theorem pad_inj {a b : List UInt8} (ha : a.length ≤ 1000) (hb : b.length ≤ 1000) (h : padL a = padL b) : a = b := by
  have he : beR (8 * a.length) 8 = beR (8 * b.length) 8 := by rw [← pad_end a, ← pad_end b, h]
  have hl := beR_inj ha hb he
  rw [← pad_take a, ← pad_take b, h, hl]
end Go.Proofs.YtpgdfboogjapeaaDoor
