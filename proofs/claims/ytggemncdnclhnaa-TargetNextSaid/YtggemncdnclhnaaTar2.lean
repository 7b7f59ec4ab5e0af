/- CONTRACTS OF LAYER 4: Bits, Of. -/
import Derived.Test.YtggemncdnclhnaaTar1
import Derived.Test.YtggemncdnclhnaaBigEq
namespace Go.Proofs.Ytggemncdnclhnaa
open Go.RowKit
set_option linter.unusedVariables false
set_option linter.unusedSimpArgs false

theorem or24 (s m : Nat) (hm : m < 16777216) (hs : s ≤ 255) : bits .or .u32 ((s * 16777216 : Nat) : Int) (m : Int) = ((s * 16777216 + m : Nat) : Int) := by
  rw [u32_or_nat (s * 16777216) m (by omega) (by omega)]
  have h := Nat.two_pow_add_eq_or_of_lt (show m < 2 ^ 24 by omega) s
  rw [show (2 : Nat) ^ 24 * s = s * 16777216 by rw [Nat.mul_comm]] at h
  rw [h]

set_option maxHeartbeats 2000000 in
theorem tbits_any (t : Nat) (w : World) (ht : t < top) :
    Calls Try.prog 44 #[.agg #[.int .u64 (lim t 0 : Int), .int .u64 (lim t 1 : Int), .int .u64 (lim t 2 : Int), .int .u64 (lim t 3 : Int)]] w fun e w' => e = .returned (.int .u32 (bN t : Int)) ∧ Nx w w' := by
  have hsl := sizeN_le t ht
  have HLEN := Lib.hid (fun w => len_any t w ht)
  have hbl := blen_le256 t ht
  have HSH := Lib.hid (fun w => shifted_any t (3 - (sizeN t : Int)) w ht (by omega) (by omega))
  have hsm := shN_small t ht
  have hml := manN_lt t ht
  have hs1 : ((blen t : Int) + 8 - 1) / 8 = (sizeN t : Int) := by unfold sizeN; omega
  have hs2 : ((blen t : Int) + 7) / 8 = (sizeN t : Int) := by unfold sizeN; omega
  have hs3 : ((blen t : Int) + 8 - 1).tdiv 8 = (sizeN t : Int) := by rw [Int.tdiv_eq_ediv_of_nonneg (by omega)]; exact hs1
  have hbl2 : ((blen t : Nat) : Int) ≤ 256 := by omega
  have hm1 : IntKind.u32.wrap ((lim (shN t (3 - (sizeN t : Int))) 0 : Nat) : Int) = (manN t : Int) := by
    unfold manN
    rw [IntKind.wrap_u32]
    omega
  have hix : ∀ w, (Instr.index 24 (.agg #[.int .u64 (lim (shN t (3 - (sizeN t : Int))) 0 : Int), .int .u64 (lim (shN t (3 - (sizeN t : Int))) 1 : Int), .int .u64 (lim (shN t (3 - (sizeN t : Int))) 2 : Int), .int .u64 (lim (shN t (3 - (sizeN t : Int))) 3 : Int)]) (.int .i64 0)).run Try.prog w = .ok (.int .u64 (lim (shN t (3 - (sizeN t : Int))) 0 : Int)) w := fun _ => by kernel_rfl
  have HB : Hid (bN t = if 8388607 < manN t then (sizeN t + 1) * 16777216 + manN t / 256 else sizeN t * 16777216 + manN t) := Lib.hid rfl
  generalize shN t (3 - (sizeN t : Int)) = x at *
  generalize blen t = l at *
  generalize sizeN t = s at *
  generalize manN t = m at *
  have hsl2 : (s : Int) ≤ 32 := by omega
  clear ht
  by_cases hgt : 8388607 < m
  · have hgi : (8388607 : Int) < (m : Int) := by omega
    rw [if_pos hgt] at HB
    have hdi : (m : Int) / 256 = ((m / 256 : Nat) : Int) := rfl
    have hmi : ((m / 256 : Nat) : Int) ≤ 65535 := by omega
    have hor := or24 (s + 1) (m / 256) (by omega) (by omega)
    have hs4 : (s : Int) + 1 = ((s + 1 : Nat) : Int) := rfl
    have hs5 : ((s + 1 : Nat) : Int) ≤ 33 := by omega
    have hs6 : IntKind.u32.wrap (((s + 1 : Nat) : Int) * 16777216) = (((s + 1) * 16777216 : Nat) : Int) := by rw [IntKind.wrap_u32]; omega
    have hs7 : IntKind.u32.wrap ((s + 1 : Nat) : Int) = ((s + 1 : Nat) : Int) := by rw [IntKind.wrap_u32]; omega
    have hs8 : ((s + 1 : Nat) : Int) * 16777216 = (((s + 1) * 16777216 : Nat) : Int) := by omega
    rw [← HB.out] at hor
    clear hgt hml hsm
    generalize (s + 1) * 16777216 = z at *
    generalize s + 1 = s' at *
    generalize m / 256 = m' at *
    generalize bN t = B at *
    go_enter Try.func44, Try.ntmps44
    go_wp2_with fail
    refine (HLEN.out _).mono ?_
    rintro e w1 ⟨rfl, hb1⟩
    have RT := (Row.new w #[.int .u64 (lim t 0 : Int), .int .u64 (lim t 1 : Int), .int .u64 (lim t 2 : Int), .int .u64 (lim t 3 : Int)] 24 _ rfl).nx hb1
    have N1 := Lib.hid (((Nx.refl w).alloc (.cells #[.int .u64 (lim t 0 : Int), .int .u64 (lim t 1 : Int), .int .u64 (lim t 2 : Int), .int .u64 (lim t 3 : Int)] 24)).trans hb1)
    obtain ⟨t0, t1, t2, t3⟩ := RT.four
    clear hb1
    go_wp2_with fail
    refine (HSH.out _).mono ?_
    rintro e w2 ⟨rfl, hb2⟩
    replace N1 := Lib.hid (N1.out.trans hb2)
    clear hb2 t0 t1 t2 t3
    go_wp2
    go_ret
    exact ⟨rfl, N1.out⟩
  · have hgi : decide ((8388607 : Int) < (m : Int)) = false := by rw [decide_eq_false_iff_not]; omega
    rw [if_neg hgt] at HB
    have hor := or24 s m (by omega) (by omega)
    have hs6 : IntKind.u32.wrap ((s : Int) * 16777216) = ((s * 16777216 : Nat) : Int) := by rw [IntKind.wrap_u32]; omega
    have hs7 : IntKind.u32.wrap (s : Int) = (s : Int) := by rw [IntKind.wrap_u32]; omega
    have hs8 : (s : Int) * 16777216 = ((s * 16777216 : Nat) : Int) := by omega
    rw [← HB.out] at hor
    clear hgt hml hsm
    generalize s * 16777216 = z at *
    generalize bN t = B at *
    go_enter Try.func44, Try.ntmps44
    go_wp2_with fail
    refine (HLEN.out _).mono ?_
    rintro e w1 ⟨rfl, hb1⟩
    have RT := (Row.new w #[.int .u64 (lim t 0 : Int), .int .u64 (lim t 1 : Int), .int .u64 (lim t 2 : Int), .int .u64 (lim t 3 : Int)] 24 _ rfl).nx hb1
    have N1 := Lib.hid (((Nx.refl w).alloc (.cells #[.int .u64 (lim t 0 : Int), .int .u64 (lim t 1 : Int), .int .u64 (lim t 2 : Int), .int .u64 (lim t 3 : Int)] 24)).trans hb1)
    obtain ⟨t0, t1, t2, t3⟩ := RT.four
    clear hb1
    go_wp2_with fail
    refine (HSH.out _).mono ?_
    rintro e w2 ⟨rfl, hb2⟩
    replace N1 := Lib.hid (N1.out.trans hb2)
    clear hb2 t0 t1 t2 t3
    go_wp2
    go_ret
    exact ⟨rfl, N1.out⟩
end Go.Proofs.Ytggemncdnclhnaa
