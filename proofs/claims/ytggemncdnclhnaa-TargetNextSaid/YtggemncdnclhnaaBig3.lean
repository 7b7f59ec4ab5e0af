/- CONTRACTS OF LAYER 3: mulLimb, Mul, Len. -/
import Derived.Test.YtggemncdnclhnaaBig2
namespace Go.Proofs.Ytggemncdnclhnaa
open Go.RowKit
set_option linter.unusedVariables false
set_option linter.unusedSimpArgs false

theorem mul_split (a n : Int) : a * n = (a / 4294967296) * (n / 4294967296) * 18446744073709551616 + ((a % 4294967296) * (n / 4294967296) + (a / 4294967296) * (n % 4294967296)) * 4294967296 + (a % 4294967296) * (n % 4294967296) := by
  have h1 : a = a / 4294967296 * 4294967296 + a % 4294967296 := by omega
  have h2 : n = n / 4294967296 * 4294967296 + n % 4294967296 := by omega
  have h3 : a * n = (a / 4294967296 * 4294967296 + a % 4294967296) * (n / 4294967296 * 4294967296 + n % 4294967296) := by rw [← h1, ← h2]
  rw [h3]
  generalize a / 4294967296 = x
  generalize a % 4294967296 = y
  generalize n / 4294967296 = z
  generalize n % 4294967296 = t
  grind
theorem prod_le (a b : Int) (ha0 : 0 ≤ a) (ha : a ≤ 4294967295) (hb0 : 0 ≤ b) (hb : b ≤ 4294967295) : 0 ≤ a * b ∧ a * b ≤ 18446744065119617025 := by
  refine ⟨Int.mul_nonneg ha0 hb0, ?_⟩
  have := Int.mul_le_mul ha hb hb0 (by omega : (0 : Int) ≤ 4294967295)
  omega
theorem mul_limb (a n c : Nat) (ha : (a : Int) ≤ 18446744073709551615) (hn : (n : Int) ≤ 18446744073709551615) (hc : (c : Int) ≤ 18446744073709551615) :
    bits BinOp.or IntKind.u64 (IntKind.u64.wrap (IntKind.u64.wrap (IntKind.u64.wrap ((a : Int) % 4294967296 * ((n : Int) / 4294967296)) + IntKind.u64.wrap (IntKind.u64.wrap (IntKind.u64.wrap ((a : Int) / 4294967296 * ((n : Int) % 4294967296)) + IntKind.u64.wrap (IntKind.u64.wrap ((a : Int) % 4294967296 * ((n : Int) % 4294967296)) + (c : Int) % 4294967296) / 4294967296) + (c : Int) / 4294967296) % 4294967296) * 4294967296))
      (IntKind.u64.wrap (IntKind.u64.wrap ((a : Int) % 4294967296 * ((n : Int) % 4294967296)) + (c : Int) % 4294967296) % 4294967296) = (((a * n + c) % 18446744073709551616 : Nat) : Int) ∧
    IntKind.u64.wrap (IntKind.u64.wrap (IntKind.u64.wrap ((a : Int) / 4294967296 * ((n : Int) / 4294967296)) + IntKind.u64.wrap (IntKind.u64.wrap (IntKind.u64.wrap ((a : Int) / 4294967296 * ((n : Int) % 4294967296)) + IntKind.u64.wrap (IntKind.u64.wrap ((a : Int) % 4294967296 * ((n : Int) % 4294967296)) + (c : Int) % 4294967296) / 4294967296) + (c : Int) / 4294967296) / 4294967296) +
      IntKind.u64.wrap (IntKind.u64.wrap ((a : Int) % 4294967296 * ((n : Int) / 4294967296)) + IntKind.u64.wrap (IntKind.u64.wrap (IntKind.u64.wrap ((a : Int) / 4294967296 * ((n : Int) % 4294967296)) + IntKind.u64.wrap (IntKind.u64.wrap ((a : Int) % 4294967296 * ((n : Int) % 4294967296)) + (c : Int) % 4294967296) / 4294967296) + (c : Int) / 4294967296) % 4294967296) / 4294967296) = (((a * n + c) / 18446744073709551616 : Nat) : Int) := by
  have e0 : ((a * n + c : Nat) : Int) = (a : Int) * (n : Int) + (c : Int) := by simp
  have hs := mul_split (a : Int) (n : Int)
  have h1 := prod_le ((a : Int) % 4294967296) ((n : Int) % 4294967296) (by omega) (by omega) (by omega) (by omega)
  have h2 := prod_le ((a : Int) % 4294967296) ((n : Int) / 4294967296) (by omega) (by omega) (by omega) (by omega)
  have h3 := prod_le ((a : Int) / 4294967296) ((n : Int) % 4294967296) (by omega) (by omega) (by omega) (by omega)
  have h4 := prod_le ((a : Int) / 4294967296) ((n : Int) / 4294967296) (by omega) (by omega) (by omega) (by omega)
  have hc1 : 0 ≤ (c : Int) % 4294967296 ∧ (c : Int) % 4294967296 ≤ 4294967295 := by omega
  have hc2 : 0 ≤ (c : Int) / 4294967296 ∧ (c : Int) / 4294967296 ≤ 4294967295 := by omega
  have hc3 : (c : Int) = (c : Int) / 4294967296 * 4294967296 + (c : Int) % 4294967296 := by omega
  rw [Int.natCast_emod, Int.natCast_ediv, e0, hs]
  simp only [IntKind.wrap_u64]
  generalize (a : Int) % 4294967296 * ((n : Int) % 4294967296) = P at *
  generalize (a : Int) % 4294967296 * ((n : Int) / 4294967296) = R at *
  generalize (a : Int) / 4294967296 * ((n : Int) % 4294967296) = Q at *
  generalize (a : Int) / 4294967296 * ((n : Int) / 4294967296) = S at *
  generalize (c : Int) % 4294967296 = cl at *
  generalize (c : Int) / 4294967296 = ch at *
  have k1 : P % 18446744073709551616 = P := by omega
  have k2 : Q % 18446744073709551616 = Q := by omega
  have k3 : R % 18446744073709551616 = R := by omega
  have k4 : S % 18446744073709551616 = S := by omega
  rw [k1, k2, k3, k4]
  have k5 : (P + cl) % 18446744073709551616 = P + cl := by omega
  rw [k5]
  have k6 : (Q + (P + cl) / 4294967296) % 18446744073709551616 = Q + (P + cl) / 4294967296 := by omega
  rw [k6]
  have k7 : (Q + (P + cl) / 4294967296 + ch) % 18446744073709551616 = Q + (P + cl) / 4294967296 + ch := by omega
  rw [k7]
  generalize hm : Q + (P + cl) / 4294967296 + ch = mid at *
  have k8 : (R + mid % 4294967296) % 18446744073709551616 = R + mid % 4294967296 := by omega
  rw [k8]
  constructor
  · obtain ⟨x, hx⟩ := Int.eq_ofNat_of_zero_le (show 0 ≤ (R + mid % 4294967296) * 4294967296 % 18446744073709551616 by omega)
    obtain ⟨y, hy⟩ := Int.eq_ofNat_of_zero_le (show 0 ≤ (P + cl) % 4294967296 by omega)
    rw [hx, hy, u64_or_nat _ _ (by omega) (by omega), nat_join 32 _ _ (by omega) (by omega)]
    rw [Int.natCast_add, ← hx, ← hy]
    have e1 : ((18446744073709551616 : Nat) : Int) = 18446744073709551616 := rfl
    rw [e1]
    omega
  · have e1 : ((18446744073709551616 : Nat) : Int) = 18446744073709551616 := rfl
    rw [e1]
    omega
set_option maxHeartbeats 400000 in
theorem mulLimb_any (a n c : Nat) (w : World) (ha : (a : Int) ≤ 18446744073709551615) (hn : (n : Int) ≤ 18446744073709551615) (hc : (c : Int) ≤ 18446744073709551615) :
    Calls Try.prog 59 #[.int .u64 (a : Int), .int .u64 (n : Int), .int .u64 (c : Int)] w fun e w' => e = .returned (.tuple #[.int .u64 (mlo a n c : Int), .int .u64 (mhi a n c : Int)]) ∧ w' = w := by
  go_enter Try.func59, Try.ntmps59
  go_wp2_with (go_at_call 64; refine (half_any _ _).mono ?_; rintro e w' ⟨rfl, rfl⟩)
  go_ret2
  refine ⟨?_, rfl⟩
  obtain ⟨m1, m2⟩ := mul_limb a n c ha hn hc
  unfold mlo mhi
  rw [← m1, ← m2]
  rfl
set_option maxHeartbeats 1000000 in
theorem mul_any (a n : Nat) (w : World) (ha : a < top) (hn : (n : Int) ≤ 18446744073709551615) :
    Calls Try.prog 30 #[.agg #[.int .u64 (lim a 0 : Int), .int .u64 (lim a 1 : Int), .int .u64 (lim a 2 : Int), .int .u64 (lim a 3 : Int)], .int .u64 (n : Int)] w fun e w' => e = .returned (.tuple #[.agg #[.int .u64 (lim (mulN a n) 0 : Int), .int .u64 (lim (mulN a n) 1 : Int), .int .u64 (lim (mulN a n) 2 : Int), .int .u64 (lim (mulN a n) 3 : Int)], .int .u64 (mulH a n : Int)]) ∧ Nx w w' := by
  obtain ⟨e0, e1, e2, e3⟩ := mul_lims a n
  rw [← e0, ← e1, ← e2, ← e3, ← mca4 a n ha]
  clear e0 e1 e2 e3 ha
  have HS := Lib.hid (mul_step a n)
  have HM := Lib.hid (fun k => mca_lt a n k (by omega))
  have h0 : (0 : Int) = (mca a n 0 : Int) := by rw [mca0]; rfl
  generalize a * n = s at *
  go_enter Try.func30, Try.ntmps30
  replace h0 := Lib.hid h0
  go_wp2
  go_loopw [6, 8] (fun c i wr => ∃ k : Nat, k ≤ 4 ∧ i = .int .i64 k ∧ c = .int .u64 (mca a n k : Int) ∧ wr = (w.alloc (.cells (rowK a s k) 24)).alloc (.cells #[.int .u64 0, .int .u64 0, .int .u64 0, .int .u64 0] 24)) (fun _ i _ => 4 - (intOf i).toNat)
  case atStart => exact ⟨0, by omega, rfl, by rw [← h0.out], rfl⟩
  case round =>
    obtain ⟨k, hk, rfl, rfl, rfl⟩ := hrel
    have hk' : k = 0 ∨ k = 1 ∨ k = 2 ∨ k = 3 ∨ k = 4 := by omega
    clear hk
    rcases hk' with rfl | rfl | rfl | rfl | rfl
    · have HS0 := Lib.hid (HS.out 0)
      have HX := Lib.hid (lim_le a 0)
      have HM0 := Lib.hid (HM.out 0)
      clear HS HM
      simp only [rowK]
      generalize lim a 0 = x at *
      generalize mca a n 0 = cc at *
      go_wp2_with (go_at_call 59; refine (mulLimb_any _ _ _ _ ?_ ?_ ?_).mono ?_; exact HX.out; exact hn; (have := HM0.out; omega); rintro e w' ⟨rfl, rfl⟩)
      go_roundw
      case rel =>
        refine ⟨1, by omega, rfl, by rw [← HS0.out.2], ?_⟩
        rw [← HS0.out.1]
        rfl
      case measure => simp [intOf]
    · have HS0 := Lib.hid (HS.out 1)
      have HX := Lib.hid (lim_le a 1)
      have HM0 := Lib.hid (HM.out 1)
      clear HS HM
      simp only [rowK]
      generalize lim a 1 = x at *
      generalize mca a n 1 = cc at *
      go_wp2_with (go_at_call 59; refine (mulLimb_any _ _ _ _ ?_ ?_ ?_).mono ?_; exact HX.out; exact hn; (have := HM0.out; omega); rintro e w' ⟨rfl, rfl⟩)
      go_roundw
      case rel =>
        refine ⟨2, by omega, rfl, by rw [← HS0.out.2], ?_⟩
        rw [← HS0.out.1]
        rfl
      case measure => simp [intOf]
    · have HS0 := Lib.hid (HS.out 2)
      have HX := Lib.hid (lim_le a 2)
      have HM0 := Lib.hid (HM.out 2)
      clear HS HM
      simp only [rowK]
      generalize lim a 2 = x at *
      generalize mca a n 2 = cc at *
      go_wp2_with (go_at_call 59; refine (mulLimb_any _ _ _ _ ?_ ?_ ?_).mono ?_; exact HX.out; exact hn; (have := HM0.out; omega); rintro e w' ⟨rfl, rfl⟩)
      go_roundw
      case rel =>
        refine ⟨3, by omega, rfl, by rw [← HS0.out.2], ?_⟩
        rw [← HS0.out.1]
        rfl
      case measure => simp [intOf]
    · have HS0 := Lib.hid (HS.out 3)
      have HX := Lib.hid (lim_le a 3)
      have HM0 := Lib.hid (HM.out 3)
      clear HS HM
      simp only [rowK]
      generalize lim a 3 = x at *
      generalize mca a n 3 = cc at *
      go_wp2_with (go_at_call 59; refine (mulLimb_any _ _ _ _ ?_ ?_ ?_).mono ?_; exact HX.out; exact hn; (have := HM0.out; omega); rintro e w' ⟨rfl, rfl⟩)
      go_roundw
      case rel =>
        refine ⟨4, by omega, rfl, by rw [← HS0.out.2], ?_⟩
        rw [← HS0.out.1]
        rfl
      case measure => simp [intOf]
    · simp only [rowK]
      go_wp2
      exact bodyPost_ret (v := .tuple #[.agg #[.int .u64 (lim s 0 : Int), .int .u64 (lim s 1 : Int), .int .u64 (lim s 2 : Int), .int .u64 (lim s 3 : Int)], .int .u64 (mca a n 4 : Int)]) (by simp [results, Try.results30, go_sem]) rfl ⟨rfl, by repeat (first | exact Nx.refl _ | apply Nx.drewN | apply Nx.alloc | refine Nx.setAt ?_ _ (by omega))⟩
end Go.Proofs.Ytggemncdnclhnaa
