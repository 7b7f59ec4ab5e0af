/- CONTRACTS OF LAYER 3: Div. -/
import Derived.Test.YtggemncdnclhnaaDiv64
import Derived.Test.YtggemncdnclhnaaBig7
namespace Go.Proofs.Ytggemncdnclhnaa
open Go.RowKit
set_option linter.unusedVariables false
set_option linter.unusedSimpArgs false

/-- The limbs, those from k on divided already. -/
def dvK (a n k j : Nat) : Nat := if k ≤ j then lim (a / n) j else lim a j
def dcel (a n k : Nat) : Array Value := #[.int .u64 (dvK a n k 0 : Int), .int .u64 (dvK a n k 1 : Int), .int .u64 (dvK a n k 2 : Int), .int .u64 (dvK a n k 3 : Int)]
/-- What is left of the limbs from k on. -/
def lfK (a n k : Nat) : Nat := a / 2 ^ (64 * k) % n
theorem dcel_top (a n : Nat) : dcel a n 4 = #[.int .u64 (lim a 0 : Int), .int .u64 (lim a 1 : Int), .int .u64 (lim a 2 : Int), .int .u64 (lim a 3 : Int)] := rfl
theorem dcel_zero (a n : Nat) : dcel a n 0 = #[.int .u64 (lim (a / n) 0 : Int), .int .u64 (lim (a / n) 1 : Int), .int .u64 (lim (a / n) 2 : Int), .int .u64 (lim (a / n) 3 : Int)] := rfl
theorem lfK_top (a n : Nat) (ha : a < top) : lfK a n 4 = 0 := by
  unfold lfK
  rw [show (2 : Nat) ^ (64 * 4) = top by decide +kernel, Nat.div_eq_of_lt ha, Nat.zero_mod]
theorem lfK_zero (a n : Nat) : lfK a n 0 = a % n := by simp [lfK]
theorem lfK_lt (a n k : Nat) (hn : 0 < n) : lfK a n k < n := Nat.mod_lt _ hn
theorem div_limb (a n i : Nat) (hn : 0 < n) : (lfK a n (i + 1) * 18446744073709551616 + lim a i) / n = lim (a / n) i ∧ (lfK a n (i + 1) * 18446744073709551616 + lim a i) % n = lfK a n i := by
  unfold lfK lim
  have e1 : a / 2 ^ (64 * (i + 1)) = a / 2 ^ (64 * i) / 18446744073709551616 := by
    rw [Nat.div_div_eq_div_mul, show 64 * (i + 1) = 64 * i + 64 by omega, Nat.pow_add]
  have e2 : a / n / 2 ^ (64 * i) = a / 2 ^ (64 * i) / n := by rw [Nat.div_div_eq_div_mul, Nat.div_div_eq_div_mul, Nat.mul_comm]
  rw [e1, e2]
  generalize a / 2 ^ (64 * i) = A
  have hA := Nat.div_add_mod A 18446744073709551616
  have hB := Nat.div_add_mod (A / 18446744073709551616) n
  have hr := Nat.mod_lt (A / 18446744073709551616) hn
  have hl := Nat.mod_lt A (show 0 < 18446744073709551616 by decide)
  generalize A / 18446744073709551616 = H at *
  generalize A % 18446744073709551616 = l at *
  generalize H / n = Q at *
  generalize H % n = R at *
  have hA2 : A = (R * 18446744073709551616 + l) + n * (Q * 18446744073709551616) := by
    rw [← hA, ← hB, Nat.mul_add, Nat.mul_comm 18446744073709551616 R, ← Nat.mul_assoc n Q, Nat.mul_comm 18446744073709551616 (n * Q)]
    omega
  have hsm : (R * 18446744073709551616 + l) / n < 18446744073709551616 := by
    rw [Nat.div_lt_iff_lt_mul hn]
    have h3 : (R + 1) * 18446744073709551616 ≤ n * 18446744073709551616 := Nat.mul_le_mul_right _ hr
    rw [Nat.mul_comm 18446744073709551616 n]
    omega
  rw [hA2, Nat.add_mul_div_left _ _ hn, Nat.add_mul_mod_self_left, Nat.add_mul_mod_self_right, Nat.mod_eq_of_lt hsm]
  exact ⟨rfl, rfl⟩
theorem dcel_set (a n i : Nat) (hi : i < 4) : (dcel a n (i + 1)).setIfInBounds i (.int .u64 (lim (a / n) i : Int)) = dcel a n i := by
  have hq' : i = 0 ∨ i = 1 ∨ i = 2 ∨ i = 3 := by omega
  rcases hq' with rfl | rfl | rfl | rfl <;> rfl

set_option maxHeartbeats 4000000 in
theorem div_yes (a n : Nat) (w : World) (ha : a < top) (hn : (n : Int) ≤ 18446744073709551615) (hn0 : n ≠ 0) :
    Calls Try.prog 34 #[.agg #[.int .u64 (lim a 0 : Int), .int .u64 (lim a 1 : Int), .int .u64 (lim a 2 : Int), .int .u64 (lim a 3 : Int)], .int .u64 (n : Int)] w fun e w' => e = .returned (.tuple #[.agg #[.int .u64 (lim (a / n) 0 : Int), .int .u64 (lim (a / n) 1 : Int), .int .u64 (lim (a / n) 2 : Int), .int .u64 (lim (a / n) 3 : Int)], .int .u64 ((a % n : Nat) : Int), .int .i64 0]) ∧ Nx w w' := by
  have HD := Lib.hid (fun i w (hi : i < 4) => div64_any (lfK a n (i + 1)) (lim a i) n w (lfK_lt a n _ (by omega)) (lim_le a i) hn)
  have HL := Lib.hid (fun i => div_limb a n i (by omega))
  have HT := Lib.hid (lfK_top a n ha)
  have HZ := Lib.hid (lfK_zero a n)
  have hnz : ((n : Int) == 0) = false := by simp; omega
  replace hn0 := Lib.hid hn0
  clear ha
  go_enter Try.func34, Try.ntmps34
  go_wp2
  go_loopw [7, 8] (fun lv i wr => ∃ k : Nat, k ≤ 4 ∧ i = .int .i64 ((k : Int) - 1) ∧ lv = .int .u64 (lfK a n k : Int) ∧ Hid (Nx w wr) ∧ Row wr w.heap.size (dcel a n k) 24 ∧ Row wr (w.heap.size + 1) #[.int .u64 0, .int .u64 0, .int .u64 0, .int .u64 0] 24) (fun _ i _ => (intOf i + 1).toNat)
  case atStart =>
    exact ⟨4, by omega, rfl, by rw [HT.out]; rfl, ((Nx.refl w).alloc _).alloc _, (Row.new _ _ _ _ rfl).alloc _, Row.new2 _ _ _ _⟩
  case round =>
    obtain ⟨k, hk, rfl, rfl, HN, R0, R1⟩ := hrel
    by_cases hk0 : k = 0
    · subst hk0
      rw [dcel_zero] at R0
      rw [HZ.out]
      obtain ⟨t0, t1, t2, t3⟩ := R0.four
      obtain ⟨z0, z1, z2, z3⟩ := R1.zero4
      have f1 := R1.frozen
      go_wp2
      exact bodyPost_ret (v := .tuple #[.agg #[.int .u64 (lim (a / n) 0 : Int), .int .u64 (lim (a / n) 1 : Int), .int .u64 (lim (a / n) 2 : Int), .int .u64 (lim (a / n) 3 : Int)], .int .u64 ((a % n : Nat) : Int), .int .i64 0]) (by simp [results, Try.results34, go_sem, t0, t1, t2, t3, z0, z1, z2, z3, f1]) rfl
        ⟨rfl, by repeat (first | with_reducible exact HN.out | with_reducible apply Nx.drew | with_reducible refine Nx.setAt ?_ _ (by omega))⟩
    · obtain ⟨i, rfl⟩ : ∃ i, k = i + 1 := ⟨k - 1, by omega⟩
      have ei : (((i + 1 : Nat) : Int) - 1) = (i : Int) := by omega
      rw [ei]
      clear ei
      have HC := Lib.hid (dcel_set a n i (by omega))
      have hi0 : (0 : Int) ≤ (i : Int) := by omega
      have hi1 : (i : Int) < 4 := by omega
      obtain ⟨HL1, HL2⟩ := HL.out i
      have HDI := fun w => HD.out i w (by omega)
      rw [HL1, HL2] at HDI
      replace HDI := Lib.hid HDI
      clear HL1 HL2
      have ci : wr.cell? ⟨w.heap.size, i, none⟩ = some (.int .u64 (lim a i : Int)) := by
        have hq' : i = 0 ∨ i = 1 ∨ i = 2 ∨ i = 3 := by omega
        rcases hq' with rfl | rfl | rfl | rfl <;> exact R0.cell rfl
      generalize lim a i = x at *
      generalize lim (a / n) i = y at *
      go_wp2_with fail
      refine (HDI.out _).mono ?_
      rintro e w2 ⟨rfl, hb2⟩
      replace R0 := R0.nx hb2
      replace R1 := R1.nx hb2
      replace HN := Lib.hid (HN.out.trans hb2)
      have f0 := R0.frozen
      have ci2 : ∃ v, w2.cell? ⟨w.heap.size, i, none⟩ = some v := by
        have hq' : i = 0 ∨ i = 1 ∨ i = 2 ∨ i = 3 := by omega
        rcases hq' with rfl | rfl | rfl | rfl <;> exact ⟨_, R0.cell rfl⟩
      obtain ⟨v2, cv2⟩ := ci2
      clear ci hb2
      go_wp2
      go_roundw
      case rel =>
        refine ⟨i, by omega, rfl, rfl, HN.out.setAt _ (Nat.le_refl _), ?_, R1.other _ _ _ (by omega)⟩
        rw [← HC.out]
        exact R0.set i _
      case measure => simp [intOf]
end Go.Proofs.Ytggemncdnclhnaa
