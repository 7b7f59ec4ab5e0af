/- CONTRACT OF LAYER 3: Len. -/
import Derived.Test.YtggemncdnclhnaaBig3
import Derived.Test.YtggemncdnclhnaaBigPure2
import Derived.Test.YtggemncdnclhnaaShelf
import Derived.Lib.BitFns
namespace Go.Proofs.Ytggemncdnclhnaa
open Go.RowKit
set_option linter.unusedVariables false
set_option linter.unusedSimpArgs false

/-- How many bits n has. -/
def blen (n : Nat) : Nat := if n = 0 then 0 else n.log2 + 1
theorem blen_zero : blen 0 = 0 := rfl
theorem blen_spec (n : Nat) : n < 2 ^ blen n := by
  unfold blen; split
  · subst_vars; decide
  · exact Nat.lt_log2_self
theorem blen_low (n : Nat) (h : n ≠ 0) : 2 ^ (blen n - 1) ≤ n := by
  unfold blen; rw [if_neg h]; exact Nat.log2_self_le h
theorem blen_of {n k : Nat} (h : n ≠ 0) (h1 : 2 ^ k ≤ n) (h2 : n < 2 ^ (k + 1)) : blen n = k + 1 := by
  unfold blen; rw [if_neg h, (Nat.log2_eq_iff h).2 ⟨h1, h2⟩]
theorem lib_blen : ∀ (x : Nat), x < 2 ^ 64 → Lib.bitLen x = blen x := by
  intro x
  induction x using Nat.strongRecOn with
  | ind x ih =>
    intro hx
    by_cases h0 : x = 0
    · subst h0; decide
    · rw [Lib.bitLen_half x h0 hx, ih (x / 2) (by omega) (by omega)]
      by_cases h1 : x = 1
      · subst h1; decide
      · have hh : x / 2 ≠ 0 := by omega
        have a1 := blen_low _ hh
        have a2 := blen_spec (x / 2)
        have hb : 1 ≤ blen (x / 2) := by unfold blen; rw [if_neg hh]; omega
        generalize blen (x / 2) = m at *
        obtain ⟨m, rfl⟩ : ∃ j, m = j + 1 := ⟨m - 1, by omega⟩
        rw [Nat.add_sub_cancel] at a1
        rw [blen_of (k := m + 1) h0 (by rw [Nat.pow_succ]; omega) (by rw [Nat.pow_succ]; omega)]
        omega
theorem blen_limb (a i : Nat) (h : lim a i ≠ 0) (hu : a < 2 ^ (64 * (i + 1))) : blen a = 64 * i + blen (lim a i) := by
  have hl : lim a i = a / 2 ^ (64 * i) := by
    unfold lim
    refine Nat.mod_eq_of_lt ?_
    rw [Nat.div_lt_iff_lt_mul (Nat.pow_pos (by omega)), show (18446744073709551616 : Nat) = 2 ^ 64 by decide, ← Nat.pow_add, show 64 + 64 * i = 64 * (i + 1) by omega]
    exact hu
  rw [hl] at h ⊢
  have hp : 0 < 2 ^ (64 * i) := Nat.pow_pos (by omega)
  have a1 := blen_low _ h
  have a2 := blen_spec (a / 2 ^ (64 * i))
  have hb : 1 ≤ blen (a / 2 ^ (64 * i)) := by unfold blen; rw [if_neg h]; omega
  have ha : a ≠ 0 := by rintro rfl; simp at h
  generalize blen (a / 2 ^ (64 * i)) = m at *
  obtain ⟨m, rfl⟩ : ∃ j, m = j + 1 := ⟨m - 1, by omega⟩
  rw [Nat.add_sub_cancel] at a1
  rw [blen_of (k := 64 * i + m) ha]
  · omega
  · rw [Nat.pow_add, Nat.mul_comm]
    exact (Nat.le_div_iff_mul_le hp).1 a1
  · rw [show 64 * i + m + 1 = (m + 1) + 64 * i by omega, Nat.pow_add]
    exact (Nat.div_lt_iff_lt_mul hp).1 a2
theorem under3 (a : Nat) (ha : a < top) (h3 : lim a 3 = 0) : a < 2 ^ (64 * 3) := by
  rw [lim3] at h3
  rw [show (2 : Nat) ^ (64 * 3) = 6277101735386680763835789423207666416102355444464034512896 by decide +kernel]
  unfold top at ha; omega
theorem under2 (a : Nat) (ha : a < top) (h3 : lim a 3 = 0) (h2 : lim a 2 = 0) : a < 2 ^ (64 * 2) := by
  rw [lim3] at h3; rw [lim2] at h2
  rw [show (2 : Nat) ^ (64 * 2) = 340282366920938463463374607431768211456 by decide +kernel]
  unfold top at ha; omega
theorem under1 (a : Nat) (ha : a < top) (h3 : lim a 3 = 0) (h2 : lim a 2 = 0) (h1 : lim a 1 = 0) : a < 2 ^ (64 * 1) := by
  rw [lim3] at h3; rw [lim2] at h2; rw [lim1] at h1
  rw [show (2 : Nat) ^ (64 * 1) = 18446744073709551616 by decide +kernel]
  unfold top at ha; omega
theorem under0 (a : Nat) (ha : a < top) (h3 : lim a 3 = 0) (h2 : lim a 2 = 0) (h1 : lim a 1 = 0) (h0 : lim a 0 = 0) : a = 0 := by
  rw [lim3] at h3; rw [lim2] at h2; rw [lim1] at h1; rw [lim0] at h0
  unfold top at ha; omega

theorem len64_any (x : Nat) (w : World) (h : (x : Int) ≤ 18446744073709551615) :
    Calls Try.prog 54 #[.int .u64 (x : Int)] w fun e w' => e = .returned (.int .i64 (blen x : Int)) ∧ w' = w := by
  have := Try.bits_Len64 (x : Int) w (by omega) h
  rw [Int.toNat_natCast, lib_blen x (by omega)] at this
  exact this

/-- Which limbs are known to be 0, k limbs looked at from above. -/
def noneAbove (a k : Nat) : Prop := (1 ≤ k → lim a 3 = 0) ∧ (2 ≤ k → lim a 2 = 0) ∧ (3 ≤ k → lim a 1 = 0) ∧ (4 ≤ k → lim a 0 = 0)
theorem len_at (a k : Nat) (ha : a < top) (hk : k < 4) (h : noneAbove a k) (hx : lim a (3 - k) ≠ 0) : blen a = 64 * (3 - k) + blen (lim a (3 - k)) := by
  obtain ⟨h3, h2, h1, h0⟩ := h
  refine blen_limb a (3 - k) hx ?_
  have hk' : k = 0 ∨ k = 1 ∨ k = 2 ∨ k = 3 := by omega
  rcases hk' with rfl | rfl | rfl | rfl
  · show a < 2 ^ 256
    rw [← top_eq]; exact ha
  · exact under3 a ha (h3 (by omega))
  · exact under2 a ha (h3 (by omega)) (h2 (by omega))
  · exact under1 a ha (h3 (by omega)) (h2 (by omega)) (h1 (by omega))
theorem blen_le (n : Nat) (h : (n : Int) ≤ 18446744073709551615) : blen n ≤ 64 := by
  rcases Nat.eq_zero_or_pos n with rfl | hn
  · decide
  · have := blen_low n (by omega)
    rcases Nat.lt_or_ge 64 (blen n) with h2 | h2
    · have h3 : 2 ^ 64 ≤ 2 ^ (blen n - 1) := Nat.pow_le_pow_right (by decide) (by omega)
      have h4 : (2 : Nat) ^ 64 = 18446744073709551616 := by decide
      omega
    · exact h2

set_option maxHeartbeats 1000000 in
theorem len_any (a : Nat) (w : World) (ha : a < top) :
    Calls Try.prog 23 #[.agg #[.int .u64 (lim a 0 : Int), .int .u64 (lim a 1 : Int), .int .u64 (lim a 2 : Int), .int .u64 (lim a 3 : Int)]] w fun e w' => e = .returned (.int .i64 (blen a : Int)) ∧ Nx w w' := by
  have HA := Lib.hid ha
  clear ha
  go_enter Try.func23, Try.ntmps23
  go_wp2
  go_loopw [3] (fun i wr => ∃ k : Nat, k ≤ 4 ∧ i = .int .i64 (3 - (k : Int)) ∧ Hid (noneAbove a k) ∧ wr = w.alloc (.cells #[.int .u64 (lim a 0 : Int), .int .u64 (lim a 1 : Int), .int .u64 (lim a 2 : Int), .int .u64 (lim a 3 : Int)] 24)) (fun i _ => (intOf i + 1).toNat)
  case atStart => exact ⟨0, by omega, rfl, ⟨by omega, by omega, by omega, by omega⟩, rfl⟩
  case round =>
    obtain ⟨k, hk, rfl, HN, rfl⟩ := hrel
    have hk' : k = 0 ∨ k = 1 ∨ k = 2 ∨ k = 3 ∨ k = 4 := by omega
    clear hk
    rcases hk' with rfl | rfl | rfl | rfl | rfl
    · by_cases hx : lim a (3 - 0) = 0
      · have HX := Lib.hid hx
        have hx1 : ((lim a (3 - 0) : Int) != 0) = false := by rw [hx]; rfl
        simp only [Nat.reduceSub] at hx1
        clear hx
        go_wp2
        go_roundw
        case rel =>
          obtain ⟨h3, h2, h1, h0⟩ := HN.out
          have hx := HX.out
          exact ⟨1, by omega, rfl, ⟨fun _ => by first | exact hx | exact h3 (by omega), fun _ => by first | exact hx | exact h2 (by omega) | omega, fun _ => by first | exact hx | exact h1 (by omega) | omega, fun _ => by first | exact hx | exact h0 (by omega) | omega⟩, by first | rfl | trivial⟩
        case measure => simp [intOf]
      · have hx1 : ((lim a (3 - 0) : Int) != 0) = true := by rw [bne_iff_ne]; omega
        simp only [Nat.reduceSub] at hx1
        have HL := Lib.hid (len_at a 0 HA.out (by omega) HN.out hx)
        have hb := blen_le (lim a (3 - 0)) (lim_le a _)
        have HM := Lib.hid (lim_le a (3 - 0))
        simp only [Nat.reduceSub] at hb
        clear hx
        go_wp2_with fail
        refine (len64_any _ _ HM.out).mono ?_
        rintro e w' ⟨rfl, rfl⟩
        go_wp2
        go_ret
        refine ⟨?_, by repeat (first | exact Nx.refl _ | apply Nx.drewN | apply Nx.alloc)⟩
        rw [HL.out]
        simp only [Nat.reduceSub]
        first | go_num | (simp only [Nat.mul_zero, Nat.zero_add]; rfl)
    · by_cases hx : lim a (3 - 1) = 0
      · have HX := Lib.hid hx
        have hx1 : ((lim a (3 - 1) : Int) != 0) = false := by rw [hx]; rfl
        simp only [Nat.reduceSub] at hx1
        clear hx
        go_wp2
        go_roundw
        case rel =>
          obtain ⟨h3, h2, h1, h0⟩ := HN.out
          have hx := HX.out
          exact ⟨2, by omega, rfl, ⟨fun _ => by first | exact hx | exact h3 (by omega), fun _ => by first | exact hx | exact h2 (by omega) | omega, fun _ => by first | exact hx | exact h1 (by omega) | omega, fun _ => by first | exact hx | exact h0 (by omega) | omega⟩, by first | rfl | trivial⟩
        case measure => simp [intOf]
      · have hx1 : ((lim a (3 - 1) : Int) != 0) = true := by rw [bne_iff_ne]; omega
        simp only [Nat.reduceSub] at hx1
        have HL := Lib.hid (len_at a 1 HA.out (by omega) HN.out hx)
        have hb := blen_le (lim a (3 - 1)) (lim_le a _)
        have HM := Lib.hid (lim_le a (3 - 1))
        simp only [Nat.reduceSub] at hb
        clear hx
        go_wp2_with fail
        refine (len64_any _ _ HM.out).mono ?_
        rintro e w' ⟨rfl, rfl⟩
        go_wp2
        go_ret
        refine ⟨?_, by repeat (first | exact Nx.refl _ | apply Nx.drewN | apply Nx.alloc)⟩
        rw [HL.out]
        simp only [Nat.reduceSub]
        first | go_num | (simp only [Nat.mul_zero, Nat.zero_add]; rfl)
    · by_cases hx : lim a (3 - 2) = 0
      · have HX := Lib.hid hx
        have hx1 : ((lim a (3 - 2) : Int) != 0) = false := by rw [hx]; rfl
        simp only [Nat.reduceSub] at hx1
        clear hx
        go_wp2
        go_roundw
        case rel =>
          obtain ⟨h3, h2, h1, h0⟩ := HN.out
          have hx := HX.out
          exact ⟨3, by omega, rfl, ⟨fun _ => by first | exact hx | exact h3 (by omega), fun _ => by first | exact hx | exact h2 (by omega) | omega, fun _ => by first | exact hx | exact h1 (by omega) | omega, fun _ => by first | exact hx | exact h0 (by omega) | omega⟩, by first | rfl | trivial⟩
        case measure => simp [intOf]
      · have hx1 : ((lim a (3 - 2) : Int) != 0) = true := by rw [bne_iff_ne]; omega
        simp only [Nat.reduceSub] at hx1
        have HL := Lib.hid (len_at a 2 HA.out (by omega) HN.out hx)
        have hb := blen_le (lim a (3 - 2)) (lim_le a _)
        have HM := Lib.hid (lim_le a (3 - 2))
        simp only [Nat.reduceSub] at hb
        clear hx
        go_wp2_with fail
        refine (len64_any _ _ HM.out).mono ?_
        rintro e w' ⟨rfl, rfl⟩
        go_wp2
        go_ret
        refine ⟨?_, by repeat (first | exact Nx.refl _ | apply Nx.drewN | apply Nx.alloc)⟩
        rw [HL.out]
        simp only [Nat.reduceSub]
        first | go_num | (simp only [Nat.mul_zero, Nat.zero_add]; rfl)
    · by_cases hx : lim a (3 - 3) = 0
      · have HX := Lib.hid hx
        have hx1 : ((lim a (3 - 3) : Int) != 0) = false := by rw [hx]; rfl
        simp only [Nat.reduceSub] at hx1
        clear hx
        go_wp2
        go_roundw
        case rel =>
          obtain ⟨h3, h2, h1, h0⟩ := HN.out
          have hx := HX.out
          exact ⟨4, by omega, rfl, ⟨fun _ => by first | exact hx | exact h3 (by omega), fun _ => by first | exact hx | exact h2 (by omega) | omega, fun _ => by first | exact hx | exact h1 (by omega) | omega, fun _ => by first | exact hx | exact h0 (by omega) | omega⟩, by first | rfl | trivial⟩
        case measure => simp [intOf]
      · have hx1 : ((lim a (3 - 3) : Int) != 0) = true := by rw [bne_iff_ne]; omega
        simp only [Nat.reduceSub] at hx1
        have HL := Lib.hid (len_at a 3 HA.out (by omega) HN.out hx)
        have hb := blen_le (lim a (3 - 3)) (lim_le a _)
        have HM := Lib.hid (lim_le a (3 - 3))
        simp only [Nat.reduceSub] at hb
        clear hx
        go_wp2_with fail
        refine (len64_any _ _ HM.out).mono ?_
        rintro e w' ⟨rfl, rfl⟩
        go_wp2
        go_ret
        refine ⟨?_, by repeat (first | exact Nx.refl _ | apply Nx.drewN | apply Nx.alloc)⟩
        rw [HL.out]
        simp only [Nat.reduceSub]
        first | go_num | (simp only [Nat.mul_zero, Nat.zero_add]; rfl)
    · have HE : Hid (blen a = 0) := show _ = _ by
        obtain ⟨h3, h2, h1, h0⟩ := HN.out
        rw [under0 a HA.out (h3 (by omega)) (h2 (by omega)) (h1 (by omega)) (h0 (by omega))]; rfl
      go_wp2
      go_ret
      exact ⟨by rw [HE.out]; rfl, by repeat (first | exact Nx.refl _ | apply Nx.drewN | apply Nx.alloc)⟩
end Go.Proofs.Ytggemncdnclhnaa
