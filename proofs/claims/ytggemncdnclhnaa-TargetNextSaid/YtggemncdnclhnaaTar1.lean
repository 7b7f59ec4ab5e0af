/- CONTRACTS OF LAYER 4: shifted, told, Bits. -/
import Derived.Test.YtggemncdnclhnaaTarPure
import Derived.Test.YtggemncdnclhnaaBig6
import Derived.Test.YtggemncdnclhnaaBig8
import Derived.Test.YtggemncdnclhnaaBig2
import Derived.Test.YtggemncdnclhnaaRowU
import Derived.Laws.BitsAllLaws
import Derived.IntWalk
import Derived.Lib.QuietBelow
import Derived.Test.YtggemncdnclhnaaBigLen
namespace Go.Proofs.Ytggemncdnclhnaa
open Go.RowKit
set_option linter.unusedVariables false
set_option linter.unusedSimpArgs false

set_option maxHeartbeats 1000000 in
theorem shifted_any (a : Nat) (n : Int) (w : World) (ha : a < top) (hn0 : -1000 ≤ n) (hn1 : n ≤ 1000) :
    Calls Try.prog 62 #[.agg #[.int .u64 (lim a 0 : Int), .int .u64 (lim a 1 : Int), .int .u64 (lim a 2 : Int), .int .u64 (lim a 3 : Int)], .int .i64 n] w fun e w' => e = .returned (.agg #[.int .u64 (lim (shN a n) 0 : Int), .int .u64 (lim (shN a n) 1 : Int), .int .u64 (lim (shN a n) 2 : Int), .int .u64 (lim (shN a n) 3 : Int)]) ∧ Nx w w' := by
  by_cases h : n < 0
  · have HR := fun w => right_any a (-n * 8) w ha (by omega)
    have e : rightN a (-n * 8) = shN a n := by
      unfold rightN shN
      rw [if_neg (by omega), if_pos h, show (-n * 8).toNat = 8 * (-n).toNat by omega]
    rw [e] at HR
    replace HR := Lib.hid HR
    generalize shN a n = x at *
    clear ha e
    go_enter Try.func62, Try.ntmps62
    go_wp2_with fail
    refine (HR.out _).mono ?_
    rintro e w1 ⟨rfl, hb1⟩
    have RZ := (Row.new2 w (.cells #[.int .u64 (lim a 0 : Int), .int .u64 (lim a 1 : Int), .int .u64 (lim a 2 : Int), .int .u64 (lim a 3 : Int)] 24) #[.int .u64 0, .int .u64 0, .int .u64 0, .int .u64 0] 24).nx hb1
    have N1 := Lib.hid ((((Nx.refl w).alloc (.cells #[.int .u64 (lim a 0 : Int), .int .u64 (lim a 1 : Int), .int .u64 (lim a 2 : Int), .int .u64 (lim a 3 : Int)] 24)).alloc (.cells #[.int .u64 0, .int .u64 0, .int .u64 0, .int .u64 0] 24)).trans hb1)
    obtain ⟨z0, z1, z2, z3⟩ := RZ.zero4
    have f1 := RZ.frozen
    clear hb1
    go_wp2
    exact bodyPost_ret (v := .agg #[.int .u64 (lim x 0 : Int), .int .u64 (lim x 1 : Int), .int .u64 (lim x 2 : Int), .int .u64 (lim x 3 : Int)]) (by simp [results, Try.results62, go_sem, z0, z1, z2, z3, f1]) rfl
      ⟨rfl, by repeat (first | with_reducible exact N1.out | with_reducible refine Nx.setAt ?_ _ (by omega))⟩
  · have HL := fun w => left_any a (n * 8) w (by omega)
    have e : leftN a (n * 8) = shN a n := by
      unfold leftN shN
      rw [if_neg (by omega), if_neg h, show (n * 8).toNat = 8 * n.toNat by omega]
    rw [e] at HL
    replace HL := Lib.hid HL
    generalize shN a n = x at *
    clear ha e
    go_enter Try.func62, Try.ntmps62
    go_wp2_with fail
    refine (HL.out _).mono ?_
    rintro e w1 ⟨rfl, hb1⟩
    have RZ := (Row.new2 w (.cells #[.int .u64 (lim a 0 : Int), .int .u64 (lim a 1 : Int), .int .u64 (lim a 2 : Int), .int .u64 (lim a 3 : Int)] 24) #[.int .u64 0, .int .u64 0, .int .u64 0, .int .u64 0] 24).nx hb1
    have N1 := Lib.hid ((((Nx.refl w).alloc (.cells #[.int .u64 (lim a 0 : Int), .int .u64 (lim a 1 : Int), .int .u64 (lim a 2 : Int), .int .u64 (lim a 3 : Int)] 24)).alloc (.cells #[.int .u64 0, .int .u64 0, .int .u64 0, .int .u64 0] 24)).trans hb1)
    obtain ⟨z0, z1, z2, z3⟩ := RZ.zero4
    have f1 := RZ.frozen
    clear hb1
    go_wp2
    exact bodyPost_ret (v := .agg #[.int .u64 (lim x 0 : Int), .int .u64 (lim x 1 : Int), .int .u64 (lim x 2 : Int), .int .u64 (lim x 3 : Int)]) (by simp [results, Try.results62, go_sem, z0, z1, z2, z3, f1]) rfl
      ⟨rfl, by repeat (first | with_reducible exact N1.out | with_reducible refine Nx.setAt ?_ _ (by omega))⟩

set_option maxHeartbeats 1000000 in
theorem told_any (b : Nat) (w : World) (hb : (b : Int) ≤ 4294967295) :
    Calls Try.prog 61 #[.int .u32 (b : Int)] w fun e w' => e = .returned (.agg #[.int .u64 (lim (tN b) 0 : Int), .int .u64 (lim (tN b) 1 : Int), .int .u64 (lim (tN b) 2 : Int), .int .u64 (lim (tN b) 3 : Int)]) ∧ Nx w w' := by
  have HO := Lib.hid (fun w => of_any (b % 8388608) w (by omega))
  have HS := Lib.hid (fun w => shifted_any (b % 8388608) ((b / 16777216 : Nat) - 3 : Int) w (Nat.lt_of_lt_of_le (Nat.mod_lt _ (by decide)) (by decide)) (by omega) (by omega))
  have HT : Hid (shN (b % 8388608) ((b / 16777216 : Nat) - 3 : Int) = tN b) := Lib.hid rfl
  rw [HT.out] at HS
  clear HT
  have hand : bits .and .u32 (b : Int) 8388607 = ((b % 8388608 : Nat) : Int) := by
    have := u32_and_nat b 8388607 (by omega) (by decide)
    rw [show (8388607 : Nat) = 2 ^ 23 - 1 by decide, Nat.and_two_pow_sub_one_eq_mod] at this
    exact this
  have hshr : (b : Int) / 16777216 = ((b / 16777216 : Nat) : Int) := rfl
  have hml : ((b % 8388608 : Nat) : Int) ≤ 8388607 := by omega
  have hel : ((b / 16777216 : Nat) : Int) ≤ 255 := by omega
  generalize tN b = x at *
  generalize b % 8388608 = m at *
  generalize b / 16777216 = ex at *
  go_enter Try.func61, Try.ntmps61
  go_wp2_with fail
  refine (HO.out _).mono ?_
  rintro e w1 ⟨rfl, hb1⟩
  have RZ := ((Row.new w #[.int .u64 0, .int .u64 0, .int .u64 0, .int .u64 0] 24 _ rfl).nx hb1).alloc (.cells #[.int .u64 (lim m 0 : Int), .int .u64 (lim m 1 : Int), .int .u64 (lim m 2 : Int), .int .u64 (lim m 3 : Int)] 24)
  have N1 := Lib.hid ((((Nx.refl w).alloc (.cells #[.int .u64 0, .int .u64 0, .int .u64 0, .int .u64 0] 24)).trans hb1).alloc (.cells #[.int .u64 (lim m 0 : Int), .int .u64 (lim m 1 : Int), .int .u64 (lim m 2 : Int), .int .u64 (lim m 3 : Int)] 24))
  clear hb1
  go_wp2_with fail
  refine (HS.out _).mono ?_
  rintro e w2 ⟨rfl, hb2⟩
  replace RZ := RZ.nx hb2
  replace N1 := Lib.hid (N1.out.trans hb2)
  obtain ⟨z0, z1, z2, z3⟩ := RZ.zero4
  have f1 := RZ.frozen
  clear hb2
  go_wp2
  exact bodyPost_ret (v := .agg #[.int .u64 (lim x 0 : Int), .int .u64 (lim x 1 : Int), .int .u64 (lim x 2 : Int), .int .u64 (lim x 3 : Int)]) (by simp [results, Try.results61, go_sem, z0, z1, z2, z3, f1]) rfl
    ⟨rfl, by repeat (first | with_reducible exact N1.out | with_reducible refine Nx.setAt ?_ _ (by omega))⟩
end Go.Proofs.Ytggemncdnclhnaa
