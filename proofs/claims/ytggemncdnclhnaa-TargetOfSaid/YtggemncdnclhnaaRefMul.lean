/- THE REFERENCE OF LAYER 3: Mul. -/
import Derived.Test.YtggemncdnclhnaaRefAdd
import Derived.Test.YtggemncdnclhnaaBig3
namespace Go.Proofs.Ytggemncdnclhnaa
open Go.RowKit
set_option linter.unusedVariables false
set_option linter.unusedSimpArgs false

/-- The m lowest bits, the lowest first. -/
def bitsM (m n : Nat) : List Bool := (List.range m).map n.testBit
theorem bitsM_length (m n : Nat) : (bitsM m n).length = m := by simp [bitsM]
theorem bitsM_get (m n i : Nat) (h : i < (bitsM m n).length) : (bitsM m n)[i] = n.testBit i := by simp [bitsM]
def zbM (m : Nat) : List Bool := List.replicate m false
theorem bitsM_zero (m : Nat) : bitsM m 0 = zbM m := by
  apply List.ext_getElem
  · simp [bitsM, zbM]
  · intro i h1 h2
    simp [bitsM, zbM]
/-- k bits of q, behind them those of p. -/
def mixM (m p q k : Nat) : List Bool := (bitsM m q).take k ++ (bitsM m p).drop k
theorem mixM_length (m p q k : Nat) (h : k ≤ m) : (mixM m p q k).length = m := by simp [mixM, bitsM_length]; omega
theorem mixM_get (m p q k : Nat) (hk : k < m) (h : k < (mixM m p q k).length) : (mixM m p q k)[k] = p.testBit k := by
  unfold mixM at *
  rw [List.getElem_append_right (by rw [List.length_take, bitsM_length]; omega), List.getElem_drop, bitsM_get]
  congr 1
  rw [List.length_take, bitsM_length]; omega
theorem mixM_set (m p q k : Nat) (hk : k < m) : (mixM m p q k).set k (q.testBit k) = mixM m p q (k + 1) := by
  unfold mixM
  have h1 : k < (bitsM m q).length := by rw [bitsM_length]; exact hk
  have h2 : k < (bitsM m p).length := by rw [bitsM_length]; exact hk
  rw [List.take_succ_eq_append_getElem h1, bitsM_get, List.drop_eq_getElem_cons h2, List.append_assoc]
  have := List.set_append_right k (q.testBit k) (s := (bitsM m q).take k) (t := (bitsM m p)[k] :: (bitsM m p).drop (k + 1)) (by rw [List.length_take]; omega)
  rw [this]
  have e : k - ((bitsM m q).take k).length = 0 := by rw [List.length_take, bitsM_length]; omega
  rw [e]
  rfl
theorem mixM_all (m p q : Nat) : mixM m p q m = bitsM m q := by
  rw [mixM, List.take_of_length_le (by rw [bitsM_length]; omega), List.drop_of_length_le (by rw [bitsM_length]; omega), List.append_nil]
theorem mixM_same (m p q k : Nat) (hk : k ≤ m) (h : ∀ i, i < k → q.testBit i = p.testBit i) : mixM m p q k = bitsM m p := by
  have e : (bitsM m q).take k = (bitsM m p).take k := by
    apply List.ext_getElem
    · simp [bitsM_length]
    · intro i h1 h2
      rw [List.length_take] at h1
      rw [List.getElem_take, List.getElem_take, bitsM_get, bitsM_get]
      exact h i (by omega)
  rw [mixM, e, List.take_append_drop]

theorem low_same (p s k i : Nat) (hi : i < k) : (p + s * 2 ^ k).testBit i = p.testBit i := by
  rw [Nat.testBit_eq_decide_div_mod_eq, Nat.testBit_eq_decide_div_mod_eq]
  have e : s * 2 ^ k = 2 ^ i * (2 * (s * 2 ^ (k - i - 1))) := by
    have : k = i + 1 + (k - i - 1) := by omega
    rw [this, Nat.pow_add, Nat.pow_succ, show i + 1 + (k - i - 1) - i - 1 = k - i - 1 by omega]
    rw [show 2 ^ i * 2 * 2 ^ (k - i - 1) = 2 ^ i * (2 * 2 ^ (k - i - 1)) by rw [Nat.mul_assoc], Nat.mul_left_comm s, Nat.mul_left_comm s 2]
  rw [e, Nat.add_mul_div_left _ _ (Nat.pow_pos (by decide))]
  have : (p / 2 ^ i + 2 * (s * 2 ^ (k - i - 1))) % 2 = p / 2 ^ i % 2 := by omega
  rw [this]
theorem car2_start (p s k : Nat) : car2 p (s * 2 ^ k) 0 k = 0 := by
  unfold car2
  rw [Nat.mul_mod_left]
  simp only [Nat.add_zero]
  exact Nat.div_eq_of_lt (Nat.mod_lt _ (Nat.pow_pos (by decide)))
/-- One bit of a sum, in numbers. -/
theorem bsum_num (p s k : Nat) : ((p + s).testBit k = decide (((p.testBit k).toNat + (s.testBit k).toNat + car2 p s 0 k) % 2 = 1)) ∧ car2 p s 0 (k + 1) = ((p.testBit k).toNat + (s.testBit k).toNat + car2 p s 0 k) / 2 := by
  obtain ⟨h1, h2⟩ := bsum_step p s 0 k
  rw [bit_mod p, bit_mod s] at h1 h2
  rw [Nat.add_zero] at h1
  exact ⟨by rw [Nat.testBit_eq_decide_div_mod_eq, h1], h2⟩
theorem mul_round (a n k : Nat) : n / 2 ^ k % 2 = 1 → a * (n % 2 ^ k) + a * 2 ^ k = a * (n % 2 ^ (k + 1)) := by
  intro h
  rw [Nat.pow_succ, mod_step, h, Nat.mul_one, Nat.mul_add]
theorem mul_skip (a n k : Nat) : n / 2 ^ k % 2 = 0 → a * (n % 2 ^ k) = a * (n % 2 ^ (k + 1)) := by
  intro h
  rw [Nat.pow_succ, mod_step, h, Nat.mul_zero, Nat.add_zero]
theorem high_step (p i : Nat) : p / 2 ^ i = 2 * (p / 2 ^ (i + 1)) + (p.testBit i).toNat := by
  have := bit_mod p i
  rw [Nat.pow_succ, ← Nat.div_div_eq_div_mul]
  omega
theorem info_bits320 : (Try.prog.info? 70).map (fun i => (i.zero, i.size)) = some (some (.agg (bcel (zbM 320))), 320) := by kernel_rfl
theorem bitsM_256 (n : Nat) : bitsM 256 n = bitsL n := rfl

set_option maxHeartbeats 8000000 in
set_option maxRecDepth 100000 in
theorem refMul_any (a n : Nat) (w : World) (ha : a < top) (hn : (n : Int) ≤ 18446744073709551615) :
    Calls Try.prog 31 #[.agg #[.int .u64 (lim a 0 : Int), .int .u64 (lim a 1 : Int), .int .u64 (lim a 2 : Int), .int .u64 (lim a 3 : Int)], .int .u64 (n : Int)] w fun e w' => e = .returned (.tuple #[.agg #[.int .u64 (lim (a * n) 0 : Int), .int .u64 (lim (a * n) 1 : Int), .int .u64 (lim (a * n) 2 : Int), .int .u64 (lim (a * n) 3 : Int)], .int .u64 (mulH a n : Int)]) ∧ Nx w w' := by
  obtain ⟨hz, hs⟩ := zero_of_info info_bits
  obtain ⟨hz3, hs3⟩ := zero_of_info info_bits320
  have HB := Lib.hid (fun w => refBits_any a w)
  have HN := Lib.hid (fun w => refNumber_any (a * n) w)
  have HSZ : Hid ((Try.prog.info? 60).map (·.size) = some (bcel (bitsL a)).size) := Lib.hid (by rw [bcel_size, bitsL_length]; exact hs)
  have HSM : Hid ((Try.prog.info? 60).map (·.size) = some (bcel (bitsL (a * n))).size) := Lib.hid (by rw [bcel_size, bitsL_length]; exact hs)
  have HO : Hid ((bcel zb).size = (bcel (bitsL a)).size) := Lib.hid (by rw [bcel_size, bcel_size, bitsL_length, zb, List.length_replicate])
  have HN64 : Hid (n < 2 ^ 64) := Lib.hid (by rw [show (2 : Nat) ^ 64 = 18446744073709551616 by decide +kernel]; omega)
  have HAH := Lib.hid (fun i (hi : 256 ≤ i) => show a.testBit i = false from Nat.testBit_lt_two_pow (Nat.lt_of_lt_of_le (top_eq ▸ ha) (Nat.pow_le_pow_right (by omega) hi)))
  have HPT : Hid (a * n < 2 ^ 320) := Lib.hid (by
    rw [show (2 : Nat) ^ 320 = 2 ^ 256 * 2 ^ 64 by decide +kernel]
    exact Nat.mul_lt_mul_of_lt_of_le (top_eq ▸ ha) (Nat.le_of_lt HN64.out) (by decide +kernel))
  replace hs := Lib.hid hs
  replace hs3 := Lib.hid hs3
  clear ha
  go_enter Try.func31, Try.ntmps31
  go_wp2_with fail
  refine (HB.out _).mono ?_
  rintro e w1 ⟨rfl, hb1⟩
  have RZ := (Row.new2 w (.cells #[.int .u64 (lim a 0 : Int), .int .u64 (lim a 1 : Int), .int .u64 (lim a 2 : Int), .int .u64 (lim a 3 : Int)] 24) #[.int .u64 0, .int .u64 0, .int .u64 0, .int .u64 0] 24).nx hb1
  have N1 := Lib.hid ((((Nx.refl w).alloc (.cells #[.int .u64 (lim a 0 : Int), .int .u64 (lim a 1 : Int), .int .u64 (lim a 2 : Int), .int .u64 (lim a 3 : Int)] 24)).alloc (.cells #[.int .u64 0, .int .u64 0, .int .u64 0, .int .u64 0] 24)).trans hb1)
  have RT := Row.new w1 (bcel zb) 60 w1.heap.size rfl
  go_wp2_with (first | (refine wpList_store_row rfl 60 (.tmp 6) (.tmp 18) rfl w1.heap.size (bcel (bitsL a)) rfl rfl 60 (bcel zb) RT HSZ.out HO.out (bcel_one _) ?_))
  have HW1 := Lib.hid RZ.lt
  have hn0 : (n : Int) = ((n / 2 ^ 0 : Nat) : Int) := by simp
  replace hn0 := Lib.hid hn0
  go_loopw [1, 8] (fun nv i wr => ∃ k : Nat, k ≤ 64 ∧ i = .int .i64 k ∧ nv = .int .u64 ((n / 2 ^ k : Nat) : Int) ∧ Hid (Nx w wr) ∧ Row wr (w.heap.size + 1) #[.int .u64 0, .int .u64 0, .int .u64 0, .int .u64 0] 24 ∧ Row wr w1.heap.size (bcel (bitsL a)) 60 ∧ Row wr (w1.heap.size + 1) (bcel (bitsM 320 (a * (n % 2 ^ k)))) 70) (fun _ i _ => 64 - (intOf i).toNat)
  case atStart =>
    refine ⟨0, by omega, rfl, by rw [← hn0.out], ((N1.out.alloc _).setRow _ N1.out.size).alloc _, ((RZ.alloc _).setRow_other _ (Nat.ne_of_lt HW1.out)).alloc _, (RT.setRow _).alloc _, ?_⟩
    rw [Nat.pow_zero, Nat.mod_one, Nat.mul_zero, bitsM_zero]
    exact Row.new _ _ _ _ (by rw [size_setRow]; simp)
  case round =>
    obtain ⟨k, hk, rfl, rfl, HNX, R0, R1, R2⟩ := hrel
    have hnk : ((n / 2 ^ k : Nat) : Int) ≤ 18446744073709551615 := by have := Nat.div_le_self n (2 ^ k); omega
    by_cases hlt : k < 64
    · have hki : (k : Int) < 64 := by omega
      have hk0 : (0 : Int) ≤ (k : Int) := by omega
      have HM : Hid (n / 2 ^ k / 2 = n / 2 ^ (k + 1)) := Lib.hid (by rw [Nat.div_div_eq_div_mul, ← Nat.pow_succ])
      have HSK := Lib.hid (mul_skip a n k)
      have HRD := Lib.hid (mul_round a n k)
      generalize n / 2 ^ k = y at *
      by_cases hbit : y % 2 = 0
      · have hb2 : (y : Int) % 2 = 0 := by omega
        have HQ := Lib.hid (HSK.out hbit)
        clear HSK HRD
        replace hbit := Lib.hid hbit
        go_wp2
        go_roundw
        case rel =>
          refine ⟨k + 1, by omega, by go_num, by rw [← HM.out]; rfl, HNX, R0, R1, ?_⟩
          rw [← HQ.out]; exact R2
        case measure => simp [intOf]; omega
      · have hb2 : (y : Int) % 2 = 1 := by omega
        have HQ := Lib.hid (HRD.out (by omega))
        clear HSK HRD
        replace hbit := Lib.hid hbit
        generalize a * (n % 2 ^ k) = p at *
        go_wp2
        obtain ⟨wo, rfl⟩ : ∃ wo : World, wo = wr := ⟨_, rfl⟩
        go_loopw [10, 11] (fun cv i wr => ∃ j : Nat, k ≤ j ∧ j ≤ 320 ∧ i = .int .i64 j ∧ cv = .int .i64 (car2 p (a * 2 ^ k) 0 j : Int) ∧ Hid (Nx w wr) ∧ Row wr (w.heap.size + 1) #[.int .u64 0, .int .u64 0, .int .u64 0, .int .u64 0] 24 ∧ Row wr w1.heap.size (bcel (bitsL a)) 60 ∧ Row wr (w1.heap.size + 1) (bcel (mixM 320 p (p + a * 2 ^ k) j)) 70) (fun _ i _ => 320 - (intOf i).toNat)
        case atStart =>
          refine ⟨k, Nat.le_refl _, by omega, rfl, by rw [car2_start]; rfl, HNX, R0, R1, ?_⟩
          rw [mixM_same 320 p (p + a * 2 ^ k) k (by omega) (low_same p a k)]
          exact R2
        case round =>
          obtain ⟨j, hkj, hj, rfl, rfl, HNX, R0, R1, R2⟩ := hrel
          have hc := car2_le p (a * 2 ^ k) 0 j (by omega)
          by_cases hlt2 : j < 320
          · have hji : (j : Int) < 320 := by omega
            have hj0 : (0 : Int) ≤ (j : Int) := by omega
            have hl := mixM_length 320 p (p + a * 2 ^ k) j hj
            have ca : wr.cell? ⟨w1.heap.size + 1, j, none⟩ = some (.bool (p.testBit j)) := by
              have h2 : j < (mixM 320 p (p + a * 2 ^ k) j).length := by rw [hl]; exact hlt2
              rw [R2.cell (bcel_get _ j h2), mixM_get 320 p _ j hlt2 h2]
            have f2 := R2.frozen
            have HS := Lib.hid (mixM_set 320 p (p + a * 2 ^ k) j hlt2)
            have HBB := Lib.hid (bsum_num p (a * 2 ^ k) j)
            obtain ⟨d, hd⟩ : ∃ d, j = k + d := ⟨j - k, by omega⟩
            have hs1 : (j : Int) - (k : Int) = (d : Int) := by omega
            have HT : Hid ((a * 2 ^ k).testBit j = a.testBit d) := Lib.hid (by rw [Nat.testBit_mul_two_pow, hd, decide_eq_true (Nat.le_add_right k d), Bool.true_and, Nat.add_sub_cancel_left])
            have cx : d < 256 → wr.cell? ⟨w1.heap.size, d, none⟩ = some (.bool (a.testBit d)) := fun h => by
              have := R1.cell (bcel_get (bitsL a) d (by rw [bitsL_length]; exact h))
              rw [bitsL_get] at this; exact this
            have cx0 : ¬ d < 256 → a.testBit d = false := fun h => HAH.out d (by omega)
            rw [HT.out] at HBB
            clear hl hd HT
            generalize car2 p (a * 2 ^ k) 0 j = c at *
            generalize p.testBit j = x at *
            generalize a.testBit d = z at *
            have hc' : c = 0 ∨ c = 1 := by omega
            clear hc
            by_cases hd2 : d < 256
            · have hd3 : (d : Int) < 256 := by omega
              have cx' := cx hd2
              clear cx cx0
              rcases hc' with rfl | rfl <;> rcases x with _ | _ <;> rcases z with _ | _
              all_goals
                go_wp2
                go_roundw
                case rel =>
                  refine ⟨j + 1, by omega, by omega, by go_num, by rw [HBB.out.2]; rfl, HNX.out.setAt _ (by have := HW1.out; omega), R0.other _ _ _ (by have := HW1.out; omega), R1.other _ _ _ (by omega), ?_⟩
                  rw [← HS.out, HBB.out.1, ← bcel_set]
                  exact R2.set j _
                case measure => simp [intOf]; omega
            · have hd3 : (256 : Int) ≤ (d : Int) := by omega
              have cx' := cx0 hd2
              subst cx'
              clear cx cx0
              rcases hc' with rfl | rfl <;> rcases x with _ | _
              all_goals
                go_wp2
                go_roundw
                case rel =>
                  refine ⟨j + 1, by omega, by omega, by go_num, by rw [HBB.out.2]; rfl, HNX.out.setAt _ (by have := HW1.out; omega), R0.other _ _ _ (by have := HW1.out; omega), R1.other _ _ _ (by omega), ?_⟩
                  rw [← HS.out, HBB.out.1, ← bcel_set]
                  exact R2.set j _
                case measure => simp [intOf]; omega
          · obtain rfl : j = 320 := by omega
            rw [mixM_all, HQ.out] at R2
            go_wp2
            go_roundw
            case rel =>
              exact ⟨k + 1, by omega, by go_num, by rw [← HM.out]; rfl, HNX, R0, R1, R2⟩
            case measure => simp [intOf]; omega
    · obtain rfl : k = 64 := by omega
      rw [Nat.mod_eq_of_lt HN64.out] at R2
      clear hnk
      generalize n / 2 ^ 64 = y at *
      have HZS : Hid (mulH a n = a * n / 2 ^ 256) := Lib.hid (by unfold mulH; rw [top_eq])
      have HTOP : Hid (a * n / 2 ^ 320 = 0) := Lib.hid (Nat.div_eq_of_lt HPT.out)
      have HHI := Lib.hid (fun i (hi : 256 ≤ i) => show a * n / 2 ^ i < 18446744073709551616 from by
        have h1 := HPT.out
        refine Nat.lt_of_le_of_lt (Nat.div_le_div_left (Nat.pow_le_pow_right (by decide) hi) (Nat.pow_pos (by decide))) ?_
        rw [Nat.div_lt_iff_lt_mul (Nat.pow_pos (by decide)), show 18446744073709551616 * 2 ^ 256 = 2 ^ 320 by decide +kernel]
        exact h1)
      clear HAH HPT HN64
      generalize hp : a * n = p at *
      replace hp := Lib.hid hp
      have HBZ := Lib.hid (bitsK_zero p)
      have HSW := Lib.hid R2.lt
      have HW2 := Lib.hid R0.lt
      go_wp2
      obtain ⟨wo, rfl⟩ : ∃ wo : World, wo = wr := ⟨_, rfl⟩
      go_loopw [14] (fun i wr => ∃ k : Nat, k ≤ 256 ∧ i = .int .i64 k ∧ Hid (Nx w wr) ∧ Row wr (w.heap.size + 1) #[.int .u64 0, .int .u64 0, .int .u64 0, .int .u64 0] 24 ∧ Row wr (w1.heap.size + 1) (bcel (bitsM 320 p)) 70 ∧ Row wr wo.heap.size (bcel (bitsK p k)) 60) (fun i _ => 256 - (intOf i).toNat)
      case atStart =>
        refine ⟨0, by omega, rfl, HNX.out.alloc _, R0.alloc _, R2.alloc _, ?_⟩
        rw [HBZ.out]
        exact Row.new _ _ _ _ rfl
      case round =>
        obtain ⟨k, hk, rfl, HNX, R0, R2, R3⟩ := hrel
        by_cases hlt : k < 256
        · have hki : (k : Int) < 256 := by omega
          have hk0 : (0 : Int) ≤ (k : Int) := by omega
          have ck : wr.cell? ⟨w1.heap.size + 1, k, none⟩ = some (.bool (p.testBit k)) := by
            rw [R2.cell (bcel_get (bitsM 320 p) k (by rw [bitsM_length]; omega)), bitsM_get]
          obtain ⟨v3, c3⟩ : ∃ v, wr.cell? ⟨wo.heap.size, k, none⟩ = some v := ⟨_, R3.cell (bcel_get _ k (by rw [bitsK_length p k hk]; exact hlt))⟩
          have f3 := R3.frozen
          have HS := Lib.hid (bitsK_set p k hlt)
          generalize p.testBit k = x at *
          go_wp2
          go_roundw
          case rel =>
            refine ⟨k + 1, by omega, by go_num, HNX.out.setAt _ (by have := HW1.out; have := HW2.out; omega), R0.other _ _ _ (by have := HW2.out; omega), R2.other _ _ _ (by have := HSW.out; omega), ?_⟩
            rw [← HS.out, ← bcel_set]
            exact R3.set k _
          case measure => simp [intOf]; omega
        · obtain rfl : k = 256 := by omega
          rw [bitsK_all] at R3
          go_wp2
          go_loopw [15, 16] (fun hv i wx => wx = wr ∧ ∃ j : Nat, 256 ≤ j ∧ j ≤ 320 ∧ i = .int .i64 ((j : Int) - 1) ∧ hv = .int .u64 ((p / 2 ^ j : Nat) : Int)) (fun _ i _ => (intOf i + 1).toNat)
          case atStart => exact ⟨rfl, 320, by omega, by omega, rfl, by rw [HTOP.out]; rfl⟩
          case round =>
            obtain ⟨rfl, j, hj1, hj2, rfl, rfl⟩ := hrel
            by_cases hj : j = 256
            · subst hj
              have R3' := R3
              clear HHI
              go_wp2_with (first | (refine wpList_load_row rfl 60 (.tmp 13) rfl wo.heap.size rfl 60 (bcel (bitsL p)) (0, 0) _ R3' Try.underlying60 rfl HSM.out ?_) | fail)
              refine (HN.out _).mono ?_
              rintro e w2 ⟨rfl, hb2⟩
              obtain ⟨z0, z1, z2, z3⟩ := (R0.nx hb2).zero4
              have f1 := (R0.nx hb2).frozen
              have N2 := Lib.hid (HNX.out.trans hb2)
              clear hb2
              go_wp2
              exact bodyPost_ret (v := .tuple #[.agg #[.int .u64 (lim p 0 : Int), .int .u64 (lim p 1 : Int), .int .u64 (lim p 2 : Int), .int .u64 (lim p 3 : Int)], .int .u64 ((p / 2 ^ 256 : Nat) : Int)]) (by simp [results, Try.results31, go_sem, z0, z1, z2, z3, f1]) rfl
                ⟨by rw [hp.out, HZS.out], by repeat (first | with_reducible exact N2.out | with_reducible apply Nx.drew | with_reducible refine Nx.setAt ?_ _ (by omega))⟩
            · obtain ⟨i, rfl⟩ : ∃ i, j = i + 1 := ⟨j - 1, by omega⟩
              have ei : (((i + 1 : Nat) : Int) - 1) = (i : Int) := by omega
              rw [ei]
              clear ei
              have hi0 : (256 : Int) ≤ (i : Int) := by omega
              have hi1 : (i : Int) < 320 := by omega
              have ci : wr.cell? ⟨w1.heap.size + 1, i, none⟩ = some (.bool (p.testBit i)) := by
                rw [R2.cell (bcel_get (bitsM 320 p) i (by rw [bitsM_length]; omega)), bitsM_get]
              have hst := high_step p i
              have hlt := HHI.out i (by omega)
              rw [hst] at hlt
              replace hst := Lib.hid hst
              generalize p / 2 ^ (i + 1) = y at *
              generalize p.testBit i = x at *
              have hw2 : IntKind.u64.wrap (2 * (y : Int)) = 2 * (y : Int) := by rw [IntKind.wrap_u64]; omega
              rcases x with _ | _
              · replace hlt := Lib.hid hlt
                go_wp2
                go_roundw
                case rel => exact ⟨trivial, i, by omega, by omega, rfl, by rw [hst.out]; simp⟩
                case measure => simp [intOf]
              · simp only [Bool.toNat_true] at hlt
                have hw3 : IntKind.u64.wrap (2 * (y : Int) + 1) = 2 * (y : Int) + 1 := by rw [IntKind.wrap_u64]; omega
                replace hlt := Lib.hid hlt
                go_wp2
                go_roundw
                case rel => exact ⟨trivial, i, by omega, by omega, rfl, by rw [hst.out]; simp⟩
                case measure => simp [intOf]
end Go.Proofs.Ytggemncdnclhnaa
