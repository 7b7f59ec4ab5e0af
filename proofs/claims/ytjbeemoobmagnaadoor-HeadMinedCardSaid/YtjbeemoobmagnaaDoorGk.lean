/- TEXTS OF OUR OWN, IN ONE FILE. -/
import Derived.Test.YtjbeemoobmagnaaDoorGh
import Derived.Test.YtjbeemoobmagnaaDoorGj
import Derived.Test.YtjbeemoobmagnaaDoorGb
import Derived.Laws.BitsAllLaws
import Derived.IntWalk
import Derived.Lib.QuietBelow
import Derived.Test.YtjbeemoobmagnaaDoorGa
import Derived.Deep.QuietTactic
import Derived.BigQuiet
section
namespace Go.Proofs.YtjbeemoobmagnaaDoor
open Go.RowKit
set_option linter.unusedVariables false
set_option linter.unusedSimpArgs false

set_option maxHeartbeats 1000000 in
theorem shifted_any (a : Nat) (n : Int) (w : World) (ha : a < top) (hn0 : -1000 ≤ n) (hn1 : n ≤ 1000) :
    Calls Tryd.prog 103 #[.agg #[.int .u64 (lim a 0 : Int), .int .u64 (lim a 1 : Int), .int .u64 (lim a 2 : Int), .int .u64 (lim a 3 : Int)], .int .i64 n] w fun e w' => e = .returned (.agg #[.int .u64 (lim (shN a n) 0 : Int), .int .u64 (lim (shN a n) 1 : Int), .int .u64 (lim (shN a n) 2 : Int), .int .u64 (lim (shN a n) 3 : Int)]) ∧ Nx w w' := by
  by_cases h : n < 0
  · have HR := fun w => right_any a (-n * 8) w ha (by omega)
    have e : rightN a (-n * 8) = shN a n := by
      unfold rightN shN
      rw [if_neg (by omega), if_pos h, show (-n * 8).toNat = 8 * (-n).toNat by omega]
    rw [e] at HR
    replace HR := Lib.hid HR
    generalize shN a n = x at *
    clear ha e
    go_enter Tryd.func103, Tryd.ntmps103
    go_wp2_with fail
    refine (HR.out _).mono ?_
    rintro e w1 ⟨rfl, hb1⟩
    have RZ := (Row.new2 w (.cells #[.int .u64 (lim a 0 : Int), .int .u64 (lim a 1 : Int), .int .u64 (lim a 2 : Int), .int .u64 (lim a 3 : Int)] 81) #[.int .u64 0, .int .u64 0, .int .u64 0, .int .u64 0] 81).nx hb1
    have N1 := Lib.hid ((((Nx.refl w).alloc (.cells #[.int .u64 (lim a 0 : Int), .int .u64 (lim a 1 : Int), .int .u64 (lim a 2 : Int), .int .u64 (lim a 3 : Int)] 81)).alloc (.cells #[.int .u64 0, .int .u64 0, .int .u64 0, .int .u64 0] 81)).trans hb1)
    obtain ⟨z0, z1, z2, z3⟩ := RZ.zero4
    have f1 := RZ.frozen
    clear hb1
    go_wp2
    exact bodyPost_ret (v := .agg #[.int .u64 (lim x 0 : Int), .int .u64 (lim x 1 : Int), .int .u64 (lim x 2 : Int), .int .u64 (lim x 3 : Int)]) (by simp [results, Tryd.results103, go_sem, z0, z1, z2, z3, f1]) rfl
      ⟨rfl, by repeat (first | with_reducible exact N1.out | with_reducible refine Nx.setAt ?_ _ (by omega))⟩
  · have HL := fun w => left_any a (n * 8) w (by omega)
    have e : leftN a (n * 8) = shN a n := by
      unfold leftN shN
      rw [if_neg (by omega), if_neg h, show (n * 8).toNat = 8 * n.toNat by omega]
    rw [e] at HL
    replace HL := Lib.hid HL
    generalize shN a n = x at *
    clear ha e
    go_enter Tryd.func103, Tryd.ntmps103
    go_wp2_with fail
    refine (HL.out _).mono ?_
    rintro e w1 ⟨rfl, hb1⟩
    have RZ := (Row.new2 w (.cells #[.int .u64 (lim a 0 : Int), .int .u64 (lim a 1 : Int), .int .u64 (lim a 2 : Int), .int .u64 (lim a 3 : Int)] 81) #[.int .u64 0, .int .u64 0, .int .u64 0, .int .u64 0] 81).nx hb1
    have N1 := Lib.hid ((((Nx.refl w).alloc (.cells #[.int .u64 (lim a 0 : Int), .int .u64 (lim a 1 : Int), .int .u64 (lim a 2 : Int), .int .u64 (lim a 3 : Int)] 81)).alloc (.cells #[.int .u64 0, .int .u64 0, .int .u64 0, .int .u64 0] 81)).trans hb1)
    obtain ⟨z0, z1, z2, z3⟩ := RZ.zero4
    have f1 := RZ.frozen
    clear hb1
    go_wp2
    exact bodyPost_ret (v := .agg #[.int .u64 (lim x 0 : Int), .int .u64 (lim x 1 : Int), .int .u64 (lim x 2 : Int), .int .u64 (lim x 3 : Int)]) (by simp [results, Tryd.results103, go_sem, z0, z1, z2, z3, f1]) rfl
      ⟨rfl, by repeat (first | with_reducible exact N1.out | with_reducible refine Nx.setAt ?_ _ (by omega))⟩

set_option maxHeartbeats 1000000 in
theorem told_any (b : Nat) (w : World) (hb : (b : Int) ≤ 4294967295) :
    Calls Tryd.prog 90 #[.int .u32 (b : Int)] w fun e w' => e = .returned (.agg #[.int .u64 (lim (tN b) 0 : Int), .int .u64 (lim (tN b) 1 : Int), .int .u64 (lim (tN b) 2 : Int), .int .u64 (lim (tN b) 3 : Int)]) ∧ Nx w w' := by
  have HO := Lib.hid (fun w => of_any (b % 8388608) w (by omega))
  have HS := Lib.hid (fun w => shifted_any (b % 8388608) ((b / 16777216 : Nat) - 3 : Int) w (Nat.lt_of_lt_of_le (Nat.mod_lt _ (by decide)) (by decide)) (by omega) (by omega))
  have HT : Hid (shN (b % 8388608) ((b / 16777216 : Nat) - 3 : Int) = tN b) := Lib.hid rfl
  rw [HT.out] at HS
  clear HT
  have hand : bits .and .u32 (b : Int) 8388607 = ((b % 8388608 : Nat) : Int) := by
    have := u32_and_nat b 8388607 (by omega) (by decide)
    rw [show (8388607 : Nat) = 2 ^ 23 - 1 by decide, Nat.and_two_pow_sub_one_eq_mod] at this
    exact this
  have hshr : (b : Int) / 16777216 = ((b / 16777216 : Nat) : Int) := rfl
  have hml : ((b % 8388608 : Nat) : Int) ≤ 8388607 := by omega
  have hel : ((b / 16777216 : Nat) : Int) ≤ 255 := by omega
  generalize tN b = x at *
  generalize b % 8388608 = m at *
  generalize b / 16777216 = ex at *
  go_enter Tryd.func90, Tryd.ntmps90
  go_wp2_with fail
  refine (HO.out _).mono ?_
  rintro e w1 ⟨rfl, hb1⟩
  have RZ := ((Row.new w #[.int .u64 0, .int .u64 0, .int .u64 0, .int .u64 0] 81 _ rfl).nx hb1).alloc (.cells #[.int .u64 (lim m 0 : Int), .int .u64 (lim m 1 : Int), .int .u64 (lim m 2 : Int), .int .u64 (lim m 3 : Int)] 81)
  have N1 := Lib.hid ((((Nx.refl w).alloc (.cells #[.int .u64 0, .int .u64 0, .int .u64 0, .int .u64 0] 81)).trans hb1).alloc (.cells #[.int .u64 (lim m 0 : Int), .int .u64 (lim m 1 : Int), .int .u64 (lim m 2 : Int), .int .u64 (lim m 3 : Int)] 81))
  clear hb1
  go_wp2_with fail
  refine (HS.out _).mono ?_
  rintro e w2 ⟨rfl, hb2⟩
  replace RZ := RZ.nx hb2
  replace N1 := Lib.hid (N1.out.trans hb2)
  obtain ⟨z0, z1, z2, z3⟩ := RZ.zero4
  have f1 := RZ.frozen
  clear hb2
  go_wp2
  exact bodyPost_ret (v := .agg #[.int .u64 (lim x 0 : Int), .int .u64 (lim x 1 : Int), .int .u64 (lim x 2 : Int), .int .u64 (lim x 3 : Int)]) (by simp [results, Tryd.results90, go_sem, z0, z1, z2, z3, f1]) rfl
    ⟨rfl, by repeat (first | with_reducible exact N1.out | with_reducible refine Nx.setAt ?_ _ (by omega))⟩
end Go.Proofs.YtjbeemoobmagnaaDoor
end

section
namespace Go.Proofs.YtjbeemoobmagnaaDoor
open Go.RowKit
set_option linter.unusedVariables false
set_option linter.unusedSimpArgs false

theorem eqU (a b : Nat) (ha : a < top) (hb : b < top) (w : World) :
    (Op.equalIn 10000 81 (.agg #[.int .u64 (lim a 0 : Int), .int .u64 (lim a 1 : Int), .int .u64 (lim a 2 : Int), .int .u64 (lim a 3 : Int)]) (.agg #[.int .u64 (lim b 0 : Int), .int .u64 (lim b 1 : Int), .int .u64 (lim b 2 : Int), .int .u64 (lim b 3 : Int)])).run Tryd.prog w = .ok (decide (a = b)) w := by
  have h := eq_ints (P := Tryd.prog) 9998 81 66 4 .u64 Tryd.underlying81 Tryd.underlying66 Tryd.isAgg66 Tryd.sizeOf66
    [(lim a 0 : Int), (lim a 1 : Int), (lim a 2 : Int), (lim a 3 : Int)] [(lim b 0 : Int), (lim b 1 : Int), (lim b 2 : Int), (lim b 3 : Int)] rfl rfl w
  have e : decide ([(lim a 0 : Int), (lim a 1 : Int), (lim a 2 : Int), (lim a 3 : Int)] = [(lim b 0 : Int), (lim b 1 : Int), (lim b 2 : Int), (lim b 3 : Int)]) = decide (a = b) := by
    rw [Bool.eq_iff_iff]
    simp only [decide_eq_true_eq, List.cons.injEq, and_true]
    constructor
    · rintro ⟨h0, h1, h2, h3⟩
      exact lim_inj ha hb (by omega) (by omega) (by omega) (by omega)
    · rintro rfl
      exact ⟨rfl, rfl, rfl, rfl⟩
  rw [e] at h
  exact h
end Go.Proofs.YtjbeemoobmagnaaDoor
end

section
namespace Go.Proofs.YtjbeemoobmagnaaDoor
open Go.RowKit
set_option linter.unusedVariables false
set_option linter.unusedSimpArgs false

theorem or24 (s m : Nat) (hm : m < 16777216) (hs : s ≤ 255) : bits .or .u32 ((s * 16777216 : Nat) : Int) (m : Int) = ((s * 16777216 + m : Nat) : Int) := by
  rw [u32_or_nat (s * 16777216) m (by omega) (by omega)]
  have h := Nat.two_pow_add_eq_or_of_lt (show m < 2 ^ 24 by omega) s
  rw [show (2 : Nat) ^ 24 * s = s * 16777216 by rw [Nat.mul_comm]] at h
  rw [h]

set_option maxHeartbeats 2000000 in
theorem tbits_any (t : Nat) (w : World) (ht : t < top) :
    Calls Tryd.prog 92 #[.agg #[.int .u64 (lim t 0 : Int), .int .u64 (lim t 1 : Int), .int .u64 (lim t 2 : Int), .int .u64 (lim t 3 : Int)]] w fun e w' => e = .returned (.int .u32 (bN t : Int)) ∧ Nx w w' := by
  have hsl := sizeN_le t ht
  have HLEN := Lib.hid (fun w => len_any t w ht)
  have hbl := blen_le256 t ht
  have HSH := Lib.hid (fun w => shifted_any t (3 - (sizeN t : Int)) w ht (by omega) (by omega))
  have hsm := shN_small t ht
  have hml := manN_lt t ht
  have hs1 : ((blen t : Int) + 8 - 1) / 8 = (sizeN t : Int) := by unfold sizeN; omega
  have hs2 : ((blen t : Int) + 7) / 8 = (sizeN t : Int) := by unfold sizeN; omega
  have hs3 : ((blen t : Int) + 8 - 1).tdiv 8 = (sizeN t : Int) := by rw [Int.tdiv_eq_ediv_of_nonneg (by omega)]; exact hs1
  have hbl2 : ((blen t : Nat) : Int) ≤ 256 := by omega
  have hm1 : IntKind.u32.wrap ((lim (shN t (3 - (sizeN t : Int))) 0 : Nat) : Int) = (manN t : Int) := by
    unfold manN
    rw [IntKind.wrap_u32]
    omega
  have hix : ∀ w, (Instr.index 81 (.agg #[.int .u64 (lim (shN t (3 - (sizeN t : Int))) 0 : Int), .int .u64 (lim (shN t (3 - (sizeN t : Int))) 1 : Int), .int .u64 (lim (shN t (3 - (sizeN t : Int))) 2 : Int), .int .u64 (lim (shN t (3 - (sizeN t : Int))) 3 : Int)]) (.int .i64 0)).run Tryd.prog w = .ok (.int .u64 (lim (shN t (3 - (sizeN t : Int))) 0 : Int)) w := fun _ => by kernel_rfl
  have HB : Hid (bN t = if 8388607 < manN t then (sizeN t + 1) * 16777216 + manN t / 256 else sizeN t * 16777216 + manN t) := Lib.hid rfl
  generalize shN t (3 - (sizeN t : Int)) = x at *
  generalize blen t = l at *
  generalize sizeN t = s at *
  generalize manN t = m at *
  have hsl2 : (s : Int) ≤ 32 := by omega
  clear ht
  by_cases hgt : 8388607 < m
  · have hgi : (8388607 : Int) < (m : Int) := by omega
    rw [if_pos hgt] at HB
    have hdi : (m : Int) / 256 = ((m / 256 : Nat) : Int) := rfl
    have hmi : ((m / 256 : Nat) : Int) ≤ 65535 := by omega
    have hor := or24 (s + 1) (m / 256) (by omega) (by omega)
    have hs4 : (s : Int) + 1 = ((s + 1 : Nat) : Int) := rfl
    have hs5 : ((s + 1 : Nat) : Int) ≤ 33 := by omega
    have hs6 : IntKind.u32.wrap (((s + 1 : Nat) : Int) * 16777216) = (((s + 1) * 16777216 : Nat) : Int) := by rw [IntKind.wrap_u32]; omega
    have hs7 : IntKind.u32.wrap ((s + 1 : Nat) : Int) = ((s + 1 : Nat) : Int) := by rw [IntKind.wrap_u32]; omega
    have hs8 : ((s + 1 : Nat) : Int) * 16777216 = (((s + 1) * 16777216 : Nat) : Int) := by omega
    rw [← HB.out] at hor
    clear hgt hml hsm
    generalize (s + 1) * 16777216 = z at *
    generalize s + 1 = s' at *
    generalize m / 256 = m' at *
    generalize bN t = B at *
    go_enter Tryd.func92, Tryd.ntmps92
    go_wp2_with fail
    refine (HLEN.out _).mono ?_
    rintro e w1 ⟨rfl, hb1⟩
    have RT := (Row.new w #[.int .u64 (lim t 0 : Int), .int .u64 (lim t 1 : Int), .int .u64 (lim t 2 : Int), .int .u64 (lim t 3 : Int)] 81 _ rfl).nx hb1
    have N1 := Lib.hid (((Nx.refl w).alloc (.cells #[.int .u64 (lim t 0 : Int), .int .u64 (lim t 1 : Int), .int .u64 (lim t 2 : Int), .int .u64 (lim t 3 : Int)] 81)).trans hb1)
    obtain ⟨t0, t1, t2, t3⟩ := RT.four
    clear hb1
    go_wp2_with fail
    refine (HSH.out _).mono ?_
    rintro e w2 ⟨rfl, hb2⟩
    replace N1 := Lib.hid (N1.out.trans hb2)
    clear hb2 t0 t1 t2 t3
    go_wp2
    go_ret
    exact ⟨rfl, N1.out⟩
  · have hgi : decide ((8388607 : Int) < (m : Int)) = false := by rw [decide_eq_false_iff_not]; omega
    rw [if_neg hgt] at HB
    have hor := or24 s m (by omega) (by omega)
    have hs6 : IntKind.u32.wrap ((s : Int) * 16777216) = ((s * 16777216 : Nat) : Int) := by rw [IntKind.wrap_u32]; omega
    have hs7 : IntKind.u32.wrap (s : Int) = (s : Int) := by rw [IntKind.wrap_u32]; omega
    have hs8 : (s : Int) * 16777216 = ((s * 16777216 : Nat) : Int) := by omega
    rw [← HB.out] at hor
    clear hgt hml hsm
    generalize s * 16777216 = z at *
    generalize bN t = B at *
    go_enter Tryd.func92, Tryd.ntmps92
    go_wp2_with fail
    refine (HLEN.out _).mono ?_
    rintro e w1 ⟨rfl, hb1⟩
    have RT := (Row.new w #[.int .u64 (lim t 0 : Int), .int .u64 (lim t 1 : Int), .int .u64 (lim t 2 : Int), .int .u64 (lim t 3 : Int)] 81 _ rfl).nx hb1
    have N1 := Lib.hid (((Nx.refl w).alloc (.cells #[.int .u64 (lim t 0 : Int), .int .u64 (lim t 1 : Int), .int .u64 (lim t 2 : Int), .int .u64 (lim t 3 : Int)] 81)).trans hb1)
    obtain ⟨t0, t1, t2, t3⟩ := RT.four
    clear hb1
    go_wp2_with fail
    refine (HSH.out _).mono ?_
    rintro e w2 ⟨rfl, hb2⟩
    replace N1 := Lib.hid (N1.out.trans hb2)
    clear hb2 t0 t1 t2 t3
    go_wp2
    go_ret
    exact ⟨rfl, N1.out⟩
end Go.Proofs.YtjbeemoobmagnaaDoor
end

section
namespace Go.Proofs.YtjbeemoobmagnaaDoor
open Go.RowKit
set_option linter.unusedVariables false
set_option linter.unusedSimpArgs false

theorem of_0 (w : World) : Calls Tryd.prog 91 #[.int .u64 0] w fun e w' => e = .returned (.agg #[.int .u64 0, .int .u64 0, .int .u64 0, .int .u64 0]) ∧ Nx w w' := by
  have h := of_any 0 w (by omega)
  obtain ⟨z0, z1, z2, z3⟩ := lim_nought
  rw [z0, z1, z2, z3] at h
  exact h
theorem eqU0 (t : Nat) (ht : t < top) (w : World) : (Op.equalIn 10000 81 (.agg #[.int .u64 (lim t 0 : Int), .int .u64 (lim t 1 : Int), .int .u64 (lim t 2 : Int), .int .u64 (lim t 3 : Int)]) (.agg #[.int .u64 0, .int .u64 0, .int .u64 0, .int .u64 0])).run Tryd.prog w = .ok (decide (t = 0)) w := by
  have h := eqU t 0 ht (by decide) w
  obtain ⟨z0, z1, z2, z3⟩ := lim_nought
  rw [z0, z1, z2, z3] at h
  exact h

set_option maxHeartbeats 4000000 in
theorem tof_case (b : Nat) (w : World) (hb : (b : Int) ≤ 4294967295) (p q : Bool) (hp : decide (tN b = 0) = p) (hq : decide (bN (tN b) = b) = q) :
    Calls Tryd.prog 61 #[.int .u32 (b : Int)] w fun e w' => e = .returned (.tuple #[.agg #[.int .u64 (lim (if p || !q then 0 else tN b) 0 : Int), .int .u64 (lim (if p || !q then 0 else tN b) 1 : Int), .int .u64 (lim (if p || !q then 0 else tN b) 2 : Int), .int .u64 (lim (if p || !q then 0 else tN b) 3 : Int)], .int .i64 (if p || !q then 5 else 0)]) ∧ Nx w w' := by
  have HT := Lib.hid (fun w => told_any b w hb)
  have HB := Lib.hid (fun w => tbits_any (tN b) w (tN_lt b))
  have heq : ∀ w, (Op.equalIn 10000 81 (.agg #[.int .u64 (lim (tN b) 0 : Int), .int .u64 (lim (tN b) 1 : Int), .int .u64 (lim (tN b) 2 : Int), .int .u64 (lim (tN b) 3 : Int)]) (.agg #[.int .u64 0, .int .u64 0, .int .u64 0, .int .u64 0])).run Tryd.prog w = .ok p w := fun w => by rw [eqU0 _ (tN_lt b) w, hp]
  have hne : (((bN (tN b) : Nat) : Int) == (b : Int)) = q := by
    rw [← hq, Bool.eq_iff_iff]
    simp only [beq_iff_eq, decide_eq_true_eq]
    omega
  have hne2 : (((bN (tN b) : Nat) : Int) != (b : Int)) = !q := by rw [← hne]; rfl
  obtain ⟨zz0, zz1, zz2, zz3⟩ := lim_nought
  clear hp hq
  generalize bN (tN b) = B at *
  generalize tN b = t at *
  go_enter Tryd.func61, Tryd.ntmps61
  go_wp2_with fail
  refine (HT.out _).mono ?_
  rintro e w1 ⟨rfl, hb1⟩
  have RZ := ((Row.new w #[.int .u64 0, .int .u64 0, .int .u64 0, .int .u64 0] 81 _ rfl).nx hb1).alloc (.cells #[.int .u64 (lim t 0 : Int), .int .u64 (lim t 1 : Int), .int .u64 (lim t 2 : Int), .int .u64 (lim t 3 : Int)] 81)
  have RT : Row (w1.alloc (.cells #[.int .u64 (lim t 0 : Int), .int .u64 (lim t 1 : Int), .int .u64 (lim t 2 : Int), .int .u64 (lim t 3 : Int)] 81)) w1.heap.size #[.int .u64 (lim t 0 : Int), .int .u64 (lim t 1 : Int), .int .u64 (lim t 2 : Int), .int .u64 (lim t 3 : Int)] 81 := Row.new w1 _ _ _ rfl
  have N1 := Lib.hid ((((Nx.refl w).alloc (.cells #[.int .u64 0, .int .u64 0, .int .u64 0, .int .u64 0] 81)).trans hb1).alloc (.cells #[.int .u64 (lim t 0 : Int), .int .u64 (lim t 1 : Int), .int .u64 (lim t 2 : Int), .int .u64 (lim t 3 : Int)] 81))
  clear hb1
  go_wp2_with fail
  generalize w1.heap.size = gT at *
  generalize (w1.alloc (.cells #[.int .u64 (lim t 0 : Int), .int .u64 (lim t 1 : Int), .int .u64 (lim t 2 : Int), .int .u64 (lim t 3 : Int)] 81)) = W at *
  have qt0 : ∀ d os, (Sort.grow (redrawn W d) os).cell? ⟨gT, 0, none⟩ = some (.int .u64 (lim t 0 : Int)) := fun d os => cell_regrown (RT.cell rfl) d os
  have qt1 : ∀ d os, (Sort.grow (redrawn W d) os).cell? ⟨gT, 1, none⟩ = some (.int .u64 (lim t 1 : Int)) := fun d os => cell_regrown (RT.cell rfl) d os
  have qt2 : ∀ d os, (Sort.grow (redrawn W d) os).cell? ⟨gT, 2, none⟩ = some (.int .u64 (lim t 2 : Int)) := fun d os => cell_regrown (RT.cell rfl) d os
  have qt3 : ∀ d os, (Sort.grow (redrawn W d) os).cell? ⟨gT, 3, none⟩ = some (.int .u64 (lim t 3 : Int)) := fun d os => cell_regrown (RT.cell rfl) d os
  rcases p with _ | _ <;> rcases q with _ | _
  all_goals
    refine wp_region_quiet_below (by kernel_rfl) (by kernel_rfl) ?_
    repeat (first
      | quiet_step ((first
        | (go_at_call 91; with_reducible exact Calls.regrown_of (of_0 _))
        | (go_at_call 92; with_reducible exact Calls.regrown_of (HB.out _)))))
    refine wpQuiet_nil ?_
    intro _ hw'
    obtain ⟨⟨dq, osq⟩, hw''⟩ := hw'
    subst hw''
    have HG := below_regrown W dq osq
    have RZ2 := Row.nx RZ HG
    have RT2 := Row.nx RT HG
    have N2 := Lib.hid (N1.out.trans HG)
    clear HG
    generalize Sort.grow (redrawn W dq) osq = W2 at *
    obtain ⟨z0, z1, z2, z3⟩ := RZ2.zero4
    obtain ⟨t0, t1, t2, t3⟩ := RT2.four
    have fz := RZ2.frozen
    clear qt0 qt1 qt2 qt3 RZ RT RZ2 RT2 N1
    go_wp2
  · exact bodyPost_ret (v := .tuple #[.agg #[.int .u64 0, .int .u64 0, .int .u64 0, .int .u64 0], .int .i64 5]) (by simp [results, Tryd.results61, go_sem, z0, z1, z2, z3, fz]) rfl
      ⟨by simp [zz0, zz1, zz2, zz3], by repeat (first | with_reducible exact N2.out | with_reducible refine Nx.setAt ?_ _ (by omega))⟩
  · exact bodyPost_ret (v := .tuple #[.agg #[.int .u64 (lim t 0 : Int), .int .u64 (lim t 1 : Int), .int .u64 (lim t 2 : Int), .int .u64 (lim t 3 : Int)], .int .i64 0]) (by simp [results, Tryd.results61, go_sem, z0, z1, z2, z3, fz]) rfl
      ⟨by simp, by repeat (first | with_reducible exact N2.out | with_reducible refine Nx.setAt ?_ _ (by omega))⟩
  · exact bodyPost_ret (v := .tuple #[.agg #[.int .u64 0, .int .u64 0, .int .u64 0, .int .u64 0], .int .i64 5]) (by simp [results, Tryd.results61, go_sem, z0, z1, z2, z3, fz]) rfl
      ⟨by simp [zz0, zz1, zz2, zz3], by repeat (first | with_reducible exact N2.out | with_reducible refine Nx.setAt ?_ _ (by omega))⟩
  · exact bodyPost_ret (v := .tuple #[.agg #[.int .u64 0, .int .u64 0, .int .u64 0, .int .u64 0], .int .i64 5]) (by simp [results, Tryd.results61, go_sem, z0, z1, z2, z3, fz]) rfl
      ⟨by simp [zz0, zz1, zz2, zz3], by repeat (first | with_reducible exact N2.out | with_reducible refine Nx.setAt ?_ _ (by omega))⟩

theorem tof_any (b : Nat) (w : World) (hb : (b : Int) ≤ 4294967295) :
    Calls Tryd.prog 61 #[.int .u32 (b : Int)] w fun e w' => e = .returned (.tuple #[.agg #[.int .u64 (lim (ofT b) 0 : Int), .int .u64 (lim (ofT b) 1 : Int), .int .u64 (lim (ofT b) 2 : Int), .int .u64 (lim (ofT b) 3 : Int)], .int .i64 (ofE b)]) ∧ Nx w w' := by
  have h := tof_case b w hb _ _ rfl rfl
  have e : (decide (tN b = 0) || !decide (bN (tN b) = b)) = decide (tN b = 0 ∨ bN (tN b) ≠ b) := by
    by_cases h1 : tN b = 0 <;> by_cases h2 : bN (tN b) = b <;> simp [h1, h2]
  rw [e] at h
  have e1 : (if decide (tN b = 0 ∨ bN (tN b) ≠ b) = true then 0 else tN b) = ofT b := by unfold ofT; simp only [decide_eq_true_eq]
  have e2 : (if decide (tN b = 0 ∨ bN (tN b) ≠ b) = true then (5 : Int) else 0) = ofE b := by unfold ofE; simp only [decide_eq_true_eq]
  rw [e1, e2] at h
  exact h
end Go.Proofs.YtjbeemoobmagnaaDoor
end
