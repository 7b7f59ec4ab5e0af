/- LAYER 4: the walk of TargetSlow. -/
import Derived.Test.YtggemncdnclhnaaLawTargetWork
import Derived.Test.YtggemncdnclhnaaTarPure3
namespace Go.Proofs.Ytggemncdnclhnaa
open Go.RowKit
set_option linter.unusedVariables false
set_option linter.unusedSimpArgs false

set_option maxHeartbeats 4000000 in
set_option maxRecDepth 100000 in
theorem targetSlow_no {w : World} (c : Nat) (hc : (c : Int) ≤ 4294967295) (a : Nat) (ha : (a : Int) ≤ 4294967295) (b : Nat) (hb : (b : Int) ≤ 4294967295) (he : ofE c = 5) :
    Calls Try.prog 14 #[.int .u32 (c : Int), .int .u32 (a : Int), .int .u32 (b : Int)] w fun e w' => e = .returned (.bool true) ∧ Nx w w' := by
  have hmn : min (a : Int) (b : Int) = ((min a b : Nat) : Int) := by omega
  have hmx : max (a : Int) (b : Int) = ((max a b : Nat) : Int) := by omega
  have HA := Lib.hid (fun w => tnext_no c (min a b) w hc he)
  have HB := Lib.hid (fun w => tnext_no c (max a b) w hc he)
  clear he
  generalize min a b = x at *
  generalize max a b = y at *
  go_enter Try.func14, Try.ntmps14
  go_wp2_with fail
  refine (HA.out _).mono ?_
  rintro e w1 ⟨rfl, N1⟩
  replace N1 := Lib.hid N1
  go_wp2_with fail
  refine (HB.out _).mono ?_
  rintro e w2 ⟨rfl, hb2⟩
  replace N1 := Lib.hid (N1.out.trans hb2)
  clear hb2
  go_wp2_with fail
  refine (lives4_any _).mono ?_
  rintro e w9 ⟨rfl, hb9⟩
  go_wp2
  go_ret
  exact ⟨rfl, N1.out.trans hb9⟩

set_option maxHeartbeats 16000000 in
set_option maxRecDepth 100000 in
theorem targetSlow_yes {w : World} (c : Nat) (hc : (c : Int) ≤ 4294967295) (a : Nat) (ha : (a : Int) ≤ 4294967295) (b : Nat) (hb : (b : Int) ≤ 4294967295) (he : ofE c = 0) :
    Calls Try.prog 14 #[.int .u32 (c : Int), .int .u32 (a : Int), .int .u32 (b : Int)] w fun e w' => e = .returned (.bool true) ∧ Nx w w' := by
  have hmn : min (a : Int) (b : Int) = ((min a b : Nat) : Int) := by omega
  have hmx : max (a : Int) (b : Int) = ((max a b : Nat) : Int) := by omega
  have HA := Lib.hid (fun w => tnext_any c (min a b) w hc)
  have HB := Lib.hid (fun w => tnext_any c (max a b) w hc)
  obtain ⟨x, y, n1, n2, e1, e2, t1, t2, hx, hy, s1, s2⟩ := nx_facts c (min a b) (max a b) he (by omega)
  rw [he] at HA HB
  have HP := Lib.hid (fun w => tof_any (nxN c (min a b)) w (by omega))
  have HQ := Lib.hid (fun w => tof_any (nxN c (max a b)) w (by omega))
  rw [e1, t1] at HP
  rw [e2, t2] at HQ
  have HL := Lib.hid of_lim
  rw [limN_of] at HL
  have L1 := Lib.hid (fun w => less_of y x false w hy hx s1)
  have L2 := Lib.hid (fun w => less_of limN y false w limN_lt hy s2)
  clear he e1 e2 t1 t2 hx hy s1 s2
  generalize nxN c (min a b) = u at *
  generalize nxN c (max a b) = v at *
  generalize min a b = m1 at *
  generalize max a b = m2 at *
  generalize limN = k at *
  replace n1 := Lib.hid n1
  replace n2 := Lib.hid n2
  go_enter Try.func14, Try.ntmps14
  go_wp2_with fail
  refine (HA.out _).mono ?_
  rintro e w1 ⟨rfl, N1⟩
  replace N1 := Lib.hid N1
  go_wp2_with fail
  refine (HB.out _).mono ?_
  rintro e w2 ⟨rfl, hb2⟩
  replace N1 := Lib.hid (N1.out.trans hb2)
  clear hb2
  go_wp2_with fail
  refine (HP.out _).mono ?_
  rintro e w3 ⟨rfl, hb3⟩
  have RP : Row (w3.alloc (.cells #[.int .u64 (lim x 0 : Int), .int .u64 (lim x 1 : Int), .int .u64 (lim x 2 : Int), .int .u64 (lim x 3 : Int)] 24)) w3.heap.size #[.int .u64 (lim x 0 : Int), .int .u64 (lim x 1 : Int), .int .u64 (lim x 2 : Int), .int .u64 (lim x 3 : Int)] 24 := Row.new w3 _ _ _ rfl
  replace N1 := Lib.hid ((N1.out.trans hb3).alloc (.cells #[.int .u64 (lim x 0 : Int), .int .u64 (lim x 1 : Int), .int .u64 (lim x 2 : Int), .int .u64 (lim x 3 : Int)] 24))
  clear hb3
  go_wp2_with fail
  refine (HQ.out _).mono ?_
  rintro e w4 ⟨rfl, hb4⟩
  replace RP := (RP.nx hb4).alloc (.cells #[.int .u64 (lim y 0 : Int), .int .u64 (lim y 1 : Int), .int .u64 (lim y 2 : Int), .int .u64 (lim y 3 : Int)] 24)
  have RQ : Row (w4.alloc (.cells #[.int .u64 (lim y 0 : Int), .int .u64 (lim y 1 : Int), .int .u64 (lim y 2 : Int), .int .u64 (lim y 3 : Int)] 24)) w4.heap.size #[.int .u64 (lim y 0 : Int), .int .u64 (lim y 1 : Int), .int .u64 (lim y 2 : Int), .int .u64 (lim y 3 : Int)] 24 := Row.new w4 _ _ _ rfl
  replace N1 := Lib.hid ((N1.out.trans hb4).alloc (.cells #[.int .u64 (lim y 0 : Int), .int .u64 (lim y 1 : Int), .int .u64 (lim y 2 : Int), .int .u64 (lim y 3 : Int)] 24))
  clear hb4
  go_wp2_with fail
  refine (HL.out _).mono ?_
  rintro e w5 ⟨rfl, hb5⟩
  replace RP := (RP.nx hb5).alloc (.cells #[.int .u64 (lim k 0 : Int), .int .u64 (lim k 1 : Int), .int .u64 (lim k 2 : Int), .int .u64 (lim k 3 : Int)] 24)
  replace RQ := (RQ.nx hb5).alloc (.cells #[.int .u64 (lim k 0 : Int), .int .u64 (lim k 1 : Int), .int .u64 (lim k 2 : Int), .int .u64 (lim k 3 : Int)] 24)
  have RL : Row (w5.alloc (.cells #[.int .u64 (lim k 0 : Int), .int .u64 (lim k 1 : Int), .int .u64 (lim k 2 : Int), .int .u64 (lim k 3 : Int)] 24)) w5.heap.size #[.int .u64 (lim k 0 : Int), .int .u64 (lim k 1 : Int), .int .u64 (lim k 2 : Int), .int .u64 (lim k 3 : Int)] 24 := Row.new w5 _ _ _ rfl
  replace N1 := Lib.hid ((N1.out.trans hb5).alloc (.cells #[.int .u64 (lim k 0 : Int), .int .u64 (lim k 1 : Int), .int .u64 (lim k 2 : Int), .int .u64 (lim k 3 : Int)] 24))
  clear hb5
  obtain ⟨x0, x1, x2, x3⟩ := RP.four
  obtain ⟨y0, y1, y2, y3⟩ := RQ.four
  go_wp2_with fail
  refine (L1.out _).mono ?_
  rintro e w6 ⟨rfl, hb6⟩
  clear x0 x1 x2 x3 y0 y1 y2 y3
  replace RQ := RQ.nx hb6
  replace RL := RL.nx hb6
  replace N1 := Lib.hid (N1.out.trans hb6)
  clear hb6
  obtain ⟨y0, y1, y2, y3⟩ := RQ.four
  obtain ⟨l0, l1, l2, l3⟩ := RL.four
  go_wp2_with fail
  refine (L2.out _).mono ?_
  rintro e w7 ⟨rfl, hb7⟩
  clear y0 y1 y2 y3 l0 l1 l2 l3
  replace N1 := Lib.hid (N1.out.trans hb7)
  clear hb7
  go_wp2_with fail
  refine (lives4_any _).mono ?_
  rintro e w9 ⟨rfl, hb9⟩
  go_wp2
  go_ret
  exact ⟨rfl, N1.out.trans hb9⟩

theorem targetSlow_law {w : World} (c : Nat) (hc : (c : Int) ≤ 4294967295) (a : Nat) (ha : (a : Int) ≤ 4294967295) (b : Nat) (hb : (b : Int) ≤ 4294967295) :
    Calls Try.prog 14 #[.int .u32 (c : Int), .int .u32 (a : Int), .int .u32 (b : Int)] w fun e w' => e = .returned (.bool true) ∧ Nx w w' := by
  rcases ofE_or c with h | h
  · exact targetSlow_yes c hc a ha b hb h
  · exact targetSlow_no c hc a ha b hb h
end Go.Proofs.Ytggemncdnclhnaa
