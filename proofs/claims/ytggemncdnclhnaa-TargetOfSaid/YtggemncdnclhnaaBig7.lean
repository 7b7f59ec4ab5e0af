/- LAYER 3: what a law lives by. -/
import Derived.Test.YtggemncdnclhnaaBigOver
namespace Go.Proofs.Ytggemncdnclhnaa
open Go.RowKit
set_option linter.unusedVariables false
set_option linter.unusedSimpArgs false

set_option maxHeartbeats 1000000 in
theorem div_nought (a : Nat) (w : World) :
    Calls Try.prog 34 #[.agg #[.int .u64 (lim a 0 : Int), .int .u64 (lim a 1 : Int), .int .u64 (lim a 2 : Int), .int .u64 (lim a 3 : Int)], .int .u64 0] w fun e w' => e = .returned (.tuple #[.agg #[.int .u64 0, .int .u64 0, .int .u64 0, .int .u64 0], .int .u64 0, .int .i64 2]) ∧ Nx w w' := by
  go_enter Try.func34, Try.ntmps34
  go_wp2
  exact bodyPost_ret (v := .tuple #[.agg #[.int .u64 0, .int .u64 0, .int .u64 0, .int .u64 0], .int .u64 0, .int .i64 2]) (by simp [results, Try.results34, go_sem]) rfl
    ⟨rfl, by repeat (first | exact Nx.refl _ | with_reducible apply Nx.alloc | with_reducible refine Nx.setAt ?_ _ (by omega))⟩

theorem of_1 (w : World) : Calls Try.prog 15 #[.int .u64 1] w fun e w' => e = .returned (.agg #[.int .u64 (lim 1 0 : Int), .int .u64 (lim 1 1 : Int), .int .u64 (lim 1 2 : Int), .int .u64 (lim 1 3 : Int)]) ∧ Nx w w' := of_any 1 w (by omega)
theorem of_2 (w : World) : Calls Try.prog 15 #[.int .u64 2] w fun e w' => e = .returned (.agg #[.int .u64 (lim 2 0 : Int), .int .u64 (lim 2 1 : Int), .int .u64 (lim 2 2 : Int), .int .u64 (lim 2 3 : Int)]) ∧ Nx w w' := of_any 2 w (by omega)
theorem of_3 (w : World) : Calls Try.prog 15 #[.int .u64 3] w fun e w' => e = .returned (.agg #[.int .u64 (lim 3 0 : Int), .int .u64 (lim 3 1 : Int), .int .u64 (lim 3 2 : Int), .int .u64 (lim 3 3 : Int)]) ∧ Nx w w' := of_any 3 w (by omega)
theorem of_7 (w : World) : Calls Try.prog 15 #[.int .u64 7] w fun e w' => e = .returned (.agg #[.int .u64 (lim 7 0 : Int), .int .u64 (lim 7 1 : Int), .int .u64 (lim 7 2 : Int), .int .u64 (lim 7 3 : Int)]) ∧ Nx w w' := of_any 7 w (by omega)
theorem of_8 (w : World) : Calls Try.prog 15 #[.int .u64 8] w fun e w' => e = .returned (.agg #[.int .u64 (lim 8 0 : Int), .int .u64 (lim 8 1 : Int), .int .u64 (lim 8 2 : Int), .int .u64 (lim 8 3 : Int)]) ∧ Nx w w' := of_any 8 w (by omega)
theorem sub_01 (w : World) : Calls Try.prog 28 #[.agg #[.int .u64 0, .int .u64 0, .int .u64 0, .int .u64 0], .agg #[.int .u64 (lim 1 0 : Int), .int .u64 (lim 1 1 : Int), .int .u64 (lim 1 2 : Int), .int .u64 (lim 1 3 : Int)]] w fun e w' => e = .returned (.tuple #[.agg #[.int .u64 18446744073709551615, .int .u64 18446744073709551615, .int .u64 18446744073709551615, .int .u64 18446744073709551615], .bool true]) ∧ Nx w w' := by
  have h := sub_any 0 1 w (by decide) (by decide)
  obtain ⟨z0, z1, z2, z3⟩ := lim_nought
  rw [z0, z1, z2, z3, show subB 0 1 = true by decide, show lim (subN 0 1) 0 = 18446744073709551615 by decide +kernel, show lim (subN 0 1) 1 = 18446744073709551615 by decide +kernel, show lim (subN 0 1) 2 = 18446744073709551615 by decide +kernel, show lim (subN 0 1) 3 = 18446744073709551615 by decide +kernel] at h
  exact h
theorem over_72 (w : World) : Calls Try.prog 32 #[.agg #[.int .u64 (lim 7 0 : Int), .int .u64 (lim 7 1 : Int), .int .u64 (lim 7 2 : Int), .int .u64 (lim 7 3 : Int)], .agg #[.int .u64 (lim 2 0 : Int), .int .u64 (lim 2 1 : Int), .int .u64 (lim 2 2 : Int), .int .u64 (lim 2 3 : Int)]] w fun e w' => e = .returned (.tuple #[.agg #[.int .u64 (lim 3 0 : Int), .int .u64 (lim 3 1 : Int), .int .u64 (lim 3 2 : Int), .int .u64 (lim 3 3 : Int)], .agg #[.int .u64 (lim 1 0 : Int), .int .u64 (lim 1 1 : Int), .int .u64 (lim 1 2 : Int), .int .u64 (lim 1 3 : Int)], .int .i64 0]) ∧ Nx w w' :=
  over_yes 7 2 w (by decide) (by decide) (by decide)
theorem len_8 (w : World) : Calls Try.prog 23 #[.agg #[.int .u64 (lim 8 0 : Int), .int .u64 (lim 8 1 : Int), .int .u64 (lim 8 2 : Int), .int .u64 (lim 8 3 : Int)]] w fun e w' => e = .returned (.int .i64 4) ∧ Nx w w' := by
  have h := len_any 8 w (by decide)
  rw [show blen 8 = 4 by decide +kernel] at h
  exact h

set_option maxHeartbeats 4000000 in
set_option maxRecDepth 100000 in
theorem lives3_any (w : World) : Calls Try.prog 25 #[] w fun e w' => e = .returned (.bool true) ∧ Nx w w' := by
  have he1 : ∀ w, (Op.equalIn 10000 24 (.agg #[.int .u64 (lim 3 0 : Int), .int .u64 (lim 3 1 : Int), .int .u64 (lim 3 2 : Int), .int .u64 (lim 3 3 : Int)]) (.agg #[.int .u64 (lim 3 0 : Int), .int .u64 (lim 3 1 : Int), .int .u64 (lim 3 2 : Int), .int .u64 (lim 3 3 : Int)])).run Try.prog w = .ok true w := fun w => by rw [eqU 3 3 (by decide) (by decide) w]; rfl
  have he2 : ∀ w, (Op.equalIn 10000 24 (.agg #[.int .u64 (lim 1 0 : Int), .int .u64 (lim 1 1 : Int), .int .u64 (lim 1 2 : Int), .int .u64 (lim 1 3 : Int)]) (.agg #[.int .u64 (lim 1 0 : Int), .int .u64 (lim 1 1 : Int), .int .u64 (lim 1 2 : Int), .int .u64 (lim 1 3 : Int)])).run Try.prog w = .ok true w := fun w => by rw [eqU 1 1 (by decide) (by decide) w]; rfl
  go_enter Try.func25, Try.ntmps25
  go_wp2_with fail
  refine (of_1 _).mono ?_
  rintro e w1 ⟨rfl, hb1⟩
  go_wp2_with fail
  refine (sub_01 _).mono ?_
  rintro e w2 ⟨rfl, hb2⟩
  go_wp2_with fail
  refine (of_7 _).mono ?_
  rintro e w3 ⟨rfl, hb3⟩
  go_wp2_with fail
  refine (of_2 _).mono ?_
  rintro e w4 ⟨rfl, hb4⟩
  go_wp2_with fail
  refine (over_72 _).mono ?_
  rintro e w5 ⟨rfl, hb5⟩
  go_wp2_with fail
  refine (of_1 _).mono ?_
  rintro e w6 ⟨rfl, hb6⟩
  go_wp2_with fail
  refine (div_nought 1 _).mono ?_
  rintro e w7 ⟨rfl, hb7⟩
  have RA := ((((((((Row.new w2 #[.int .u64 18446744073709551615, .int .u64 18446744073709551615, .int .u64 18446744073709551615, .int .u64 18446744073709551615] 24 _ rfl).nx hb3).nx hb4).nx hb5).alloc _).alloc _).nx hb6).nx hb7).alloc (.cells #[.int .u64 0, .int .u64 0, .int .u64 0, .int .u64 0] 24)
  have RQ := ((((Row.new w5 #[.int .u64 (lim 3 0 : Int), .int .u64 (lim 3 1 : Int), .int .u64 (lim 3 2 : Int), .int .u64 (lim 3 3 : Int)] 24 _ rfl).alloc _).nx hb6).nx hb7).alloc (.cells #[.int .u64 0, .int .u64 0, .int .u64 0, .int .u64 0] 24)
  have RR := (((Row.new (w5.alloc (.cells #[.int .u64 (lim 3 0 : Int), .int .u64 (lim 3 1 : Int), .int .u64 (lim 3 2 : Int), .int .u64 (lim 3 3 : Int)] 24)) #[.int .u64 (lim 1 0 : Int), .int .u64 (lim 1 1 : Int), .int .u64 (lim 1 2 : Int), .int .u64 (lim 1 3 : Int)] 24 (w5.heap.size + 1) (by simp)).nx hb6).nx hb7).alloc (.cells #[.int .u64 0, .int .u64 0, .int .u64 0, .int .u64 0] 24)
  have N7 := Lib.hid ((((((hb1.trans hb2).alloc (.cells #[.int .u64 18446744073709551615, .int .u64 18446744073709551615, .int .u64 18446744073709551615, .int .u64 18446744073709551615] 24)).trans ((hb3.trans hb4).trans hb5)).alloc (.cells #[.int .u64 (lim 3 0 : Int), .int .u64 (lim 3 1 : Int), .int .u64 (lim 3 2 : Int), .int .u64 (lim 3 3 : Int)] 24)).alloc (.cells #[.int .u64 (lim 1 0 : Int), .int .u64 (lim 1 1 : Int), .int .u64 (lim 1 2 : Int), .int .u64 (lim 1 3 : Int)] 24)).trans (hb6.trans hb7) |>.alloc (.cells #[.int .u64 0, .int .u64 0, .int .u64 0, .int .u64 0] 24))
  generalize w2.heap.size = gA at *
  generalize w5.heap.size = gQ at *
  clear hb1 hb2 hb3 hb4 hb5 hb6 hb7
  go_wp2_with fail
  replace RA := RA.drew
  replace RQ := RQ.drew
  replace RR := RR.drew
  replace N7 := Lib.hid N7.out.drew
  generalize (w7.alloc (.cells #[.int .u64 0, .int .u64 0, .int .u64 0, .int .u64 0] 24)) = W at *
  go_region_held3 (fun w' => w'.cell? ⟨gA, 3, none⟩ = some (.int .u64 18446744073709551615) ∧ w'.cell? ⟨gQ, 0, none⟩ = some (.int .u64 (lim 3 0 : Int)) ∧ w'.cell? ⟨gQ, 1, none⟩ = some (.int .u64 (lim 3 1 : Int)) ∧ w'.cell? ⟨gQ, 2, none⟩ = some (.int .u64 (lim 3 2 : Int)) ∧ w'.cell? ⟨gQ, 3, none⟩ = some (.int .u64 (lim 3 3 : Int)) ∧ w'.cell? ⟨gQ + 1, 0, none⟩ = some (.int .u64 (lim 1 0 : Int)) ∧ w'.cell? ⟨gQ + 1, 1, none⟩ = some (.int .u64 (lim 1 1 : Int)) ∧ w'.cell? ⟨gQ + 1, 2, none⟩ = some (.int .u64 (lim 1 2 : Int)) ∧ w'.cell? ⟨gQ + 1, 3, none⟩ = some (.int .u64 (lim 1 3 : Int)))
    (first | with_reducible exact ⟨RA.cell rfl, RQ.four.1, RQ.four.2.1, RQ.four.2.2.1, RQ.four.2.2.2, RR.four⟩ | go_keep)
    (first | (go_at_call 15; (with_reducible (first | refine (of_3 _).mono ?_ | refine (of_1 _).mono ?_ | refine (of_8 _).mono ?_)); rintro e w8 ⟨rfl, hb8⟩; with_reducible (replace RA := RA.nx hb8; replace RQ := RQ.nx hb8; replace RR := RR.nx hb8; replace N7 := Lib.hid (N7.out.trans hb8))) | (go_at_call 23; refine (len_8 _).mono ?_; rintro e w8 ⟨rfl, hb8⟩; with_reducible (replace RA := RA.nx hb8; replace RQ := RQ.nx hb8; replace RR := RR.nx hb8; replace N7 := Lib.hid (N7.out.trans hb8))))
  go_wp2
  go_ret
  exact ⟨rfl, N7.out⟩
end Go.Proofs.Ytggemncdnclhnaa
