/- LAYER 12: the walk of CellStacks. -/
import Derived.Test.YtbhoflmdhlchlaaStack5
import Derived.Test.YtbhoflmdhlchlaaCell6
namespace Go.Proofs.Ytbhoflmdhlchlaa
open Go Go.RowKit
set_option linter.unusedVariables false
set_option linter.unusedSimpArgs false
set_option linter.unusedVariables false
set_option linter.unusedSimpArgs false

theorem psL_len (ls : List (List UInt8)) (b : List UInt8) : (psL ls b).length ≤ ls.length + 1 := by
  unfold psL
  split
  · simp
  · simp
theorem ppA_len (ls : List (List UInt8)) (n : Int) : (ppA ls n).length ≤ ls.length := by
  unfold ppA
  split
  · rw [List.length_take]; omega
  · simp
theorem ppB_len (ls : List (List UInt8)) (n : Int) : (ppB ls n).length ≤ ls.length := by
  unfold ppB
  split
  · rw [List.length_drop]; omega
  · simp
set_option maxRecDepth 100000 in
set_option maxHeartbeats 4000000 in
theorem cellStacks_law {w : World} (v0 : Value) (ls : List (List UInt8)) (h0 : RdL w v0 ls) (hl0 : ∀ l ∈ ls, l.length ≤ 140737488351232) (v1 : Value) (l : List UInt8) (h1 : Rd w v1 l) (hr1 : l.length ≤ 140737488351232) (n : Int) (a1 : -9223372036854775808 ≤ n) (a2 : n ≤ 9223372036854775807) :
    Calls Try.prog 9 #[v0, v1, .int .i64 n] w fun e w' => e = .returned (.bool true) ∧ Nx w w' := by
  have HL : Hid (∀ l ∈ ls, l.length ≤ 140737488355328) := Lib.hid fun l hl => by have := hl0 l hl; omega
  have HLR : Hid (l.length ≤ 140737488355328) := Lib.hid (by omega)
  have H0 := Lib.hid h0
  have H1 := Lib.hid h1
  have HGR := Lib.hid (fun w hh => great_any v0 ls w hh HL.out)
  have HP := Lib.hid (fun w hh hk => cpush_any v0 ls v1 l w hh hk HL.out HLR.out)
  have HRP := Lib.hid (fun w hh hk => rpush_any v0 ls v1 l w hh hk HL.out HLR.out)
  have HO := Lib.hid (fun hn w hh => cpop_any v0 ls n w hh hn HL.out)
  have HRO := Lib.hid (fun hn w hh => rpop_any v0 ls n w hh hn HL.out)
  have HA1 := Lib.hid (psL_len ls l)
  have HA2 := Lib.hid (ppA_len ls n)
  have HA3 := Lib.hid (ppB_len ls n)
  obtain ⟨A, c, vs, rfl, -, -, -, -⟩ := h0.parts
  obtain ⟨A1, c1, rfl, -, -, -⟩ := h1
  clear h0 hl0 hr1 vs a1 a2
  generalize psL ls l = PL at *
  generalize psE ls l = PE at *
  generalize ppA ls n = QA at *
  generalize ppB ls n = QB at *
  generalize ppE ls n = QE at *
  go_enter Try.func9, Try.ntmps9
  go_wp2_with fail
  refine (HGR.out _ H0.out).mono ?_
  rintro e w1 ⟨r, rfl, hg, n1⟩
  have N := Lib.hid n1
  clear n1
  rcases hg with rfl | ⟨rfl, hle⟩
  · go_wp2_with fail
    refine (clives_any _).mono ?_
    rintro e w2 ⟨rfl, n2⟩
    have N2 := Lib.hid (N.out.trans n2)
    clear n2
    go_wp2_with fail
    go_ret
    exact ⟨rfl, N2.out⟩
  have HLE := Lib.hid hle
  clear hle
  by_cases hb : 4000 < l.length
  · have hb' : (4000 : Int) < (l.length : Int) := by omega
    clear hb
    go_wp2_with fail
    refine (clives_any _).mono ?_
    rintro e w2 ⟨rfl, n2⟩
    have N2 := Lib.hid (N.out.trans n2)
    clear n2
    go_wp2_with fail
    go_ret
    exact ⟨rfl, N2.out⟩
  have hb' : ¬ (4000 : Int) < (l.length : Int) := by omega
  clear hb
  go_wp2_with fail
  refine (HP.out _ (H0.out.nx N.out) (H1.out.nx N.out)).mono ?_
  rintro e w2 ⟨va, rfl, oa, n2⟩
  have RA := Lib.hid oa.rd
  replace N := Lib.hid (N.out.trans n2)
  clear n2 oa
  go_wp2_with fail
  refine (HRP.out _ (H0.out.nx N.out) (H1.out.nx N.out)).mono ?_
  rintro e w3 ⟨vb, rfl, ob, n3⟩
  have RB := Lib.hid ob.rd
  replace RA := Lib.hid (RA.out.nx n3)
  replace N := Lib.hid (N.out.trans n3)
  clear n3 ob
  go_wp2_with fail
  refine (HO.out (by have := HLE.out; omega) _ (H0.out.nx N.out)).mono ?_
  rintro e w4 ⟨vp, vq, rfl, op, oq, n4⟩
  have RP := Lib.hid op.rd
  have RQ := Lib.hid oq.rd
  replace RA := Lib.hid (RA.out.nx n4)
  replace RB := Lib.hid (RB.out.nx n4)
  replace N := Lib.hid (N.out.trans n4)
  clear n4 op oq
  go_wp2_with fail
  refine (HRO.out (by have := HLE.out; omega) _ (H0.out.nx N.out)).mono ?_
  rintro e w5 ⟨vr, vt, rfl, or, ot, n5⟩
  have RR := Lib.hid or.rd
  have RT := Lib.hid ot.rd
  replace RA := Lib.hid (RA.out.nx n5)
  replace RB := Lib.hid (RB.out.nx n5)
  replace RP := Lib.hid (RP.out.nx n5)
  replace RQ := Lib.hid (RQ.out.nx n5)
  replace N := Lib.hid (N.out.trans n5)
  clear n5 or ot
  have e1 : ∀ x : Int, (x == x) = true := fun x => by simp
  go_wp2_with fail
  refine (rsameL_yes _ _ PL _ RA.out RB.out (by have := HA1.out; have := HLE.out; omega)).mono ?_
  rintro e w6 ⟨rfl, n6⟩
  replace RP := Lib.hid (RP.out.nx n6)
  replace RQ := Lib.hid (RQ.out.nx n6)
  replace RR := Lib.hid (RR.out.nx n6)
  replace RT := Lib.hid (RT.out.nx n6)
  replace N := Lib.hid (N.out.trans n6)
  clear n6 RA RB
  go_wp2_with fail
  refine (rsameL_yes _ _ QA _ RP.out RR.out (by have := HA2.out; have := HLE.out; omega)).mono ?_
  rintro e w7 ⟨rfl, n7⟩
  replace RQ := Lib.hid (RQ.out.nx n7)
  replace RT := Lib.hid (RT.out.nx n7)
  replace N := Lib.hid (N.out.trans n7)
  clear n7 RP RR
  go_wp2_with fail
  refine (rsameL_yes _ _ QB _ RQ.out RT.out (by have := HA3.out; have := HLE.out; omega)).mono ?_
  rintro e w8 ⟨rfl, n8⟩
  replace N := Lib.hid (N.out.trans n8)
  clear n8 RQ RT
  go_wp2_with fail
  refine (clives_any _).mono ?_
  rintro e w9 ⟨rfl, n9⟩
  replace N := Lib.hid (N.out.trans n9)
  clear n9
  go_wp2_with fail
  go_ret
  exact ⟨rfl, N.out⟩
end Go.Proofs.Ytbhoflmdhlchlaa
