/- LAYER 1: the walk of EndsOne. -/
import Derived.Test.YtgdjhppahgchpaaLaw1
import Derived.Test.YtgdjhppahgchpaaEnds8
import Derived.Deep.RegionWith
import Derived.Deep.DeepCutAuto
import Derived.Deep.RegionHeld3
namespace Go.Proofs.Ytgdjhppahgchpaa
open Go.RowKit

set_option maxHeartbeats 1000000 in
theorem endsOne_law {w : World} (v : Value) (l : List UInt8) (h : Rd w v l) (hr0 : l.length ≤ 140737488351232) (n : Nat) (hn : (n : Int) ≤ 18446744073709551615) (m : Nat) (hm : (m : Int) ≤ 18446744073709551615) :
    Calls Try.prog 6 #[v, .int .u64 (n : Int), .int .u64 (m : Int)] w fun e w' => e = .returned (.bool true) ∧ Nx w w' := by
  have hr : l.length ≤ 140737488355328 := by omega
  have H1 := fun w h => getCount_any v l 0 w h hr
  have HN := Lib.hid (fun w => count_any n w)
  have HM := Lib.hid (fun w => count_any m w)
  have hgot := fun N P (hg : gc l 0 = (N, P, 0)) => count_got hg
  rcases hg : gc l 0 with ⟨N1, P1, E1⟩
  simp only [hg] at H1
  rw [hg] at hgot
  have H1 := Lib.hid H1
  have HG := Lib.hid hgot
  clear hgot hg
  have hrd := h
  obtain ⟨A, c, rfl, hc, hmx, ha⟩ := h
  unfold maxLen at hmx
  go_enter Try.func6, Try.ntmps6
  go_wp2_with fail
  refine (H1.out w hrd).mono ?_
  rintro e w1 ⟨rfl, rfl⟩
  go_upto_region 2 with fail
  go_cut [38] (fun s wx => s = .bool false ∧ Nx w wx)
  case first =>
    by_cases hE : E1 = 0
    · subst hE
      obtain ⟨p1, p2, p3, p4⟩ := HG.out N1 P1 rfl
      obtain ⟨p, rfl⟩ := Int.eq_ofNat_of_zero_le (show 0 ≤ P1 by omega)
      have HC := Lib.hid (fun w => count_any N1 w)
      rw [Int.toNat_natCast] at p3 p4
      have HP := Lib.hid p3
      clear p3
      have d1 : decide ((p : Int) < 1) = false := by simp; omega
      have d2 : decide (l.length < p) = false := by simp; omega
      have d3 : decide ((l.length : Int) < (p : Int)) = false := by simp; omega
      have HPR := Lib.hid (Rd.pre ha p4 (Nat.le_trans p4 hc) (by unfold maxLen; omega))
      rw [← HP.out] at HPR
      have p5 : p ≤ c := Nat.le_trans p4 hc
      have p6 : (p : Int) ≤ (c : Int) := by omega
      have p7 : (0 : Int) ≤ (p : Int) := by omega
      clear ha p1 p2
      go_region_held3 (fun _ => True) (exact trivial) (first | (go_at_call 20; refine (HC.out _).mono ?_; rintro e w2 ⟨v2, rfl, o2, b2⟩) | (go_at_call 14; refine (same_yes _ _ (countL N1) _ o2.rd ((HPR.out.drew).nx b2)).mono ?_; rintro e w3 ⟨rfl, b3⟩))
      all_goals (go_wp2_with fail; go_meet; exact ⟨rfl, ((Nx.refl w).drew.trans b2).trans b3⟩)
    · have ht : (E1 == 0) = false := by simpa using hE
      clear hE
      go_quiet (fail)
      go_wp2_with fail
      go_meet
      exact ⟨rfl, (Nx.refl w).drewN _⟩
  case rest =>
    obtain ⟨rfl, b1⟩ := hcut
    clear HG H1 ha hrd hc
    by_cases hnm : n = m
    · have ht : ((n : Int) != (m : Int)) = false := by simp [hnm]
      clear hnm
      go_wp2_with fail
      refine (HN.out wc).mono ?_
      rintro e w2 ⟨v2, rfl, o2, b2⟩
      go_wp2_with fail
      refine (HM.out w2).mono ?_
      rintro e w3 ⟨v3, rfl, o3, b3⟩
      go_wp2_with fail
      refine (works_any _).mono ?_
      rintro e w4 ⟨rfl, b4⟩
      go_wp2
      go_ret
      exact ⟨rfl, (b1.trans b2).trans (b3.trans b4)⟩
    · have ht : ((n : Int) != (m : Int)) = true := by rw [bne_iff_ne]; omega
      have hno : (countL n).length ≤ (countL m).length → countL n ≠ (countL m).take (countL n).length := fun _ he => by
        have hj : countL m = countL n ++ (countL m).drop (countL n).length := by
          have := (List.take_append_drop (countL n).length (countL m)).symm
          rwa [← he] at this
        exact hnm (count_one hn hm hj)
      have hl9 := countL_le m
      clear hnm hn hm
      generalize countL n = C at *
      generalize countL m = D at *
      have HNO := Lib.hid hno
      clear hno
      by_cases hle : C.length ≤ D.length
      · go_wp2_with fail
        refine (HN.out wc).mono ?_
        rintro e w2 ⟨v2, rfl, o2, b2⟩
        go_wp2_with fail
        refine (HM.out w2).mono ?_
        rintro e w3 ⟨v3, rfl, o3, b3⟩
        have r2 := o2.rd.nx b3
        have r2' := r2
        have r3 := o3.rd
        obtain ⟨A2, c2, rfl, hc2, hm2, ha2⟩ := r2
        obtain ⟨A3, c3, rfl, hc3, hm3, ha3⟩ := r3
        have hm3' := hm3
        unfold maxLen at hm3'
        have p5 : C.length ≤ c3 := Nat.le_trans hle hc3
        have p6 : (C.length : Int) ≤ (c3 : Int) := by omega
        have p7 : (C.length : Int) ≤ (D.length : Int) := by omega
        go_wp2_with fail
        refine (same_no _ _ C (D.take C.length) _ r2' (Rd.pre ha3 hle p5 hm3) (HNO.out hle)).mono ?_
        rintro e w4 ⟨rfl, b4⟩
        go_wp2_with fail
        refine (works_any _).mono ?_
        rintro e w5 ⟨rfl, b5⟩
        go_wp2
        go_ret
        exact ⟨rfl, (b1.trans b2).trans ((b3.trans b4).trans b5)⟩
      · go_wp2_with fail
        refine (HN.out wc).mono ?_
        rintro e w2 ⟨v2, rfl, o2, b2⟩
        go_wp2_with fail
        refine (HM.out w2).mono ?_
        rintro e w3 ⟨v3, rfl, o3, b3⟩
        have r2 := o2.rd.nx b3
        have r3 := o3.rd
        obtain ⟨A2, c2, rfl, hc2, hm2, ha2⟩ := r2
        obtain ⟨A3, c3, rfl, hc3, hm3, ha3⟩ := r3
        have p7 : ¬ (C.length : Int) ≤ (D.length : Int) := by omega
        have p8 : decide ((C.length : Int) ≤ (D.length : Int)) = false := by simp; omega
        have p9 : decide (C.length ≤ D.length) = false := by simp; omega
        go_wp2_with fail
        refine (works_any _).mono ?_
        rintro e w5 ⟨rfl, b5⟩
        go_wp2
        go_ret
        exact ⟨rfl, (b1.trans b2).trans (b3.trans b5)⟩
end Go.Proofs.Ytgdjhppahgchpaa
