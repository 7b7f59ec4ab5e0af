/- LAYER 11: steps: how a script's steps are read; may, mayNot. -/
import Derived.Test.YtbhoflmdhlchlaaOpenE
import Derived.Test.YtbhoflmdhlchlaaRowW
import Derived.LoopTactic
import Derived.BigQuiet
namespace Go.Proofs.Ytbhoflmdhlchlaa
open Go Go.RowKit
set_option linter.unusedVariables false
set_option linter.unusedSimpArgs false
set_option linter.unusedVariables false
set_option linter.unusedSimpArgs false

abbrev Step := UInt8 × List UInt8
def stepRd (s : Option Nat) (w : World) (cs : List Value) (a : Step) : Prop := ∃ u, cs = [.int .u8 (a.1.toNat : Int), u] ∧ RdS s w u a.2
def stepEl : El Step where
  E := 55
  k := 2
  pos := by decide
  rd := stepRd
  len := by rintro s w cs a ⟨u, rfl, _⟩; rfl
  one := by
    rintro s w cs a ⟨u, rfl, h⟩ x hx
    obtain ⟨A, c, rfl⟩ := h.sl
    simp at hx
    rcases hx with rfl | rfl <;> rfl
  nx := by rintro s w w' cs a ⟨u, rfl, h⟩ x; exact ⟨u, rfl, h.nx x⟩
  grown := by rintro s w w' cs a ⟨u, rfl, h⟩ x; exact ⟨u, rfl, h.grown x⟩
  free := by rintro s w cs a ⟨u, rfl, h⟩; exact ⟨u, rfl, h.free⟩
  apart := by rintro s w cs a ⟨u, rfl, h⟩ hs; exact ⟨u, rfl, h.apart hs⟩
/-- May a step be? -/
def mayS (n m : Nat) : Bool := if n = 1 then decide (m ≤ 3000) else (decide (2 ≤ n) && (decide (n ≤ 20) && decide (m = 0)))
def stc (n : Nat) (u : Value) : Array Value := #[.int .u8 (n : Int), u]
set_option maxHeartbeats 1000000 in
theorem may_any (n : Nat) (u : Value) (l : List UInt8) (w : World) (h : Rd w u l) :
    Calls Try.prog 46 #[.agg #[.int .u8 (n : Int), u]] w fun e w' => e = .returned (.bool (mayS n l.length)) ∧ Nx w w' := by
  obtain ⟨A, c, rfl, -, -, -⟩ := h
  have R := Row.new w #[.int .u8 (n : Int), .slice A l.length c] 55 _ rfl
  have k0 := R.cell (i := 0) (v := .int .u8 (n : Int)) rfl
  have k1 := R.cell (i := 1) (v := .slice A l.length c) rfl
  have NW := Lib.hid ((Nx.refl w).alloc (.cells #[.int .u8 (n : Int), .slice A l.length c] 55))
  clear R
  by_cases h1 : n = 1
  · subst h1
    have hd : decide ((l.length : Int) ≤ 3000) = decide (l.length ≤ 3000) := by rw [Bool.eq_iff_iff, decide_eq_true_iff, decide_eq_true_iff]; omega
    go_enter Try.func46, Try.ntmps46
    go_wp2_with fail
    go_ret
    exact ⟨by rw [show mayS 1 l.length = decide (l.length ≤ 3000) from rfl]; rfl, NW.out⟩
  · have e1 : ((n : Int) == 1) = false := by simp; omega
    by_cases h2 : 2 ≤ n
    · have g2 : (2 : Int) ≤ (n : Int) := by omega
      by_cases h3 : n ≤ 20
      · have g3 : (n : Int) ≤ 20 := by omega
        have HV : Hid (mayS n l.length = decide (l.length = 0)) := Lib.hid (by unfold mayS; simp [h1, h2, h3])
        have hd : ((l.length : Int) == 0) = decide (l.length = 0) := by rw [Bool.eq_iff_iff, beq_iff_eq, decide_eq_true_iff]; omega
        have HD := Lib.hid hd
        clear h1 h2 h3 hd
        go_enter Try.func46, Try.ntmps46
        go_wp2_with fail
        go_ret
        exact ⟨by rw [HV.out]; first | rfl | (rw [← HD.out]; rfl), NW.out⟩
      · have g3 : ¬ (n : Int) ≤ 20 := by omega
        have HV : Hid (mayS n l.length = false) := Lib.hid (by unfold mayS; simp [h1, h3])
        clear h1 h2 h3
        go_enter Try.func46, Try.ntmps46
        go_wp2_with fail
        go_ret
        exact ⟨by rw [HV.out]; first | rfl | (rw [← HD.out]; rfl), NW.out⟩
    · have g2 : ¬ (2 : Int) ≤ (n : Int) := by omega
      have HV : Hid (mayS n l.length = false) := Lib.hid (by unfold mayS; simp [h1, h2])
      clear h1 h2
      go_enter Try.func46, Try.ntmps46
      go_wp2_with fail
      go_ret
      exact ⟨by rw [HV.out]; first | rfl | (rw [← HD.out]; rfl), NW.out⟩
set_option maxHeartbeats 1000000 in
theorem mayNot_any (n : Nat) (u : Value) (l : List UInt8) (w : World) (h : Rd w u l) :
    Calls Try.prog 44 #[.agg #[.int .u8 (n : Int), u]] w fun e w' => e = .returned (.bool (!mayS n l.length)) ∧ Nx w w' := by
  obtain ⟨A, c, rfl, -, -, -⟩ := h
  have R := Row.new w #[.int .u8 (n : Int), .slice A l.length c] 55 _ rfl
  have k0 := R.cell (i := 0) (v := .int .u8 (n : Int)) rfl
  have k1 := R.cell (i := 1) (v := .slice A l.length c) rfl
  have NW := Lib.hid ((Nx.refl w).alloc (.cells #[.int .u8 (n : Int), .slice A l.length c] 55))
  clear R
  by_cases h1 : n = 1
  · subst h1
    have HD : Hid (decide ((3000 : Int) < (l.length : Int)) = !mayS 1 l.length) := Lib.hid (by rw [show mayS 1 l.length = decide (l.length ≤ 3000) from rfl, Bool.eq_iff_iff, Bool.not_eq_true', decide_eq_false_iff_not, decide_eq_true_iff]; omega)
    go_enter Try.func44, Try.ntmps44
    go_wp2_with fail
    go_ret
    exact ⟨by rw [← HD.out]; rfl, NW.out⟩
  · have e1 : ((n : Int) == 1) = false := by simp; omega
    by_cases h2 : 2 ≤ n
    · have g2 : ¬ (n : Int) < 1 := by omega
      by_cases h3 : n ≤ 20
      · have g3 : ¬ (20 : Int) < (n : Int) := by omega
        have HV : Hid ((!mayS n l.length) = decide (0 < l.length)) := Lib.hid (by unfold mayS; rw [if_neg h1]; simp only [h2, h3, decide_true, Bool.true_and]; rw [Bool.eq_iff_iff, Bool.not_eq_true', decide_eq_false_iff_not, decide_eq_true_iff]; omega)
        clear h1 h2 h3
        go_enter Try.func44, Try.ntmps44
        go_wp2_with fail
        go_ret
        exact ⟨by rw [HV.out]; first | rfl | (rw [← HD.out]; rfl), NW.out⟩
      · have g3 : (20 : Int) < (n : Int) := by omega
        have HV : Hid ((!mayS n l.length) = true) := Lib.hid (by unfold mayS; simp [h1, h3])
        clear h1 h2 h3
        go_enter Try.func44, Try.ntmps44
        go_wp2_with fail
        go_ret
        exact ⟨by rw [HV.out]; first | rfl | (rw [← HD.out]; rfl), NW.out⟩
    · have g2 : (n : Int) < 1 := by omega
      have HV : Hid ((!mayS n l.length) = true) := Lib.hid (by unfold mayS; simp [h1, h2])
      clear h1 h2
      go_enter Try.func44, Try.ntmps44
      go_wp2_with fail
      go_ret
      exact ⟨by rw [HV.out]; first | rfl | (rw [← HD.out]; rfl), NW.out⟩
end Go.Proofs.Ytbhoflmdhlchlaa
