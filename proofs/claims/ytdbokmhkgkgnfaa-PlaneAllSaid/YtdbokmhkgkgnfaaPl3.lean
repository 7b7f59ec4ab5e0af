/- LAYER 5: the program's Turn, Back. -/
import Derived.Test.YtdbokmhkgkgnfaaPl2
import Derived.Test.YtdbokmhkgkgnfaaBigPure
namespace Go.Proofs.Ytdbokmhkgkgnfaa
open Go Go.RowKit
set_option linter.unusedVariables false
set_option linter.unusedSimpArgs false

def trA (k : Int) (a b : Int) : Int := if k % 4 = 1 then -b else if k % 4 = 2 then -a else if k % 4 = 3 then b else a
def trB (k : Int) (a b : Int) : Int := if k % 4 = 1 then a else if k % 4 = 2 then -b else if k % 4 = 3 then -a else b
set_option maxRecDepth 100000 in
set_option maxHeartbeats 2000000 in
theorem turn_any {p q : Nat} {a b : Int} (h : CF p q a b) (k : Int) (w : World) : Calls Try.prog 24 #[.complex .f64 p q, .int .i64 k] w fun e w' => (∃ r s, e = .returned (.complex .f64 r s) ∧ CF r s (trA k a b) (trB k a b)) ∧ w' = w := by
  have ka := i64_and3 k
  have U := Lib.hid (fun (p : Nat) (v : Int) (h : IsF p v) w => unsigned_any h w)
  have ha := Lib.hid h.1
  have hb := Lib.hid h.2
  have na : Hid (IsF (Op.negFloat .f64 p) (-a * 1024)) := Lib.hid (by rw [Int.neg_mul]; exact neg_is h.1)
  have nb : Hid (IsF (Op.negFloat .f64 q) (-b * 1024)) := Lib.hid (by rw [Int.neg_mul]; exact neg_is h.2)
  have fa : Op.unary .neg (.float .f64 p) = pure (.float .f64 (Op.negFloat .f64 p)) := rfl
  have fb : Op.unary .neg (.float .f64 q) = pure (.float .f64 (Op.negFloat .f64 q)) := rfl
  clear h
  have hc : k % 4 = 0 ∨ k % 4 = 1 ∨ k % 4 = 2 ∨ k % 4 = 3 := by omega
  generalize Op.negFloat .f64 p = p' at *
  generalize Op.negFloat .f64 q = q' at *
  rcases hc with hc | hc | hc | hc
  · have e1 : trA k a b = a := by unfold trA; simp [hc]
    have e2 : trB k a b = b := by unfold trB; simp [hc]
    rw [e1, e2]
    rw [hc] at ka
    clear e1 e2 hc
    go_enter Try.func24, Try.ntmps24
    go_wp2_with fail
    refine (U.out _ _ ha.out _).mono ?_
    rintro e w1 ⟨⟨r, rfl, hr⟩, rfl⟩
    replace hr := Lib.hid hr
    go_wp2_with fail
    refine (U.out _ _ hb.out _).mono ?_
    rintro e w1 ⟨⟨s, rfl, hs⟩, rfl⟩
    replace hs := Lib.hid hs
    go_wp2_with fail
    go_ret
    exact ⟨⟨_, _, rfl, hr.out, hs.out⟩, rfl⟩
  · have e1 : trA k a b = -b := by unfold trA; simp [hc]
    have e2 : trB k a b = a := by unfold trB; simp [hc]
    rw [e1, e2]
    rw [hc] at ka
    clear e1 e2 hc
    go_enter Try.func24, Try.ntmps24
    go_wp2_with fail
    refine (U.out _ _ nb.out _).mono ?_
    rintro e w1 ⟨⟨r, rfl, hr⟩, rfl⟩
    replace hr := Lib.hid hr
    go_wp2_with fail
    refine (U.out _ _ ha.out _).mono ?_
    rintro e w1 ⟨⟨s, rfl, hs⟩, rfl⟩
    replace hs := Lib.hid hs
    go_wp2_with fail
    go_ret
    exact ⟨⟨_, _, rfl, hr.out, hs.out⟩, rfl⟩
  · have e1 : trA k a b = -a := by unfold trA; simp [hc]
    have e2 : trB k a b = -b := by unfold trB; simp [hc]
    rw [e1, e2]
    rw [hc] at ka
    clear e1 e2 hc
    go_enter Try.func24, Try.ntmps24
    go_wp2_with fail
    refine (U.out _ _ na.out _).mono ?_
    rintro e w1 ⟨⟨r, rfl, hr⟩, rfl⟩
    replace hr := Lib.hid hr
    go_wp2_with fail
    refine (U.out _ _ nb.out _).mono ?_
    rintro e w1 ⟨⟨s, rfl, hs⟩, rfl⟩
    replace hs := Lib.hid hs
    go_wp2_with fail
    go_ret
    exact ⟨⟨_, _, rfl, hr.out, hs.out⟩, rfl⟩
  · have e1 : trA k a b = b := by unfold trA; simp [hc]
    have e2 : trB k a b = -a := by unfold trB; simp [hc]
    rw [e1, e2]
    rw [hc] at ka
    clear e1 e2 hc
    go_enter Try.func24, Try.ntmps24
    go_wp2_with fail
    refine (U.out _ _ hb.out _).mono ?_
    rintro e w1 ⟨⟨r, rfl, hr⟩, rfl⟩
    replace hr := Lib.hid hr
    go_wp2_with fail
    refine (U.out _ _ na.out _).mono ?_
    rintro e w1 ⟨⟨s, rfl, hs⟩, rfl⟩
    replace hs := Lib.hid hs
    go_wp2_with fail
    go_ret
    exact ⟨⟨_, _, rfl, hr.out, hs.out⟩, rfl⟩
end Go.Proofs.Ytdbokmhkgkgnfaa
