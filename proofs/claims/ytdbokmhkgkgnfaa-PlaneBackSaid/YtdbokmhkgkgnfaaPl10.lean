/- LAYER 5: the program's Turn, its words told. -/
import Derived.Test.YtdbokmhkgkgnfaaPl9
import Derived.Test.YtdbokmhkgkgnfaaQLoad
namespace Go.Proofs.Ytdbokmhkgkgnfaa
open Go Go.RowKit
set_option linter.unusedVariables false
set_option linter.unusedSimpArgs false

def unsW (p : Nat) : Nat := if (FloatKind.f64.format.order p 0 == some .eq) = true then 0 else p
theorem unsW_is {p : Nat} {v : Int} (h : IsF p v) : IsF (unsW p) v := by
  unfold unsW
  split
  · rename_i h2
    rw [order_f h isF_0, cmp_beq] at h2
    have : v = 0 := by simpa using h2
    subst this
    exact isF_0
  · exact h
theorem unsigned_v (p : Nat) (w : World) : Calls Try.prog 49 #[.float .f64 p] w fun e w' => e = .returned (.float .f64 (unsW p)) ∧ w' = w := by
  unfold unsW
  cases h : (FloatKind.f64.format.order p 0 == some .eq)
  · go_enter Try.func49, Try.ntmps49
    go_wp2_with fail
    go_ret
    exact ⟨rfl, rfl⟩
  · go_enter Try.func49, Try.ntmps49
    go_wp2_with fail
    go_ret
    exact ⟨rfl, rfl⟩
def tR (k : Int) (p q : Nat) : Nat := unsW (if k % 4 = 1 then Op.negFloat .f64 q else if k % 4 = 2 then Op.negFloat .f64 p else if k % 4 = 3 then q else p)
def tI (k : Int) (p q : Nat) : Nat := unsW (if k % 4 = 1 then p else if k % 4 = 2 then Op.negFloat .f64 q else if k % 4 = 3 then Op.negFloat .f64 p else q)
theorem turn_cf {p q : Nat} {a b : Int} (h : CF p q a b) (k : Int) : CF (tR k p q) (tI k p q) (trA k a b) (trB k a b) := by
  have na : IsF (Op.negFloat .f64 p) (-a * 1024) := by rw [Int.neg_mul]; exact neg_is h.1
  have nb : IsF (Op.negFloat .f64 q) (-b * 1024) := by rw [Int.neg_mul]; exact neg_is h.2
  unfold tR tI trA trB
  refine ⟨unsW_is ?_, unsW_is ?_⟩
  · split
    · exact nb
    · split
      · exact na
      · split
        · exact h.2
        · exact h.1
  · split
    · exact h.1
    · split
      · exact nb
      · split
        · exact na
        · exact h.2
set_option maxRecDepth 100000 in
set_option maxHeartbeats 2000000 in
theorem turn_v (p q : Nat) (k : Int) (w : World) : Calls Try.prog 24 #[.complex .f64 p q, .int .i64 k] w fun e w' => e = .returned (.complex .f64 (tR k p q) (tI k p q)) ∧ w' = w := by
  have ka := i64_and3 k
  have U := Lib.hid unsigned_v
  have fa : Op.unary .neg (.float .f64 p) = pure (.float .f64 (Op.negFloat .f64 p)) := rfl
  have fb : Op.unary .neg (.float .f64 q) = pure (.float .f64 (Op.negFloat .f64 q)) := rfl
  have hc : k % 4 = 0 ∨ k % 4 = 1 ∨ k % 4 = 2 ∨ k % 4 = 3 := by omega
  have HR : Hid (tR k p q = unsW (if k % 4 = 1 then Op.negFloat .f64 q else if k % 4 = 2 then Op.negFloat .f64 p else if k % 4 = 3 then q else p)) := Lib.hid rfl
  have HI : Hid (tI k p q = unsW (if k % 4 = 1 then p else if k % 4 = 2 then Op.negFloat .f64 q else if k % 4 = 3 then Op.negFloat .f64 p else q)) := Lib.hid rfl
  generalize tR k p q = R at *
  generalize tI k p q = I at *
  generalize Op.negFloat .f64 p = p' at *
  generalize Op.negFloat .f64 q = q' at *
  rcases hc with hc | hc | hc | hc
  all_goals
    rw [hc] at ka
    have hr := HR.out
    have hi := HI.out
    rw [hc] at hr hi
    simp only [Int.reduceEq, if_true, if_false] at hr hi
    replace hr := Lib.hid hr
    replace hi := Lib.hid hi
    clear hc HR HI
    go_enter Try.func24, Try.ntmps24
    go_wp2_with fail
    refine (U.out _ _).mono ?_
    rintro e w1 ⟨rfl, rfl⟩
    go_wp2_with fail
    refine (U.out _ _).mono ?_
    rintro e w1 ⟨rfl, rfl⟩
    go_wp2_with fail
    go_ret
    exact ⟨by rw [hr.out, hi.out]; rfl, rfl⟩
end Go.Proofs.Ytdbokmhkgkgnfaa
