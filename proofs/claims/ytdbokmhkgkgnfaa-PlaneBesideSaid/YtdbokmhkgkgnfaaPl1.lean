/- LAYER 5: the program's isWhole, isOdd, unsigned, Of. -/
import Derived.Test.YtdbokmhkgkgnfaaFl3
import Derived.Test.YtdbokmhkgkgnfaaPlP
import Derived.Test.YtdbokmhkgkgnfaaFrame
import Derived.Test.YtdbokmhkgkgnfaaRowW
import Derived.Laws.Externs
import Derived.LoopTactic
namespace Go.Proofs.Ytdbokmhkgkgnfaa
open Go Go.RowKit
set_option linter.unusedVariables false
set_option linter.unusedSimpArgs false

theorem arch_run {p : Nat} {v : Int} (h : IsF p v) (w : World) : (callFunc 64 #[.float .f64 p]).run Try.prog w = .ok (.value (.float .f64 (ftrunc p))) w := by
  rw [run_callFunc_extern (e := Extern.MathFloor.toIntegral "math.archTrunc" .zero) Try.func64 (by kernel_rfl) (by kernel_rfl) (by kernel_rfl) (by kernel_rfl)]
  obtain ⟨s, m, i, h1, _⟩ := h
  have h2 : FloatKind.f64.decode p = .number s m i := h1
  have e : (Extern.MathFloor.toIntegral "math.archTrunc" .zero #[.float .f64 p]).run Try.prog w = .ok (.float .f64 (ftrunc p)) w := by
    change Sem.run Try.prog (Extern.MathFloor.toIntegral.match_1 (fun _ => Sem Value) (FloatKind.f64.decode p) _ _) w = _
    have h3 : ftrunc p = FloatKind.f64.encode ((FloatKind.f64.decode p).integral .zero) := rfl
    rw [h3]
    generalize FloatKind.f64.decode p = d at *
    subst h2
    rfl
  rw [e]
  rfl
theorem trunc_any {p : Nat} {v : Int} (h : IsF p v) (w : World) : Calls Try.prog 58 #[.float .f64 p] w fun e w' => e = .returned (.float .f64 (ftrunc p)) ∧ w' = w := by
  have hd := arch_run h
  go_enter Try.func58, Try.ntmps58
  go_wp2
  all_goals (go_ret; exact ⟨rfl, rfl⟩)
theorem isF_far : IsF 4706261610602168320 (4194304 * 1024) := by
  have h := ofInt_is 4194304 (by decide)
  have e : floatOfInt .f64 4194304 = 4706261610602168320 := by decide
  rwa [e] at h
theorem isF_nfar : IsF 13929633647456944128 (-4194304 * 1024) := by
  have h := ofInt_is (-4194304) (by decide)
  have e : floatOfInt .f64 (-4194304) = 13929633647456944128 := by decide
  rwa [e] at h
theorem isF_1 : IsF 4607182418800017408 (1 * 1024) := by
  have h := ofInt_is 1 (by decide)
  have e : floatOfInt .f64 1 = 4607182418800017408 := by decide
  rwa [e] at h
theorem isF_m1 : IsF 13830554455654793216 (-1 * 1024) := by
  have h := ofInt_is (-1) (by decide)
  have e : floatOfInt .f64 (-1) = 13830554455654793216 := by decide
  rwa [e] at h
theorem pow_join (a b c d : Nat) (h : a + b = c + d) : 2 ^ a * 2 ^ b = 2 ^ c * 2 ^ d := by rw [← Nat.pow_add, ← Nat.pow_add, h]
theorem isF_mh : IsF 13826050856027422720 (-512) := by
  refine ⟨true, 2 ^ 52, -53, by decide, 1021, by simp [E2], ?_⟩
  have h : (2 ^ 52 * 2 ^ 1021 : Nat) = 512 * 2 ^ E1 := by rw [show (512 : Nat) = 2 ^ 9 from rfl]; exact pow_join 52 1021 9 E1 rfl
  rw [h, sg_mul, show sg true 512 = -512 from rfl]
/-- is a part whole, and not too far out? -/
def whl (v : Int) : Bool := decide (-4194304 * 1024 < v) && (decide (v < 4194304 * 1024) && decide (v % 1024 = 0))
set_option maxHeartbeats 2000000 in
theorem isWhole_any {p : Nat} {v : Int} (h : IsF p v) (hv : v.natAbs < 2 ^ 53) (w : World) : Calls Try.prog 47 #[.float .f64 p] w fun e w' => e = .returned (.bool (whl v)) ∧ w' = w := by
  have e1 := order_f h isF_nfar
  have e2 := order_f h isF_far
  have e3 := order_f h (trunc_is h hv)
  have HT := Lib.hid (trunc_any h)
  by_cases c1 : -4194304 * 1024 < v
  · rw [cmp_gt c1] at e1
    by_cases c2 : v < 4194304 * 1024
    · rw [cmp_lt c2] at e2
      have HR : Hid ((FloatKind.f64.format.order p (ftrunc p) == some .eq) = whl v) := Lib.hid (by
        rw [e3, cmp_beq]
        unfold whl
        rw [decide_eq_true c1, decide_eq_true c2, Bool.true_and, Bool.true_and, Bool.eq_iff_iff, decide_eq_true_iff, decide_eq_true_iff]
        exact ⟨fun h => by omega, fun h => (Int.tdiv_mul_cancel (Int.dvd_of_emod_eq_zero h)).symm⟩)
      clear e3
      go_enter Try.func47, Try.ntmps47
      go_wp2_with fail
      refine (HT.out _).mono ?_
      rintro e w1 ⟨rfl, rfl⟩
      go_wp2_with fail
      go_ret
      exact ⟨by rw [← HR.out]; rfl, rfl⟩
    · have hc : v = 4194304 * 1024 ∨ 4194304 * 1024 < v := by omega
      have HR : Hid (whl v = false) := Lib.hid (by unfold whl; rw [decide_eq_false c2]; simp)
      have e4 : FloatKind.f64.format.order p 4706261610602168320 = some .eq ∨ FloatKind.f64.format.order p 4706261610602168320 = some .gt := by
        rw [e2]
        rcases hc with hc | hc
        · left; rw [cmp_eq hc]
        · right; rw [cmp_gt hc]
      clear e2 e3 hc
      rcases e4 with e4 | e4
      all_goals
        go_enter Try.func47, Try.ntmps47
        go_wp2_with fail
        go_ret
        exact ⟨by rw [HR.out]; rfl, rfl⟩
  · have hc : v = -4194304 * 1024 ∨ v < -4194304 * 1024 := by omega
    have HR : Hid (whl v = false) := Lib.hid (by unfold whl; rw [decide_eq_false c1]; simp)
    have e4 : FloatKind.f64.format.order p 13929633647456944128 = some .eq ∨ FloatKind.f64.format.order p 13929633647456944128 = some .lt := by
      rw [e1]
      rcases hc with hc | hc
      · left; rw [cmp_eq hc]
      · right; rw [cmp_lt hc]
    clear e1 e2 e3 hc
    rcases e4 with e4 | e4
    all_goals
      go_enter Try.func47, Try.ntmps47
      go_wp2_with fail
      go_ret
      exact ⟨by rw [HR.out]; rfl, rfl⟩
theorem i64_and1 (a : Int) : bits .and .i64 a 1 = a % 2 := by
  show IntKind.i64.wrap ((BitVec.ofInt 64 a &&& BitVec.ofInt 64 1).toNat : Int) = _
  rw [BitVec.toNat_and, show (BitVec.ofInt 64 (1 : Int)).toNat = 2 ^ 1 - 1 by decide, Nat.and_two_pow_sub_one_eq_mod, BitVec.toNat_ofInt]
  rw [IntKind.wrap_i64]
  omega
theorem i64_and3 (a : Int) : bits .and .i64 a 3 = a % 4 := by
  show IntKind.i64.wrap ((BitVec.ofInt 64 a &&& BitVec.ofInt 64 3).toNat : Int) = _
  rw [BitVec.toNat_and, show (BitVec.ofInt 64 (3 : Int)).toNat = 2 ^ 2 - 1 by decide, Nat.and_two_pow_sub_one_eq_mod, BitVec.toNat_ofInt]
  rw [IntKind.wrap_i64]
  omega
theorem isOdd_any {p q : Nat} {a b : Int} (h : CF p q a b) (ha : a.natAbs < 2 ^ 40) (hb : b.natAbs < 2 ^ 40) (w : World) : Calls Try.prog 48 #[.complex .f64 p q] w fun e w' => e = .returned (.bool ((a + b) % 2 == 1)) ∧ w' = w := by
  have k1 := run_fadd (P := Try.prog) h.1 h.2 (by omega)
  obtain ⟨e1, f1⟩ := add_is h.1 h.2 (by omega)
  rw [← Int.add_mul] at f1
  have k2 := fun w => run_fint (P := Try.prog) f1 (by omega) 49 2 w (by kernel_rfl) Try.underlying2
  have k3 := i64_and1 (a + b)
  clear e1 f1 h
  go_enter Try.func48, Try.ntmps48
  go_wp2_with fail
  go_ret
  exact ⟨rfl, rfl⟩
/-- the sign off a nought -/
theorem unsigned_any {p : Nat} {v : Int} (h : IsF p v) (w : World) : Calls Try.prog 49 #[.float .f64 p] w fun e w' => (∃ q, e = .returned (.float .f64 q) ∧ IsF q v) ∧ w' = w := by
  have e1 := order_f h isF_0
  have e2 : (FloatKind.f64.format.order p 0 == some .eq) = decide (v = 0) := by rw [e1, cmp_beq]
  have HH := Lib.hid h
  clear h e1
  by_cases hv : v = 0
  · subst hv
    rw [decide_eq_true rfl] at e2
    go_enter Try.func49, Try.ntmps49
    go_wp2_with fail
    go_ret
    exact ⟨⟨_, rfl, isF_0⟩, rfl⟩
  · rw [decide_eq_false hv] at e2
    go_enter Try.func49, Try.ntmps49
    go_wp2_with fail
    go_ret
    exact ⟨⟨_, rfl, HH.out⟩, rfl⟩
end Go.Proofs.Ytdbokmhkgkgnfaa
