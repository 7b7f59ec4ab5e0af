/- LAYER 5: the program's Back. -/
import Derived.Test.YtdbokmhkgkgnfaaPl3
import Derived.Test.YtdbokmhkgkgnfaaMore2
import Derived.Laws.BitsAllLaws
namespace Go.Proofs.Ytdbokmhkgkgnfaa
open Go Go.RowKit
set_option linter.unusedVariables false
set_option linter.unusedSimpArgs false

theorem or_bit (n i : Nat) (hn : n < 2 ^ i) (hi : i < 40) : bits .or .u64 (n : Int) (IntKind.u64.wrap (2 ^ i)) = ((n + 2 ^ i : Nat) : Int) := by
  have hp : 2 ^ i < 2 ^ 40 := Nat.pow_lt_pow_right (by decide) hi
  have e1 : IntKind.u64.wrap (2 ^ i) = ((2 ^ i : Nat) : Int) := by
    rw [IntKind.wrap_u64, Int.natCast_pow]
    have : ((2 : Int) ^ i) = ((2 ^ i : Nat) : Int) := by rw [Int.natCast_pow]; rfl
    rw [show ((2 : Nat) : Int) = 2 from rfl, this]
    omega
  rw [e1, u64_or_nat _ _ (by omega) (by omega)]
  have e2 : n ||| 2 ^ i = n + 2 ^ i := by
    have := Nat.two_pow_add_eq_or_of_lt hn 1
    rw [Nat.mul_one] at this
    rw [Nat.or_comm, ← this, Nat.add_comm]
  rw [e2]
/-- the state of Back's loop -/
def BJ (i N p q : Nat) (T : Nat × Int × Int) : Prop := ∃ (k : Nat) (A B : Int), i + k = 40 ∧ N < 2 ^ i ∧ (A.natAbs ≤ 4194304 + i ∧ B.natAbs ≤ 4194304 + i) ∧ CF p q A B ∧ N + 2 ^ i * (plB k A B).1 = T.1 ∧ (plB k A B).2 = T.2
theorem bj_begin {p q : Nat} {a b : Int} (h : CF p q a b) (ha : a.natAbs ≤ 4194304) (hb : b.natAbs ≤ 4194304) : BJ 0 0 p q (plB 40 a b) :=
  ⟨40, a, b, rfl, by decide, ⟨by omega, by omega⟩, h, by rw [Nat.pow_zero, Nat.one_mul, Nat.zero_add], rfl⟩
theorem bj_end {N p q : Nat} {T : Nat × Int × Int} (h : BJ 40 N p q T) : N = T.1 ∧ CF p q T.2.1 T.2.2 := by
  obtain ⟨k, A, B, hk, -, -, h1, h2, h3⟩ := h
  obtain rfl : k = 0 := by omega
  rw [← h3]
  exact ⟨by simpa [plB] using h2, h1⟩
theorem cf_half : IsF 13826050856027422720 (-512) := isF_mh
theorem bj_step {i N p q : Nat} {T : Nat × Int × Int} (h : BJ i N p q T) (hi : i < 40) :
    (∃ c : Bool, (∀ w : World, Calls Try.prog 48 #[.complex .f64 p q] w fun e w' => e = .returned (.bool c) ∧ w' = w) ∧
    (c = true → (∀ (t : TypeId) (w : World), (binOp .sub t (.complex .f64 p q) (.complex .f64 4607182418800017408 0)).run Try.prog w = .ok (.complex .f64 (fsub p 4607182418800017408) (fsub q 0)) w) ∧ N < 2 ^ i ∧
      (∀ (t : TypeId) (w : World), (binOp .mul t (.complex .f64 (fsub p 4607182418800017408) (fsub q 0)) (.complex .f64 13826050856027422720 13826050856027422720)).run Try.prog w = .ok (.complex .f64 (cmR (fsub p 4607182418800017408) (fsub q 0) 13826050856027422720 13826050856027422720) (cmI (fsub p 4607182418800017408) (fsub q 0) 13826050856027422720 13826050856027422720)) w) ∧
      BJ (i + 1) (N + 2 ^ i) (cmR (fsub p 4607182418800017408) (fsub q 0) 13826050856027422720 13826050856027422720) (cmI (fsub p 4607182418800017408) (fsub q 0) 13826050856027422720 13826050856027422720) T) ∧
    (c = false → (∀ (t : TypeId) (w : World), (binOp .mul t (.complex .f64 p q) (.complex .f64 13826050856027422720 13826050856027422720)).run Try.prog w = .ok (.complex .f64 (cmR p q 13826050856027422720 13826050856027422720) (cmI p q 13826050856027422720 13826050856027422720)) w) ∧
      BJ (i + 1) N (cmR p q 13826050856027422720 13826050856027422720) (cmI p q 13826050856027422720 13826050856027422720) T)) := by
  obtain ⟨k, A, B, hk, hN, ⟨bA, bB⟩, h1, h2, h3⟩ := h
  obtain ⟨k, rfl⟩ : ∃ k', k = k' + 1 := ⟨k - 1, by omega⟩
  refine ⟨(A + B) % 2 == 1, fun w => isOdd_any h1 (by omega) (by omega) w, fun hc => ?_, fun hc => ?_⟩
  · have hd : (A + B) % 2 = 1 := by simpa using hc
    have g1 := h1.sub cf_10 (by omega) (by omega)
    have hz : B - 0 = B := Int.sub_zero B
    rw [hz] at g1
    have g2 := g1.2.half isF_mh isF_mh (by omega) (by omega) (by omega)
    refine ⟨fun t w => run_csub h1 cf_10 (by omega) (by omega) t w, hN, fun t w => run_chalf g1.2 isF_mh isF_mh (by omega) (by omega) (by omega) t w, k, (B - (A - 1)) / 2, (-(A - 1) - B) / 2, by omega, by rw [Nat.pow_succ]; omega, ⟨by omega, by omega⟩, g2.2, ?_, ?_⟩
    · simp only [plB, hd] at h2
      rw [← h2, Nat.pow_succ]
      generalize (plB k ((B - (A - 1)) / 2) ((-(A - 1) - B) / 2)).1 = x
      rw [Nat.mul_add, show (1 : Int).toNat = 1 from rfl, Nat.mul_one, Nat.mul_assoc, Nat.add_assoc]
    · simp only [plB, hd] at h3
      exact h3
  · have hd : (A + B) % 2 = 0 := by
      have : ¬ (A + B) % 2 = 1 := by simpa using hc
      omega
    have g2 := h1.half isF_mh isF_mh (by omega) (by omega) (by omega)
    refine ⟨fun t w => run_chalf h1 isF_mh isF_mh (by omega) (by omega) (by omega) t w, k, (B - A) / 2, (-A - B) / 2, by omega, by rw [Nat.pow_succ]; omega, ⟨by omega, by omega⟩, g2.2, ?_, ?_⟩
    · simp only [plB, hd, Int.sub_zero] at h2
      rw [← h2, Nat.pow_succ]
      generalize (plB k ((B - A) / 2) ((-A - B) / 2)).1 = x
      rw [show (0 : Int).toNat = 0 from rfl, Nat.zero_add, Nat.mul_assoc]
    · simp only [plB, hd, Int.sub_zero] at h3
      exact h3
/-- are both parts whole, and not too far out? -/
def inn (a b : Int) : Prop := -4194304 < a ∧ a < 4194304 ∧ -4194304 < b ∧ b < 4194304
instance (a b : Int) : Decidable (inn a b) := by unfold inn; infer_instance
theorem whl_int (a : Int) : whl (a * 1024) = decide (-4194304 < a ∧ a < 4194304) := by
  unfold whl
  rw [Bool.eq_iff_iff]
  simp only [Bool.and_eq_true, decide_eq_true_iff]
  omega
set_option maxRecDepth 100000 in
set_option maxHeartbeats 2000000 in
theorem back_bad {p q : Nat} {u v : Int} (hp : IsF p u) (hq : IsF q v) (hu : u.natAbs < 2 ^ 53) (hv : v.natAbs < 2 ^ 53) (hb : (whl u && whl v) = false) (w : World) : Calls Try.prog 22 #[.complex .f64 p q] w fun e w' => e = .returned (.tuple #[.int .u64 0, .int .i64 5]) ∧ w' = w := by
  have W1 := Lib.hid (isWhole_any hp hu)
  have W2 := Lib.hid (isWhole_any hq hv)
  clear hp hq hu hv
  cases h1 : whl u
  · rw [h1] at W1
    clear hb h1
    go_enter Try.func22, Try.ntmps22
    go_wp2_with fail
    refine (W1.out _).mono ?_
    rintro e w1 ⟨rfl, rfl⟩
    go_wp2_with fail
    go_ret2
    exact ⟨rfl, rfl⟩
  · cases h2 : whl v
    · rw [h1] at W1
      rw [h2] at W2
      clear hb h1 h2
      go_enter Try.func22, Try.ntmps22
      go_wp2_with fail
      refine (W1.out _).mono ?_
      rintro e w1 ⟨rfl, rfl⟩
      go_wp2_with fail
      refine (W2.out _).mono ?_
      rintro e w1 ⟨rfl, rfl⟩
      go_wp2_with fail
      go_ret2
      exact ⟨rfl, rfl⟩
    · rw [h1, h2] at hb; cases hb
set_option maxRecDepth 100000 in
set_option maxHeartbeats 2000000 in
theorem back_in {p q : Nat} {a b : Int} (h : CF p q a b) (hi : inn a b) (w : World) : Calls Try.prog 22 #[.complex .f64 p q] w fun e w' => e = .returned (.tuple #[.int .u64 (plN a b : Int), .int .i64 (plE a b)]) ∧ w' = w := by
  obtain ⟨i1, i2, i3, i4⟩ := hi
  have W1 := isWhole_any h.1 (by omega)
  have W2 := isWhole_any h.2 (by omega)
  rw [whl_int, decide_eq_true ⟨i1, i2⟩] at W1
  rw [whl_int, decide_eq_true ⟨i3, i4⟩] at W2
  replace W1 := Lib.hid W1
  replace W2 := Lib.hid W2
  have HJ := Lib.hid (bj_begin h (by omega) (by omega))
  have HE : Hid (plE a b = (if (plB 40 a b).2 = (0, 0) then 0 else 6)) := Lib.hid (by unfold plE; rw [if_pos ⟨i1, i2, i3, i4⟩])
  clear h i1 i2 i3 i4
  go_enter Try.func22, Try.ntmps22
  go_wp2_with fail
  refine (W1.out _).mono ?_
  rintro e w1 ⟨rfl, rfl⟩
  go_wp2_with fail
  refine (W2.out _).mono ?_
  rintro e w1 ⟨rfl, rfl⟩
  go_wp2_with fail
  go_loop [0, 4, 16] (fun zv nv iv => ∃ i N p q : Nat, zv = .complex .f64 p q ∧ nv = .int .u64 (N : Int) ∧ iv = .int .i64 (i : Int) ∧ i ≤ 40 ∧ Hid (BJ i N p q (plB 40 a b))) (fun _ _ iv => 40 - (intOf iv).toNat)
  case atStart => exact ⟨0, 0, p, q, rfl, rfl, rfl, by decide, HJ⟩
  case round =>
    clear HJ W1 W2
    obtain ⟨i, N, p, q, rfl, rfl, rfl, hi, HJ⟩ := hrel
    by_cases hlt : i < 40
    · obtain ⟨c, s1, s2, s3⟩ := bj_step HJ.out hlt
      replace s1 := Lib.hid s1
      have hlt1 : (i : Int) < 40 := by omega
      have HI := Lib.hid hlt
      clear hlt hi HJ
      cases c
      · obtain ⟨k1, HN⟩ := s3 rfl
        generalize cmR p q 13826050856027422720 13826050856027422720 = r at *
        generalize cmI p q 13826050856027422720 13826050856027422720 = s at *
        replace HN := Lib.hid HN
        clear s2 s3
        go_wp2_with fail
        refine (s1.out _).mono ?_
        rintro e w1 ⟨rfl, rfl⟩
        go_wp2_with fail
        go_round
        case rel => exact ⟨i + 1, N, r, s, rfl, rfl, by go_num, HI.out, HN⟩
        case measure => have := HI.out; simp [intOf]; omega
      · obtain ⟨k1, hN, k2, HN⟩ := s2 rfl
        have ko := or_bit N i hN HI.out
        generalize cmR (fsub p 4607182418800017408) (fsub q 0) 13826050856027422720 13826050856027422720 = r at *
        generalize cmI (fsub p 4607182418800017408) (fsub q 0) 13826050856027422720 13826050856027422720 = s at *
        generalize fsub p 4607182418800017408 = p1 at *
        generalize fsub q 0 = q1 at *
        generalize N + 2 ^ i = M at *
        replace HN := Lib.hid HN
        clear s2 s3 hN
        go_wp2_with fail
        refine (s1.out _).mono ?_
        rintro e w1 ⟨rfl, rfl⟩
        go_wp2_with fail
        go_round
        case rel => exact ⟨i + 1, M, r, s, rfl, by go_num, by go_num, HI.out, HN⟩
        case measure => have := HI.out; simp [intOf]; omega
    · obtain rfl : i = 40 := by omega
      obtain ⟨e1, e2⟩ := bj_end HJ.out
      have HV : Hid (plN a b = if plE a b = 0 then N else 0) := Lib.hid (by unfold plN; rw [e1])
      have ho : ((FloatKind.f64.format.order p 0 == some .eq) && (FloatKind.f64.format.order q 0 == some .eq)) = decide ((plB 40 a b).2.1 = 0 ∧ (plB 40 a b).2.2 = 0) := cf_eq e2 cf_0
      clear HJ e1 e2 hlt hi
      by_cases hz : (plB 40 a b).2.1 = 0 ∧ (plB 40 a b).2.2 = 0
      · rw [decide_eq_true hz] at ho
        have hz2 : (plB 40 a b).2 = (0, 0) := Prod.ext hz.1 hz.2
        have E0 : Hid (plE a b = 0) := Lib.hid (by rw [HE.out, if_pos hz2])
        have E1 : Hid (plN a b = N) := Lib.hid (by rw [HV.out, if_pos E0.out])
        clear HE HV hz hz2
        rw [Bool.and_eq_true] at ho
        obtain ⟨o1, o2⟩ := ho
        go_wp2_with fail
        go_ret2
        exact ⟨by rw [E0.out, E1.out]; rfl, rfl⟩
      · rw [decide_eq_false hz] at ho
        have hz2 : ¬ (plB 40 a b).2 = (0, 0) := fun h => hz ⟨by rw [h], by rw [h]⟩
        have E0 : Hid (plE a b = 6) := Lib.hid (by rw [HE.out, if_neg hz2])
        have E1 : Hid (plN a b = 0) := Lib.hid (by rw [HV.out, if_neg (by rw [E0.out]; decide)])
        clear HE HV hz hz2
        go_wp2_with fail
        go_ret2
        exact ⟨by rw [E0.out, E1.out]; rfl, rfl⟩
end Go.Proofs.Ytdbokmhkgkgnfaa
