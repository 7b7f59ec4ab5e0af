/- THE LIBRARY's Div64. -/
import Derived.Test.YtggemncdnclhnaaDivPure
import Derived.Test.YtggemncdnclhnaaBigLen
import Derived.Deep.DeepCutAuto
import Derived.Deep.Cut
import Derived.Deep.CutBlock
namespace Go.Proofs.Ytggemncdnclhnaa
open Go.RowKit
set_option linter.unusedVariables false
set_option linter.unusedSimpArgs false

theorem lz64_any (x : Nat) (w : World) (h : (x : Int) ≤ 18446744073709551615) :
    Calls Try.prog 65 #[.int .u64 (x : Int)] w fun e w' => e = .returned (.int .i64 ((64 - blen x : Nat) : Int)) ∧ w' = w := by
  have := Try.bits_LeadingZeros64 (x : Int) w (by omega) h
  rw [Int.toNat_natCast, lib_blen x (by omega)] at this
  have hb := blen_le x h
  have e : ((64 - blen x : Nat) : Int) = 64 - (blen x : Int) := by omega
  rw [e]
  exact this

/-- What the first steps reckon. -/
structure Pre (hi lo y0 s y p t h l u v d1 d0 : Nat) : Prop where
  hs : s < 64
  y2 : y0 * 2 ^ s = y
  ylt : y < 18446744073709551616
  ylo : 9223372036854775808 ≤ y
  p2 : y / 4294967296 = p
  t2 : y % 4294967296 = t
  h2 : hi * 2 ^ s = h
  hlt : h < 18446744073709551616
  l2 : lo / 2 ^ (64 - s) = l
  u2 : h ||| l = u
  usum : h + l = u
  ulty : u < y
  v2 : lo * 2 ^ s % 18446744073709551616 = v
  d12 : v / 4294967296 = d1
  d02 : v % 4294967296 = d0
theorem pre_of (hi lo y0 : Nat) (hy : (y0 : Int) ≤ 18446744073709551615) (hlo : (lo : Int) ≤ 18446744073709551615) (h : hi < y0) :
    ∃ y p t h l u v d1 d0, Pre hi lo y0 (64 - blen y0) y p t h l u v d1 d0 := by
  have hb := blen_le y0 hy
  have h1 := blen_spec y0
  have h2 := blen_low y0 (by omega)
  have hb1 : 1 ≤ blen y0 := by
    refine Nat.one_le_iff_ne_zero.2 fun e => ?_
    rw [e] at h1
    simp at h1
    omega
  generalize hs : 64 - blen y0 = s
  have hs64 : s < 64 := by omega
  have hbl : blen y0 = 64 - s := by omega
  rw [hbl] at h1 h2
  have hp : 0 < 2 ^ s := Nat.pow_pos (by decide)
  have e64 : (2 : Nat) ^ (64 - s) * 2 ^ s = 18446744073709551616 := (pow_split (by omega)).symm
  have e63 : (2 : Nat) ^ (64 - s - 1) * 2 ^ s = 9223372036854775808 := by
    rw [← Nat.pow_add, show 64 - s - 1 + s = 63 by omega]
  have ylt : y0 * 2 ^ s < 18446744073709551616 := by rw [← e64]; exact Nat.mul_lt_mul_of_pos_right h1 hp
  have ylo : 9223372036854775808 ≤ y0 * 2 ^ s := by rw [← e63]; exact Nat.mul_le_mul_right _ h2
  have hl : lo / 2 ^ (64 - s) < 2 ^ s := by
    rw [Nat.div_lt_iff_lt_mul (Nat.pow_pos (by decide)), Nat.mul_comm, e64]
    omega
  have hm : (hi + 1) * 2 ^ s ≤ y0 * 2 ^ s := Nat.mul_le_mul_right _ h
  rw [Nat.add_mul, Nat.one_mul] at hm
  have hor : hi * 2 ^ s ||| lo / 2 ^ (64 - s) = hi * 2 ^ s + lo / 2 ^ (64 - s) := by
    rw [Nat.mul_comm, Nat.two_pow_add_eq_or_of_lt hl]
  exact ⟨_, _, _, _, _, _, _, _, _, ⟨hs64, rfl, ylt, ylo, rfl, rfl, rfl, by omega, rfl, rfl, hor.symm, by rw [hor]; omega, rfl, rfl, rfl⟩⟩

/-- A digit of a quotient, and what is left. -/
structure Digit (u d y Q R : Nat) : Prop where
  q : (u * 4294967296 + d) / y = Q
  r : (u * 4294967296 + d) % y = R
theorem Digit.of (u d y : Nat) : ∃ Q R, Digit u d y Q R := ⟨_, _, rfl, rfl⟩
theorem Digit.small {u d y Q R : Nat} (h : Digit u d y Q R) (hu : u < y) (hd : d < 4294967296) : Q < 4294967296 := by
  rw [← h.q, Nat.div_lt_iff_lt_mul (by omega)]
  have h3 : (u + 1) * 4294967296 ≤ y * 4294967296 := Nat.mul_le_mul_right _ hu
  rw [Nat.mul_comm 4294967296 y]
  omega
theorem Digit.rest {u d y Q R : Nat} (h : Digit u d y Q R) (hy : 0 < y) : R < y := by rw [← h.r]; exact Nat.mod_lt _ hy
theorem Digit.wraps {u d y Q R : Nat} (h : Digit u d y Q R) (hy : 0 < y) (hy2 : y < 18446744073709551616) :
    IntKind.u64.wrap (IntKind.u64.wrap (IntKind.u64.wrap ((u : Int) * 4294967296) + (d : Int)) - IntKind.u64.wrap ((Q : Int) * (y : Int))) = (R : Int) := by
  have hh := Nat.div_add_mod (u * 4294967296 + d) y
  have hlt := h.rest hy
  rw [h.q, h.r] at hh
  have hm : ((Q : Int) * (y : Int)) = ((y * Q : Nat) : Int) := by rw [Nat.mul_comm]; rfl
  rw [hm]
  clear h hm
  generalize y * Q = z at *
  simp only [IntKind.wrap_u64]
  omega
theorem Est.foundQ {u d p t y q r Q R : Nat} (h : Est u d p t y q r) (g : Digit u d y Q R) (hc : q * t ≤ 4294967296 * r + d) : q = Q := (h.found hc).trans g.q
theorem Est.brokenQ {u d p t y q r Q R : Nat} (h : Est u d p t y q r) (g : Digit u d y Q R) (hr : 4294967296 ≤ r) : q = Q := (h.broken hr).trans g.q
theorem all_digits {hi lo y0 s y p t h l u v d1 d0 Q1 R1 Q0 R0 : Nat} (F : Pre hi lo y0 s y p t h l u v d1 d0) (g1 : Digit u d1 y Q1 R1) (g0 : Digit R1 d0 y Q0 R0) :
    (hi * 18446744073709551616 + lo) / y0 = Q1 * 4294967296 + Q0 ∧ (hi * 18446744073709551616 + lo) % y0 = R0 / 2 ^ s := by
  have hN := moved_up hi lo s (by have := F.hs; omega)
  rw [F.h2, F.l2, F.usum, F.v2, F.d12, F.d02] at hN
  obtain ⟨HQF, HRF⟩ := div_moved (hi * 18446744073709551616 + lo) y0 s
  rw [F.y2, hN] at HQF HRF
  obtain ⟨HT1, HT2⟩ := two_digits (u * 4294967296 + d1) d0 y
  rw [g1.q, g1.r, g0.q] at HT1
  rw [g1.r, g0.r] at HT2
  rw [HT1] at HQF
  rw [HT2] at HRF
  exact ⟨HQF.symm, HRF.symm⟩
theorem wrap_small (x : Nat) (h : x < 18446744073709551616) : IntKind.u64.wrap (x : Int) = (x : Int) := by rw [IntKind.wrap_u64]; omega
theorem prod_wrap (q t : Nat) (hq : q < 4294967296) (ht : t < 4294967296) : IntKind.u64.wrap ((q : Int) * (t : Int)) = ((q * t : Nat) : Int) := by
  have h1 : q * t ≤ 4294967295 * 4294967295 := Nat.mul_le_mul (by omega) (by omega)
  have hm : ((q : Int) * (t : Int)) = ((q * t : Nat) : Int) := rfl
  rw [hm, IntKind.wrap_u64]
  generalize q * t = z at *
  omega
theorem first_wrap (u p : Nat) (hu : u < 18446744073709551616) : IntKind.u64.wrap (((u / p : Nat) : Int) * (p : Int)) = ((u / p * p : Nat) : Int) ∧ ((u : Int) - ((u / p * p : Nat) : Int)) = ((u % p : Nat) : Int) ∧ u / p * p ≤ u ∧ u / p ≤ u := by
  have h := Nat.div_add_mod u p
  have hm : (((u / p : Nat) : Int) * (p : Int)) = ((u / p * p : Nat) : Int) := rfl
  rw [Nat.mul_comm] at h
  have hd := Nat.div_le_self u p
  rw [hm, IntKind.wrap_u64]
  generalize u / p * p = z at *
  generalize u % p = r at *
  omega

set_option maxHeartbeats 8000000 in
set_option maxRecDepth 100000 in
theorem div64_big (hi lo y0 : Nat) (w : World) (hh : 0 < hi) (hhy : hi < y0) (hlo : (lo : Int) ≤ 18446744073709551615) (hy : (y0 : Int) ≤ 18446744073709551615) :
    Calls Try.prog 60 #[.int .u64 (hi : Int), .int .u64 (lo : Int), .int .u64 (y0 : Int)] w fun e w' => e = .returned (.tuple #[.int .u64 (((hi * 18446744073709551616 + lo) / y0 : Nat) : Int), .int .u64 (((hi * 18446744073709551616 + lo) % y0 : Nat) : Int)]) ∧ Nx w w' := by
  obtain ⟨y, p, t, h, l, u, v, d1, d0, F⟩ := pre_of hi lo y0 hy hlo hhy
  have HLZ := Lib.hid (fun w => lz64_any y0 w hy)
  generalize 64 - blen y0 = s at *
  have hy0 : (y0 : Int) ≠ 0 := by omega
  have hhi : ((hi : Int) == 0) = false := by simp; omega
  have hy1 : ((y0 : Int) == 0) = false := by simp; omega
  have hle : ¬ ((y0 : Int) ≤ (hi : Int)) := by omega
  have hs0 : (0 : Int) ≤ (s : Int) := by omega
  have hs1 : (s : Int) ≤ 63 := by have := F.hs; omega
  have HF := Lib.hid F
  clear F
  obtain ⟨Q1, R1, G1⟩ := Digit.of u d1 y
  obtain ⟨Q0, R0, G0⟩ := Digit.of R1 d0 y
  have HFIN := Lib.hid (all_digits HF.out G1 G0)
  obtain ⟨hsl, y2, ylt, ylo, p2, t2, h2, hlt, l2, u2, usum, ulty, v2, d12, d02⟩ := HF.out
  have HYPT : y = p * 4294967296 + t := by omega
  have HTL : t < 4294967296 := by omega
  have HUY : u < y := ulty
  have hY : IntKind.u64.wrap ((y0 : Int) * 2 ^ s) = (y : Int) := by rw [wrap_pow, y2, Nat.mod_eq_of_lt ylt]
  have hP : (y : Int) / 4294967296 = (p : Int) := by omega
  have hT : bits .and .u64 (y : Int) 4294967295 = (t : Int) := by
    have := u64_and_nat y 4294967295 ylt (by decide)
    rw [show (4294967295 : Nat) = 2 ^ 32 - 1 by decide, Nat.and_two_pow_sub_one_eq_mod] at this
    rw [← t2]
    exact this
  have hH : IntKind.u64.wrap ((hi : Int) * 2 ^ s) = (h : Int) := by rw [wrap_pow, h2, Nat.mod_eq_of_lt hlt]
  have hL : (lo : Int) / 2 ^ (64 - s) = (l : Int) := by rw [div_pow, l2]
  have hU : bits .or .u64 (h : Int) (l : Int) = (u : Int) := by rw [u64_or_nat h l hlt (by omega), u2]
  have hV : IntKind.u64.wrap ((lo : Int) * 2 ^ s) = (v : Int) := by rw [wrap_pow, v2]
  have hD1 : (v : Int) / 4294967296 = (d1 : Int) := by omega
  have hD0 : bits .and .u64 (v : Int) 4294967295 = (d0 : Int) := by
    have := u64_and_nat v 4294967295 (by rw [← v2]; exact Nat.mod_lt _ (by decide)) (by decide)
    rw [show (4294967295 : Nat) = 2 ^ 32 - 1 by decide, Nat.and_two_pow_sub_one_eq_mod] at this
    rw [← d02]
    exact this
  have hd1 : (d1 : Int) ≤ 4294967295 := by have : v < 18446744073709551616 := by rw [← v2]; exact Nat.mod_lt _ (by decide)
                                           omega
  have hd0 : (d0 : Int) ≤ 4294967295 := by omega
  have hp1 : (2147483648 : Int) ≤ (p : Int) := by omega
  have hp3 : (p : Int) ≤ 4294967295 := by omega
  have hu3 : (u : Int) ≤ 18446744073709551615 := by omega
  have hp4 : ((p : Int) == 0) = false := by simp; omega
  have hp5 : (p : Int) ≠ 0 := by omega
  obtain ⟨hw1, hw2, hw3, hw4⟩ := first_wrap u p (by omega)
  have hqd : (u : Int) / (p : Int) = ((u / p : Nat) : Int) := rfl
  have hqt : (u : Int).tdiv (p : Int) = ((u / p : Nat) : Int) := rfl
  have hqbd : u / p < 8589934592 := by rw [Nat.div_lt_iff_lt_mul (by omega)]; omega
  have hwq := wrap_small (u / p) (by omega)
  have hwr := wrap_small (u % p) (by have := Nat.mod_le u p; omega)
  have HE0 := Lib.hid (Est.start HYPT HTL HUY (show d1 < 4294967296 by omega) (show 0 < p by omega))
  have HR0 := Lib.hid (show u % p < 4294967296 from Nat.lt_trans (Nat.mod_lt _ (by omega)) (by omega))
  have HQB := Lib.hid hqbd
  clear hqbd
  have hrw1 := Lib.hid (G1.wraps (by omega) ylt)
  have hrw0 := Lib.hid (G0.wraps (by omega) ylt)
  have HR1Y := Lib.hid (G1.rest (by omega))
  have HQ1B := Lib.hid (G1.small HUY (by omega))
  have HQ0B := Lib.hid (G0.small HR1Y.out (by omega))
  have HG1 := Lib.hid G1
  have HG0 := Lib.hid G0
  clear G1 G0
  have HYP := Lib.hid HYPT
  have HTL' := Lib.hid HTL
  have HYL := Lib.hid ylt
  have HUY' := Lib.hid HUY
  have HW3 := Lib.hid hw3
  have HW4 := Lib.hid hw4
  have hqb : ((u / p : Nat) : Int) ≤ 8589934591 := by have := HQB.out; omega
  have hzl : (((u / p * p : Nat)) : Int) ≤ (u : Int) := by omega
  clear hsl y2 ylt ylo p2 t2 h2 hlt l2 u2 usum ulty v2 d12 d02 HF HYPT HTL HUY hw3 hw4 hhy hh
  generalize u / p * p = z0 at *
  generalize u / p = q0 at *
  generalize u % p = r0 at *
  go_enter Try.func60, Try.ntmps60
  go_wp2_with fail
  refine (HLZ.out _).mono ?_
  rintro e w1 ⟨rfl, rfl⟩
  clear HLZ
  go_upto_block 0 with (fail)
  go_cut [15, 16] (fun sq _ wx => sq = .int .u64 (Q1 : Int) ∧ wx = w1)
  case first =>
    go_wp2_with fail
    go_loop [15, 16] (fun qv rv => ∃ q r : Nat, Hid (Est u d1 p t y q r) ∧ qv = .int .u64 (q : Int) ∧ rv = .int .u64 (r : Int) ∧ r < 4294967296 ∧ q < 8589934592) (fun qv _ => (intOf qv).toNat)
    case atStart => exact ⟨q0, r0, HE0, rfl, rfl, HR0.out, HQB.out⟩
    case round =>
      obtain ⟨q, r, HE, rfl, rfl, hr, hq⟩ := hrel
      have hqle : (q : Int) ≤ 8589934591 := by omega
      have hrle : (r : Int) ≤ 4294967295 := by omega
      have HD := Lib.hid HE.out.down
      have HF := Lib.hid (HE.out.foundQ HG1.out)
      replace hr := Lib.hid hr
      replace hq := Lib.hid hq
      by_cases c1 : 4294967296 ≤ q
      · have hD := HD.out (.inl c1)
        have hc1 : (4294967296 : Int) ≤ (q : Int) := by omega
        have eq1 : (q : Int) - 1 = ((q - 1 : Nat) : Int) := by omega
        have er1 : (r : Int) + (p : Int) = ((r + p : Nat) : Int) := by omega
        have hrb : ((r + p : Nat) : Int) ≤ 8589934591 := by omega
        have hqb2 : ((q - 1 : Nat) : Int) ≤ 8589934591 := by omega
        have HLT := Lib.hid (show q - 1 < q by omega)
        have HQ2 := Lib.hid (show q - 1 < 8589934592 by omega)
        clear HD HF
        have HB := Lib.hid (hD.brokenQ HG1.out)
        replace hD := Lib.hid hD
        generalize q - 1 = q' at *
        generalize r + p = r' at *
        by_cases c3 : 4294967296 ≤ r'
        · have hc3 : (4294967296 : Int) ≤ (r' : Int) := by omega
          have HB2 := Lib.hid (HB.out c3)
          clear HB
          go_wp2
          go_meet
          exact ⟨by rw [HB2.out], rfl⟩
        · have hc3 : decide ((4294967296 : Int) ≤ (r' : Int)) = false := by rw [decide_eq_false_iff_not]; omega
          have hc4 := Lib.hid (show r' < 4294967296 by omega)
          clear HB c3
          replace c1 := Lib.hid c1
          go_wp2
          go_round
          case rel => exact ⟨q', r', hD, rfl, rfl, hc4.out, HQ2.out⟩
          case measure => have := HLT.out; simp [intOf]; omega
      · have hc1 : decide ((4294967296 : Int) ≤ (q : Int)) = false := by rw [decide_eq_false_iff_not]; omega
        have hm5 : IntKind.u64.wrap (4294967296 * (r : Int)) = ((4294967296 * r : Nat) : Int) := by rw [IntKind.wrap_u64]; omega
        have hm6 : IntKind.u64.wrap (((4294967296 * r : Nat) : Int) + (d1 : Int)) = ((4294967296 * r + d1 : Nat) : Int) := by rw [IntKind.wrap_u64]; omega
        have hz := prod_wrap q t (by omega) HTL'.out
        by_cases c2 : 4294967296 * r + d1 < q * t
        · have hD := HD.out (.inr c2)
          have hc2 := c2
          have hq0 : 0 < q := by
            refine Nat.pos_of_ne_zero fun e => ?_
            subst e
            simp at c2
          have eq1 : (q : Int) - 1 = ((q - 1 : Nat) : Int) := by omega
          have hq1 : (1 : Int) ≤ (q : Int) := by omega
          have er1 : (r : Int) + (p : Int) = ((r + p : Nat) : Int) := by omega
          have hrb : ((r + p : Nat) : Int) ≤ 8589934591 := by omega
          have hqb2 : ((q - 1 : Nat) : Int) ≤ 8589934591 := by omega
          have HLT := Lib.hid (show q - 1 < q by omega)
          have HQ2 := Lib.hid (show q - 1 < 8589934592 by omega)
          clear HD HF c2
          have HB := Lib.hid (hD.brokenQ HG1.out)
          replace hD := Lib.hid hD
          generalize q * t = z at *
          generalize 4294967296 * r + d1 = m6 at *
          generalize 4294967296 * r = m5 at *
          have hc2i : (m6 : Int) < (z : Int) := by omega
          generalize q - 1 = q' at *
          generalize r + p = r' at *
          by_cases c3 : 4294967296 ≤ r'
          · have hc3 : (4294967296 : Int) ≤ (r' : Int) := by omega
            have HB2 := Lib.hid (HB.out c3)
            clear HB
            go_wp2
            go_meet
            exact ⟨by rw [HB2.out], rfl⟩
          · have hc3 : decide ((4294967296 : Int) ≤ (r' : Int)) = false := by rw [decide_eq_false_iff_not]; omega
            have hc4 := Lib.hid (show r' < 4294967296 by omega)
            clear HB c3
            replace c1 := Lib.hid c1
            replace hq0 := Lib.hid hq0
            go_wp2
            go_round
            case rel => exact ⟨q', r', hD, rfl, rfl, hc4.out, HQ2.out⟩
            case measure => have := HLT.out; simp [intOf]; omega
        · have hc2 : q * t ≤ 4294967296 * r + d1 := by omega
          have HB2 := Lib.hid ((HF.out (by omega)))
          clear HD HF c2
          replace c1 := Lib.hid c1
          generalize q * t = z at *
          generalize 4294967296 * r + d1 = m6 at *
          generalize 4294967296 * r = m5 at *
          have hc2i : (z : Int) ≤ (m6 : Int) := by omega
          go_wp2
          go_meet
          exact ⟨by rw [HB2.out], rfl⟩
  case rest =>
    obtain ⟨rfl, rfl⟩ := hcut
    clear hqd hqt hwq hwr hw1 hw2 hqb hzl HE0 HR0 HQB HW3 HW4 hU hH hL hY hhi hy1 hle hy0 hP hT hV hD1 hD0
    have hrw := hrw1.out
    clear hrw1
    have hr1le : (R1 : Int) ≤ 18446744073709551615 := by have := HR1Y.out; have := HYL.out; omega
    have hq1le : (Q1 : Int) ≤ 4294967295 := by have := HQ1B.out; omega
    have hyle : (y : Int) ≤ 18446744073709551615 := by have := HYL.out; omega
    obtain ⟨hw1, hw2, hw3, hw4⟩ := first_wrap R1 p (by omega)
    have hqd : (R1 : Int) / (p : Int) = ((R1 / p : Nat) : Int) := rfl
    have hqt : (R1 : Int).tdiv (p : Int) = ((R1 / p : Nat) : Int) := rfl
    have hqbd : R1 / p < 8589934592 := by rw [Nat.div_lt_iff_lt_mul (by omega)]; omega
    have hwq := wrap_small (R1 / p) (by omega)
    have hwr := wrap_small (R1 % p) (by have := Nat.mod_le R1 p; omega)
    have HE9 := Lib.hid (Est.start HYP.out HTL'.out HR1Y.out (show d0 < 4294967296 by omega) (show 0 < p by omega))
    have HR9 := Lib.hid (show R1 % p < 4294967296 from Nat.lt_trans (Nat.mod_lt _ (by omega)) (by omega))
    have HQB9 := Lib.hid hqbd
    have hqb : ((R1 / p : Nat) : Int) ≤ 8589934591 := by omega
    clear hqbd
    have hzl : (((R1 / p * p : Nat)) : Int) ≤ (R1 : Int) := by omega
    clear hw3 hw4
    generalize R1 / p * p = z9 at *
    generalize R1 / p = q9 at *
    generalize R1 % p = r9 at *
    go_upto_block 2 with (fail)
    go_cut [18, 16] (fun sq _ wx => sq = .int .u64 (Q0 : Int) ∧ wx = wc)
    case first =>
      go_wp2_with fail
      go_loop [18, 16] (fun qv rv => ∃ q r : Nat, Hid (Est R1 d0 p t y q r) ∧ qv = .int .u64 (q : Int) ∧ rv = .int .u64 (r : Int) ∧ r < 4294967296 ∧ q < 8589934592) (fun qv _ => (intOf qv).toNat)
      case atStart => exact ⟨q9, r9, HE9, rfl, rfl, HR9.out, HQB9.out⟩
      case round =>
        obtain ⟨q, r, HE, rfl, rfl, hr, hq⟩ := hrel
        have hqle : (q : Int) ≤ 8589934591 := by omega
        have hrle : (r : Int) ≤ 4294967295 := by omega
        have HD := Lib.hid HE.out.down
        have HF := Lib.hid (HE.out.foundQ HG0.out)
        replace hr := Lib.hid hr
        replace hq := Lib.hid hq
        by_cases c1 : 4294967296 ≤ q
        · have hD := HD.out (.inl c1)
          have hc1 : (4294967296 : Int) ≤ (q : Int) := by omega
          have eq1 : (q : Int) - 1 = ((q - 1 : Nat) : Int) := by omega
          have er1 : (r : Int) + (p : Int) = ((r + p : Nat) : Int) := by omega
          have hrb : ((r + p : Nat) : Int) ≤ 8589934591 := by omega
          have hqb2 : ((q - 1 : Nat) : Int) ≤ 8589934591 := by omega
          have HLT := Lib.hid (show q - 1 < q by omega)
          have HQ2 := Lib.hid (show q - 1 < 8589934592 by omega)
          clear HD HF
          have HB := Lib.hid (hD.brokenQ HG0.out)
          replace hD := Lib.hid hD
          generalize q - 1 = q' at *
          generalize r + p = r' at *
          by_cases c3 : 4294967296 ≤ r'
          · have hc3 : (4294967296 : Int) ≤ (r' : Int) := by omega
            have HB2 := Lib.hid (HB.out c3)
            clear HB
            go_wp2
            go_meet
            exact ⟨by rw [HB2.out], rfl⟩
          · have hc3 : decide ((4294967296 : Int) ≤ (r' : Int)) = false := by rw [decide_eq_false_iff_not]; omega
            have hc4 := Lib.hid (show r' < 4294967296 by omega)
            clear HB c3
            replace c1 := Lib.hid c1
            go_wp2
            go_round
            case rel => exact ⟨q', r', hD, rfl, rfl, hc4.out, HQ2.out⟩
            case measure => have := HLT.out; simp [intOf]; omega
        · have hc1 : decide ((4294967296 : Int) ≤ (q : Int)) = false := by rw [decide_eq_false_iff_not]; omega
          have hm5 : IntKind.u64.wrap (4294967296 * (r : Int)) = ((4294967296 * r : Nat) : Int) := by rw [IntKind.wrap_u64]; omega
          have hm6 : IntKind.u64.wrap (((4294967296 * r : Nat) : Int) + (d0 : Int)) = ((4294967296 * r + d0 : Nat) : Int) := by rw [IntKind.wrap_u64]; omega
          have hz := prod_wrap q t (by omega) HTL'.out
          by_cases c2 : 4294967296 * r + d0 < q * t
          · have hD := HD.out (.inr c2)
            have hc2 := c2
            have hq0 : 0 < q := by
              refine Nat.pos_of_ne_zero fun e => ?_
              subst e
              simp at c2
            have eq1 : (q : Int) - 1 = ((q - 1 : Nat) : Int) := by omega
            have hq1 : (1 : Int) ≤ (q : Int) := by omega
            have er1 : (r : Int) + (p : Int) = ((r + p : Nat) : Int) := by omega
            have hrb : ((r + p : Nat) : Int) ≤ 8589934591 := by omega
            have hqb2 : ((q - 1 : Nat) : Int) ≤ 8589934591 := by omega
            have HLT := Lib.hid (show q - 1 < q by omega)
            have HQ2 := Lib.hid (show q - 1 < 8589934592 by omega)
            clear HD HF c2
            have HB := Lib.hid (hD.brokenQ HG0.out)
            replace hD := Lib.hid hD
            generalize q * t = z at *
            generalize 4294967296 * r + d0 = m6 at *
            generalize 4294967296 * r = m5 at *
            have hc2i : (m6 : Int) < (z : Int) := by omega
            generalize q - 1 = q' at *
            generalize r + p = r' at *
            by_cases c3 : 4294967296 ≤ r'
            · have hc3 : (4294967296 : Int) ≤ (r' : Int) := by omega
              have HB2 := Lib.hid (HB.out c3)
              clear HB
              go_wp2
              go_meet
              exact ⟨by rw [HB2.out], rfl⟩
            · have hc3 : decide ((4294967296 : Int) ≤ (r' : Int)) = false := by rw [decide_eq_false_iff_not]; omega
              have hc4 := Lib.hid (show r' < 4294967296 by omega)
              clear HB c3
              replace c1 := Lib.hid c1
              replace hq0 := Lib.hid hq0
              go_wp2
              go_round
              case rel => exact ⟨q', r', hD, rfl, rfl, hc4.out, HQ2.out⟩
              case measure => have := HLT.out; simp [intOf]; omega
          · have hc2 : q * t ≤ 4294967296 * r + d0 := by omega
            have HB2 := Lib.hid ((HF.out (by omega)))
            clear HD HF c2
            replace c1 := Lib.hid c1
            generalize q * t = z at *
            generalize 4294967296 * r + d0 = m6 at *
            generalize 4294967296 * r = m5 at *
            have hc2i : (z : Int) ≤ (m6 : Int) := by omega
            go_wp2
            go_meet
            exact ⟨by rw [HB2.out], rfl⟩

    case rest =>
      obtain ⟨rfl, rfl⟩ := hcut
      clear hqd hqt hwq hwr hw1 hw2 hqb hzl HE9 HR9 HQB9 hrw
      have hrw := hrw0.out
      clear hrw0
      have hpd := div_pow R0 s
      have hq0le : (Q0 : Int) ≤ 4294967295 := by have := HQ0B.out; omega
      obtain ⟨f1, hf1d⟩ : ∃ f1, Q1 * 4294967296 = f1 := ⟨_, rfl⟩
      obtain ⟨f2, hf2d⟩ : ∃ f2, f1 + Q0 = f2 := ⟨_, rfl⟩
      obtain ⟨RF, hRF⟩ : ∃ RF, R0 / 2 ^ s = RF := ⟨_, rfl⟩
      rw [hRF] at hpd
      have hf1 : (Q1 : Int) * 4294967296 = (f1 : Int) := by omega
      have hf2 := wrap_small f1 (by omega)
      have hf3 : (f1 : Int) + (Q0 : Int) = (f2 : Int) := by omega
      have hf4 := wrap_small f2 (by omega)
      have HFF1 := Lib.hid (HFIN.out.1.trans ((congrArg (· + Q0) hf1d).trans hf2d))
      have HFF2 := Lib.hid (HFIN.out.2.trans hRF)
      clear HFIN hf1d hf2d hRF
      go_wp2
      go_ret2
      exact ⟨by rw [HFF1.out, HFF2.out]; rfl, Nx.refl _⟩

set_option maxHeartbeats 2000000 in
set_option maxRecDepth 100000 in
theorem div64_small (lo y0 : Nat) (w : World) (hhy : 0 < y0) (hlo : (lo : Int) ≤ 18446744073709551615) (hy : (y0 : Int) ≤ 18446744073709551615) :
    Calls Try.prog 60 #[.int .u64 0, .int .u64 (lo : Int), .int .u64 (y0 : Int)] w fun e w' => e = .returned (.tuple #[.int .u64 ((lo / y0 : Nat) : Int), .int .u64 ((lo % y0 : Nat) : Int)]) ∧ Nx w w' := by
  have hy0 : (y0 : Int) ≠ 0 := by omega
  have hy1 : ((y0 : Int) == 0) = false := by simp; omega
  have hyp : (0 : Int) < (y0 : Int) := by omega
  have hle : ¬ ((y0 : Int) ≤ (0 : Int)) := by omega
  have hq : (lo : Int) / (y0 : Int) = ((lo / y0 : Nat) : Int) := rfl
  have hq2 : (lo : Int).tdiv (y0 : Int) = ((lo / y0 : Nat) : Int) := rfl
  have hr : (lo : Int) % (y0 : Int) = ((lo % y0 : Nat) : Int) := rfl
  have hr2 : (lo : Int).tmod (y0 : Int) = ((lo % y0 : Nat) : Int) := rfl
  have hwq := wrap_small (lo / y0) (by have := Nat.div_le_self lo y0; omega)
  have hwr := wrap_small (lo % y0) (by have := Nat.mod_le lo y0; omega)
  generalize lo / y0 = q at *
  generalize lo % y0 = r at *
  go_enter Try.func60, Try.ntmps60
  go_wp2
  go_quiet (fail)
  go_wp2
  go_ret2
  exact ⟨rfl, by repeat (first | exact Nx.refl _ | with_reducible apply Nx.drew | with_reducible apply Nx.drewN)⟩

theorem div64_any (hi lo y0 : Nat) (w : World) (hhy : hi < y0) (hlo : (lo : Int) ≤ 18446744073709551615) (hy : (y0 : Int) ≤ 18446744073709551615) :
    Calls Try.prog 60 #[.int .u64 (hi : Int), .int .u64 (lo : Int), .int .u64 (y0 : Int)] w fun e w' => e = .returned (.tuple #[.int .u64 (((hi * 18446744073709551616 + lo) / y0 : Nat) : Int), .int .u64 (((hi * 18446744073709551616 + lo) % y0 : Nat) : Int)]) ∧ Nx w w' := by
  rcases Nat.eq_zero_or_pos hi with rfl | hh
  · rw [Nat.zero_mul, Nat.zero_add]
    exact div64_small lo y0 w hhy hlo hy
  · exact div64_big hi lo y0 w hh hhy hlo hy
end Go.Proofs.Ytggemncdnclhnaa
