/- LAYER 5: the document's Back. -/
import Derived.Test.YtdbokmhkgkgnfaaPl6
namespace Go.Proofs.Ytdbokmhkgkgnfaa
open Go Go.RowKit
set_option linter.unusedVariables false
set_option linter.unusedSimpArgs false

def RJ (i N : Nat) (A B : Int) (T : Nat × Int × Int) : Prop := ∃ (k : Nat), i + k = 40 ∧ N < 2 ^ i ∧ (A.natAbs ≤ 4194304 + i ∧ B.natAbs ≤ 4194304 + i) ∧ N + 2 ^ i * (plB k A B).1 = T.1 ∧ (plB k A B).2 = T.2
theorem rj_begin {a b : Int} (ha : a.natAbs ≤ 4194304) (hb : b.natAbs ≤ 4194304) : RJ 0 0 a b (plB 40 a b) :=
  ⟨40, rfl, by decide, ⟨by omega, by omega⟩, by rw [Nat.pow_zero, Nat.one_mul, Nat.zero_add], rfl⟩
theorem rj_end {N : Nat} {A B : Int} {T : Nat × Int × Int} (h : RJ 40 N A B T) : N = T.1 ∧ A = T.2.1 ∧ B = T.2.2 := by
  obtain ⟨k, hk, -, -, h2, h3⟩ := h
  obtain rfl : k = 0 := by omega
  rw [← h3]
  exact ⟨by simpa [plB] using h2, rfl, rfl⟩
theorem tmod2 (x : Int) (h : x % 2 = 0) : Int.tmod x 2 = 0 := by rw [Int.tmod_eq_emod]; split <;> simp_all <;> omega
theorem tmod2' (x : Int) (h : x % 2 = 1) : Int.tmod x 2 = 1 ∨ Int.tmod x 2 = -1 := by
  rw [Int.tmod_eq_emod]
  split
  · left; omega
  · right; simp; omega
theorem tdiv2 (x : Int) (h : x % 2 = 0) : Int.tdiv x 2 = x / 2 := Int.tdiv_eq_ediv_of_dvd (Int.dvd_of_emod_eq_zero h)
theorem rj_step {i N : Nat} {A B : Int} {T : Nat × Int × Int} (h : RJ i N A B T) (hi : i < 40) :
    (A.natAbs ≤ 4194344 ∧ B.natAbs ≤ 4194344) ∧ N < 2 ^ i ∧ ((A + B) % 2 = 1 → RJ (i + 1) (N + 2 ^ i) ((B - (A - 1)) / 2) ((-(A - 1) - B) / 2) T) ∧ ((A + B) % 2 = 0 → RJ (i + 1) N ((B - A) / 2) ((-A - B) / 2) T) := by
  obtain ⟨k, hk, hN, ⟨bA, bB⟩, h2, h3⟩ := h
  obtain ⟨k, rfl⟩ : ∃ k', k = k' + 1 := ⟨k - 1, by omega⟩
  refine ⟨⟨by omega, by omega⟩, hN, fun hd => ?_, fun hd => ?_⟩
  · refine ⟨k, by omega, by rw [Nat.pow_succ]; omega, ⟨by omega, by omega⟩, ?_, ?_⟩
    · simp only [plB, hd] at h2
      rw [← h2, Nat.pow_succ]
      generalize (plB k ((B - (A - 1)) / 2) ((-(A - 1) - B) / 2)).1 = x
      rw [Nat.mul_add, show (1 : Int).toNat = 1 from rfl, Nat.mul_one, Nat.mul_assoc, Nat.add_assoc]
    · simp only [plB, hd] at h3
      exact h3
  · refine ⟨k, by omega, by rw [Nat.pow_succ]; omega, ⟨by omega, by omega⟩, ?_, ?_⟩
    · simp only [plB, hd, Int.sub_zero] at h2
      rw [← h2, Nat.pow_succ]
      generalize (plB k ((B - A) / 2) ((-A - B) / 2)).1 = x
      rw [show (0 : Int).toNat = 0 from rfl, Nat.zero_add, Nat.mul_assoc]
    · simp only [plB, hd, Int.sub_zero] at h3
      exact h3
theorem bit_le {i : Nat} (h : i < 40) : 2 ^ i ≤ 549755813888 := by
  have : 2 ^ i ≤ 2 ^ 39 := Nat.pow_le_pow_right (by decide) (by omega)
  omega
set_option maxRecDepth 100000 in
set_option maxHeartbeats 4000000 in
theorem rback_bad (a b : Int) (ha : a.natAbs ≤ 16777216) (hb : b.natAbs ≤ 16777216) (hi : ¬ inn a b) (w : World) : Calls Try.prog 23 #[.agg #[.int .i64 a, .int .i64 b]] w fun e w' => e = .returned (.tuple #[.int .u64 0, .int .i64 5]) ∧ Nx w w' := by
  have R := Row.new w #[.int .i64 a, .int .i64 b] 28 _ rfl
  have a0 := R.cell (i := 0) (v := .int .i64 a) rfl
  have a1 := R.cell (i := 1) (v := .int .i64 b) rfl
  have N0 := Lib.hid ((Nx.refl w).alloc (.cells #[.int .i64 a, .int .i64 b] 28))
  unfold inn at hi
  by_cases h1 : a ≤ -4194304
  · clear hi
    go_enter Try.func23, Try.ntmps23
    go_wp2_with fail
    go_ret2
    exact ⟨rfl, N0.out⟩
  · by_cases h2 : 4194304 ≤ a
    · clear hi
      go_enter Try.func23, Try.ntmps23
      go_wp2_with fail
      go_ret2
      exact ⟨rfl, N0.out⟩
    · by_cases h3 : b ≤ -4194304
      · clear hi
        go_enter Try.func23, Try.ntmps23
        go_wp2_with fail
        go_ret2
        exact ⟨rfl, N0.out⟩
      · have h4 : 4194304 ≤ b := by omega
        clear hi
        go_enter Try.func23, Try.ntmps23
        go_wp2_with fail
        go_ret2
        exact ⟨rfl, N0.out⟩
set_option maxRecDepth 100000 in
set_option maxHeartbeats 4000000 in
theorem rback_in (a b : Int) (hi : inn a b) (w : World) : Calls Try.prog 23 #[.agg #[.int .i64 a, .int .i64 b]] w fun e w' => e = .returned (.tuple #[.int .u64 (plN a b : Int), .int .i64 (plE a b)]) ∧ Nx w w' := by
  have R := Row.new w #[.int .i64 a, .int .i64 b] 28 _ rfl
  have a0 := R.cell (i := 0) (v := .int .i64 a) rfl
  have a1 := R.cell (i := 1) (v := .int .i64 b) rfl
  have N0 := Lib.hid ((Nx.refl w).alloc (.cells #[.int .i64 a, .int .i64 b] 28))
  obtain ⟨i1, i2, i3, i4⟩ := hi
  have HJ := Lib.hid (rj_begin (a := a) (b := b) (by omega) (by omega))
  have HE : Hid (plE a b = (if (plB 40 a b).2 = (0, 0) then 0 else 6)) := Lib.hid (by unfold plE; rw [if_pos ⟨i1, i2, i3, i4⟩])
  have j1 : ¬ a ≤ -4194304 := by omega
  have j2 : ¬ 4194304 ≤ a := by omega
  have j3 : ¬ b ≤ -4194304 := by omega
  have j4 : ¬ 4194304 ≤ b := by omega
  clear i1 i2 i3 i4
  replace R := Lib.hid R
  go_enter Try.func23, Try.ntmps23
  go_wp2_with fail
  go_loopw [4, 5, 6] (fun nv bv iv wr => ∃ (i N : Nat) (A B : Int), nv = .int .u64 (N : Int) ∧ bv = .int .u64 ((2 ^ i : Nat) : Int) ∧ iv = .int .i64 (i : Int) ∧ i ≤ 40 ∧ Hid (RJ i N A B (plB 40 a b)) ∧ Hid (Nx w wr) ∧ Row wr w.heap.size #[.int .i64 A, .int .i64 B] 28) (fun _ _ iv _ => 40 - (intOf iv).toNat)
  case atStart => exact ⟨0, 0, a, b, rfl, rfl, rfl, by decide, HJ, N0, R.out⟩
  case round =>
    clear HJ R a0 a1 j1 j2 j3 j4 N0
    obtain ⟨i, N, A, B, rfl, rfl, rfl, hi, HJ, HN, R⟩ := hrel
    have a0 := R.cell (i := 0) (v := .int .i64 A) rfl
    have a1 := R.cell (i := 1) (v := .int .i64 B) rfl
    have f0 := R.frozen 0
    have f1 := R.frozen 1
    by_cases hlt : i < 40
    · obtain ⟨⟨b1, b2⟩, hN, s1, s2⟩ := rj_step HJ.out hlt
      have hbl := bit_le hlt
      have hlt1 : (i : Int) < 40 := by omega
      have HI := Lib.hid hlt
      have hpw : Hid (2 ^ (i + 1) = 2 * 2 ^ i) := Lib.hid (by rw [Nat.pow_succ, Nat.mul_comm])
      generalize hb : (2 ^ i : Nat) = bt at *
      have w1 : IntKind.i64.wrap (A + B) = A + B := IntWalk.i64_in _ (by omega)
      have w2 : IntKind.i64.wrap (A - 1) = A - 1 := IntWalk.i64_in _ (by omega)
      have w7 : IntKind.u64.wrap ((N : Int) + (bt : Int)) = ((N + bt : Nat) : Int) := by rw [IntKind.wrap_u64]; omega
      have w8 : IntKind.u64.wrap (2 * (bt : Int)) = ((2 ^ (i + 1) : Nat) : Int) := by rw [hpw.out, IntKind.wrap_u64]; omega
      have HW8 := Lib.hid w8
      have HW7 := Lib.hid w7
      have X1 : Hid (∀ v0 v1, Row ((wr.setCell ⟨w.heap.size, 0, none⟩ v0).setCell ⟨w.heap.size, 1, none⟩ v1) w.heap.size #[v0, v1] 28) := Lib.hid fun v0 v1 => (R.set 0 v0).set 1 v1
      have XN : Hid (∀ v0 v1, Nx w ((wr.setCell ⟨w.heap.size, 0, none⟩ v0).setCell ⟨w.heap.size, 1, none⟩ v1)) := Lib.hid fun v0 v1 => (HN.out.setAt (i := 0) v0 (Nat.le_refl _)).setAt (i := 1) v1 (Nat.le_refl _)
      have Y1 : Hid (∀ u v0 v1, Row (((wr.setCell ⟨w.heap.size, 0, none⟩ u).setCell ⟨w.heap.size, 0, none⟩ v0).setCell ⟨w.heap.size, 1, none⟩ v1) w.heap.size #[v0, v1] 28) := Lib.hid fun u v0 v1 => ((R.set 0 u).set 0 v0).set 1 v1
      have YN : Hid (∀ u v0 v1, Nx w (((wr.setCell ⟨w.heap.size, 0, none⟩ u).setCell ⟨w.heap.size, 0, none⟩ v0).setCell ⟨w.heap.size, 1, none⟩ v1)) := Lib.hid fun u v0 v1 => ((HN.out.setAt (i := 0) u (Nat.le_refl _)).setAt (i := 0) v0 (Nat.le_refl _)).setAt (i := 1) v1 (Nat.le_refl _)
      by_cases ho : (A + B) % 2 = 0
      · have HO := Lib.hid (s2 ho)
        have ht := tmod2 _ ho
        have w3 : IntKind.i64.wrap (B - A) = B - A := IntWalk.i64_in _ (by omega)
        have w4 : IntKind.i64.wrap (-A) = -A := IntWalk.i64_in _ (by omega)
        have w5 : IntKind.i64.wrap (-A - B) = -A - B := IntWalk.i64_in _ (by omega)
        have d1 := tdiv2 (B - A) (by omega)
        have d2 := tdiv2 (-A - B) (by omega)
        have w9 : IntKind.i64.wrap ((B - A) / 2) = (B - A) / 2 := IntWalk.i64_in _ (by omega)
        have w10 : IntKind.i64.wrap ((-A - B) / 2) = (-A - B) / 2 := IntWalk.i64_in _ (by omega)
        clear b1 b2 hN s1 s2 hbl ho hb hlt hi HJ
        go_wp2_with fail
        go_roundw
        case rel => exact ⟨i + 1, N, (B - A) / 2, (-A - B) / 2, rfl, by rw [Int.natCast_pow]; rfl, by go_num, HI.out, HO, Lib.hid (XN.out _ _), X1.out _ _⟩
        case measure => have := HI.out; simp [intOf]; omega
      · have ho1 : (A + B) % 2 = 1 := by omega
        have HO := Lib.hid (s1 ho1)
        have w3 : IntKind.i64.wrap (B - (A - 1)) = B - (A - 1) := IntWalk.i64_in _ (by omega)
        have w4 : IntKind.i64.wrap (-(A - 1)) = -(A - 1) := IntWalk.i64_in _ (by omega)
        have w5 : IntKind.i64.wrap (-(A - 1) - B) = -(A - 1) - B := IntWalk.i64_in _ (by omega)
        have d1 := tdiv2 (B - (A - 1)) (by omega)
        have d2 := tdiv2 (-(A - 1) - B) (by omega)
        have w9 : IntKind.i64.wrap ((B - (A - 1)) / 2) = (B - (A - 1)) / 2 := IntWalk.i64_in _ (by omega)
        have w10 : IntKind.i64.wrap ((-(A - 1) - B) / 2) = (-(A - 1) - B) / 2 := IntWalk.i64_in _ (by omega)
        have ht := tmod2' _ ho1
        have HBT := Lib.hid hb
        clear b1 b2 hN s1 s2 hbl ho ho1 hb hlt hi HJ
        rcases ht with ht | ht
        · go_wp2_with fail
          go_roundw
          case rel => exact ⟨i + 1, N + bt, (B - (A - 1)) / 2, (-(A - 1) - B) / 2, by rw [Int.natCast_add], by rw [Int.natCast_pow]; rfl, by go_num, HI.out, HO, Lib.hid (YN.out _ _ _), Y1.out _ _ _⟩
          case measure => have := HI.out; simp [intOf]; omega
        · go_wp2_with fail
          go_roundw
          case rel => exact ⟨i + 1, N + bt, (B - (A - 1)) / 2, (-(A - 1) - B) / 2, by rw [Int.natCast_add], by rw [Int.natCast_pow]; rfl, by go_num, HI.out, HO, Lib.hid (YN.out _ _ _), Y1.out _ _ _⟩
          case measure => have := HI.out; simp [intOf]; omega
    · obtain rfl : i = 40 := by omega
      obtain ⟨e1, e2, e3⟩ := rj_end HJ.out
      have HV : Hid (plN a b = if plE a b = 0 then N else 0) := Lib.hid (by unfold plN; rw [e1])
      have HZ : Hid ((plB 40 a b).2 = (A, B)) := Lib.hid (by rw [e2, e3])
      clear HJ e1 e2 e3 hlt hi
      by_cases hz : A = 0 ∧ B = 0
      · obtain ⟨z1, z2⟩ := hz
        subst z1; subst z2
        have E0 : Hid (plE a b = 0) := Lib.hid (by rw [HE.out, if_pos HZ.out])
        have E1 : Hid (plN a b = N) := Lib.hid (by rw [HV.out, if_pos E0.out])
        clear HE HV HZ
        go_wp2_with fail
        go_ret2
        exact ⟨by rw [E0.out, E1.out]; rfl, HN.out⟩
      · have hz2 : ¬ (plB 40 a b).2 = (0, 0) := fun h => hz (by rw [HZ.out] at h; exact ⟨congrArg Prod.fst h, congrArg Prod.snd h⟩)
        have E0 : Hid (plE a b = 6) := Lib.hid (by rw [HE.out, if_neg hz2])
        have E1 : Hid (plN a b = 0) := Lib.hid (by rw [HV.out, if_neg (by rw [E0.out]; decide)])
        clear HE HV HZ hz2
        by_cases z1 : A = 0
        · have z2 : ¬ B = 0 := fun h => hz ⟨z1, h⟩
          clear hz
          subst z1
          go_wp2_with fail
          go_ret2
          exact ⟨by rw [E0.out, E1.out]; rfl, HN.out⟩
        · clear hz
          go_wp2_with fail
          go_ret2
          exact ⟨by rw [E0.out, E1.out]; rfl, HN.out⟩
/-- small parts -/
theorem rback_any (a b : Int) (ha : a.natAbs ≤ 16777216) (hb : b.natAbs ≤ 16777216) (w : World) : Calls Try.prog 23 #[.agg #[.int .i64 a, .int .i64 b]] w fun e w' => e = .returned (.tuple #[.int .u64 (plN a b : Int), .int .i64 (plE a b)]) ∧ Nx w w' := by
  by_cases h : inn a b
  · exact rback_in a b h w
  · have h1 : plE a b = 5 := by unfold plE; exact if_neg h
    have h2 : plN a b = 0 := by unfold plN; rw [h1]; rfl
    rw [h1, h2]
    exact rback_bad a b ha hb h w
theorem back_any {p q : Nat} {a b : Int} (h : CF p q a b) (ha : a.natAbs ≤ 16777216) (hb : b.natAbs ≤ 16777216) (w : World) : Calls Try.prog 22 #[.complex .f64 p q] w fun e w' => e = .returned (.tuple #[.int .u64 (plN a b : Int), .int .i64 (plE a b)]) ∧ w' = w := by
  by_cases hi : inn a b
  · exact back_in h hi w
  · have h1 : plE a b = 5 := by unfold plE; exact if_neg hi
    have h2 : plN a b = 0 := by unfold plN; rw [h1]; rfl
    rw [h1, h2]
    refine back_bad h.1 h.2 (by omega) (by omega) ?_ w
    rw [whl_int, whl_int]
    unfold inn at hi
    by_cases c : -4194304 < a ∧ a < 4194304
    · rw [decide_eq_true c, decide_eq_false (by omega)]; rfl
    · rw [decide_eq_false c]; rfl
end Go.Proofs.Ytdbokmhkgkgnfaa
