/- LAYER 5: the walk of PlaneBeside. -/
import Derived.Test.YtdbokmhkgkgnfaaLawPl2
namespace Go.Proofs.Ytdbokmhkgkgnfaa
open Go Go.RowKit
set_option linter.unusedVariables false
set_option linter.unusedSimpArgs false

theorem bs_mem (n m x : Nat) : x ∈ bsK n m ↔ ∃ k, k < m ∧ plE (plA n + trA (k : Int) 1 0) (plI n + trB (k : Int) 1 0) = 0 ∧ x = plN (plA n + trA (k : Int) 1 0) (plI n + trB (k : Int) 1 0) := by
  induction m with
  | zero => simp [bsK]
  | succ m ih =>
    simp only [bsK, List.mem_append, ih]
    constructor
    · rintro (⟨k, h1, h2, h3⟩ | h)
      · exact ⟨k, by omega, h2, h3⟩
      · split at h
        · rename_i h2
          exact ⟨m, by omega, h2, by simpa using h⟩
        · simp at h
    · rintro ⟨k, h1, h2, h3⟩
      by_cases hk : k = m
      · subst hk
        right
        rw [if_pos h2]
        simpa using h3
      · exact .inl ⟨k, by omega, h2, h3⟩
theorem tr_four (k : Nat) (hk : k < 4) : ∃ j : Nat, j < 4 ∧ trA (j : Int) 1 0 = -trA (k : Int) 1 0 ∧ trB (j : Int) 1 0 = -trB (k : Int) 1 0 ∧ ¬ (trA (k : Int) 1 0 = 0 ∧ trB (k : Int) 1 0 = 0) := by
  have hc : k = 0 ∨ k = 1 ∨ k = 2 ∨ k = 3 := by omega
  rcases hc with rfl | rfl | rfl | rfl
  · exact ⟨2, by decide, by decide, by decide, by decide⟩
  · exact ⟨3, by decide, by decide, by decide, by decide⟩
  · exact ⟨0, by decide, by decide, by decide, by decide⟩
  · exact ⟨1, by decide, by decide, by decide, by decide⟩
theorem bs_back {n x : Nat} (hn : n < 2 ^ 40) (h : x ∈ bsK n 4) : x < 2 ^ 40 ∧ n ∈ bsK x 4 ∧ x ≠ n := by
  obtain ⟨k, hk, h1, h2⟩ := (bs_mem n 4 x).1 h
  obtain ⟨j, hj, t1, t2, t3⟩ := tr_four k hk
  rcases plE_cases (plA n + trA (k : Int) 1 0) (plI n + trB (k : Int) 1 0) with ⟨_, g1, g2⟩ | ⟨g1, _⟩
  · rw [← h2] at g1 g2
    have a1 : plA x = plA n + trA (k : Int) 1 0 := by unfold plA; rw [g1]; rfl
    have a2 : plI x = plI n + trB (k : Int) 1 0 := by unfold plI; rw [g1]; rfl
    refine ⟨g2, (bs_mem x 4 n).2 ⟨j, hj, ?_, ?_⟩, fun e => ?_⟩
    · rw [a1, a2, t1, t2, show plA n + trA (k : Int) 1 0 + -trA (k : Int) 1 0 = plA n by omega, show plI n + trB (k : Int) 1 0 + -trB (k : Int) 1 0 = plI n by omega]
      exact (plE_of n hn).1
    · rw [a1, a2, t1, t2, show plA n + trA (k : Int) 1 0 + -trA (k : Int) 1 0 = plA n by omega, show plI n + trB (k : Int) 1 0 + -trB (k : Int) 1 0 = plI n by omega]
      exact (plE_of n hn).2.symm
    · subst e
      exact t3 ⟨by omega, by omega⟩
  · omega
theorem tr_4k (k x y : Int) : trA (4 * k) x y = x ∧ trB (4 * k) x y = y := by
  have e : 4 * k % 4 = 0 := by omega
  unfold trA trB
  rw [e]
  exact ⟨rfl, rfl⟩
theorem tr_next (k x y : Int) : trA 1 (trA k x y) (trB k x y) = trA (k + 1) x y ∧ trB 1 (trA k x y) (trB k x y) = trB (k + 1) x y := by
  show -trB k x y = _ ∧ trA k x y = _
  unfold trA trB
  have hc : k % 4 = 0 ∨ k % 4 = 1 ∨ k % 4 = 2 ∨ k % 4 = 3 := by omega
  rcases hc with hc | hc | hc | hc
  · rw [hc, show (k + 1) % 4 = 1 by omega]; simp
  · rw [hc, show (k + 1) % 4 = 2 by omega]; simp
  · rw [hc, show (k + 1) % 4 = 3 by omega]; simp
  · rw [hc, show (k + 1) % 4 = 0 by omega]; simp
set_option maxRecDepth 100000 in
set_option maxHeartbeats 8000000 in
theorem planeBeside_law {w : World} (n : Nat) (hl : (n : Int) ≤ 18446744073709551615) (a : Int) (ha : -2147483648 ≤ a) (ha2 : a ≤ 2147483647) (b : Int) (hb : -2147483648 ≤ b) (hb2 : b ≤ 2147483647) (k : Int) (hk : -32768 ≤ k) (hk2 : k ≤ 32767) :
    Calls Try.prog 7 #[.int .u64 (n : Int), .int .i32 a, .int .i32 b, .int .i16 k] w fun e w' => e = .returned (.bool true) ∧ Nx w w' := by
  obtain ⟨x, hx⟩ : ∃ x : Nat, (n : Int) % 1099511627776 = (x : Int) := ⟨n % 1099511627776, by omega⟩
  have hx2 : x < 2 ^ 40 := by omega
  have H1 := Lib.hid (beside_ok x hx2)
  have HM := Lib.hid (fun y => bs_back (x := y) hx2)
  have HL4 := Lib.hid (bsK_len x 4)
  have HSm := Lib.hid (small_any a b ha ha2 hb hb2)
  have b1 := tmod_bound a
  have b2 := tmod_bound b
  generalize Int.tmod a 8388608 = X at *
  generalize Int.tmod b 8388608 = Y at *
  have HSp := Lib.hid (spot_any X Y (by omega) (by omega))
  have HC := spot_cf X Y (by omega) (by omega)
  have HT1 := Lib.hid (fun w => turn_v (floatOfInt .f64 X) (floatOfInt .f64 Y) (4 * k) w)
  have c1 := turn_cf HC (4 * k)
  rw [(tr_4k k X Y).1, (tr_4k k X Y).2] at c1
  have HT2 := Lib.hid (fun w => turn_v (floatOfInt .f64 X) (floatOfInt .f64 Y) k w)
  have c2 := turn_cf HC k
  have HT3 := Lib.hid (fun w => turn_v (tR k (floatOfInt .f64 X) (floatOfInt .f64 Y)) (tI k (floatOfInt .f64 X) (floatOfInt .f64 Y)) 1 w)
  have c3 := turn_cf c2 1
  rw [(tr_next k X Y).1, (tr_next k X Y).2] at c3
  have HT4 := Lib.hid (fun w => turn_v (floatOfInt .f64 X) (floatOfInt .f64 Y) (k + 1) w)
  have c4 := turn_cf HC (k + 1)
  have o1 := ord_eq c1.1 HC.1 rfl
  have o2 := ord_eq c1.2 HC.2 rfl
  have o3 := ord_eq c3.1 c4.1 rfl
  have o4 := ord_eq c3.2 c4.2 rfl
  have w1 : IntKind.i64.wrap k = k := IntWalk.i64_in _ (by omega)
  have w2 : IntKind.i64.wrap (4 * k) = 4 * k := IntWalk.i64_in _ (by omega)
  have w3 : IntKind.i64.wrap (k + 1) = k + 1 := IntWalk.i64_in _ (by omega)
  clear c1 c2 c3 c4 HC b1 b2 ha ha2 hb hb2 hk hk2 hl hx2
  generalize tR 1 (tR k (floatOfInt .f64 X) (floatOfInt .f64 Y)) (tI k (floatOfInt .f64 X) (floatOfInt .f64 Y)) = p3 at *
  generalize tI 1 (tR k (floatOfInt .f64 X) (floatOfInt .f64 Y)) (tI k (floatOfInt .f64 X) (floatOfInt .f64 Y)) = q3 at *
  generalize tR k (floatOfInt .f64 X) (floatOfInt .f64 Y) = p2 at *
  generalize tI k (floatOfInt .f64 X) (floatOfInt .f64 Y) = q2 at *
  generalize tR (4 * k) (floatOfInt .f64 X) (floatOfInt .f64 Y) = p1 at *
  generalize tI (4 * k) (floatOfInt .f64 X) (floatOfInt .f64 Y) = q1 at *
  generalize tR (k + 1) (floatOfInt .f64 X) (floatOfInt .f64 Y) = p4 at *
  generalize tI (k + 1) (floatOfInt .f64 X) (floatOfInt .f64 Y) = q4 at *
  generalize floatOfInt .f64 X = fx at *
  generalize floatOfInt .f64 Y = fy at *
  generalize bsK x 4 = L at *
  replace o1 := Lib.hid o1
  replace o2 := Lib.hid o2
  replace o3 := Lib.hid o3
  replace o4 := Lib.hid o4
  go_enter Try.func7, Try.ntmps7
  go_wp2_with fail
  refine (H1.out _).mono ?_
  rintro e w4 ⟨v, rfl, hv, n1⟩
  obtain ⟨A, c, rfl, ⟨hc1, hc2⟩, hcell⟩ := hv.rd.sl
  have HCl := Lib.hid hcell
  have N1 := Lib.hid n1
  clear hv n1 hcell H1
  have h4 : ¬ (4 : Int) < (L.length : Int) := by have := HL4.out; omega
  go_wp2_with fail
  go_loopw [11] (fun iv wr => ∃ i : Nat, iv = .int .i64 (i : Int) ∧ i ≤ L.length ∧ Hid (Nx w4 wr)) (fun iv _ => L.length - (intOf iv).toNat)
  case atStart => exact ⟨0, rfl, Nat.zero_le _, Lib.hid (Nx.refl _)⟩
  case round =>
    obtain ⟨i, rfl, hi, HN⟩ := hrel
    by_cases hlt : i < L.length
    · obtain ⟨g, o, rfl, hce⟩ := HCl.out i hlt
      have hmem : L[i] ∈ L := List.getElem_mem hlt
      obtain ⟨y, hy⟩ : ∃ y, L[i] = y := ⟨_, rfl⟩
      rw [hy] at hce hmem
      obtain ⟨m1, m2, m3⟩ := HM.out _ hmem
      have HB := Lib.hid (beside_ok y m1)
      have hlen := HL4.out
      have hi4 : (i : Int) < 4 := by omega
      have hlt1 : (i : Int) < (L.length : Int) := by omega
      have HI := Lib.hid hlt
      have hne : Hid (¬ (y : Int) = (x : Int)) := Lib.hid (by omega)
      have hM2 := Lib.hid m2
      have hgl : Hid (g < w4.heap.size) := Lib.hid (World.block_lt_of_cell? w4 _ hce)
      have hcr : wr.cell? ⟨g, o + i, none⟩ = some (.int .u64 (y : Int)) := by rw [HN.out.cell (p := ⟨g, o + i, none⟩) hgl.out]; exact hce
      have HCE := Lib.hid hce
      clear hmem m1 m2 m3 hlen hlt hi hce hy
      go_wp2_with fail
      refine (HB.out _).mono ?_
      rintro e w5 ⟨u, rfl, hu, n5⟩
      obtain ⟨A2, c2, rfl, ⟨hd1, hd2⟩, hcell2⟩ := hu.rd.sl
      have HC2 := Lib.hid hcell2
      replace HN := Lib.hid (HN.out.trans n5)
      have HBL := Lib.hid (bsK_len y 4)
      clear hu n5 hcell2 hcr HB
      generalize bsK y 4 = M at *
      go_wp2_with fail
      go_loopw [14, 15] (fun bv jv wq => ∃ j : Nat, bv = .bool (decide (x ∈ M.take j)) ∧ jv = .int .i64 (j : Int) ∧ j ≤ M.length ∧ Hid (Nx w5 wq)) (fun _ jv _ => M.length - (intOf jv).toNat)
      case atStart => exact ⟨0, by simp, rfl, Nat.zero_le _, Lib.hid (Nx.refl _)⟩
      case round =>
        obtain ⟨j, rfl, rfl, hj, HNq⟩ := hrel
        by_cases hjl : j < M.length
        · obtain ⟨g2, o2, rfl, hce2⟩ := HC2.out j hjl
          have hlen := HBL.out
          have hj4 : (j : Int) < 4 := by omega
          have hjl1 : (j : Int) < (M.length : Int) := by omega
          have HJ := Lib.hid hjl
          have hgl2 := World.block_lt_of_cell? w5 _ hce2
          obtain ⟨z, hz⟩ : ∃ z, M[j] = z := ⟨_, rfl⟩
          replace hce2 : w5.cell? ⟨g2, o2 + j, none⟩ = some (.int .u64 (z : Int)) := by rw [← hz]; exact hce2
          have hcq : wr.cell? ⟨g2, o2 + j, none⟩ = some (.int .u64 (z : Int)) := by rw [HNq.out.cell (p := ⟨g2, o2 + j, none⟩) hgl2]; exact hce2
          have HS : Hid (decide (x ∈ M.take (j + 1)) = (decide (x ∈ M.take j) || decide (z = x))) := Lib.hid (by
            have hzz : M[j]'hjl = z := hz
            rw [List.take_succ_eq_append_getElem hjl]
            rw [Bool.eq_iff_iff]
            simp only [List.mem_append, List.mem_singleton, Bool.or_eq_true, decide_eq_true_iff]
            constructor
            · rintro (h | h)
              · exact .inl h
              · exact .inr (hzz.symm.trans h.symm)
            · rintro (h | h)
              · exact .inl h
              · exact .inr (h.symm.trans hzz.symm))
          clear hlen hjl hj hgl2 hce2 hz
          cases hB : decide (x ∈ M.take j)
          · rw [hB] at HS
            by_cases hzx : z = x
            · subst hzx
              go_wp2_with fail
              go_roundw
              case rel => exact ⟨j + 1, by rw [HS.out]; simp, by go_num, HJ.out, HNq⟩
              case measure => have := HJ.out; simp [intOf]; omega
            · have hzi : ¬ (z : Int) = (x : Int) := by omega
              have hzd : Hid (decide (z = x) = false) := Lib.hid (decide_eq_false hzx)
              clear hzx
              go_wp2_with fail
              go_roundw
              case rel => exact ⟨j + 1, by rw [HS.out, hzd.out]; simp [hzi], by go_num, HJ.out, HNq⟩
              case measure => have := HJ.out; simp [intOf]; omega
          · rw [hB] at HS
            clear hcq
            go_wp2_with fail
            go_roundw
            case rel => exact ⟨j + 1, by rw [HS.out]; simp, by go_num, HJ.out, HNq⟩
            case measure => have := HJ.out; simp [intOf]; omega
        · obtain rfl : j = M.length := by omega
          have hT : decide (x ∈ M.take M.length) = true := by rw [List.take_length]; exact decide_eq_true hM2.out
          rw [hT]
          have hcr : wr.cell? ⟨g, o + i, none⟩ = some (.int .u64 (y : Int)) := by
            rw [(HN.out.trans HNq.out).cell (p := ⟨g, o + i, none⟩) hgl.out]; exact HCE.out
          have hnf := hne.out
          replace HN := Lib.hid (HN.out.trans HNq.out)
          clear hT hjl hj HNq
          go_wp2_with fail
          go_roundw
          case rel => exact ⟨i + 1, by go_num, HI.out, HN⟩
          case measure => have := HI.out; simp [intOf]; omega
    · obtain rfl : i = L.length := by omega
      replace N1 := Lib.hid (N1.out.trans HN.out)
      clear hlt hi HN
      go_wp2_with fail
      refine (HSm.out _).mono ?_
      rintro e w6 ⟨rfl, n6⟩
      replace N1 := Lib.hid (N1.out.trans n6)
      clear n6
      go_wp2_with fail
      refine (HSp.out _).mono ?_
      rintro e w7 ⟨rfl, n7⟩
      replace N1 := Lib.hid (N1.out.trans n7)
      have p1 := o1.out
      have p2 := o2.out
      have p3 := o3.out
      have p4 := o4.out
      clear n7
      go_wp2_with fail
      refine (HT1.out _).mono ?_
      rintro e w8 ⟨rfl, rfl⟩
      go_wp2_with fail
      refine (HT2.out _).mono ?_
      rintro e w8 ⟨rfl, rfl⟩
      go_wp2_with fail
      refine (HT3.out _).mono ?_
      rintro e w8 ⟨rfl, rfl⟩
      go_wp2_with fail
      refine (HT4.out _).mono ?_
      rintro e w8 ⟨rfl, rfl⟩
      go_wp2_with fail
      refine (lives_any _).mono ?_
      rintro e w8 ⟨rfl, rfl⟩
      go_wp2_with fail
      go_ret
      exact ⟨rfl, N1.out⟩
end Go.Proofs.Ytdbokmhkgkgnfaa
