/- CONTRACTS OF LAYER 4: Next. -/
import Derived.Test.YtggemncdnclhnaaTar5
namespace Go.Proofs.Ytggemncdnclhnaa
open Go.RowKit
set_option linter.unusedVariables false
set_option linter.unusedSimpArgs false

/-- The greatest target. -/
def limN : Nat := tN 545259519
def spN (sp : Nat) : Nat := min (max sp 120) 1920
def mvN (t sp : Nat) : Nat := if scB t sp || decide (limN < scN t sp) then limN else scN t sp
def nxT (t sp : Nat) : Nat := if mvN t (spN sp) = 0 then 1 else mvN t (spN sp)
def nxN (b sp : Nat) : Nat := if ofE b = 0 then bN (nxT (ofT b) sp) else 0
theorem told_lim (w : World) : Calls Try.prog 61 #[.int .u32 545259519] w fun e w' => e = .returned (.agg #[.int .u64 (lim limN 0 : Int), .int .u64 (lim limN 1 : Int), .int .u64 (lim limN 2 : Int), .int .u64 (lim limN 3 : Int)]) ∧ Nx w w' := told_any 545259519 w (by omega)

set_option maxHeartbeats 2000000 in
theorem tnext_no (b sp : Nat) (w : World) (hb : (b : Int) ≤ 4294967295) (h : ofE b = 5) :
    Calls Try.prog 47 #[.int .u32 (b : Int), .int .u32 (sp : Int)] w fun e w' => e = .returned (.tuple #[.int .u32 0, .int .i64 5]) ∧ Nx w w' := by
  have HO := Lib.hid (fun w => tof_any b w hb)
  rw [h] at HO
  clear h
  generalize ofT b = t at *
  go_enter Try.func47, Try.ntmps47
  go_wp2_with fail
  refine (HO.out _).mono ?_
  rintro e w1 ⟨rfl, hb1⟩
  have N1 := Lib.hid (hb1.alloc (.cells #[.int .u64 (lim t 0 : Int), .int .u64 (lim t 1 : Int), .int .u64 (lim t 2 : Int), .int .u64 (lim t 3 : Int)] 24))
  clear hb1
  go_wp2
  go_ret2
  exact ⟨rfl, N1.out⟩

theorem Row.over {w : World} {g m : Nat} {t : TypeId} (h : Row w g #[.int .u64 (lim m 0 : Int), .int .u64 (lim m 1 : Int), .int .u64 (lim m 2 : Int), .int .u64 (lim m 3 : Int)] t) (a : Nat) : Row ((((w.setCell ⟨g, 0, none⟩ (.int .u64 (lim a 0 : Int))).setCell ⟨g, 1, none⟩ (.int .u64 (lim a 1 : Int))).setCell ⟨g, 2, none⟩ (.int .u64 (lim a 2 : Int))).setCell ⟨g, 3, none⟩ (.int .u64 (lim a 3 : Int))) g #[.int .u64 (lim a 0 : Int), .int .u64 (lim a 1 : Int), .int .u64 (lim a 2 : Int), .int .u64 (lim a 3 : Int)] t := (((h.set 0 _).set 1 _).set 2 _).set 3 _
theorem Nx.stored' {w0 w : World} (h : Nx w0 w) (g a : Nat) (hk : w0.heap.size ≤ g) : Nx w0 ((((w.setCell ⟨g, 0, none⟩ (.int .u64 (lim a 0 : Int))).setCell ⟨g, 1, none⟩ (.int .u64 (lim a 1 : Int))).setCell ⟨g, 2, none⟩ (.int .u64 (lim a 2 : Int))).setCell ⟨g, 3, none⟩ (.int .u64 (lim a 3 : Int))) := (((h.setAt _ hk).setAt _ hk).setAt _ hk).setAt _ hk

set_option maxHeartbeats 8000000 in
set_option maxRecDepth 100000 in
theorem tnext_yes (b sp : Nat) (w : World) (hb : (b : Int) ≤ 4294967295) (h : ofE b = 0) :
    Calls Try.prog 47 #[.int .u32 (b : Int), .int .u32 (sp : Int)] w fun e w' => e = .returned (.tuple #[.int .u32 (bN (nxT (ofT b) sp) : Int), .int .i64 0]) ∧ Nx w w' := by
  have HO := Lib.hid (fun w => tof_any b w hb)
  rw [h] at HO
  clear h
  have ht := ofT_lt b
  generalize ofT b = t at *
  have hspl : spN sp ≤ 1920 := Nat.min_le_right _ _
  have HSC := Lib.hid (fun w => scaled_any t (spN sp) w ht hspl)
  have hmm : min (max (sp : Int) 120) 1920 = (spN sp : Int) := by unfold spN; omega
  have HSL : Hid (scN t (spN sp) < top) := Lib.hid (addN_lt _ _)
  have HKL : Hid (limN < top) := Lib.hid (tN_lt _)
  have HLESS := Lib.hid (fun w => less_any limN (scN t (spN sp)) w HKL.out HSL.out)
  have HRES : Hid (nxT t sp = if (if scB t (spN sp) || subB limN (scN t (spN sp)) then limN else scN t (spN sp)) = 0 then 1 else (if scB t (spN sp) || subB limN (scN t (spN sp)) then limN else scN t (spN sp))) := Lib.hid rfl
  have HLIM := Lib.hid told_lim
  clear ht hspl
  generalize nxT t sp = nx at *
  generalize subB limN (scN t (spN sp)) = lb at *
  generalize scB t (spN sp) = v at *
  generalize scN t (spN sp) = s at *
  generalize limN = k at *
  generalize spN sp = sq at *
  go_enter Try.func47, Try.ntmps47
  go_wp2_with fail
  refine (HO.out _).mono ?_
  rintro e w1 ⟨rfl, hb1⟩
  have N1 := Lib.hid (hb1.alloc (.cells #[.int .u64 (lim t 0 : Int), .int .u64 (lim t 1 : Int), .int .u64 (lim t 2 : Int), .int .u64 (lim t 3 : Int)] 24))
  have HS1 := Lib.hid hb1.size
  clear hb1 HO
  go_wp2_with fail
  refine (HSC.out _).mono ?_
  rintro e w2 ⟨rfl, hb2⟩
  replace N1 := Lib.hid ((N1.out.trans hb2).alloc (.cells #[.int .u64 (lim s 0 : Int), .int .u64 (lim s 1 : Int), .int .u64 (lim s 2 : Int), .int .u64 (lim s 3 : Int)] 24))
  have HG8 := Lib.hid (show w.heap.size ≤ w2.heap.size from Nat.le_trans HS1.out (Nat.le_trans (by rw [alloc_size]; exact Nat.le_succ _) hb2.size))
  have RM : Row (w2.alloc (.cells #[.int .u64 (lim s 0 : Int), .int .u64 (lim s 1 : Int), .int .u64 (lim s 2 : Int), .int .u64 (lim s 3 : Int)] 24)) w2.heap.size #[.int .u64 (lim s 0 : Int), .int .u64 (lim s 1 : Int), .int .u64 (lim s 2 : Int), .int .u64 (lim s 3 : Int)] 24 := Row.new w2 _ _ _ rfl
  clear hb2 HSC HS1
  go_wp2_with fail
  refine (HLIM.out _).mono ?_
  rintro e w3 ⟨rfl, hb3⟩
  replace N1 := Lib.hid ((N1.out.trans hb3).alloc (.cells #[.int .u64 (lim k 0 : Int), .int .u64 (lim k 1 : Int), .int .u64 (lim k 2 : Int), .int .u64 (lim k 3 : Int)] 24))
  replace RM := (RM.nx hb3).alloc (.cells #[.int .u64 (lim k 0 : Int), .int .u64 (lim k 1 : Int), .int .u64 (lim k 2 : Int), .int .u64 (lim k 3 : Int)] 24)
  have RK : Row (w3.alloc (.cells #[.int .u64 (lim k 0 : Int), .int .u64 (lim k 1 : Int), .int .u64 (lim k 2 : Int), .int .u64 (lim k 3 : Int)] 24)) w3.heap.size #[.int .u64 (lim k 0 : Int), .int .u64 (lim k 1 : Int), .int .u64 (lim k 2 : Int), .int .u64 (lim k 3 : Int)] 24 := Row.new w3 _ _ _ rfl
  have HGK := Lib.hid (show w2.heap.size < w3.heap.size from Nat.lt_of_lt_of_le (by rw [alloc_size]; exact Nat.lt_succ_self _) hb3.size)
  clear hb3 HLIM
  generalize w2.heap.size = g8 at *
  rcases v with _ | _
  · obtain ⟨m0, m1, m2, m3⟩ := RM.four
    go_wp2_with fail
    refine (HLESS.out _).mono ?_
    rintro e w6 ⟨rfl, hb6⟩
    clear m0 m1 m2 m3
    replace N1 := Lib.hid (N1.out.trans hb6)
    replace RM := RM.nx hb6
    replace RK := RK.nx hb6
    clear hb6 HLESS
    rcases lb with _ | _
    · have HML := HSL
      have NM := N1
      clear N1 RK
      go_wp2_with fail
      generalize hWW : w6 = W at *
      replace hWW := Lib.hid hWW
      have qt0 : ∀ d os, (Sort.grow (redrawn W d) os).cell? ⟨g8, 0, none⟩ = some (.int .u64 (lim s 0 : Int)) := fun d os => cell_regrown (RM.cell rfl) d os
      have qt1 : ∀ d os, (Sort.grow (redrawn W d) os).cell? ⟨g8, 1, none⟩ = some (.int .u64 (lim s 1 : Int)) := fun d os => cell_regrown (RM.cell rfl) d os
      have qt2 : ∀ d os, (Sort.grow (redrawn W d) os).cell? ⟨g8, 2, none⟩ = some (.int .u64 (lim s 2 : Int)) := fun d os => cell_regrown (RM.cell rfl) d os
      have qt3 : ∀ d os, (Sort.grow (redrawn W d) os).cell? ⟨g8, 3, none⟩ = some (.int .u64 (lim s 3 : Int)) := fun d os => cell_regrown (RM.cell rfl) d os
      have heq := fun w => eqU0 s HML.out w
      by_cases hz : s = 0
      · rw [decide_eq_true hz] at heq
        replace hz := Lib.hid hz
        refine wp_region_quiet_below (by kernel_rfl) (by kernel_rfl) ?_
        repeat (first
          | quiet_step ((go_at_call 15; with_reducible exact Calls.regrown_of (of_0 _))))
        refine wpQuiet_nil ?_
        intro _ hw'
        obtain ⟨⟨dq, osq⟩, hw''⟩ := hw'
        subst hw''
        have HG := below_regrown W dq osq
        have RM2 := Row.nx RM HG
        have N2 := Lib.hid (NM.out.trans HG)
        have HG8' := HG8
        clear HG qt0 qt1 qt2 qt3 RM NM
        generalize Sort.grow (redrawn W dq) osq = W2 at *
        go_wp2_with fail
        refine (of_1 _).mono ?_
        rintro e w4 ⟨rfl, hb4⟩
        replace RM2 := RM2.nx hb4
        replace N2 := Lib.hid (N2.out.trans hb4)
        clear hb4
        obtain ⟨m0, m1, m2, m3⟩ := RM2.four
        have fm := RM2.frozen
        have RN := Row.over RM2 1
        obtain ⟨n0, n1, n2, n3⟩ := RN.four
        replace N2 := Lib.hid (N2.out.stored' g8 1 HG8.out)
        go_wp2_with fail
        refine (tbits_any 1 _ (by decide)).mono ?_
        rintro e w5 ⟨rfl, hb5⟩
        replace N2 := Lib.hid (N2.out.trans hb5)
        clear hb5
        go_wp2
        go_ret2
        exact ⟨by rw [show nx = 1 by rw [HRES.out]; simp [hz.out]]; rfl, N2.out⟩
      · rw [decide_eq_false hz] at heq
        replace hz := Lib.hid hz
        refine wp_region_quiet_below (by kernel_rfl) (by kernel_rfl) ?_
        repeat (first
          | quiet_step ((go_at_call 15; with_reducible exact Calls.regrown_of (of_0 _))))
        refine wpQuiet_nil ?_
        intro _ hw'
        obtain ⟨⟨dq, osq⟩, hw''⟩ := hw'
        subst hw''
        have HG := below_regrown W dq osq
        have RM2 := Row.nx RM HG
        have N2 := Lib.hid (NM.out.trans HG)
        clear HG qt0 qt1 qt2 qt3 RM NM
        generalize Sort.grow (redrawn W dq) osq = W2 at *
        obtain ⟨m0, m1, m2, m3⟩ := RM2.four
        go_wp2_with fail
        refine (tbits_any s _ HML.out).mono ?_
        rintro e w5 ⟨rfl, hb5⟩
        replace N2 := Lib.hid (N2.out.trans hb5)
        clear hb5
        go_wp2
        go_ret2
        exact ⟨by rw [show nx = s by rw [HRES.out]; simp [hz.out]]; rfl, N2.out⟩
    · have HML := HKL
      obtain ⟨m0, m1, m2, m3⟩ := RM.four
      obtain ⟨k0, k1, k2, k3⟩ := RK.four
      have fm := RM.frozen
      have NM := Lib.hid (N1.out.stored' g8 k HG8.out)
      replace RM := Row.over RM k
      clear N1 RK
      go_wp2_with fail
      clear m0 m1 m2 m3 k0 k1 k2 k3 fm
      generalize hWW : ((((w6.setCell ⟨g8, 0, none⟩ (.int .u64 (lim k 0 : Int))).setCell ⟨g8, 1, none⟩ (.int .u64 (lim k 1 : Int))).setCell ⟨g8, 2, none⟩ (.int .u64 (lim k 2 : Int))).setCell ⟨g8, 3, none⟩ (.int .u64 (lim k 3 : Int))) = W at *
      replace hWW := Lib.hid hWW
      have qt0 : ∀ d os, (Sort.grow (redrawn W d) os).cell? ⟨g8, 0, none⟩ = some (.int .u64 (lim k 0 : Int)) := fun d os => cell_regrown (RM.cell rfl) d os
      have qt1 : ∀ d os, (Sort.grow (redrawn W d) os).cell? ⟨g8, 1, none⟩ = some (.int .u64 (lim k 1 : Int)) := fun d os => cell_regrown (RM.cell rfl) d os
      have qt2 : ∀ d os, (Sort.grow (redrawn W d) os).cell? ⟨g8, 2, none⟩ = some (.int .u64 (lim k 2 : Int)) := fun d os => cell_regrown (RM.cell rfl) d os
      have qt3 : ∀ d os, (Sort.grow (redrawn W d) os).cell? ⟨g8, 3, none⟩ = some (.int .u64 (lim k 3 : Int)) := fun d os => cell_regrown (RM.cell rfl) d os
      have heq := fun w => eqU0 k HML.out w
      by_cases hz : k = 0
      · rw [decide_eq_true hz] at heq
        replace hz := Lib.hid hz
        refine wp_region_quiet_below (by kernel_rfl) (by kernel_rfl) ?_
        repeat (first
          | quiet_step ((go_at_call 15; with_reducible exact Calls.regrown_of (of_0 _))))
        refine wpQuiet_nil ?_
        intro _ hw'
        obtain ⟨⟨dq, osq⟩, hw''⟩ := hw'
        subst hw''
        have HG := below_regrown W dq osq
        have RM2 := Row.nx RM HG
        have N2 := Lib.hid (NM.out.trans HG)
        have HG8' := HG8
        clear HG qt0 qt1 qt2 qt3 RM NM
        generalize Sort.grow (redrawn W dq) osq = W2 at *
        go_wp2_with fail
        refine (of_1 _).mono ?_
        rintro e w4 ⟨rfl, hb4⟩
        replace RM2 := RM2.nx hb4
        replace N2 := Lib.hid (N2.out.trans hb4)
        clear hb4
        obtain ⟨m0, m1, m2, m3⟩ := RM2.four
        have fm := RM2.frozen
        have RN := Row.over RM2 1
        obtain ⟨n0, n1, n2, n3⟩ := RN.four
        replace N2 := Lib.hid (N2.out.stored' g8 1 HG8.out)
        go_wp2_with fail
        refine (tbits_any 1 _ (by decide)).mono ?_
        rintro e w5 ⟨rfl, hb5⟩
        replace N2 := Lib.hid (N2.out.trans hb5)
        clear hb5
        go_wp2
        go_ret2
        exact ⟨by rw [show nx = 1 by rw [HRES.out]; simp [hz.out]]; rfl, N2.out⟩
      · rw [decide_eq_false hz] at heq
        replace hz := Lib.hid hz
        refine wp_region_quiet_below (by kernel_rfl) (by kernel_rfl) ?_
        repeat (first
          | quiet_step ((go_at_call 15; with_reducible exact Calls.regrown_of (of_0 _))))
        refine wpQuiet_nil ?_
        intro _ hw'
        obtain ⟨⟨dq, osq⟩, hw''⟩ := hw'
        subst hw''
        have HG := below_regrown W dq osq
        have RM2 := Row.nx RM HG
        have N2 := Lib.hid (NM.out.trans HG)
        clear HG qt0 qt1 qt2 qt3 RM NM
        generalize Sort.grow (redrawn W dq) osq = W2 at *
        obtain ⟨m0, m1, m2, m3⟩ := RM2.four
        go_wp2_with fail
        refine (tbits_any k _ HML.out).mono ?_
        rintro e w5 ⟨rfl, hb5⟩
        replace N2 := Lib.hid (N2.out.trans hb5)
        clear hb5
        go_wp2
        go_ret2
        exact ⟨by rw [show nx = k by rw [HRES.out]; simp [hz.out]]; rfl, N2.out⟩
  · have HML := HKL
    obtain ⟨m0, m1, m2, m3⟩ := RM.four
    obtain ⟨k0, k1, k2, k3⟩ := RK.four
    have fm := RM.frozen
    have NM := Lib.hid (N1.out.stored' g8 k HG8.out)
    replace RM := Row.over RM k
    clear N1 RK HLESS
    go_wp2_with fail
    clear m0 m1 m2 m3 k0 k1 k2 k3 fm
    generalize hWW : (((((w3.alloc (.cells #[.int .u64 (lim k 0 : Int), .int .u64 (lim k 1 : Int), .int .u64 (lim k 2 : Int), .int .u64 (lim k 3 : Int)] 24)).setCell ⟨g8, 0, none⟩ (.int .u64 (lim k 0 : Int))).setCell ⟨g8, 1, none⟩ (.int .u64 (lim k 1 : Int))).setCell ⟨g8, 2, none⟩ (.int .u64 (lim k 2 : Int))).setCell ⟨g8, 3, none⟩ (.int .u64 (lim k 3 : Int))) = W at *
    replace hWW := Lib.hid hWW
    have qt0 : ∀ d os, (Sort.grow (redrawn W d) os).cell? ⟨g8, 0, none⟩ = some (.int .u64 (lim k 0 : Int)) := fun d os => cell_regrown (RM.cell rfl) d os
    have qt1 : ∀ d os, (Sort.grow (redrawn W d) os).cell? ⟨g8, 1, none⟩ = some (.int .u64 (lim k 1 : Int)) := fun d os => cell_regrown (RM.cell rfl) d os
    have qt2 : ∀ d os, (Sort.grow (redrawn W d) os).cell? ⟨g8, 2, none⟩ = some (.int .u64 (lim k 2 : Int)) := fun d os => cell_regrown (RM.cell rfl) d os
    have qt3 : ∀ d os, (Sort.grow (redrawn W d) os).cell? ⟨g8, 3, none⟩ = some (.int .u64 (lim k 3 : Int)) := fun d os => cell_regrown (RM.cell rfl) d os
    have heq := fun w => eqU0 k HML.out w
    by_cases hz : k = 0
    · rw [decide_eq_true hz] at heq
      replace hz := Lib.hid hz
      refine wp_region_quiet_below (by kernel_rfl) (by kernel_rfl) ?_
      repeat (first
        | quiet_step ((go_at_call 15; with_reducible exact Calls.regrown_of (of_0 _))))
      refine wpQuiet_nil ?_
      intro _ hw'
      obtain ⟨⟨dq, osq⟩, hw''⟩ := hw'
      subst hw''
      have HG := below_regrown W dq osq
      have RM2 := Row.nx RM HG
      have N2 := Lib.hid (NM.out.trans HG)
      have HG8' := HG8
      clear HG qt0 qt1 qt2 qt3 RM NM
      generalize Sort.grow (redrawn W dq) osq = W2 at *
      go_wp2_with fail
      refine (of_1 _).mono ?_
      rintro e w4 ⟨rfl, hb4⟩
      replace RM2 := RM2.nx hb4
      replace N2 := Lib.hid (N2.out.trans hb4)
      clear hb4
      obtain ⟨m0, m1, m2, m3⟩ := RM2.four
      have fm := RM2.frozen
      have RN := Row.over RM2 1
      obtain ⟨n0, n1, n2, n3⟩ := RN.four
      replace N2 := Lib.hid (N2.out.stored' g8 1 HG8.out)
      go_wp2_with fail
      refine (tbits_any 1 _ (by decide)).mono ?_
      rintro e w5 ⟨rfl, hb5⟩
      replace N2 := Lib.hid (N2.out.trans hb5)
      clear hb5
      go_wp2
      go_ret2
      exact ⟨by rw [show nx = 1 by rw [HRES.out]; simp [hz.out]]; rfl, N2.out⟩
    · rw [decide_eq_false hz] at heq
      replace hz := Lib.hid hz
      refine wp_region_quiet_below (by kernel_rfl) (by kernel_rfl) ?_
      repeat (first
        | quiet_step ((go_at_call 15; with_reducible exact Calls.regrown_of (of_0 _))))
      refine wpQuiet_nil ?_
      intro _ hw'
      obtain ⟨⟨dq, osq⟩, hw''⟩ := hw'
      subst hw''
      have HG := below_regrown W dq osq
      have RM2 := Row.nx RM HG
      have N2 := Lib.hid (NM.out.trans HG)
      clear HG qt0 qt1 qt2 qt3 RM NM
      generalize Sort.grow (redrawn W dq) osq = W2 at *
      obtain ⟨m0, m1, m2, m3⟩ := RM2.four
      go_wp2_with fail
      refine (tbits_any k _ HML.out).mono ?_
      rintro e w5 ⟨rfl, hb5⟩
      replace N2 := Lib.hid (N2.out.trans hb5)
      clear hb5
      go_wp2
      go_ret2
      exact ⟨by rw [show nx = k by rw [HRES.out]; simp [hz.out]]; rfl, N2.out⟩

theorem tnext_any (b sp : Nat) (w : World) (hb : (b : Int) ≤ 4294967295) :
    Calls Try.prog 47 #[.int .u32 (b : Int), .int .u32 (sp : Int)] w fun e w' => e = .returned (.tuple #[.int .u32 (nxN b sp : Int), .int .i64 (ofE b)]) ∧ Nx w w' := by
  by_cases h : ofE b = 0
  · have e : nxN b sp = bN (nxT (ofT b) sp) := if_pos h
    rw [e, h]
    exact tnext_yes b sp w hb h
  · have h5 : ofE b = 5 := by
      unfold ofE at h ⊢
      split
      · rfl
      · rename_i h2; rw [if_neg h2] at h; exact absurd rfl h
    have e : nxN b sp = 0 := if_neg h
    rw [e, h5]
    exact tnext_no b sp w hb h5
end Go.Proofs.Ytggemncdnclhnaa
