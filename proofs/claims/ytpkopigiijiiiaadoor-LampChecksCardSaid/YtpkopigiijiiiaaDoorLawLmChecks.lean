/- THE LAW LampChecks. -/
import Derived.Test.YtpkopigiijiiiaaDoorLawLmSpoilt
import Derived.Test.YtpkopigiijiiiaaDoorLm12
namespace Go.Proofs.YtpkopigiijiiiaaDoor
open Go Go.RowKit
set_option linter.unusedVariables false
set_option linter.unusedSimpArgs false
set_option linter.unusedVariables false
set_option linter.unusedSimpArgs false

def oL (g : Bs) : Hs := if g.length = 2048 then opL g else []
def oE (g : Bs) : Nat := if g.length = 2048 then 0 else 5
theorem oL_le (g : Bs) : (oL g).length ≤ 32 := by
  unfold oL
  split
  · rw [opL_length]; omega
  · simp
theorem open_any13 (v : Value) (g : Bs) (w : World) (hr : Rd w v g) :
    Calls Tryd.prog 18 #[v] w fun e w' => ∃ A m c, e = .returned (.tuple #[.slice A m c, .int .i64 (oE g : Int)]) ∧ RdE elH w' (.slice A m c) (oL g) ∧ Nx w w' := by
  unfold oL oE
  by_cases hg : g.length = 2048
  · rw [if_pos hg, if_pos hg]
    refine (open_ok v g w hr hg).mono ?_
    rintro e w' ⟨v', he, ho, hn⟩
    obtain ⟨A, m, c, rfl⟩ := ho.rd.slE
    exact ⟨A, m, c, he, ho.rd, hn⟩
  · rw [if_neg hg, if_neg hg]
    refine (open_no v g w hr hg).mono ?_
    rintro e w' ⟨he, hn⟩
    exact ⟨none, 0, 0, he, (OwnE.nil 0 w').rd, hn⟩
theorem ropen_any13 (v : Value) (g : Bs) (w : World) (hr : Rd w v g) :
    Calls Tryd.prog 19 #[v] w fun e w' => ∃ A m c, e = .returned (.tuple #[.slice A m c, .int .i64 (oE g : Int)]) ∧ RdE elH w' (.slice A m c) (oL g) ∧ Nx w w' := by
  unfold oL oE
  by_cases hg : g.length = 2048
  · rw [if_pos hg, if_pos hg]
    refine (ropen_ok v g w hr hg).mono ?_
    rintro e w' ⟨v', he, ho, hn⟩
    obtain ⟨A, m, c, rfl⟩ := ho.slE
    exact ⟨A, m, c, he, ho, hn⟩
  · rw [if_neg hg, if_neg hg]
    refine (ropen_no v g w hr hg).mono ?_
    rintro e w' ⟨he, hn⟩
    exact ⟨none, 0, 0, he, (OwnE.nil 0 w').rd, hn⟩
set_option maxRecDepth 100000 in
set_option maxHeartbeats 8000000 in
theorem lampChecks_law {w : World} (key : Bs) (hkey : key.length = 32) (d : Bs) (hd : d.length = 32) (v : Value) (g : Bs) (hr : Rd w v g) (hle : g.length ≤ 140737488351232) (hK : KIs w) :
    Calls Tryd.prog 4 #[.agg (hcel key), .agg (hcel d), v] w fun e w' => e = .returned (.bool true) ∧ Nx w w' := by
  have HKK := Lib.hid hK
  obtain ⟨As, ms, cs, rfl⟩ := hr.sl
  have HR := Lib.hid hr
  have zk := Lib.hid (hashsz key hkey)
  have zd := Lib.hid (hashsz d hd)
  have HKL := Lib.hid hkey
  have HDL := Lib.hid hd
  have Q1 := (Row.new w (hcel key) 23 _ rfl).alloc (.cells (hcel d) 23)
  have Q2 := Row.new2 w (.cells (hcel key) 23) (hcel d) 23
  have N0 := Lib.hid (((Nx.refl w).alloc (.cells (hcel key) 23)).alloc (.cells (hcel d) 23))
  have HO1 := Lib.hid (fun W h => open_any13 _ g W (HR.out.nx h))
  have HO2 := Lib.hid (fun W h => ropen_any13 _ g W (HR.out.nx h))
  have HOL := Lib.hid (oL_le g)
  obtain ⟨O, hO⟩ : ∃ O, oE g = O := ⟨_, rfl⟩
  obtain ⟨E, hE⟩ : ∃ E, chkE key d g = E := ⟨_, rfl⟩
  have HHS0 := Lib.hid (fun W v1 v2 (r1 : RdE elH W v1 (oL g)) (r2 : RdE elH W v2 (oL g)) => hashes_any v1 v2 (oL g) (oL g) W r1 r2 (by have := HOL.out; omega))
  rw [hO] at HO1 HO2
  have hdec : decide (oL g = oL g) = true := by simp
  rw [hdec] at HHS0
  have HQ1 : Hid (∀ W, Nx w W → Calls Tryd.prog 20 #[.agg (hcel key), .agg (hcel d), .slice As ms cs] W fun e w' => e = .returned (.int .i64 (E : Int)) ∧ Nx W w') := Lib.hid fun W h => by
    have := check_any _ key d g W (HR.out.nx h) HKL.out HDL.out (HKK.out.nx h)
    rwa [hE] at this
  have HQ2 : Hid (∀ W, Nx w W → Calls Tryd.prog 21 #[.agg (hcel key), .agg (hcel d), .slice As ms cs] W fun e w' => e = .returned (.int .i64 (E : Int)) ∧ Nx W w') := Lib.hid fun W h => by
    have := rcheck_any _ key d g W (HR.out.nx h) HKL.out HDL.out
    rwa [hE] at this
  clear hO hE hdec hK hkey hd hr hle
  generalize oL g = L at *
  go_enter Tryd.func4, Tryd.ntmps4
  go_wp2_with fail
  refine (HO1.out _ N0.out).mono ?_
  rintro e w1 ⟨A1, m1, c1, rfl, r1, n1⟩
  have N1 := Lib.hid (N0.out.trans n1)
  replace Q1 := Q1.nx n1
  replace Q2 := Q2.nx n1
  clear n1
  go_wp2_with fail
  refine (HO2.out _ N1.out).mono ?_
  rintro e w2 ⟨A2, m2, c2, rfl, r2, n2⟩
  have N2 := Lib.hid (N1.out.trans n2)
  have R1 := Lib.hid (Q1.nx n2)
  have R2 := Lib.hid (Q2.nx n2)
  have RH1 := Lib.hid (r1.nx n2)
  have RH2 := Lib.hid r2
  have HC1 : Hid (∀ W, Nx w2 W → Calls Tryd.prog 20 #[.agg (hcel key), .agg (hcel d), .slice As ms cs] W fun e w' => e = .returned (.int .i64 (E : Int)) ∧ Nx W w') := Lib.hid fun W h => HQ1.out W (N2.out.trans h)
  have HC2 : Hid (∀ W, Nx w2 W → Calls Tryd.prog 21 #[.agg (hcel key), .agg (hcel d), .slice As ms cs] W fun e w' => e = .returned (.int .i64 (E : Int)) ∧ Nx W w') := Lib.hid fun W h => HQ2.out W (N2.out.trans h)
  have HHS : Hid (∀ W, Nx w2 W → Calls Tryd.prog 22 #[.slice A1 m1 c1, .slice A2 m2 c2] W fun e w' => e = .returned (.bool true) ∧ Nx W w') := Lib.hid fun W h => HHS0.out W _ _ (RH1.out.nx h) (RH2.out.nx h)
  have HLV : Hid (∀ W, Nx w2 W → Calls Tryd.prog 17 #[] W fun e w' => e = .returned (.bool true) ∧ Nx W w') := Lib.hid fun W h => lives_any W (HKK.out.nx (N2.out.trans h))
  clear n2 Q1 Q2 r1 r2 HQ1 HQ2 HO1 HO2 HHS0
  go_wp2_with fail
  refine wp_region_nx 23 [[], [], [], [0, 1, 2], [], [], [], [4, 5, 6, 3], [3, 7], [8, 7], [9], [9], [10, 11, 9, 9], [9, 12], [13, 12], [14], [14], [15, 16, 14], [14, 17], [18, 14], [19, 19], [19, 20], [21, 20, 0, 1, 2, 3, 4, 5, 6, 7, 8, 9, 10, 11, 12, 13, 14, 15, 16, 17, 18, 19, 20, 21]] [some 21, some 22, some 23, some 24, some 25, some 26, some 27, some 28, some 29, some 30, some 31, some 32, some 33, some 34, some 35, some 36, some 37, some 38, some 39, some 40, some 41, some 42, some 6]
    [.eq (.agg (hcel key)), .eq (.agg (hcel d)), .eq (.slice As ms cs), .eq (.int .i64 (E : Int)), .eq (.agg (hcel key)), .eq (.agg (hcel d)), .eq (.slice As ms cs), .eq (.int .i64 (E : Int)), .eq (.bool true), .eq (.bool true), .eq (.slice A1 m1 c1), .eq (.slice A2 m2 c2), .eq (.bool true), .eq (.bool true), .eq (.bool true), .eq (.int .i64 (O : Int)), .eq (.int .i64 (O : Int)), .eq (.bool true), .eq (.bool true), .eq (.bool true), .eq (.bool true), .eq (.bool true), .eq (.bool true)]
    (by kernel_rfl) (by kernel_rfl) (hord_of (by decide)) (by kernel_rfl) (by decide) (by decide) (htail_of (by decide)) ?_ _ (by rfl) ?_
  · intro x tm wr htm hx i hi hd K hK
    simp only [fillA, List.setIfInBounds_toArray, List.set_cons_zero, List.set_cons_succ] at htm
    subst htm
    have hcs : i = 0 ∨ i = 1 ∨ i = 2 ∨ i = 3 ∨ i = 4 ∨ i = 5 ∨ i = 6 ∨ i = 7 ∨ i = 8 ∨ i = 9 ∨ i = 10 ∨ i = 11 ∨ i = 12 ∨ i = 13 ∨ i = 14 ∨ i = 15 ∨ i = 16 ∨ i = 17 ∨ i = 18 ∨ i = 19 ∨ i = 20 ∨ i = 21 ∨ i = 22 := by omega
    clear hi
    rcases hcs with rfl | rfl | rfl | rfl | rfl | rfl | rfl | rfl | rfl | rfl | rfl | rfl | rfl | rfl | rfl | rfl | rfl | rfl | rfl | rfl | rfl | rfl | rfl
    · exact wpOp_of rfl rfl (wp_load_row_of (some 21) rfl 23 (.tmp 3) rfl (w.heap.size) rfl 23 (hcel key) _ (R1.out.nx hx) Tryd.underlying23 rfl zk.out (hK _ _ rfl (Nx.refl _)))
    · exact wpOp_of rfl rfl (wp_load_row_of (some 22) rfl 23 (.tmp 4) rfl ((w.heap.size + 1)) rfl 23 (hcel d) _ (R2.out.nx hx) Tryd.underlying23 rfl zd.out (hK _ _ rfl (Nx.refl _)))
    · exact wpOp_of rfl rfl (wp_val_of (some 23) rfl (.slice As ms cs) (by kernel_rfl) (hK _ _ rfl (Nx.refl _)))
    · have e0 : x 0 = .agg (hcel key) := hd 0 (by decide)
      have e1 : x 1 = .agg (hcel d) := hd 1 (by decide)
      have e2 : x 2 = .slice As ms cs := hd 2 (by decide)
      generalize x 0 = y0 at e0 hK ⊢
      subst e0
      generalize x 1 = y1 at e1 hK ⊢
      subst e1
      generalize x 2 = y2 at e2 hK ⊢
      subst e2
      refine wpOp_of rfl rfl (wp_call_of (some 24) rfl 20 #[(.agg (hcel key)), (.agg (hcel d)), (.slice As ms cs)] (by kernel_rfl) (.int .i64 (E : Int)) ?_ (fun w' h => hK _ w' rfl h))
      exact HC1.out wr hx
    · exact wpOp_of rfl rfl (wp_load_row_of (some 25) rfl 23 (.tmp 3) rfl (w.heap.size) rfl 23 (hcel key) _ (R1.out.nx hx) Tryd.underlying23 rfl zk.out (hK _ _ rfl (Nx.refl _)))
    · exact wpOp_of rfl rfl (wp_load_row_of (some 26) rfl 23 (.tmp 4) rfl ((w.heap.size + 1)) rfl 23 (hcel d) _ (R2.out.nx hx) Tryd.underlying23 rfl zd.out (hK _ _ rfl (Nx.refl _)))
    · exact wpOp_of rfl rfl (wp_val_of (some 27) rfl (.slice As ms cs) (by kernel_rfl) (hK _ _ rfl (Nx.refl _)))
    · have e4 : x 4 = .agg (hcel key) := hd 4 (by decide)
      have e5 : x 5 = .agg (hcel d) := hd 5 (by decide)
      have e6 : x 6 = .slice As ms cs := hd 6 (by decide)
      have e3 : x 3 = .int .i64 (E : Int) := hd 3 (by decide)
      generalize x 4 = y4 at e4 hK ⊢
      subst e4
      generalize x 5 = y5 at e5 hK ⊢
      subst e5
      generalize x 6 = y6 at e6 hK ⊢
      subst e6
      generalize x 3 = y3 at e3 hK ⊢
      subst e3
      refine wpOp_of rfl rfl (wp_call_of (some 28) rfl 21 #[(.agg (hcel key)), (.agg (hcel d)), (.slice As ms cs)] (by kernel_rfl) (.int .i64 (E : Int)) ?_ (fun w' h => hK _ w' rfl h))
      exact HC2.out wr hx
    · have e3 : x 3 = .int .i64 (E : Int) := hd 3 (by decide)
      have e7 : x 7 = .int .i64 (E : Int) := hd 7 (by decide)
      generalize x 3 = y3 at e3 hK ⊢
      subst e3
      generalize x 7 = y7 at e7 hK ⊢
      subst e7
      exact wpOp_of rfl rfl (wp_eqi13 (some 29) rfl _ _ _ _ rfl .i64 (E : Int) rfl rfl (hK _ _ rfl (Nx.refl _)))
    · have e8 : x 8 = .bool true := hd 8 (by decide)
      have e7 : x 7 = .int .i64 (E : Int) := hd 7 (by decide)
      generalize x 8 = y8 at e8 hK ⊢
      subst e8
      generalize x 7 = y7 at e7 hK ⊢
      subst e7
      exact wpOp_of rfl rfl (wp_val_of (some 30) rfl (.bool true) (by kernel_rfl) (hK _ _ rfl (Nx.refl _)))
    · have e9 : x 9 = .bool true := hd 9 (by decide)
      generalize x 9 = y9 at e9 hK ⊢
      subst e9
      exact wpOp_g rfl (by rfl) (wp_val_of (some 31) rfl (.slice A1 m1 c1) (by kernel_rfl) (hK _ _ rfl (Nx.refl _)))
    · have e9 : x 9 = .bool true := hd 9 (by decide)
      generalize x 9 = y9 at e9 hK ⊢
      subst e9
      exact wpOp_g rfl (by rfl) (wp_val_of (some 32) rfl (.slice A2 m2 c2) (by kernel_rfl) (hK _ _ rfl (Nx.refl _)))
    · have e10 : x 10 = .slice A1 m1 c1 := hd 10 (by decide)
      have e11 : x 11 = .slice A2 m2 c2 := hd 11 (by decide)
      have e9 : x 9 = .bool true := hd 9 (by decide)
      generalize x 10 = y10 at e10 hK ⊢
      subst e10
      generalize x 11 = y11 at e11 hK ⊢
      subst e11
      generalize x 9 = y9 at e9 hK ⊢
      subst e9
      refine wpOp_g rfl (by rfl) (wp_call_of (some 33) rfl 22 #[(.slice A1 m1 c1), (.slice A2 m2 c2)] (by kernel_rfl) (.bool true) ?_ (fun w' h => hK _ w' rfl h))
      exact HHS.out wr hx
    · have e9 : x 9 = .bool true := hd 9 (by decide)
      have e12 : x 12 = .bool true := hd 12 (by decide)
      generalize x 9 = y9 at e9 hK ⊢
      subst e9
      generalize x 12 = y12 at e12 hK ⊢
      subst e12
      exact wpOp_of rfl rfl (wp_val_of (some 34) rfl (.bool true) (by kernel_rfl) (hK _ _ rfl (Nx.refl _)))
    · have e13 : x 13 = .bool true := hd 13 (by decide)
      have e12 : x 12 = .bool true := hd 12 (by decide)
      generalize x 13 = y13 at e13 hK ⊢
      subst e13
      generalize x 12 = y12 at e12 hK ⊢
      subst e12
      exact wpOp_of rfl rfl (wp_val_of (some 35) rfl (.bool true) (by kernel_rfl) (hK _ _ rfl (Nx.refl _)))
    · have e14 : x 14 = .bool true := hd 14 (by decide)
      generalize x 14 = y14 at e14 hK ⊢
      subst e14
      exact wpOp_g rfl (by rfl) (wp_val_of (some 36) rfl (.int .i64 (O : Int)) (by kernel_rfl) (hK _ _ rfl (Nx.refl _)))
    · have e14 : x 14 = .bool true := hd 14 (by decide)
      generalize x 14 = y14 at e14 hK ⊢
      subst e14
      exact wpOp_g rfl (by rfl) (wp_val_of (some 37) rfl (.int .i64 (O : Int)) (by kernel_rfl) (hK _ _ rfl (Nx.refl _)))
    · have e15 : x 15 = .int .i64 (O : Int) := hd 15 (by decide)
      have e16 : x 16 = .int .i64 (O : Int) := hd 16 (by decide)
      have e14 : x 14 = .bool true := hd 14 (by decide)
      generalize x 15 = y15 at e15 hK ⊢
      subst e15
      generalize x 16 = y16 at e16 hK ⊢
      subst e16
      generalize x 14 = y14 at e14 hK ⊢
      subst e14
      exact wpOp_g rfl (by rfl) (wp_eqi13 (some 38) rfl _ _ _ _ rfl .i64 (O : Int) rfl rfl (hK _ _ rfl (Nx.refl _)))
    · have e14 : x 14 = .bool true := hd 14 (by decide)
      have e17 : x 17 = .bool true := hd 17 (by decide)
      generalize x 14 = y14 at e14 hK ⊢
      subst e14
      generalize x 17 = y17 at e17 hK ⊢
      subst e17
      exact wpOp_of rfl rfl (wp_val_of (some 39) rfl (.bool true) (by kernel_rfl) (hK _ _ rfl (Nx.refl _)))
    · have e18 : x 18 = .bool true := hd 18 (by decide)
      have e14 : x 14 = .bool true := hd 14 (by decide)
      generalize x 18 = y18 at e18 hK ⊢
      subst e18
      generalize x 14 = y14 at e14 hK ⊢
      subst e14
      exact wpOp_of rfl rfl (wp_val_of (some 40) rfl (.bool true) (by kernel_rfl) (hK _ _ rfl (Nx.refl _)))
    · have e19 : x 19 = .bool true := hd 19 (by decide)
      generalize x 19 = y19 at e19 hK ⊢
      subst e19
      refine wpOp_g rfl (by rfl) (wp_call_of (some 41) rfl 17 #[] (by kernel_rfl) (.bool true) ?_ (fun w' h => hK _ w' rfl h))
      exact HLV.out wr hx
    · have e19 : x 19 = .bool true := hd 19 (by decide)
      have e20 : x 20 = .bool true := hd 20 (by decide)
      generalize x 19 = y19 at e19 hK ⊢
      subst e19
      generalize x 20 = y20 at e20 hK ⊢
      subst e20
      exact wpOp_of rfl rfl (wp_val_of (some 42) rfl (.bool true) (by kernel_rfl) (hK _ _ rfl (Nx.refl _)))
    · have e21 : x 21 = .bool true := hd 21 (by decide)
      have e20 : x 20 = .bool true := hd 20 (by decide)
      have e0 : x 0 = .agg (hcel key) := hd 0 (by decide)
      have e1 : x 1 = .agg (hcel d) := hd 1 (by decide)
      have e2 : x 2 = .slice As ms cs := hd 2 (by decide)
      have e3 : x 3 = .int .i64 (E : Int) := hd 3 (by decide)
      have e4 : x 4 = .agg (hcel key) := hd 4 (by decide)
      have e5 : x 5 = .agg (hcel d) := hd 5 (by decide)
      have e6 : x 6 = .slice As ms cs := hd 6 (by decide)
      have e7 : x 7 = .int .i64 (E : Int) := hd 7 (by decide)
      have e8 : x 8 = .bool true := hd 8 (by decide)
      have e9 : x 9 = .bool true := hd 9 (by decide)
      have e10 : x 10 = .slice A1 m1 c1 := hd 10 (by decide)
      have e11 : x 11 = .slice A2 m2 c2 := hd 11 (by decide)
      have e12 : x 12 = .bool true := hd 12 (by decide)
      have e13 : x 13 = .bool true := hd 13 (by decide)
      have e14 : x 14 = .bool true := hd 14 (by decide)
      have e15 : x 15 = .int .i64 (O : Int) := hd 15 (by decide)
      have e16 : x 16 = .int .i64 (O : Int) := hd 16 (by decide)
      have e17 : x 17 = .bool true := hd 17 (by decide)
      have e18 : x 18 = .bool true := hd 18 (by decide)
      have e19 : x 19 = .bool true := hd 19 (by decide)
      generalize x 21 = y21 at e21 hK ⊢
      subst e21
      generalize x 20 = y20 at e20 hK ⊢
      subst e20
      generalize x 0 = y0 at e0 hK ⊢
      subst e0
      generalize x 1 = y1 at e1 hK ⊢
      subst e1
      generalize x 2 = y2 at e2 hK ⊢
      subst e2
      generalize x 3 = y3 at e3 hK ⊢
      subst e3
      generalize x 4 = y4 at e4 hK ⊢
      subst e4
      generalize x 5 = y5 at e5 hK ⊢
      subst e5
      generalize x 6 = y6 at e6 hK ⊢
      subst e6
      generalize x 7 = y7 at e7 hK ⊢
      subst e7
      generalize x 8 = y8 at e8 hK ⊢
      subst e8
      generalize x 9 = y9 at e9 hK ⊢
      subst e9
      generalize x 10 = y10 at e10 hK ⊢
      subst e10
      generalize x 11 = y11 at e11 hK ⊢
      subst e11
      generalize x 12 = y12 at e12 hK ⊢
      subst e12
      generalize x 13 = y13 at e13 hK ⊢
      subst e13
      generalize x 14 = y14 at e14 hK ⊢
      subst e14
      generalize x 15 = y15 at e15 hK ⊢
      subst e15
      generalize x 16 = y16 at e16 hK ⊢
      subst e16
      generalize x 17 = y17 at e17 hK ⊢
      subst e17
      generalize x 18 = y18 at e18 hK ⊢
      subst e18
      generalize x 19 = y19 at e19 hK ⊢
      subst e19
      exact wpOp_of rfl rfl (wp_val_of (some 6) rfl (.bool true) (by kernel_rfl) (hK _ _ rfl (Nx.refl _)))
  · intro x tm wr htm hx hv
    simp only [fillA, List.setIfInBounds_toArray, List.set_cons_zero, List.set_cons_succ] at htm
    subst htm
    have e22 : x 22 = .bool true := hv 22 (by decide)
    rw [e22]
    simp only [List.drop_succ_cons, List.drop_nil, List.drop_zero]
    refine wpList_nil ?_
    have NZ := Lib.hid (N2.out.trans hx)
    clear hx hv
    go_wp2_with fail
    go_ret
    exact ⟨rfl, NZ.out⟩
end Go.Proofs.YtpkopigiijiiiaaDoor
