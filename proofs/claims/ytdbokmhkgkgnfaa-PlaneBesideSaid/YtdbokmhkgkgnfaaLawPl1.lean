/- LAYER 5: the walks of PlaneOf, PlaneOnce, PlaneAll. -/
import Derived.Test.YtdbokmhkgkgnfaaPl9
namespace Go.Proofs.Ytdbokmhkgkgnfaa
open Go Go.RowKit
set_option linter.unusedVariables false
set_option linter.unusedSimpArgs false
theorem wf_i32 {n : Int} (h : (Lit.int .i32 n).wf = true) : -2147483648 ≤ n ∧ n ≤ 2147483647 := by
  simpa [Lit.wf, IntKind.min, IntKind.max, IntKind.signed, IntKind.bits] using h
theorem wf_i16 {n : Int} (h : (Lit.int .i16 n).wf = true) : -32768 ≤ n ∧ n ≤ 32767 := by
  simpa [Lit.wf, IntKind.min, IntKind.max, IntKind.signed, IntKind.bits] using h
set_option maxRecDepth 100000 in
set_option maxHeartbeats 8000000 in
theorem planeOf_in {w : World} (n : Nat) (hn : n < 2 ^ 40) : Calls Try.prog 3 #[.int .u64 (n : Int)] w fun e w' => e = .returned (.bool true) ∧ Nx w w' := by
  have H1 := Lib.hid (of_ok n hn)
  have H2 := Lib.hid (rof_ok n hn)
  have H3 := Lib.hid (beside_ok n hn)
  have H4 := Lib.hid (rbeside_ok n hn)
  have HB := plA_bound n
  have HS := Lib.hid (spot_any (plA n) (plI n) (by omega) (by omega))
  have HC := Lib.hid (spot_cf (plA n) (plI n) (by omega) (by omega))
  have cz := Lib.hid info_spot
  clear hn HB
  generalize plA n = a at *
  generalize plI n = b at *
  generalize bsK n 4 = l at *
  go_enter Try.func3, Try.ntmps3
  go_wp2_with fail
  refine (H1.out _).mono ?_
  rintro e w1 ⟨⟨p, q, rfl, hpq⟩, rfl⟩
  have o1 := ord_eq hpq.1 HC.out.1 rfl
  have o2 := ord_eq hpq.2 HC.out.2 rfl
  clear hpq HC
  generalize floatOfInt .f64 a = fa at *
  generalize floatOfInt .f64 b = fb at *
  go_wp2_with fail
  refine (H2.out _).mono ?_
  rintro e w2 ⟨rfl, n2⟩
  have R := Row.new w2 #[.int .i64 a, .int .i64 b] 28 _ rfl
  have N := Lib.hid (n2.alloc (.cells #[.int .i64 a, .int .i64 b] 28))
  clear n2
  go_wp2_with fail
  refine (H3.out _).mono ?_
  rintro e w3 ⟨v, rfl, hv, n3⟩
  replace R := R.nx n3
  replace N := Lib.hid (N.out.trans n3)
  have HV := Lib.hid hv.rd
  clear hv n3
  go_wp2_with fail
  refine (H4.out _).mono ?_
  rintro e w4 ⟨u, rfl, hu, n4⟩
  replace R := R.nx n4
  replace N := Lib.hid (N.out.trans n4)
  replace HV := Lib.hid (HV.out.nx n4)
  have HU := Lib.hid hu.rd
  clear hu n4
  go_wp2_with (refine wpList_load_row rfl 28 (.tmp 5) rfl w2.heap.size rfl 28 #[.int .i64 a, .int .i64 b] (0, 0) _ R Try.underlying28 rfl cz.out ?_)
  refine (HS.out _).mono ?_
  rintro e w5 ⟨rfl, n5⟩
  replace N := Lib.hid (N.out.trans n5)
  replace HV := Lib.hid (HV.out.nx n5)
  replace HU := Lib.hid (HU.out.nx n5)
  clear n5 R
  go_wp2_with fail
  refine (lsame_yes _ _ _ _ HV.out HU.out).mono ?_
  rintro e w6 ⟨rfl, n6⟩
  replace N := Lib.hid (N.out.trans n6)
  clear n6
  go_wp2_with fail
  refine (lives_any _).mono ?_
  rintro e w7 ⟨rfl, rfl⟩
  go_wp2_with fail
  go_ret
  exact ⟨rfl, N.out⟩
set_option maxRecDepth 100000 in
set_option maxHeartbeats 8000000 in
theorem planeOf_out {w : World} (n : Nat) (hn : ¬ n < 2 ^ 40) (hl : n < 18446744073709551616) : Calls Try.prog 3 #[.int .u64 (n : Int)] w fun e w' => e = .returned (.bool true) ∧ Nx w w' := by
  have H1 := Lib.hid (of_far n hn hl)
  have H2 := Lib.hid (rof_far n hn hl)
  have H3 := Lib.hid (beside_far n hn hl)
  have H4 := Lib.hid (rbeside_far n hn hl)
  have HS := Lib.hid (spot_any 0 0 (by decide) (by decide))
  have HC := spot_cf 0 0 (by decide) (by decide)
  have cz := Lib.hid info_spot
  have o1 := ord_eq isF_0 HC.1 rfl
  have o2 := ord_eq isF_0 HC.2 rfl
  clear hn hl HC
  generalize floatOfInt .f64 0 = fa at *
  go_enter Try.func3, Try.ntmps3
  go_wp2_with fail
  refine (H1.out _).mono ?_
  rintro e w1 ⟨rfl, rfl⟩
  go_wp2_with fail
  refine (H2.out _).mono ?_
  rintro e w2 ⟨rfl, n2⟩
  have R := Row.new w2 #[.int .i64 0, .int .i64 0] 28 _ rfl
  have N := Lib.hid (n2.alloc (.cells #[.int .i64 0, .int .i64 0] 28))
  clear n2
  go_wp2_with fail
  refine (H3.out _).mono ?_
  rintro e w3 ⟨rfl, rfl⟩
  go_wp2_with fail
  refine (H4.out _).mono ?_
  rintro e w4 ⟨rfl, n4⟩
  replace R := R.nx n4
  replace N := Lib.hid (N.out.trans n4)
  clear n4
  go_wp2_with (refine wpList_load_row rfl 28 (.tmp 5) rfl w2.heap.size rfl 28 #[.int .i64 0, .int .i64 0] (0, 0) _ R Try.underlying28 rfl cz.out ?_)
  refine (HS.out _).mono ?_
  rintro e w5 ⟨rfl, n5⟩
  replace N := Lib.hid (N.out.trans n5)
  clear n5 R
  go_wp2_with fail
  refine (lsame_yes _ _ [] _ (RdF.nil 1 _) (RdF.nil 1 _)).mono ?_
  rintro e w6 ⟨rfl, n6⟩
  replace N := Lib.hid (N.out.trans n6)
  clear n6
  go_wp2_with fail
  refine (lives_any _).mono ?_
  rintro e w7 ⟨rfl, rfl⟩
  go_wp2_with fail
  go_ret
  exact ⟨rfl, N.out⟩
theorem planeOf_law {w : World} (n : Nat) (hl : (n : Int) ≤ 18446744073709551615) : Calls Try.prog 3 #[.int .u64 (n : Int)] w fun e w' => e = .returned (.bool true) ∧ Nx w w' := by
  by_cases h : n < 2 ^ 40
  · exact planeOf_in n h
  · exact planeOf_out n h (by omega)
set_option maxRecDepth 100000 in
set_option maxHeartbeats 8000000 in
theorem planeOnce_law {w : World} (n : Nat) (hl : (n : Int) ≤ 18446744073709551615) (m : Nat) (hl2 : (m : Int) ≤ 18446744073709551615) : Calls Try.prog 5 #[.int .u64 (n : Int), .int .u64 (m : Int)] w fun e w' => e = .returned (.bool true) ∧ Nx w w' := by
  obtain ⟨x, hx⟩ : ∃ x : Nat, (n : Int) % 1099511627776 = (x : Int) := ⟨n % 1099511627776, by omega⟩
  obtain ⟨y, hy⟩ : ∃ y : Nat, (m : Int) % 1099511627776 = (y : Int) := ⟨m % 1099511627776, by omega⟩
  have hx2 : x < 2 ^ 40 := by omega
  have hy2 : y < 2 ^ 40 := by omega
  have H1 := Lib.hid (of_ok x hx2)
  have H2 := Lib.hid (of_ok y hy2)
  obtain ⟨g1, g2⟩ := plE_of x hx2
  have hb := plA_bound x
  have HBK := Lib.hid (fun p q (h : CF p q (plA x) (plI x)) => back_any h (by omega) (by omega))
  rw [g1, g2] at HBK
  have HEQ : Hid (((plA x = plA y ∧ plI x = plI y) ↔ x = y)) := Lib.hid ⟨fun h => plA_inj hx2 hy2 h.1 h.2, fun h => by subst h; exact ⟨rfl, rfl⟩⟩
  clear hl hl2 hx2 hy2 g1 g2 hb
  generalize plA x = a at *
  generalize plI x = b at *
  generalize plA y = c at *
  generalize plI y = d at *
  go_enter Try.func5, Try.ntmps5
  go_wp2_with fail
  refine (H1.out _).mono ?_
  rintro e w1 ⟨⟨p, q, rfl, hpq⟩, rfl⟩
  replace hpq := Lib.hid hpq
  go_wp2_with fail
  refine (H2.out _).mono ?_
  rintro e w1 ⟨⟨r, s, rfl, hrs⟩, rfl⟩
  replace hrs := Lib.hid hrs
  go_wp2_with fail
  refine (HBK.out _ _ hpq.out _).mono ?_
  rintro e w1 ⟨rfl, rfl⟩
  have ho := cf_eq hpq.out hrs.out
  by_cases hxy : x = y
  · subst hxy
    rw [decide_eq_true (HEQ.out.2 rfl), Bool.and_eq_true] at ho
    obtain ⟨o1, o2⟩ := ho
    clear HBK H1 H2 HEQ
    go_wp2_with fail
    refine (lives_any _).mono ?_
    rintro e w7 ⟨rfl, rfl⟩
    go_wp2_with fail
    go_ret
    exact ⟨rfl, Nx.refl _⟩
  · rw [decide_eq_false (fun h => hxy (HEQ.out.1 h))] at ho
    have hne : ((x : Int) == (y : Int)) = false := by rw [beq_eq_false_iff_ne]; omega
    have hne2 : ¬ (x : Int) = (y : Int) := by omega
    clear HBK H1 H2 HEQ
    go_wp2_with fail
    refine (lives_any _).mono ?_
    rintro e w7 ⟨rfl, rfl⟩
    go_wp2_with fail
    go_ret
    exact ⟨rfl, Nx.refl _⟩
set_option maxRecDepth 100000 in
set_option maxHeartbeats 8000000 in
theorem planeAll_law {w : World} (a : Int) (ha : -2147483648 ≤ a) (ha2 : a ≤ 2147483647) (b : Int) (hb : -2147483648 ≤ b) (hb2 : b ≤ 2147483647) : Calls Try.prog 6 #[.int .i32 a, .int .i32 b] w fun e w' => e = .returned (.bool true) ∧ Nx w w' := by
  have HSm := Lib.hid (small_any a b ha ha2 hb hb2)
  have b1 := tmod_bound a
  have b2 := tmod_bound b
  generalize Int.tmod a 8388608 = x at *
  generalize Int.tmod b 8388608 = y at *
  have HSp := Lib.hid (spot_any x y (by omega) (by omega))
  have HC := Lib.hid (spot_cf x y (by omega) (by omega))
  have HBK := Lib.hid (back_any HC.out (by omega) (by omega))
  have hc := plE_cases x y
  have HO := Lib.hid (fun (h : plN x y < 2 ^ 40) => of_ok (plN x y) h)
  generalize floatOfInt .f64 x = fx at *
  generalize floatOfInt .f64 y = fy at *
  replace b1 := Lib.hid b1
  replace b2 := Lib.hid b2
  rcases hc with ⟨h1, h2, h3⟩ | ⟨h1, h2⟩
  · have HO := Lib.hid (HO.out h3)
    have e1 : plA (plN x y) = x := by unfold plA; rw [h2]
    have e2 : plI (plN x y) = y := by unfold plI; rw [h2]
    rw [e1, e2] at HO
    rw [h1] at HBK
    clear h1 h2 h3 e1 e2 ha ha2 hb hb2
    generalize plN x y = n at *
    go_enter Try.func6, Try.ntmps6
    go_wp2_with fail
    refine (HSm.out _).mono ?_
    rintro e w1 ⟨rfl, n1⟩
    replace n1 := Lib.hid n1
    go_wp2_with fail
    refine (HSp.out _).mono ?_
    rintro e w2 ⟨rfl, n2⟩
    replace n1 := Lib.hid (n1.out.trans n2)
    clear n2
    go_wp2_with fail
    refine (HBK.out _).mono ?_
    rintro e w3 ⟨rfl, rfl⟩
    go_wp2_with fail
    refine (HO.out _).mono ?_
    rintro e w3 ⟨⟨p, q, rfl, hpq⟩, rfl⟩
    have o1 := ord_eq hpq.1 HC.out.1 rfl
    have o2 := ord_eq hpq.2 HC.out.2 rfl
    clear hpq
    go_wp2_with fail
    refine (lives_any _).mono ?_
    rintro e w7 ⟨rfl, rfl⟩
    go_wp2_with fail
    go_ret
    exact ⟨rfl, n1.out⟩
  · rw [h2] at HBK
    have hne : ¬ plE x y = 0 := by omega
    clear h1 h2 HO ha ha2 hb hb2
    generalize plE x y = E at *
    go_enter Try.func6, Try.ntmps6
    go_wp2_with fail
    refine (HSm.out _).mono ?_
    rintro e w1 ⟨rfl, n1⟩
    replace n1 := Lib.hid n1
    go_wp2_with fail
    refine (HSp.out _).mono ?_
    rintro e w2 ⟨rfl, n2⟩
    replace n1 := Lib.hid (n1.out.trans n2)
    clear n2
    go_wp2_with fail
    refine (HBK.out _).mono ?_
    rintro e w3 ⟨rfl, rfl⟩
    go_wp2_with fail
    refine (lives_any _).mono ?_
    rintro e w7 ⟨rfl, rfl⟩
    go_wp2_with fail
    go_ret
    exact ⟨rfl, n1.out⟩
end Go.Proofs.Ytdbokmhkgkgnfaa
