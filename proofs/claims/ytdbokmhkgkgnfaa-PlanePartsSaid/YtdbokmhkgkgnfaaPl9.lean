/- LAYER 5: the document's Beside; same, spot, small, lives. -/
import Derived.Test.YtdbokmhkgkgnfaaPl8
import Derived.Deep.QuietTactic
import Derived.BigQuiet
namespace Go.Proofs.Ytdbokmhkgkgnfaa
open Go Go.RowKit
set_option linter.unusedVariables false
set_option linter.unusedSimpArgs false

abbrev SPT : TypeId := 28
def spc (a b : Int) : Array Value := #[.int .i64 a, .int .i64 b]
set_option maxRecDepth 100000 in
set_option maxHeartbeats 4000000 in
theorem rbeside_ok (n : Nat) (h : n < 2 ^ 40) (w : World) : Calls Try.prog 17 #[.int .u64 (n : Int)] w fun e w' => ∃ v, e = .returned (.tuple #[v, .int .i64 0]) ∧ OwU w.heap.size w' v (bsK n 4) ∧ Nx w w' := by
  have HO := Lib.hid (rof_ok n h)
  have HB := Lib.hid (plA_bound n)
  clear h
  go_enter Try.func17, Try.ntmps17
  go_wp2_with fail
  refine (HO.out _).mono ?_
  rintro e w1 ⟨rfl, N1⟩
  have HN0 := Lib.hid (N1.alloc (.cells #[.int .i64 (plA n), .int .i64 (plI n)] 28))
  have HR0 := Lib.hid (Row.new w1 #[.int .i64 (plA n), .int .i64 (plI n)] 28 _ rfl)
  have hwle : Hid (w.heap.size ≤ w1.heap.size) := Lib.hid N1.size
  clear N1
  go_wp2_with fail
  go_loopw [6, 7] (fun sv iv wr => ∃ k : Nat, iv = .int .i64 (k : Int) ∧ k ≤ 4 ∧ Hid (OwU (w1.heap.size + 1) wr sv (bsK n k)) ∧ Hid (Nx w wr) ∧ Hid (Row wr w1.heap.size #[.int .i64 (plA n), .int .i64 (plI n)] 28)) (fun _ iv _ => 4 - (intOf iv).toNat)
  case atStart => exact ⟨0, rfl, by decide, Lib.hid (OwnF.nil _ _ _ _), HN0, HR0⟩
  case round =>
    clear HN0 HR0
    obtain ⟨k, rfl, hk, hown, HN, HR⟩ := hrel
    by_cases hlt : k < 4
    · have hlt1 : (k : Int) < 4 := by omega
      have HI := Lib.hid hlt
      have HL := Lib.hid (bsK_len n k)
      clear hlt hk
      go_wp2_with fail
      refine (rturn_any 1 0 (by decide) (by decide) (k : Int) _).mono ?_
      rintro e w2 ⟨rfl, n2⟩
      have ht := tr_abs (k : Int) 1 0 1 (by decide) (by decide)
      have hb1 : Hid ((plA n + trA (k : Int) 1 0).natAbs ≤ 16777216) := Lib.hid (by have := HB.out; omega)
      have hb2 : Hid ((plI n + trB (k : Int) 1 0).natAbs ≤ 16777216) := Lib.hid (by have := HB.out; omega)
      have w1' : IntKind.i64.wrap (plA n + trA (k : Int) 1 0) = plA n + trA (k : Int) 1 0 := IntWalk.i64_in _ (by have := HB.out; omega)
      have w2' : IntKind.i64.wrap (plI n + trB (k : Int) 1 0) = plI n + trB (k : Int) 1 0 := IntWalk.i64_in _ (by have := HB.out; omega)
      have HY := Lib.hid (fun x => bsK_yes (n := n) (k := k) (x := x))
      have HNo := Lib.hid (bsK_no (n := n) (k := k))
      have RZ := (HR.out.nx n2).alloc (.cells #[.int .i64 (trA (k : Int) 1 0), .int .i64 (trB (k : Int) 1 0)] 28)
      have RS := Row.new w2 #[.int .i64 (trA (k : Int) 1 0), .int .i64 (trB (k : Int) 1 0)] 28 _ rfl
      have z0 := RZ.cell (i := 0) (v := .int .i64 (plA n)) rfl
      have z1 := RZ.cell (i := 1) (v := .int .i64 (plI n)) rfl
      have s0 := RS.cell (i := 0) (v := .int .i64 (trA (k : Int) 1 0)) rfl
      have s1 := RS.cell (i := 1) (v := .int .i64 (trB (k : Int) 1 0)) rfl
      have HRZ := Lib.hid RZ
      have N2 := Lib.hid ((HN.out.trans n2).alloc (.cells #[.int .i64 (trA (k : Int) 1 0), .int .i64 (trB (k : Int) 1 0)] 28))
      have O2 := Lib.hid (OwnF.nx hown.out (n2.alloc (.cells #[.int .i64 (trA (k : Int) 1 0), .int .i64 (trB (k : Int) 1 0)] 28)))
      have HBk := Lib.hid (rback_any (plA n + trA (k : Int) 1 0) (plI n + trB (k : Int) 1 0) hb1.out hb2.out)
      generalize plE (plA n + trA (k : Int) 1 0) (plI n + trB (k : Int) 1 0) = E at *
      generalize plN (plA n + trA (k : Int) 1 0) (plI n + trB (k : Int) 1 0) = M at *
      clear ht hb1 hb2 RZ RS n2 HN HR hown
      go_wp2_with fail
      refine (HBk.out _).mono ?_
      rintro e w3 ⟨rfl, n3⟩
      replace HRZ := Lib.hid (HRZ.out.nx n3)
      replace N2 := Lib.hid (N2.out.trans n3)
      replace O2 := Lib.hid (OwnF.nx O2.out n3)
      clear n3 z0 z1 s0 s1
      by_cases hE : E = 0
      · have HS := Lib.hid (HY.out M hE rfl)
        subst hE
        go_wp2_with (at_builtin; refine wpList_appF rfl (.tmp 43) (.tmp 45) _ rfl 22 (.int .u64 0) 1 8 Try.underlying31 info_u64 rfl (by decide) (w1.heap.size + 1) _ (.slice (some ⟨w3.heap.size, 0, none⟩) 1 1) (bsK n k).length 1 (U64s (bsK n k)) (U64s [M]) rfl rfl (OwnF.nx O2.out ((Nx.refl _).alloc _)) (RdU.one _ _) ?c2 ?c3 ?c4 ?_)
        case c2 => have := HL.out; have := HI.out; omega
        case c3 => have := HL.out; have := HI.out; simp only [maxLen]; omega
        case c4 => have := HRZ.out.lt; simp; omega
        intro v' w' hown' hb' _ _
        have HO' : Hid (OwU (w1.heap.size + 1) w' v' (bsK n (k + 1))) := Lib.hid (by rw [HS.out]; unfold OwU; rw [U64s_app, List.length_append]; exact hown')
        have n4 := ((Nx.refl w3).alloc (.cells #[.int .u64 (M : Int)] 22))
        have HN' := Lib.hid (Below.trans (N2.out.trans n4) (hb'.mono (by have := hwle.out; omega)))
        have HR' : Hid (Row w' w1.heap.size #[.int .i64 (plA n), .int .i64 (plI n)] 28) := Lib.hid (by
          have r4 := HRZ.out.alloc (.cells #[.int .u64 (M : Int)] 22)
          unfold Row at r4 ⊢
          rw [hb'.block _ (Nat.lt_succ_self _)]
          exact r4)
        clear hown' hb' n4
        go_wp2_with fail
        go_roundw
        case rel => exact ⟨k + 1, by go_num, HI.out, HO', HN', HR'⟩
        case measure => have := HI.out; simp [intOf]; omega
      · have HS := Lib.hid (HNo.out hE)
        go_wp2_with fail
        go_roundw
        case rel => exact ⟨k + 1, by go_num, HI.out, by rw [HS.out]; exact O2, N2, HRZ⟩
        case measure => have := HI.out; simp [intOf]; omega
    · obtain rfl : k = 4 := by omega
      clear hlt hk
      go_wp2_with fail
      go_ret2
      exact ⟨_, rfl, OwnF.mono hown.out (by have := hwle.out; omega), HN.out⟩
theorem rbeside_far (n : Nat) (h : ¬ n < 2 ^ 40) (hn : n < 18446744073709551616) (w : World) : Calls Try.prog 17 #[.int .u64 (n : Int)] w fun e w' => e = .returned (.tuple #[.slice none 0 0, .int .i64 3]) ∧ Nx w w' := by
  have HO := Lib.hid (rof_far n h hn)
  clear h hn
  go_enter Try.func17, Try.ntmps17
  go_wp2_with fail
  refine (HO.out _).mono ?_
  rintro e w1 ⟨rfl, N1⟩
  have HN0 := Lib.hid (N1.alloc (.cells #[.int .i64 0, .int .i64 0] 28))
  clear N1
  go_wp2_with fail
  go_ret2
  exact ⟨rfl, HN0.out⟩
set_option maxHeartbeats 2000000 in
theorem lsame_yes (v1 v2 : Value) (l : List Nat) (w : World) (h1 : RdU w v1 l) (h2 : RdU w v2 l) :
    Calls Try.prog 19 #[v1, v2] w fun e w' => e = .returned (.bool true) ∧ Nx w w' := by
  obtain ⟨A1, c1, rfl, ⟨hc1, hm1⟩, ha1⟩ := h1.sl
  obtain ⟨A2, c2, rfl, ⟨hc2, hm2⟩, ha2⟩ := h2.sl
  clear h1 h2
  unfold maxLen at hm1
  have hne : ((l.length : Int) != (l.length : Int)) = false := by simp
  go_enter Try.func19, Try.ntmps19
  go_wp2
  go_loopw [5] (fun i wr => ∃ k : Nat, k ≤ l.length ∧ i = .int .i64 k ∧ ∃ n, wr = w.drewN n) (fun i _ => l.length - (intOf i).toNat)
  case atStart => exact ⟨0, by omega, rfl, 0, rfl⟩
  case round =>
    obtain ⟨k, hk, rfl, n, rfl⟩ := hrel
    by_cases hlt : k < l.length
    · obtain ⟨b1, o1, rfl, g1⟩ := ha1 k hlt
      obtain ⟨b2, o2, rfl, g2⟩ := ha2 k hlt
      clear ha1 ha2 hne
      have hlt' : (k : Int) < (l.length : Int) := by omega
      have hne2 : ((l[k] : Int) != (l[k] : Int)) = false := by simp
      go_wp2
      go_quiet (fail)
      go_wp2
      go_roundw
      case rel => exact ⟨k + 1, by omega, by go_num, _, rfl⟩
      case measure => simp [intOf]; omega
    · go_wp2
      go_ret
      exact ⟨rfl, (Nx.refl w).drewN n⟩
set_option maxHeartbeats 2000000 in
theorem spot_any (a b : Int) (ha : a.natAbs ≤ 16777216) (hb : b.natAbs ≤ 16777216) (w : World) : Calls Try.prog 18 #[.agg #[.int .i64 a, .int .i64 b]] w fun e w' => e = .returned (.complex .f64 (floatOfInt .f64 a) (floatOfInt .f64 b)) ∧ Nx w w' := by
  have R := Row.new w #[.int .i64 a, .int .i64 b] 28 _ rfl
  have a0 := R.cell (i := 0) (v := .int .i64 a) rfl
  have a1 := R.cell (i := 1) (v := .int .i64 b) rfl
  have N0 := Lib.hid ((Nx.refl w).alloc (.cells #[.int .i64 a, .int .i64 b] 28))
  clear R ha hb
  go_enter Try.func18, Try.ntmps18
  go_wp2_with fail
  go_ret
  exact ⟨rfl, N0.out⟩
theorem spot_cf (a b : Int) (ha : a.natAbs ≤ 16777216) (hb : b.natAbs ≤ 16777216) : CF (floatOfInt .f64 a) (floatOfInt .f64 b) a b := ⟨ofInt_is a (by omega), ofInt_is b (by omega)⟩
set_option maxHeartbeats 2000000 in
theorem small_any (a b : Int) (ha : -2147483648 ≤ a) (ha2 : a ≤ 2147483647) (hb : -2147483648 ≤ b) (hb2 : b ≤ 2147483647) (w : World) : Calls Try.prog 21 #[.int .i32 a, .int .i32 b] w fun e w' => e = .returned (.agg #[.int .i64 (Int.tmod a 8388608), .int .i64 (Int.tmod b 8388608)]) ∧ Nx w w' := by
  have cz := Lib.hid info_spot
  have R := Row.new w #[.int .i64 0, .int .i64 0] 28 _ rfl
  have N0 := Lib.hid ((Nx.refl w).alloc (.cells #[.int .i64 0, .int .i64 0] 28))
  have w1 : IntKind.i64.wrap a = a := IntWalk.i64_in _ (by omega)
  have w2 : IntKind.i64.wrap b = b := IntWalk.i64_in _ (by omega)
  clear ha ha2 hb hb2 R
  go_enter Try.func21, Try.ntmps21
  go_wp2_with fail
  generalize Int.tmod a 8388608 = x at *
  generalize Int.tmod b 8388608 = y at *
  exact bodyPost_ret (results_cell_row Try.results21 _ _ w.heap.size 28 #[.int .i64 x, .int .i64 y] (0, 0) _ rfl (Row.new _ _ _ _ rfl) Try.underlying28 rfl cz.out) rfl ⟨rfl, (Nx.refl w).alloc _⟩
theorem tmod_bound (a : Int) : (Int.tmod a 8388608).natAbs < 8388608 := by
  rw [Int.natAbs_tmod]
  exact Nat.mod_lt _ (by decide)
theorem isF_half : IsF 4602678819172646912 512 := by
  have h := (isF_mh : IsF 13826050856027422720 (-512))
  have h2 := neg_is h
  have e : Op.negFloat .f64 13826050856027422720 = 4602678819172646912 := by decide
  rw [e] at h2
  exact h2
theorem ord_eq {p q : Nat} {a b : Int} (h : IsF p a) (g : IsF q b) (e : a = b) : FloatKind.f64.format.order p q = some .eq := by rw [order_f h g, cmp_eq e]
theorem cf_m1 : CF 13830554455654793216 0 (-1) 0 := ⟨isF_m1, isF_0⟩
theorem cf_m1' : CF 0 13830554455654793216 0 (-1) := ⟨isF_0, isF_m1⟩
theorem plBn : (plB 40 (-1) 0).2 = (0, 0) ∧ (plB 40 (-1) 0).1 = 29 := by decide +kernel
theorem plS2 : plS 40 2 1 0 = (-1, 1) := by decide +kernel
set_option maxRecDepth 100000 in
set_option maxHeartbeats 4000000 in
theorem lives_any (w : World) : Calls Try.prog 20 #[] w fun e w' => e = .returned (.bool true) ∧ w' = w := by
  have H1 := Lib.hid (of_ok 2 (by decide))
  have e1 : plA 2 = -1 := by unfold plA; rw [plS2]
  have e2 : plI 2 = 1 := by unfold plI; rw [plS2]
  have hE : plE (-1) 0 = 0 := by unfold plE; rw [plBn.1]; rfl
  have hN : plN (-1) 0 = 29 := by unfold plN; rw [hE, plBn.2]; rfl
  rw [e1, e2] at H1
  have H2 := Lib.hid (back_in cf_m1 (by decide))
  rw [hE, hN] at H2
  have H3 := Lib.hid (of_far 1099511627776 (by decide) (by decide))
  have H4 := Lib.hid (back_bad isF_half isF_0 (by decide) (by decide) (by decide))
  have H5 := Lib.hid (turn_any cf_10 (-1))
  have t1 : trA (-1) 1 0 = 0 := by decide
  have t2 : trB (-1) 1 0 = -1 := by decide
  rw [t1, t2] at H5
  clear e1 e2 hE hN t1 t2
  go_enter Try.func20, Try.ntmps20
  go_wp2_with fail
  refine (H1.out _).mono ?_
  rintro e w1 ⟨⟨p, q, rfl, hpq⟩, rfl⟩
  have o1 := ord_eq hpq.1 cf_beta.1 rfl
  have o2 := ord_eq hpq.2 cf_beta.2 rfl
  clear hpq
  go_wp2_with fail
  refine (H2.out _).mono ?_
  rintro e w1 ⟨rfl, rfl⟩
  go_wp2_with fail
  refine (H3.out _).mono ?_
  rintro e w1 ⟨rfl, rfl⟩
  go_wp2_with fail
  refine (H4.out _).mono ?_
  rintro e w1 ⟨rfl, rfl⟩
  go_wp2_with fail
  refine (H5.out _).mono ?_
  rintro e w1 ⟨⟨r, s, rfl, hrs⟩, rfl⟩
  have o3 := ord_eq hrs.1 cf_m1'.1 rfl
  have o4 := ord_eq hrs.2 cf_m1'.2 rfl
  clear hrs
  go_wp2_with fail
  go_ret
  exact ⟨rfl, rfl⟩
end Go.Proofs.Ytdbokmhkgkgnfaa
