/- LAYER 13: the document's small ones: Sum, bytes, Secret, Bit, Copy. -/
import Derived.Test.YtpkopigiijiiiaaDoorLm1
import Derived.Test.YtpkopigiijiiiaaDoorTl
namespace Go.Proofs.YtpkopigiijiiiaaDoor
open Go Go.RowKit
set_option linter.unusedVariables false
set_option linter.unusedSimpArgs false
set_option linter.unusedVariables false
set_option linter.unusedSimpArgs false

set_option maxHeartbeats 2000000 in
theorem rhsum_any (vb : Value) (l : List UInt8) (w : World) (hr : Rd w vb l) (hn : l.length ≤ 140737488354000) :
    Calls Tryd.prog 24 #[vb] w fun e w' => e = .returned (.agg (hcel (shaL l))) ∧ Nx w w' := by
  have HR := Lib.hid hr
  have HTW := Lib.hid (fun g w hg h => rsum_any g vb l w hg h hn)
  have HIL : Hid ((shaL l).length = 32) := Lib.hid (shaL_length _)
  have HZL : Hid ((List.replicate 32 (0 : UInt8)).length = 32) := Lib.hid List.length_replicate
  obtain ⟨hz, hzs⟩ := zero_of_info info_hash'
  obtain ⟨A, c, rfl, -, -, -⟩ := hr
  clear hn
  generalize shaL l = I at *
  generalize List.replicate 32 (0 : UInt8) = Z at *
  have h2 := Lib.hid (hashsz I HIL.out)
  have h4 := Lib.hid (hashsame Z I HZL.out HIL.out)
  have R1 := Row.new w (hcel Z) 23 _ rfl
  have N0 := Lib.hid ((Nx.refl w).alloc (.cells (hcel Z) 23))
  go_enter Tryd.func24, Tryd.ntmps24
  go_wp2_with fail
  refine (new_any _).mono ?_
  rintro e w1 ⟨g, rfl, hg1, hg2, n1⟩
  have HG := Lib.hid hg2
  have N1 := Lib.hid (N0.out.trans n1)
  have R2 := R1.nx n1
  clear hg1 hg2 n1 R1 N0
  go_wp2_with fail
  refine (HTW.out g _ HG.out (HR.out.nx N1.out)).mono ?_
  rintro e w2 ⟨rfl, n2⟩
  have N2 := Lib.hid (N1.out.trans n2)
  have R3 := R2.nx n2
  have hl : w.heap.size ≤ w.heap.size := Nat.le_refl _
  clear n2 R2
  go_wp2_with (first | (refine wpList_store_row rfl 23 (.tmp 2) (.tmp 5) rfl w.heap.size (hcel I) rfl rfl 23 (hcel Z) R3 h2.out h4.out (hcel_one _) ?_))
  exact bodyPost_ret (results_cell_row Tryd.results24 _ _ w.heap.size 23 (hcel I) (0, 0) _ rfl (R3.setRow _) Tryd.underlying23 rfl h2.out) rfl ⟨rfl, N2.out.setRow _ hl⟩

theorem rcopy13_any (vb : Value) (l : List UInt8) (w : World) (hr : Rd w vb l) (hn : l.length ≤ 140737488355328) :
    Calls Tryd.prog 31 #[vb] w fun e w' => ∃ v, e = .returned v ∧ Own w.heap.size w' v l ∧ Nx w w' := by
  have HR := Lib.hid hr
  obtain ⟨A, c, rfl, -, -, -⟩ := hr
  go_enter Tryd.func31, Tryd.ntmps31
  go_wp2_with (at_builtin; refine wpList_app rfl (.tmp 4) (.tmp 5) _ rfl Tryd.underlying28 info_u8s w.heap.size (.slice none 0 0) (.slice A l.length c) [] l rfl rfl (Own.nil _ _) HR.out (by simpa using hn) (Nat.le_refl _) ?_)
  intro v' w' hown' hb' _
  have HO := Lib.hid hown'
  have HN := Lib.hid ((Nx.refl w).app hb')
  go_wp2
  go_ret
  exact ⟨v', rfl, HO.out, HN.out⟩
set_option maxHeartbeats 2000000 in
theorem rbytes13_any (l : List UInt8) (w : World) (hl : l.length = 32) :
    Calls Tryd.prog 28 #[.agg (hcel l)] w fun e w' => ∃ v, e = .returned v ∧ Own w.heap.size w' v l ∧ Nx w w' := by
  have HL := Lib.hid hl
  have hall : ∀ i (h : i < l.length), (hcel l)[i]? = some (bv l[i]) := hcel_get l
  replace hall := Lib.hid hall
  clear hl
  go_enter Tryd.func28, Tryd.ntmps28
  go_wp2_with fail
  have R0 := Row.new w (hcel l) 23 _ rfl
  have N0 := Lib.hid ((Nx.refl w).alloc (.cells (hcel l) 23))
  have hsz : w.heap.size < (w.alloc (.cells (hcel l) 23)).heap.size := by rw [alloc_size]; omega
  generalize w.alloc (.cells (hcel l) 23) = W at *
  go_loopw [3, 4] (fun u i wr => ∃ k : Nat, k ≤ 32 ∧ i = .int .i64 k ∧ Own (w.heap.size + 1) wr u (l.take k) ∧ Row wr w.heap.size (hcel l) 23 ∧ Hid (Nx w wr)) (fun _ i _ => 32 - (intOf i).toNat)
  case atStart => exact ⟨0, by omega, rfl, by rw [List.take_zero]; exact Own.nil _ _, R0, N0⟩
  case round =>
    clear N0 R0 hsz
    obtain ⟨k, hk, rfl, hown, R, HN⟩ := hrel
    by_cases hlt : k < 32
    · have hkl : k < l.length := by rw [HL.out]; exact hlt
      have c1 := R.cell (hall.out k hkl)
      have HT := Lib.hid (List.take_succ_eq_append_getElem hkl)
      have hk32 : (k : Int) < 32 := by omega
      have HLL : Hid ((l.take k).length ≤ 32) := Lib.hid (by rw [List.length_take]; omega)
      replace hkl := Lib.hid hkl
      have HNG : Hid (w.heap.size < wr.heap.size) := Lib.hid R.lt
      go_wp2_with (at_builtin; refine wpList_app rfl (.tmp 9) (.tmp 13) _ rfl Tryd.underlying28 info_u8s (w.heap.size + 1) _ (.slice (some ⟨wr.heap.size, 0, none⟩) 1 1) (l.take k) [l[k]'(hkl.out)] rfl rfl (hown.alloc _) (Rd.one _ _ _ _ rfl) ?c2 ?c3 ?_)
      case c2 => have := HLL.out; simp only [List.length_singleton]; omega
      case c3 => have := HNG.out; simp; omega
      intro v' w' hown' hb' _
      have HNN := Lib.hid ((HN.out.alloc _).app (hb'.mono (by omega)))
      have RR := (R.alloc (.cells #[bv (l[k]'(hkl.out))] 5)).bl hb' (by omega)
      have HO2 := Lib.hid hown'
      clear hown' hown
      go_wp2
      go_roundw
      case rel => exact ⟨k + 1, by omega, by go_num, by first | exact HO2.out | (rw [HT.out]; exact HO2.out), RR, HNN⟩
      case measure => simp [intOf]; omega
    · obtain rfl : k = 32 := by omega
      rw [List.take_of_length_le (by rw [HL.out]; exact Nat.le_refl _)] at hown
      go_wp2
      go_ret
      exact ⟨_, rfl, hown.mono (by omega), HN.out⟩
set_option maxHeartbeats 2000000 in
theorem rsecret_any (s : Bs) (hs : s.length = 32) (k v : Nat) (hk : k < 256) (hv : v < 256) (w : World) :
    Calls Tryd.prog 9 #[.agg (hcel s), .int .u8 (k : Int), .int .u8 (v : Int)] w fun e w' => e = .returned (.agg (hcel (secL s k v))) ∧ Nx w w' := by
  obtain ⟨p, rfl⟩ := u8_nat k hk
  obtain ⟨q, rfl⟩ := u8_nat v hv
  rw [secL_u8]
  clear hk hv
  have HIL : Hid ((shaL (s ++ [p, q])).length = 32) := Lib.hid (shaL_length _)
  have HZL : Hid ((List.replicate 32 (0 : UInt8)).length = 32) := Lib.hid List.length_replicate
  have HTOT : Hid ((s ++ [p, q]).length = 34) := Lib.hid (by rw [List.length_append, hs]; rfl)
  have HSUM : Hid (∀ W y, Rd W y (s ++ [p, q]) → Calls Tryd.prog 24 #[y] W fun e w' => e = .returned (.agg (hcel (shaL (s ++ [p, q])))) ∧ Nx W w') := Lib.hid fun W y hr => rhsum_any y _ W hr (by rw [HTOT.out]; decide)
  have HBY := Lib.hid (fun W => rbytes13_any s W hs)
  obtain ⟨hz, hzs⟩ := zero_of_info info_hash'
  have hi := Lib.hid (hashsz s hs)
  have HSL : Hid (s.length ≤ 32) := Lib.hid (by omega)
  generalize shaL (s ++ [p, q]) = H at *
  generalize List.replicate 32 (0 : UInt8) = Z at *
  have h2 := Lib.hid (hashsz H HIL.out)
  have h4 := Lib.hid (hashsame Z H HZL.out HIL.out)
  have R0 := Row.new2 w (.cells (hcel s) 23) (hcel Z) 23
  have Q0 := (Row.new w (hcel s) 23 _ rfl).alloc (.cells (hcel Z) 23)
  have N0 := Lib.hid (((Nx.refl w).alloc (.cells (hcel s) 23)).alloc (.cells (hcel Z) 23))
  go_enter Tryd.func9, Tryd.ntmps9
  go_wp2_with (refine wpList_load_row rfl 23 (.tmp 3) rfl w.heap.size rfl 23 (hcel s) (0, 0) _ Q0 Tryd.underlying23 rfl hi.out ?_)
  refine (HBY.out _).mono ?_
  rintro e w1 ⟨y, rfl, o1, n1⟩
  have O1 := Lib.hid o1
  have N1 := Lib.hid (N0.out.trans n1)
  have R1 := R0.nx n1
  obtain ⟨A1, m1, c1, rfl⟩ := o1.rd.sl
  have hsz1 : Hid (((w.alloc (.cells (hcel s) 23)).alloc (.cells (hcel Z) 23)).heap.size ≤ w1.heap.size) := Lib.hid n1.size
  clear o1 n1 R0 Q0
  go_wp2_with (at_builtin; refine wpList_app rfl (.tmp 8) (.tmp 11) _ rfl Tryd.underlying28 info_u8s ((w.alloc (.cells (hcel s) 23)).alloc (.cells (hcel Z) 23)).heap.size _ (.slice (some ⟨w1.heap.size, 0, none⟩) 2 2) s [p, q] rfl rfl (O1.out.alloc _) (Rd.two w1 p q _) (by have := HSL.out; simp; omega) (by have := hsz1.out; rw [alloc_size (w := w1)]; omega) ?_)
  intro v' w2 hown' hb' _
  have O2 := Lib.hid hown'.rd
  have N2 := Lib.hid ((N1.out.alloc (.cells #[bv p, bv q] 5)).app (hb'.mono (by have := hsz1.out; simp at this; omega)))
  have R2 := (R1.alloc (.cells #[bv p, bv q] 5)).bl hb' (by simp)
  obtain ⟨A2, m2, c2, rfl⟩ := hown'.rd.sl
  clear hown' hb' R1
  go_wp2_with fail
  refine (HSUM.out _ _ O2.out).mono ?_
  rintro e w3 ⟨rfl, n3⟩
  have N3 := Lib.hid (N2.out.trans n3)
  have R3 := R2.nx n3
  have hl : w.heap.size ≤ w.heap.size + 1 := Nat.le_succ _
  clear n3 R2
  go_wp2_with (refine wpList_store_row rfl 23 (.tmp 6) (.tmp 13) rfl (w.heap.size + 1) (hcel H) rfl rfl 23 (hcel Z) R3 h2.out h4.out (hcel_one _) ?_)
  exact bodyPost_ret (results_cell_row Tryd.results9 _ _ (w.heap.size + 1) 23 (hcel H) (0, 0) _ rfl (R3.setRow _) Tryd.underlying23 rfl h2.out) rfl ⟨rfl, N3.out.setRow _ hl⟩

set_option maxHeartbeats 2000000 in
theorem rbit_any (d : Bs) (hd : d.length = 32) (k : Nat) (hk : k < 256) (w : World) :
    Calls Tryd.prog 11 #[.agg (hcel d), .int .u8 (k : Int)] w fun e w' => e = .returned (.int .u8 (bitN d k : Int)) ∧ Nx w w' := by
  obtain ⟨j, hj⟩ : ∃ j, k % 32 / 8 = j := ⟨_, rfl⟩
  obtain ⟨m, hm⟩ : ∃ m, k % 8 = m := ⟨_, rfl⟩
  have hjl : j < d.length := by omega
  have hm8 : m < 8 := by omega
  have hji : (j : Int) < 32 := by omega
  have hB : bitN d k = (d[j]).toNat / 2 ^ m % 2 := by
    unfold bitN
    rw [hj, hm, List.getD_eq_getElem?_getD, List.getElem?_eq_getElem hjl]; rfl
  rw [hB]
  have R0 := Row.new w (hcel d) 23 _ rfl
  have N0 := Lib.hid ((Nx.refl w).alloc (.cells (hcel d) 23))
  have c1 := R0.cell (hcel_get d j hjl)
  have e1 : IntKind.u8.wrap ((k : Int).tmod 32) = ((k % 32 : Nat) : Int) := by rw [IntKind.wrap_u8', Int.tmod_eq_emod_of_nonneg (by omega)]; omega
  have e2 : IntKind.u8.wrap (((k % 32 : Nat) : Int).tdiv 8) = (j : Int) := by rw [IntKind.wrap_u8', Int.tdiv_eq_ediv_of_nonneg (by omega)]; omega
  have hkm : (k : Int) % 8 = (m : Int) := by omega
  have hx := (d[j]).toNat_lt
  generalize d[j] = x at *
  go_enter Tryd.func11, Tryd.ntmps11
  go_wp2
  generalize w.alloc (.cells (hcel d) 23) = W at *
  go_loopw [5, 6] (fun u i wr => ∃ z : Nat, i = .int .u8 (z : Int) ∧ Hid (z ≤ m) ∧ u = .int .u8 ((x.toNat / 2 ^ z : Nat) : Int) ∧ Hid (Nx w wr)) (fun _ i _ => m - (intOf i).toNat)
  case atStart => exact ⟨0, rfl, Lib.hid (Nat.zero_le _), by simp [bv], N0⟩
  case round =>
    clear N0 R0 c1
    obtain ⟨z, rfl, hz, rfl, HN⟩ := hrel
    have hz1 := hz.out
    have hy : x.toNat / 2 ^ z < 256 := Nat.lt_of_le_of_lt (Nat.div_le_self _ _) hx
    have hY2 : x.toNat / 2 ^ (z + 1) = x.toNat / 2 ^ z / 2 := by rw [Nat.pow_succ, ← Nat.div_div_eq_div_mul]
    generalize hYY : x.toNat / 2 ^ z = Y at *
    have e4 : IntKind.u8.wrap ((Y : Int).tdiv 2) = ((Y / 2 : Nat) : Int) := by
      rw [IntKind.wrap_u8', Int.tdiv_eq_ediv_of_nonneg (by omega)]; omega
    have e5 : IntKind.u8.wrap ((Y : Int).tmod 2) = ((Y % 2 : Nat) : Int) := by
      rw [IntKind.wrap_u8', Int.tmod_eq_emod_of_nonneg (by omega)]; omega
    have e6 : IntKind.u8.wrap ((z : Int) + 1) = ((z + 1 : Nat) : Int) := by rw [IntKind.wrap_u8']; omega
    by_cases hlt : z < m
    · have hlti : (z : Int) < (m : Int) := by omega
      go_wp2
      go_roundw
      case rel => exact ⟨z + 1, by go_num, Lib.hid (by omega), by rw [hY2]; first | exact congrArg (Value.int .u8) (by omega) | go_num, HN⟩
      case measure => simp [intOf]; omega
    · obtain rfl : z = m := by omega
      go_wp2
      go_ret
      refine ⟨?_, HN.out⟩
      rw [hYY]
      first | rfl | go_num
end Go.Proofs.YtpkopigiijiiiaaDoor
