/- LAYER 13: the document's Sign. -/
import Derived.Test.YtpkopigiijiiiaaDoorLm13
namespace Go.Proofs.YtpkopigiijiiiaaDoor
open Go Go.RowKit
set_option linter.unusedVariables false
set_option linter.unusedSimpArgs false
set_option linter.unusedVariables false
set_option linter.unusedSimpArgs false

set_option maxRecDepth 100000 in
set_option maxHeartbeats 8000000 in
theorem rsign_any (s d : Bs) (hs : s.length = 32) (hd : d.length = 32) (w : World) :
    Calls Tryd.prog 16 #[.agg (hcel s), .agg (hcel d)] w fun e w' => ∃ v, e = .returned v ∧ Rd w' v (sigL s d) ∧ Nx w w' := by
  have HSEC := Lib.hid (fun k (hk : k < 256) v (hv : v < 256) W => rsecret_any s hs k v hk hv W)
  have HBIT := Lib.hid (fun k (hk : k < 256) W => rbit_any d hd k hk W)
  have HKE : Hid (sigL s d = flt (sgK s d) 32) := Lib.hid rfl
  have HFL := Lib.hid (fun k => flt_length (sgK s d) (sgK_length s d) k)
  have hsz := Lib.hid (hashsz s hs)
  have hdz := Lib.hid (hashsz d hd)
  have R1 := (Row.new w (hcel s) 23 _ rfl).alloc (.cells (hcel d) 23)
  have R2 := Row.new2 w (.cells (hcel s) 23) (hcel d) 23
  have N0 := Lib.hid (((Nx.refl w).alloc (.cells (hcel s) 23)).alloc (.cells (hcel d) 23))
  have HSZ2 := Lib.hid (show ((w.alloc (.cells (hcel s) 23)).alloc (.cells (hcel d) 23)).heap.size = w.heap.size + 1 + 1 by rw [alloc_size, alloc_size])
  clear hs hd
  go_enter Tryd.func16, Tryd.ntmps16
  go_wp2_with fail
  generalize (w.alloc (.cells (hcel s) 23)).alloc (.cells (hcel d) 23) = W0 at *
  go_loopw [5, 6] (fun u i wr => ∃ k : Nat, k ≤ 32 ∧ i = .int .u8 (k : Int) ∧ Own W0.heap.size wr u (flt (sgK s d) k) ∧ Hid (W0.heap.size ≤ wr.heap.size) ∧ Hid (Nx w wr) ∧ Row wr w.heap.size (hcel s) 23 ∧ Row wr (w.heap.size + 1) (hcel d) 23) (fun _ i _ => 32 - (intOf i).toNat)
  case atStart => exact ⟨0, Nat.zero_le _, rfl, Own.nil _ _, Lib.hid (Nat.le_refl _), N0, R1, R2⟩
  case round =>
    clear N0 R1 R2
    obtain ⟨k, hk, rfl, hown, HY, HN, R1, R2⟩ := hrel
    by_cases hlt : k < 32
    · have hlti : (k : Int) < 32 := by omega
      have hfk := HFL.out k
      have hw1 : IntKind.u8.wrap ((k : Int) + 1) = (k : Int) + 1 := by rw [IntKind.wrap_u8']; omega
      have HBK := Lib.hid (HBIT.out k (by omega))
      obtain ⟨bb, hbb⟩ : ∃ bb, bitN d k = bb := ⟨_, rfl⟩
      obtain ⟨bo, hbo⟩ : ∃ bo, 1 - bitN d k = bo := ⟨_, rfl⟩
      have hb01 : (bb = 0 ∧ bo = 1) ∨ (bb = 1 ∧ bo = 0) := by have := bitN_cases d k; omega
      have HSK : Hid (flt (sgK s d) (k + 1) = flt (sgK s d) k ++ (secL s k bb ++ shaL (secL s k bo))) := Lib.hid (by rw [flt_succ, ← hbo, ← hbb]; rfl)
      have hws : IntKind.u8.wrap (1 - (bb : Int)) = (bo : Int) := by rw [IntKind.wrap_u8']; omega
      have hws2 : (1 : Int) - (bb : Int) = (bo : Int) := by omega
      rw [hbb] at HBK
      have HS1 := Lib.hid (HSEC.out k (by omega) bb (by omega))
      have HS2 := Lib.hid (HSEC.out k (by omega) bo (by omega))
      have hxl := secL_length s k bb
      have hol := secL_length s k bo
      generalize secL s k bb = X at *
      generalize secL s k bo = O at *
      have hyl := shaL_length O
      clear hbb hbo hb01
      obtain ⟨A9, m9, c9, rfl⟩ := hown.rd.sl
      go_wp2_with (refine wpList_load_row rfl 23 (.tmp 3) rfl (w.heap.size + 1) rfl 23 (hcel d) (0, 0) _ R2 Tryd.underlying23 rfl hdz.out ?_)
      refine (HBK.out _).mono ?_
      rintro e w2 ⟨rfl, n2⟩
      have Q1 := R1.nx n2
      go_wp2_with (refine wpList_load_row rfl 23 (.tmp 2) rfl w.heap.size rfl 23 (hcel s) (0, 0) _ Q1 Tryd.underlying23 rfl hsz.out ?_)
      refine (HS1.out _).mono ?_
      rintro e w3 ⟨rfl, n3⟩
      go_wp2_with fail
      refine (rbytes13_any X w3 hxl).mono ?_
      rintro e w4 ⟨v4, rfl, o4, n4⟩
      have NN : Nx wr w4 := (n2.trans n3).trans n4
      have r4 := o4.rd
      obtain ⟨A4, m4, c4, rfl⟩ := o4.rd.sl
      have own6 := hown.nx NN
      have S1 := R1.nx NN
      have S2 := R2.nx NN
      have Y6 := Nat.le_trans HY.out NN.size
      have N6 := HN.out.trans NN
      clear hown R1 R2 Q1 HY HN NN n2 n3 n4 o4 HS1 HBK
      go_upto_region 7 with (at_builtin; refine wpList_app rfl (.tmp 15) (.tmp 20) _ rfl Tryd.underlying28 info_u8s W0.heap.size _ _ (flt (sgK s d) k) X rfl rfl own6 r4 (by omega) Y6 ?_)
      intro v7 w7 o7 b7 _
      have hs2 := HSZ2.out
      have O7 : Own W0.heap.size w7 v7 (flt (sgK s d) k ++ X) := o7
      have T1 := row_bl S1 b7 (by omega)
      have T2 := row_bl S2 b7 (by omega)
      have N7 := Lib.hid (N6.app (Below.mono b7 (by omega)))
      have Y7 := Lib.hid (Nat.le_trans Y6 b7.size)
      obtain ⟨A7, m7, c7, rfl⟩ := o7.rd.sl
      clear o7 b7 own6 r4 S1 S2 N6 Y6 hs2
      go_wp2_with (refine wpList_load_row rfl 23 (.tmp 2) rfl w.heap.size rfl 23 (hcel s) (0, 0) _ T1 Tryd.underlying23 rfl hsz.out ?_)
      refine (HS2.out _).mono ?_
      rintro e w8 ⟨rfl, n8⟩
      go_wp2_with fail
      refine (rbytes13_any O w8 hol).mono ?_
      rintro e w9 ⟨v9, rfl, o9, n9⟩
      have r9 := o9.rd
      obtain ⟨A9', m9', c9', rfl⟩ := o9.rd.sl
      go_wp2_with fail
      refine (rhsum_any _ O w9 r9 (by rw [hol]; decide)).mono ?_
      rintro e w10 ⟨rfl, n10⟩
      go_wp2_with fail
      refine (rbytes13_any (shaL O) w10 hyl).mono ?_
      rintro e w11 ⟨v11, rfl, o11, n11⟩
      have NN : Nx w7 w11 := ((n8.trans n9).trans n10).trans n11
      have r11 := o11.rd
      obtain ⟨A11, m11, c11, rfl⟩ := o11.rd.sl
      have own8 := O7.nx NN
      have S1 := T1.nx NN
      have S2 := T2.nx NN
      have Y8 := Nat.le_trans Y7.out NN.size
      have N8 := N7.out.trans NN
      have hl8 : (flt (sgK s d) k ++ X).length + (shaL O).length ≤ 140737488355328 := by rw [List.length_append]; omega
      clear O7 T1 T2 N7 Y7 NN n8 n9 n10 n11 o9 o11 r9 HS2
      go_wp2_with (at_builtin; refine wpList_app rfl (.tmp 22) (.tmp 30) _ rfl Tryd.underlying28 info_u8s W0.heap.size _ _ (flt (sgK s d) k ++ X) (shaL O) rfl rfl own8 r11 hl8 Y8 ?_)
      intro v12 w12 o12 b12 _
      have hs2 := HSZ2.out
      have O12 : Own W0.heap.size w12 v12 (flt (sgK s d) (k + 1)) := by
        rw [HSK.out]
        first | exact o12 | (rw [← List.append_assoc]; exact o12)
      have X1 := row_bl S1 b12 (by omega)
      have X2 := row_bl S2 b12 (by omega)
      have N12 := Lib.hid (N8.app (Below.mono b12 (by omega)))
      have Y12 := Lib.hid (Nat.le_trans Y8 b12.size)
      obtain ⟨A12, m12, c12, rfl⟩ := o12.rd.sl
      clear o12 b12 own8 r11 S1 S2 N8 Y8 hs2 hl8
      go_wp2_with fail
      go_roundw
      case rel => exact ⟨k + 1, by omega, by go_num, O12, Y12, N12, X1, X2⟩
      case measure => simp [intOf]; omega
    · obtain rfl : k = 32 := by omega
      have hrd := hown.rd
      rw [← HKE.out] at hrd
      obtain ⟨A9, m9, c9, rfl⟩ := hown.rd.sl
      go_wp2_with fail
      go_ret
      exact ⟨_, rfl, hrd, HN.out⟩
end Go.Proofs.YtpkopigiijiiiaaDoor
