/- LAYER 13: the document's Key. -/
import Derived.Test.YtpkopigiijiiiaaDoorLm2
import Derived.Test.YtpkopigiijiiiaaDoorLm9
import Derived.Test.YtpkopigiijiiiaaDoorLm4
namespace Go.Proofs.YtpkopigiijiiiaaDoor
open Go Go.RowKit
set_option linter.unusedVariables false
set_option linter.unusedSimpArgs false
set_option linter.unusedVariables false
set_option linter.unusedSimpArgs false

theorem partK_next (s : Bs) (k v : Nat) (hv : v < 2) : partK s k (v + 1) = partK s k v ++ shaL (secL s k v) := by
  match v, hv with
  | 0, _ => rw [show partK s k (0 + 1) = hsL s k 0 from rfl, show partK s k 0 = [] from rfl, List.nil_append, hsL]
  | 1, _ => rw [show partK s k (1 + 1) = twoL s k from rfl, show partK s k 1 = hsL s k 0 from rfl, twoL, show hsL s k 1 = shaL (secL s k 1) from rfl]
set_option maxRecDepth 100000 in
set_option maxHeartbeats 8000000 in
theorem rkey_any (s : Bs) (hs : s.length = 32) (w : World) :
    Calls Tryd.prog 13 #[.agg (hcel s)] w fun e w' => e = .returned (.agg (hcel (keyL s))) ∧ Nx w w' := by
  have HSEC := Lib.hid (fun k (hk : k < 256) v (hv : v < 256) W => rsecret_any s hs k v hk hv W)
  have HKE : Hid (keyL s = shaL (flt (twoL s) 32)) := Lib.hid rfl
  have HIL : Hid ((keyL s).length = 32) := Lib.hid (keyL_length s)
  have HZL : Hid ((List.replicate 32 (0 : UInt8)).length = 32) := Lib.hid List.length_replicate
  have HFL := Lib.hid (fun k => flt_length (twoL s) (twoL_length s) k)
  obtain ⟨hz, hzs⟩ := zero_of_info info_hash'
  have hsz := Lib.hid (hashsz s hs)
  generalize keyL s = H at *
  generalize List.replicate 32 (0 : UInt8) = Z at *
  have h2 := Lib.hid (hashsz H HIL.out)
  have h4 := Lib.hid (hashsame Z H HZL.out HIL.out)
  have R1 := (Row.new w (hcel s) 23 _ rfl).alloc (.cells (hcel Z) 23)
  have R2 := Row.new2 w (.cells (hcel s) 23) (hcel Z) 23
  have N0 := Lib.hid (((Nx.refl w).alloc (.cells (hcel s) 23)).alloc (.cells (hcel Z) 23))
  have hsz2 : ((w.alloc (.cells (hcel s) 23)).alloc (.cells (hcel Z) 23)).heap.size = w.heap.size + 1 + 1 := by rw [alloc_size, alloc_size]
  clear hs
  go_enter Tryd.func13, Tryd.ntmps13
  go_wp2_with fail
  generalize (w.alloc (.cells (hcel s) 23)).alloc (.cells (hcel Z) 23) = W0 at *
  go_loopw [3, 4] (fun u i wr => ∃ k : Nat, k ≤ 32 ∧ i = .int .i64 (k : Int) ∧ Own W0.heap.size wr u (flt (twoL s) k) ∧ Hid (W0.heap.size ≤ wr.heap.size) ∧ Hid (Nx w wr) ∧ Row wr w.heap.size (hcel s) 23 ∧ Row wr (w.heap.size + 1) (hcel Z) 23) (fun _ i _ => 32 - (intOf i).toNat)
  case atStart => exact ⟨0, Nat.zero_le _, rfl, Own.nil _ _, Lib.hid (Nat.le_refl _), N0, R1, R2⟩
  case round =>
    clear N0 R1 R2
    obtain ⟨k, hk, rfl, hown, HY, HN, R1, R2⟩ := hrel
    by_cases hlt : k < 32
    · have hlti : (k : Int) < 32 := by omega
      have hfk := HFL.out k
      have hku : IntKind.u8.wrap (k : Int) = (k : Int) := by rw [IntKind.wrap_u8']; omega
      go_wp2_with fail
      go_loopw [3, 5] (fun u i wr => ∃ v : Nat, v ≤ 2 ∧ i = .int .i64 (v : Int) ∧ Own W0.heap.size wr u (flt (twoL s) k ++ partK s k v) ∧ Hid (W0.heap.size ≤ wr.heap.size) ∧ Hid (Nx w wr) ∧ Row wr w.heap.size (hcel s) 23 ∧ Row wr (w.heap.size + 1) (hcel Z) 23) (fun _ i _ => 2 - (intOf i).toNat)
      case atStart => exact ⟨0, Nat.zero_le _, rfl, by rw [show partK s k 0 = [] from rfl, List.append_nil]; exact hown, HY, HN, R1, R2⟩
      case round =>
        clear hown HY HN R1 R2
        obtain ⟨v, hv, rfl, hown, HY, HN, R1, R2⟩ := hrel
        by_cases hvl : v < 2
        · have hvli : (v : Int) < 2 := by omega
          have hvu : IntKind.u8.wrap (v : Int) = (v : Int) := by rw [IntKind.wrap_u8']; omega
          have HS := Lib.hid (HSEC.out k (by omega) v (by omega))
          have hpl := partK_le s k v
          have HPN := Lib.hid (partK_next s k v hvl)
          have hxl := secL_length s k v
          have hyl := shaL_length (secL s k v)
          generalize secL s k v = X at *
          obtain ⟨A9, m9, c9, rfl⟩ := hown.rd.sl
          go_wp2_with (refine wpList_load_row rfl 23 (.tmp 1) rfl w.heap.size rfl 23 (hcel s) (0, 0) _ R1 Tryd.underlying23 rfl hsz.out ?_)
          refine (HS.out _).mono ?_
          rintro e w3 ⟨rfl, n3⟩
          go_wp2_with fail
          refine (rbytes13_any X w3 hxl).mono ?_
          rintro e w4 ⟨v4, rfl, o4, n4⟩
          have r4 := o4.rd
          obtain ⟨A4, m4, c4, rfl⟩ := o4.rd.sl
          go_wp2_with fail
          refine (rhsum_any _ X w4 r4 (by rw [hxl]; decide)).mono ?_
          rintro e w5 ⟨rfl, n5⟩
          go_wp2_with fail
          refine (rbytes13_any (shaL X) w5 hyl).mono ?_
          rintro e w6 ⟨v6, rfl, o6, n6⟩
          have NN : Nx wr w6 := ((n3.trans n4).trans n5).trans n6
          have r6 := o6.rd
          obtain ⟨A6, m6, c6, rfl⟩ := o6.rd.sl
          have own6 := hown.nx NN
          have S1 := R1.nx NN
          have S2 := R2.nx NN
          have Y6 := Nat.le_trans HY.out NN.size
          have N6 := HN.out.trans NN
          clear hown R1 R2 HY HN NN n3 n4 n5 n6 o4 o6 r4 HS
          go_wp2_with (at_builtin; refine wpList_app rfl (.tmp 14) (.tmp 23) _ rfl Tryd.underlying28 info_u8s W0.heap.size _ _ (flt (twoL s) k ++ partK s k v) (shaL X) rfl rfl own6 r6 (by rw [List.length_append]; omega) Y6 ?_)
          intro v7 w7 o7 b7 _
          have O7 : Own W0.heap.size w7 v7 (flt (twoL s) k ++ partK s k (v + 1)) := by
            rw [HPN.out]
            first | exact o7 | (rw [hsz2]; exact o7) | (rw [← List.append_assoc]; exact o7) | (rw [← List.append_assoc, hsz2]; exact o7)
          have T1 := row_bl S1 b7 (by omega)
          have T2 := row_bl S2 b7 (by omega)
          have N7 := Lib.hid (N6.app (Below.mono b7 (by omega)))
          have Y7 := Lib.hid (Nat.le_trans Y6 b7.size)
          obtain ⟨A7, m7, c7, rfl⟩ := o7.rd.sl
          clear o7 b7 own6 r6 S1 S2 N6 Y6
          go_wp2_with fail
          go_roundw
          case rel => exact ⟨v + 1, by omega, by go_num, O7, Y7, N7, T1, T2⟩
          case measure => simp [intOf]; omega
        · obtain rfl : v = 2 := by omega
          rw [show partK s k 2 = twoL s k from rfl, ← flt_succ] at hown
          obtain ⟨A9, m9, c9, rfl⟩ := hown.rd.sl
          go_wp2_with fail
          go_roundw
          case rel => exact ⟨k + 1, by omega, by go_num, hown, HY, HN, R1, R2⟩
          case measure => simp [intOf]; omega
    · obtain rfl : k = 32 := by omega
      have HS := Lib.hid (rhsum_any _ _ wr hown.rd (by rw [HFL.out]; decide))
      rw [← HKE.out] at HS
      obtain ⟨A9, m9, c9, rfl⟩ := hown.rd.sl
      go_wp2_with fail
      refine HS.out.mono ?_
      rintro e w3 ⟨rfl, n3⟩
      have R3 := R2.nx n3
      have N3 := Lib.hid (HN.out.trans n3)
      have hl : w.heap.size ≤ w.heap.size + 1 := Nat.le_succ _
      clear n3
      go_wp2_with (refine wpList_store_row rfl 23 (.tmp 2) (.tmp 26) rfl (w.heap.size + 1) (hcel H) rfl rfl 23 (hcel Z) R3 h2.out h4.out (hcel_one _) ?_)
      exact bodyPost_ret (results_cell_row Tryd.results13 _ _ (w.heap.size + 1) 23 (hcel H) (0, 0) _ rfl (R3.setRow _) Tryd.underlying23 rfl h2.out) rfl ⟨rfl, N3.out.setRow _ hl⟩
end Go.Proofs.YtpkopigiijiiiaaDoor
