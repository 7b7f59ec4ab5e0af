/- CONTRACTS OF LAYER 2: spread. -/
import Derived.Test.YtpgdfboogjapeaaDoorSha1
import Derived.Deep.WholeRow
import Derived.BigRegion
import Derived.StillTailTactics
namespace Go.Proofs.YtpgdfboogjapeaaDoor
open Go.RowKit
set_option linter.unusedVariables false
set_option linter.unusedSimpArgs false
set_option pp.deepTerms true
set_option pp.maxSteps 10000000

theorem info_w64 : (Tryd.prog.info? 42).map (fun i => (i.zero, i.size)) = some (some (.agg (ints .u32 (List.replicate 64 0))), 64) := by kernel_rfl
theorem info_b64 : (Tryd.prog.info? 35).map (fun i => (i.zero, i.size)) = some (some (.agg (hcel (List.replicate 64 0))), 64) := by kernel_rfl

set_option maxRecDepth 100000 in
set_option maxHeartbeats 2000000 in
theorem spread_any (B : List UInt8) (w : World) (hB : B.length = 64) :
    Calls Tryd.prog 35 #[.agg (hcel B)] w fun e w' => e = .returned (.agg (ints .u32 (wordsL B))) ∧ Nx w w' := by
  obtain ⟨hz, hs⟩ := zero_of_info info_w64
  have hsb : (Tryd.prog.info? 35).map (·.size) = some (hcel B).size := by rw [hcel_size, hB]; kernel_rfl
  replace hsb := Lib.hid hsb
  have HI := Lib.hid (fun i (hi : i < B.length) w => run_index_bytes (P := Tryd.prog) 35 5 64 Tryd.underlying35 Tryd.isAgg5 Tryd.sizeOf5 B hB i hi w)
  replace hB := Lib.hid hB
  have HZ := Lib.hid (List.length_replicate : (List.replicate 64 (0 : Int)).length = 64)
  have HF := Lib.hid (firstL_zero B)
  generalize List.replicate 64 (0 : Int) = Z at *
  go_enter Tryd.func35, Tryd.ntmps35
  go_wp2_with (refine wpList_load_row rfl 35 (.tmp 1) rfl w.heap.size rfl 35 (hcel B) (0, 0) _ (((Row.new w (hcel B) 35 _ rfl).alloc _).alloc _) Tryd.underlying35 rfl hsb.out ?_)
  replace hz := Lib.hid hz
  replace hs := Lib.hid hs
  go_loopw [12] (fun i wr => ∃ k : Nat, k ≤ 64 ∧ i = .int .i64 k ∧ Hid (Nx w wr) ∧ Row wr (w.heap.size + 1) (ints .u32 Z) 42 ∧ Row wr (w.heap.size + 1 + 1) (ints .u32 (firstL B k)) 42) (fun i _ => 64 - (intOf i).toNat)
  case atStart =>
    refine ⟨0, by omega, rfl, (((Nx.refl w).alloc _).alloc _).alloc _, (Row.new2 _ _ _ _).alloc _, ?_⟩
    rw [HF.out]
    exact Row.new3 _ _ _ _ _
  case round =>
    obtain ⟨k, hk, rfl, HN, R1, R2⟩ := hrel
    by_cases hlt : k < 64
    · have hkl : k < B.length := by have := hB.out; omega
      have hidx := HI.out k hkl
      have HS := Lib.hid (firstL_set B k hkl (by rw [hB.out]; decide))
      have HP := Lib.hid (beN_part_lt B k hkl)
      have HQ := Lib.hid (firstL_get B k (k / 4) (by omega))
      obtain ⟨q, hq⟩ : ∃ q : Nat, k / 4 = q := ⟨_, rfl⟩
      have hqi : (k : Int) / 4 = (q : Int) := by omega
      have hq64 : q < 64 := by omega
      rw [hq] at HS HP
      have c2 : wr.cell? ⟨w.heap.size + 1 + 1, q, none⟩ = some (.int .u32 ((beN (cutB B k q) : Nat) : Int)) := by
        subst hq
        have := R2.cell (ints_get .u32 (firstL B k) (k / 4) (by rw [firstL_length]; omega))
        rw [this, HQ.out]
      have f2 := R2.frozen
      have HO := Lib.hid (or_byte (beN (cutB B k q)) (B[k]).toNat HP.out (B[k]).toNat_lt)
      have hx0 : IntKind.u32.wrap ((B[k]).toNat : Int) = ((B[k]).toNat : Int) := IntWalk.u32_in _ (by have := (B[k]).toNat_lt; omega)
      clear hq HQ HP HI
      generalize beN (cutB B k q) = v at *
      generalize B[k] = x at *
      go_wp2
      go_roundw
      case rel =>
        refine ⟨k + 1, by omega, by go_num, HN.out.setAt _ (by omega), R1.other _ _ _ (by omega), ?_⟩
        rw [← HS.out, ← HO.out, ← ints_set]
        exact R2.set q _
      case measure => simp [intOf]; omega
    · obtain rfl : k = 64 := by omega
      have e0 : firstL B 64 = schedL B 0 := rfl
      rw [e0] at R2
      clear HI e0 HF
      have HW := Lib.hid (fun n => schedL_wd B hB.out n)
      rw [show ((64 : Nat) : Int) = 64 from rfl]
      go_wp2
      go_loopw [6] (fun i wr => ∃ k n : Nat, k = 16 + n ∧ k ≤ 64 ∧ i = .int .i64 k ∧ Hid (Nx w wr) ∧ Row wr (w.heap.size + 1) (ints .u32 Z) 42 ∧ Row wr (w.heap.size + 1 + 1) (ints .u32 (schedL B n)) 42) (fun i _ => 64 - (intOf i).toNat)
      case atStart => exact ⟨16, 0, rfl, by omega, rfl, HN, R1, R2⟩
      case round =>
        clear HN R1 R2
        obtain ⟨k, n, hkn, hk, rfl, HN, R1, R2⟩ := hrel
        replace hkn := Lib.hid hkn
        by_cases hlt : k < 64
        · have HE : Hid (schedL B (n + 1) = (schedL B n).set k (ext (schedL B n) k)) := Lib.hid (by rw [hkn.out]; rfl)
          have HL := Lib.hid (schedL_length B n)
          have HWD := Lib.hid (HW.out n)
          clear HW
          generalize schedL B n = L at *
          have hk16 : 16 ≤ k := by have := hkn.out; omega
          obtain ⟨p16, h16⟩ : ∃ p : Nat, (k : Int) - 16 = (p : Int) := ⟨k - 16, by omega⟩
          obtain ⟨p15, h15⟩ : ∃ p : Nat, (k : Int) - 15 = (p : Int) := ⟨k - 15, by omega⟩
          obtain ⟨p7, h7⟩ : ∃ p : Nat, (k : Int) - 7 = (p : Int) := ⟨k - 7, by omega⟩
          obtain ⟨p2, h2⟩ : ∃ p : Nat, (k : Int) - 2 = (p : Int) := ⟨k - 2, by omega⟩
          have HX : Hid (ext L k = (L.getD p16 0 + s0 (L.getD p15 0) + L.getD p7 0 + s1 (L.getD p2 0)) % 4294967296) := by
            rw [show p16 = k - 16 by omega, show p15 = k - 15 by omega, show p7 = k - 7 by omega, show p2 = k - 2 by omega]; exact Lib.hid rfl
          have hc : ∀ p, p < 64 → wr.cell? ⟨w.heap.size + 1 + 1, p, none⟩ = some (.int .u32 (L.getD p 0)) := fun p hp => by
            have hp2 : p < L.length := by rw [HL.out]; exact hp
            rw [R2.cell (ints_get .u32 L p hp2), List.getD_eq_getElem?_getD, List.getElem?_eq_getElem hp2]; rfl
          have c16 := hc p16 (by omega)
          have c15 := hc p15 (by omega)
          have c7 := hc p7 (by omega)
          have c2 := hc p2 (by omega)
          have ck := hc k hlt
          have f2 := R2.frozen
          clear hc
          have d16 := HWD.out p16
          have d15 := Lib.hid (HWD.out p15)
          have d7 := HWD.out p7
          have d2 := Lib.hid (HWD.out p2)
          have q16 : p16 < 64 := by omega
          have q15 : p15 < 64 := by omega
          have q7 : p7 < 64 := by omega
          have q2 : p2 < 64 := by omega
          generalize L.getD k 0 = yk at *
          generalize L.getD p16 0 = y16 at *
          generalize L.getD p15 0 = y15 at *
          generalize L.getD p7 0 = y7 at *
          generalize L.getD p2 0 = y2 at *
          have w16 : IntKind.i64.wrap ((k : Int) - 16) = (p16 : Int) := by rw [h16]; exact IntWalk.i64_in _ (by omega)
          have w15 : IntKind.i64.wrap ((k : Int) - 15) = (p15 : Int) := by rw [h15]; exact IntWalk.i64_in _ (by omega)
          have w7 : IntKind.i64.wrap ((k : Int) - 7) = (p7 : Int) := by rw [h7]; exact IntWalk.i64_in _ (by omega)
          have w2 : IntKind.i64.wrap ((k : Int) - 2) = (p2 : Int) := by rw [h2]; exact IntWalk.i64_in _ (by omega)
          have b16 : (p16 : Int) < 64 := by omega
          have b7 : (p7 : Int) < 64 := by omega
          have v16 : IntKind.i64.wrap (p16 : Int) = (p16 : Int) := IntWalk.i64_in _ (by omega)
          have v7 : IntKind.i64.wrap (p7 : Int) = (p7 : Int) := IntWalk.i64_in _ (by omega)
          go_wp2
          go_quiet (fail)
          go_wp2_with (go_at_call 42; first | ((with_reducible refine (turn_any y15 7 7 _ rfl d15.out (by decide)).mono ?_); rintro e w' ⟨rfl, rfl⟩) | ((with_reducible refine (turn_any y15 18 18 _ rfl d15.out (by decide)).mono ?_); rintro e w' ⟨rfl, rfl⟩) | ((with_reducible refine (turn_any y2 17 17 _ rfl d2.out (by decide)).mono ?_); rintro e w' ⟨rfl, rfl⟩) | ((with_reducible refine (turn_any y2 19 19 _ rfl d2.out (by decide)).mono ?_); rintro e w' ⟨rfl, rfl⟩))
          have r9 : 0 ≤ s0 y15 ∧ s0 y15 < 4294967296 := u32_range _ _ _
          have r10 : 0 ≤ s1 y2 ∧ s1 y2 < 4294967296 := u32_range _ _ _
          have e9 : bits .xor .u32 (bits .xor .u32 (rotI y15 7) (rotI y15 18)) (y15 / 8) = s0 y15 := rfl
          have e10 : bits .xor .u32 (bits .xor .u32 (rotI y2 17) (rotI y2 19)) (y2 / 1024) = s1 y2 := rfl
          rw [e9, e10]
          clear e9 e10
          generalize s0 y15 = z9 at *
          generalize s1 y2 = z10 at *
          have HW3 : Hid (IntKind.u32.wrap (IntKind.u32.wrap (IntKind.u32.wrap (y16 + z9) + y7) + z10) = ext L k) := Lib.hid (by rw [HX.out]; simp only [IntKind.wrap_u32']; omega)
          clear HX
          replace HN : Hid (Nx w (wr.drewN nq)) := HN.out.drewN nq
          replace R1 := R1.drewN nq
          replace R2 := R2.drewN nq
          replace c16 : (wr.drewN nq).cell? _ = _ := c16
          replace c7 : (wr.drewN nq).cell? _ = _ := c7
          replace ck : (wr.drewN nq).cell? _ = _ := ck
          replace f2 := R2.frozen
          clear c15 c2
          generalize wr.drewN nq = wq at *
          go_still_tail 14, (by kernel_rfl)
          change wpList _ _ _ _ _ wq.drew
          rw [HW3.out]
          clear HW3
          generalize ext L k = xx at *
          go_wp2
          go_roundw
          case rel =>
            refine ⟨k + 1, n + 1, by have := hkn.out; omega, by omega, by go_num, (HN.out.setAt _ (by omega)).drew, (R1.other _ _ _ (by omega)).drew, ?_⟩
            rw [HE.out, ← ints_set]
            exact (R2.set k _).drew
          case measure => simp [intOf]; omega
        · obtain rfl : k = 64 := by omega
          obtain rfl : n = 48 := by have := hkn.out; omega
          rw [show schedL B 48 = wordsL B from rfl] at R2
          have hzz : (Tryd.prog.info? 42).map (·.size) = some (ints .u32 (wordsL B)).size := by rw [ints_size, wordsL, schedL_length]; exact hs.out
          replace hzz := Lib.hid hzz
          have ho : (ints .u32 Z).size = (ints .u32 (wordsL B)).size := by rw [ints_size, ints_size, HZ.out, wordsL, schedL_length]
          replace ho := Lib.hid ho
          have hl : w.heap.size ≤ w.heap.size + 1 := by omega
          go_wp2_with (first | (refine wpList_load_row rfl 42 (.tmp 3) rfl (w.heap.size + 1 + 1) rfl 42 (ints .u32 (wordsL B)) (0, 0) _ R2 Tryd.underlying42 rfl hzz.out ?_) | (refine wpList_store_row rfl 42 (.tmp 2) (.tmp 71) rfl (w.heap.size + 1) (ints .u32 (wordsL B)) rfl rfl 42 (ints .u32 Z) R1 hzz.out ho.out (ints_one _ _) ?_))
          exact bodyPost_ret (results_cell_row Tryd.results35 _ _ (w.heap.size + 1) 42 (ints .u32 (wordsL B)) (0, 0) _ rfl (R1.setRow _) Tryd.underlying42 rfl hzz.out) rfl ⟨rfl, HN.out.setRow _ hl⟩
end Go.Proofs.YtpgdfboogjapeaaDoor
