/- LAYER 2: the document's most, part. -/
import Derived.Test.YtjbeemoobmagnaaDoorShaK2
import Derived.Deep.DeepCutAuto
import Derived.Deep.Cut
import Derived.Deep.CutBlock
namespace Go.Proofs.YtjbeemoobmagnaaDoor
open Go Go.RowKit
set_option linter.unusedVariables false
set_option linter.unusedSimpArgs false
set_option linter.unusedVariables false
set_option linter.unusedSimpArgs false

theorem or_lt (a b : Nat) (ha : a < 18446744073709551616) (hb : b < 18446744073709551616) : a ||| b < 18446744073709551616 := by
  rw [show (18446744073709551616 : Nat) = 2 ^ 64 by decide] at *
  exact Nat.or_lt_two_pow ha hb
theorem run_mk64w (a b : Int) (w : World) : (Instr.buildSlice 63 2 #[(0, .int .u64 a), (1, .int .u64 b)]).run Tryd.prog w = .ok (.slice (some ⟨w.heap.size, 0, none⟩) 2 2) (w.alloc (.cells #[.int .u64 a, .int .u64 b] 66)) := by
  kernel_rfl
theorem nz_two (a b : Nat) : nz [a, b] = #[.int .u64 (a : Int), .int .u64 (b : Int)] := by simp [nz, ints]
theorem wholeG_lt (l : List Nat) (h : Nat) (H : ∀ i, l.getD i 0 < 18446744073709551616) : ∀ k w, w < 18446744073709551616 → wholeG l h k w < 18446744073709551616
  | 0, w, hw => by unfold wholeG; exact hw
  | k + 1, w, hw => by
    rw [wholeG_next]
    refine wholeG_lt l h H k _ ?_
    unfold orStep
    exact or_lt _ _ (Nat.mod_lt _ (by decide)) (H _)
theorem fits_eq {l : List Nat} {H n : Nat} (hl : l.length = 2 * H) : fits l H n = (decide (wholeG l H H 0 < n) || (decide (wholeG l H H 0 = n) && decide (restG l H H 0 = 0))) := by
  unfold fits
  rw [hl, show 2 * H - H = H by omega]
theorem shl_or (a b : Nat) (hb : b < 18446744073709551616) : bits .or .u64 (((a * 4294967296 % 18446744073709551616 : Nat)) : Int) (b : Int) = (orStep a b : Int) := u64_or_nat _ _ (Nat.mod_lt _ (by decide)) hb
theorem shl_wrap (a : Nat) : IntKind.u64.wrap ((a : Int) * 4294967296) = ((a * 4294967296 % 18446744073709551616 : Nat) : Int) := by rw [IntKind.wrap_u64]; rfl
theorem words_of (x : Nat) (hx : x < 18446744073709551616) : bits .and .u64 (x : Int) 4294967295 = ((x % 4294967296 : Nat) : Int) ∧ (x : Int) / 4294967296 = ((x / 4294967296 : Nat) : Int) := ⟨and_low x hx, rfl⟩
theorem W32.get' {l : List Nat} (h : W32 l) (i : Nat) : l.getD i 0 < 18446744073709551616 := Nat.lt_trans (h.get i) (by decide)

set_option maxRecDepth 20000 in
set_option maxHeartbeats 4000000 in
theorem kmost_any (x n : Nat) (cube : Bool) (w : World) (hx : x < 18446744073709551616) (hn : n < 18446744073709551616) :
    Calls Tryd.prog 76 #[.int .u64 (x : Int), .int .u64 (n : Int), .bool cube] w fun e w' => e = .returned (.bool (mostF x n cube)) ∧ Nx w w' := by
  obtain ⟨h1, h2⟩ := words_of x hx
  have HT := Lib.hid (fun W v l (r : RdN W v l) hl => ktimes_any v l x W r hl hx)
  have HL1 := Lib.hid (timesL_length (wordsOf x) x)
  have HL2 := Lib.hid (timesL_length (timesL (wordsOf x) x) x)
  have HW1 := Lib.hid (W32.timesL (wordsOf x) x)
  have HW2 := Lib.hid (W32.timesL (timesL (wordsOf x) x) x)
  have HV1 : Hid (mostF x n false = fits (timesL (wordsOf x) x) 2 n) := Lib.hid rfl
  have HV2 : Hid (mostF x n true = fits (timesL (timesL (wordsOf x) x) x) 3 n) := Lib.hid rfl
  have HM : Hid (∀ w : World, RdN (w.alloc (.cells #[.int .u64 ((x % 4294967296 : Nat) : Int), .int .u64 ((x / 4294967296 : Nat) : Int)] 66)) (.slice (some ⟨w.heap.size, 0, none⟩) 2 2) (wordsOf x)) := Lib.hid fun w => ⟨_, _, rfl, by unfold wordsOf; rw [nz_two]; exact Row.new _ _ _ _ rfl⟩
  have HW0 : Hid ((wordsOf x).length = 2) := Lib.hid rfl
  have HNLT := Lib.hid hn
  generalize hT2 : timesL (timesL (wordsOf x) x) x = T2 at *
  generalize hT1 : timesL (wordsOf x) x = T1 at *
  generalize wordsOf x = T0 at *
  replace hT1 := Lib.hid hT1
  replace hT2 := Lib.hid hT2
  generalize x % 4294967296 = x0 at *
  generalize x / 4294967296 = x1 at *
  have hmk := run_mk64w (x0 : Int) (x1 : Int)
  clear hx hn
  go_enter Tryd.func76, Tryd.ntmps76
  go_wp2_with fail
  have R0 := HM.out w
  have N0 := Lib.hid ((Nx.refl w).alloc (.cells #[.int .u64 (x0 : Int), .int .u64 (x1 : Int)] 66))
  clear hmk HM
  refine (HT.out _ _ _ R0 (by rw [HW0.out]; decide)).mono ?_
  rintro e w1 ⟨v1, rfl, R1, n1⟩
  have N1 := Lib.hid (N0.out.trans n1)
  clear n1 N0 R0
  rw [hT1.out] at R1
  rw [HW0.out] at HL1
  rw [HL1.out] at HL2
  go_upto_if 20 with (fail)
  go_cut [7, 8] (fun l h wx => ∃ (T : List Nat) (H : Nat), RdN wx l T ∧ h = .int .i64 (H : Int) ∧ Hid (T.length = 2 * H) ∧ 2 ≤ H ∧ H ≤ 3 ∧ Hid (W32 T) ∧ Hid (mostF x n cube = fits T H n) ∧ Nx w wx)
  case first =>
    cases cube
    · go_wp2_with fail
      go_meet
      exact ⟨T1, 2, R1, rfl, HL1, by decide, by decide, HW1, HV1, N1.out⟩
    · go_wp2_with fail
      refine (HT.out _ _ _ R1 (by rw [HL1.out]; decide)).mono ?_
      rintro e w2 ⟨v2, rfl, R2, n2⟩
      rw [hT2.out] at R2
      go_wp2_with fail
      go_meet
      exact ⟨T2, 3, R2, rfl, HL2, by decide, by decide, HW2, HV2, N1.out.trans n2⟩
  case rest =>
    obtain ⟨T, H, hR, rfl, HTL, hH2, hH, HW, HV, HN⟩ := hcut
    obtain ⟨g, Ty, rfl, R⟩ := hR
    have hfits := fits_eq (n := n) HTL.out
    rw [hfits] at HV
    have HG := Lib.hid (fun i (hi : i < T.length) => R.cell (nz_get T i hi))
    have hfr := R.frozen
    have HY := Lib.hid (fun i => HW.out.get' i)
    have hHi : (H : Int) ≤ 3 := by omega
    have HNX1 := Lib.hid (wholeG_next T H)
    have HNX2 := Lib.hid (restG_next T H)
    generalize hm : 2 * H = m at *
    have HM := Lib.hid hm
    have HWLT := Lib.hid (wholeG_lt T H HY.out H 0 (by decide))
    generalize hWG : wholeG T H H 0 = WG at *
    generalize hRG : restG T H H 0 = RG at *
    replace hWG := Lib.hid hWG
    replace hRG := Lib.hid hRG
    have hmb : (m : Int) ≤ 6 := by omega
    have hHm : Hid (H < m) := Lib.hid (by omega)
    obtain ⟨m1, hm1⟩ : ∃ m1 : Nat, (m : Int) - 1 = (m1 : Int) := ⟨m - 1, by omega⟩
    have hm1e : Hid (m1 + 1 = H + H) := Lib.hid (by omega)
    clear hfits R HW hm HT HL1 HL2 HW1 HW2 HV1 HV2 N1 R1
    rw [HTL.out]
    go_wp2_with fail
    go_loop [9, 10] (fun wv iv => ∃ k j q : Nat, wv = .int .u64 (q : Int) ∧ iv = .int .i64 (j : Int) ∧ j + 1 = H + k ∧ k ≤ H ∧ Hid (q < 18446744073709551616) ∧ Hid (wholeG T H k q = WG)) (fun _ iv => (intOf iv).toNat)
    case atStart => exact ⟨H, m1, 0, rfl, rfl, hm1e.out, Nat.le_refl _, Lib.hid (by decide), hWG⟩
    case round =>
      clear hWG
      obtain ⟨k, j, q, rfl, rfl, hjk, hkH, HQ, HF⟩ := hrel
      rcases Nat.eq_zero_or_pos k with h0 | h0
      · subst h0
        have he : q = WG := by have := HF.out; unfold wholeG at this; exact this
        have hlt : ¬ (H : Int) ≤ (j : Int) := by omega
        subst he
        clear hjk hkH HF HNX1
        go_wp2_with fail
        go_loop [11, 12] (fun rv iv => ∃ k j r : Nat, rv = .int .u64 (r : Int) ∧ iv = .int .i64 (j : Int) ∧ j + k = H ∧ Hid (r < 18446744073709551616) ∧ Hid (restG T H k r = RG)) (fun _ iv => H - (intOf iv).toNat)
        case atStart => exact ⟨H, 0, 0, rfl, rfl, by omega, Lib.hid (by decide), hRG⟩
        case round =>
          clear hRG
          obtain ⟨k, j, r, rfl, rfl, hjk, HR, HF⟩ := hrel
          rcases Nat.eq_zero_or_pos k with h0 | h0
          · subst h0
            obtain rfl : j = H := by omega
            have he : r = RG := HF.out
            subst he
            have HVV := HV
            by_cases c1 : q < n
            · have c1i : (q : Int) < (n : Int) := by omega
              replace HV : Hid (mostF x n cube = true) := Lib.hid (by rw [HV.out]; simp [c1])
              clear HVV c1 HNX2
              go_wp2_with fail
              go_ret
              exact ⟨by rw [HV.out]; rfl, HN⟩
            · have c1i : ¬ (q : Int) < (n : Int) := by omega
              by_cases c2 : q = n
              · have c2i : ((q : Int) == (n : Int)) = true := by simp; omega
                by_cases c3 : r = 0
                · have c3i : ((r : Int) == 0) = true := by simp; omega
                  replace HV : Hid (mostF x n cube = true) := Lib.hid (by rw [HV.out]; simp [c2, c3])
                  clear HVV c1 c2 c3 HNX2
                  go_wp2_with fail
                  go_ret
                  exact ⟨by rw [HV.out]; rfl, HN⟩
                · have c3i : ((r : Int) == 0) = false := by simp; omega
                  replace HV : Hid (mostF x n cube = false) := Lib.hid (by rw [HV.out]; simp [c2, c3])
                  clear HVV c1 c2 c3 HNX2
                  go_wp2_with fail
                  go_ret
                  exact ⟨by rw [HV.out]; rfl, HN⟩
              · have c2i : ((q : Int) == (n : Int)) = false := by simp; omega
                replace HV : Hid (mostF x n cube = false) := Lib.hid (by rw [HV.out]; simp [c1, c2])
                clear HVV c1 c2 HNX2
                go_wp2_with fail
                go_ret
                exact ⟨by rw [HV.out]; rfl, HN⟩
          · obtain ⟨k, rfl⟩ : ∃ q, k = q + 1 := ⟨k - 1, by omega⟩
            have hlt2 : (j : Int) < (H : Int) := by omega
            have hltm : (j : Int) < (m : Int) := by have := hHm.out; omega
            have hcell := HG.out j (by rw [HTL.out]; have := hHm.out; omega)
            have hnx := HNX2.out k r j (by omega)
            rw [HF.out] at hnx
            have hy := HY.out j
            generalize T.getD j 0 = y at *
            have hor := u64_or_nat r y HR.out hy
            have hob := or_lt r y HR.out hy
            generalize r ||| y = o at *
            replace hob := Lib.hid hob
            replace hnx := Lib.hid hnx.symm
            replace hy := Lib.hid hy
            clear HF HR
            go_wp2_with fail
            go_round
            case rel => exact ⟨k, j + 1, o, rfl, by go_num, by omega, hob, hnx⟩
            case measure => simp [intOf]; omega
      · obtain ⟨k, rfl⟩ : ∃ q, k = q + 1 := ⟨k - 1, by omega⟩
        obtain rfl : j = H + k := by omega
        have hle : (H : Int) ≤ (((H + k : Nat)) : Int) := by omega
        have hltm : (((H + k : Nat)) : Int) < (m : Int) := by have := HM.out; omega
        have hcell := HG.out (H + k) (by rw [HTL.out]; have := HM.out; omega)
        have hnx := HNX1.out k q
        rw [HF.out] at hnx
        have hy := HY.out (H + k)
        generalize T.getD (H + k) 0 = y at *
        have hsh := shl_wrap q
        have hor := shl_or q y hy
        have hob : orStep q y < 18446744073709551616 := or_lt _ _ (Nat.mod_lt _ (by decide)) hy
        generalize orStep q y = o at *
        generalize q * 4294967296 % 18446744073709551616 = s at *
        replace hob := Lib.hid hob
        replace hnx := Lib.hid hnx.symm
        replace hy := Lib.hid hy
        have hjj : Hid (((H + k : Nat) : Int) - 1 = ((H + k - 1 : Nat) : Int)) := Lib.hid (by omega)
        have hjb : (((H + k : Nat)) : Int) ≤ 6 := by omega
        have hj0 : (2 : Int) ≤ (((H + k : Nat)) : Int) := by omega
        replace hkH := Lib.hid hkH
        have hz : ∃ z, H + k = z := ⟨_, rfl⟩
        obtain ⟨z, hz⟩ := hz
        rw [hz] at hle hltm hcell hjj hjb hj0 ⊢
        replace hz := Lib.hid hz
        clear HF HQ hjk
        go_wp2_with fail
        go_round
        case rel => exact ⟨k, z - 1, o, rfl, by rw [← hjj.out], by have := hz.out; omega, by have := hkH.out; omega, hob, hnx⟩
        case measure => simp [intOf]; omega
end Go.Proofs.YtjbeemoobmagnaaDoor
