/- LAYER 2: the walk of ShaSteps. -/
import Derived.Test.YtpgdfboogjapeaaDoorLawShaFresh
namespace Go.Proofs.YtpgdfboogjapeaaDoor
open Go Go.RowKit
set_option linter.unusedVariables false
set_option linter.unusedSimpArgs false

/-- The first k of n bytes, and zeros. -/
def partZ (H : List UInt8) (n k : Nat) : List UInt8 := H.take k ++ List.replicate (n - k) 0
theorem partZ_zero (H : List UInt8) (n : Nat) : partZ H n 0 = List.replicate n 0 := by simp [partZ]
theorem partZ_all (H : List UInt8) (n : Nat) (h : H.length = n) : partZ H n n = H := by
  unfold partZ
  rw [List.take_of_length_le (by omega), Nat.sub_self]
  simp
theorem partZ_length (H : List UInt8) (n k : Nat) (hk : k ≤ n) (h : H.length = n) : (partZ H n k).length = n := by
  unfold partZ
  rw [List.length_append, List.length_take, List.length_replicate]; omega
theorem partZ_next (H : List UInt8) (n k : Nat) (b : UInt8) (hk : k < n) (h : H.length = n) (hb : H[k]? = some b) : (partZ H n k).set k b = partZ H n (k + 1) := by
  obtain ⟨hlt, rfl⟩ := List.getElem?_eq_some_iff.1 hb
  unfold partZ
  rw [List.take_succ_eq_append_getElem (by omega), List.set_append_right _ _ (by rw [List.length_take]; omega)]
  rw [show k - (H.take k).length = 0 by rw [List.length_take]; omega, show n - k = (n - (k + 1)) + 1 by omega, List.replicate_succ, List.set_cons_zero, List.append_assoc]
  rfl
theorem info_b64' : (Tryd.prog.info? 35).map (fun i => (i.zero, i.size)) = some (some (.agg (hcel (List.replicate 64 0))), 64) := by kernel_rfl

set_option maxRecDepth 100000 in
set_option maxHeartbeats 4000000 in
theorem shaSteps_law {w : World} (v0 : Value) (l0 : List UInt8) (h0 : Rd w v0 l0) (_ : l0.length ≤ 140737488351232) (hk : KIs w) :
    Calls Tryd.prog 5 #[v0] w fun e w' => e = .returned (.bool true) ∧ Nx w w' := by
  have R0 := Lib.hid h0
  obtain ⟨A0, c0, rfl, hc0, hm0, ha0⟩ := h0
  obtain ⟨hz, hzs⟩ := zero_of_info info_hash'
  obtain ⟨hz8, hzs8⟩ := zero_of_info info_w8
  obtain ⟨hzb, hzbs⟩ := zero_of_info info_b64'
  have HZ64 : Hid ((List.replicate 64 (0 : UInt8)).length = 64) := Lib.hid List.length_replicate
  generalize hZ64 : List.replicate 64 (0 : UInt8) = Z64 at *
  replace hZ64 := Lib.hid hZ64
  go_enter Tryd.func5, Tryd.ntmps5
  go_upto_if 12 with fail
  go_cut [0] (fun s wx => wx = w ∧ Rd w s (l0.take 1000))
  case first =>
    by_cases hle : l0.length ≤ 1000
    · have ht : decide ((1000 : Int) < (l0.length : Int)) = false := by simp; omega
      have ht2 : decide (1000 < l0.length) = false := by simp; omega
      go_wp2_with fail
      go_meet
      exact ⟨rfl, by rw [List.take_of_length_le hle]; exact R0.out⟩
    · have ht : decide ((1000 : Int) < (l0.length : Int)) = true := by simp; omega
      have ht2 : decide (1000 < l0.length) = true := by simp; omega
      have hs := slice_to (P := Tryd.prog) 22 5 Tryd.underlying22 Tryd.sizeOf5 A0 l0.length c0 1000 1000 rfl (by omega)
      go_wp2_with fail
      go_meet
      exact ⟨rfl, cutV_take ha0 (by omega) hc0 hm0⟩
  case rest =>
    obtain ⟨rfl, hr⟩ := hcut
    clear ha0 hc0 hm0 R0
    have Rb := Lib.hid hr
    obtain ⟨A2, c2, rfl, -, -, -⟩ := hr
    have hlb := take_le l0
    generalize l0.take 1000 = b at *
    have HPD : Hid (∀ W v, Rd W v b → Calls Tryd.prog 18 #[v] W fun e w' => ∃ v, e = .returned v ∧ Own W.heap.size w' v (padL b) ∧ Nx W w') := Lib.hid fun W v h => padded_any v b W h (by omega)
    have HSM : Hid (∀ W v, Nx wc W → Rd W v b → Calls Tryd.prog 9 #[v] W fun e w' => e = .returned (.agg (hcel (shaL b))) ∧ Nx W w') := Lib.hid fun W v h h2 => sum_any v b W (hk.nx h) h2 (by omega)
    have HW : Hid (∀ W, Nx wc W → Calls Tryd.prog 20 #[] W fun e w' => e = .returned (.bool true) ∧ Nx W w') := Lib.hid fun W h => works_any W (hk.nx h)
    have HRO : Hid (∀ (W : World) (s : St) (B : List UInt8), Nx wc W → s.ok → B.length = 64 → Calls Tryd.prog 21 #[.agg (ints .u32 s.list), .agg (hcel B)] W fun e w' => e = .returned (.agg (ints .u32 (s.round B).list)) ∧ Nx W w') := Lib.hid fun W s B h h1 h2 => round_any s B W h1 h2 (hk.nx h)
    have HSH : Hid (shaL b = hashL (beginS.rounds (padL b) ((padL b).length / 64))) := Lib.hid rfl
    have HOK : Hid (∀ k, (beginS.rounds (padL b) k).ok) := Lib.hid fun k => St.ok.rounds begin_ok _ _
    have HB0 : Hid (beginS.rounds (padL b) 0 = beginS) := Lib.hid rfl
    have HR1 : Hid (∀ k, beginS.rounds (padL b) (k + 1) = (beginS.rounds (padL b) k).round (((padL b).drop (64 * k)).take 64)) := Lib.hid fun k => rfl
    have HPL := Lib.hid (padL_whole b)
    have HPB : Hid ((padL b).length ≤ 100000 ∧ 0 < (padL b).length) := Lib.hid (by rw [padL_length]; unfold gapN; omega)
    have HHL : Hid ((shaL b).length = 32) := Lib.hid (shaL_length b)
    have HZL : Hid ((List.replicate 32 (0 : UInt8)).length = 32) := Lib.hid List.length_replicate
    clear hlb hk
    generalize hHE : shaL b = H at *
    replace hHE := Lib.hid hHE
    generalize padL b = p at *
    generalize hSF : beginS.rounds p = SF at *
    clear hSF
    generalize List.replicate 32 (0 : UInt8) = Z at *
    have h64 : ∀ B : St, (Tryd.prog.info? 34).map (·.size) = some (ints .u32 B.list).size := fun B => by rw [ints_size]; kernel_rfl
    replace h64 := Lib.hid h64
    have h640 : ∀ B : St, (ints .u32 [0, 0, 0, 0, 0, 0, 0, 0]).size = (ints .u32 B.list).size := fun B => by rw [ints_size, ints_size]; rfl
    replace h640 := Lib.hid h640
    have i1 := Lib.hid (hashsz H HHL.out)
    have j1 := Lib.hid (hashsame Z H HZL.out HHL.out)
    go_wp2_with fail
    refine (HPD.out _ _ Rb.out).mono ?_
    rintro e w1 ⟨v1, rfl, o1, n1⟩
    have N1 := Lib.hid n1
    have P1 := Lib.hid o1.rd
    clear n1 o1
    obtain ⟨A1, c1, rfl, hc1, hm1, ha1⟩ := P1.out
    go_wp2_with fail
    refine (begin_any w1).mono ?_
    rintro e w2 ⟨rfl, n2⟩
    have N2 := Lib.hid (N1.out.trans n2)
    have P2 := Lib.hid (P1.out.nx n2)
    clear n2 P1
    have RS := Row.new w2 (ints .u32 [0, 0, 0, 0, 0, 0, 0, 0]) 34 _ rfl
    go_wp2_with (refine wpList_store_row rfl 34 (.tmp 4) (.tmp 17) rfl w2.heap.size (ints .u32 beginS.list) rfl rfl 34 (ints .u32 [0, 0, 0, 0, 0, 0, 0, 0]) RS (h64.out _) (h640.out _) (ints_one _ _) ?_)
    have RS' := RS.setRow (ints .u32 beginS.list)
    have NS : Hid (Nx w2 ((w2.alloc (.cells (ints .u32 [0, 0, 0, 0, 0, 0, 0, 0]) 34)).setRow w2.heap.size (ints .u32 beginS.list))) := Lib.hid (((Nx.refl w2).alloc _).setRow _ (Nat.le_refl _))
    clear RS
    generalize ((w2.alloc (.cells (ints .u32 [0, 0, 0, 0, 0, 0, 0, 0]) 34)).setRow w2.heap.size (ints .u32 beginS.list)) = W2 at *
    have hpl : p.length = 64 * (p.length / 64) := HPL.out.symm
    generalize hnb : p.length / 64 = nb at *
    replace hpl := Lib.hid hpl
    replace hnb := Lib.hid hnb
    clear HPL
    generalize hPN : p.length = pn at *
    replace hPN := Lib.hid hPN
    have hpb : (pn : Int) ≤ 100000 := by have := HPB.out; omega
    clear hc1 hm1 ha1
    have NW : Hid (Nx wc W2) := Lib.hid (N2.out.trans NS.out)
    have NG : Hid (wc.heap.size ≤ w2.heap.size) := Lib.hid N2.out.size
    have NG2 : Hid (w2.heap.size ≤ w2.heap.size) := Lib.hid (Nat.le_refl _)
    generalize hg4 : w2.heap.size = g4 at *
    have RS2 : Row W2 g4 (ints .u32 (SF 0).list) 34 := by rw [HB0.out]; exact RS'
    clear RS'
    replace hg4 := Lib.hid hg4
    go_loopw [5] (fun i wr => ∃ k : Nat, k ≤ nb ∧ i = .int .i64 ((64 * k : Nat) : Int) ∧ Hid (Nx wc wr) ∧ Hid (Nx w2 wr) ∧ Row wr g4 (ints .u32 (SF k).list) 34) (fun i _ => pn - (intOf i).toNat)
    case atStart => exact ⟨0, by omega, rfl, NW, NS, RS2⟩
    case round =>
      clear NW NS RS2 W2
      obtain ⟨k, hk, rfl, HN, HN2, R4⟩ := hrel
      obtain ⟨wo, rfl⟩ : ∃ wo : World, wo = wr := ⟨_, rfl⟩
      by_cases hlt : k < nb
      · have hkk : 64 * k + 64 ≤ pn := by have := hpl.out; omega
        have hlt2 : ((64 * k : Nat) : Int) + 64 ≤ (pn : Int) := by omega
        obtain ⟨A1', c1', hA, hc1, hm1, ha1⟩ := P2.out
        obtain ⟨rfl, -, rfl⟩ : A1 = A1' ∧ pn = p.length ∧ c1 = c1' := by injection hA with h1 h2 h3; exact ⟨h1, h2, h3⟩
        obtain ⟨g1, o1, rfl, hg1, hcell⟩ := ha1 (by rw [hPN.out]; omega)
        have HCL : Hid (∀ W j (b : UInt8), Nx w2 W → p[j]? = some b → W.cell? ⟨g1, o1 + j, none⟩ = some (.int .u8 (b.toNat : Int))) := Lib.hid fun W j b h1 h2 => by
          obtain ⟨hj, rfl⟩ := List.getElem?_eq_some_iff.1 h2
          rw [h1.cell (p := ⟨g1, o1 + j, none⟩) hg1, hcell j hj]
        have HBL : Hid (((p.drop (64 * k)).take 64).length = 64) := Lib.hid (by rw [List.length_take, List.length_drop, hPN.out]; omega)
        have HBG : Hid (∀ m, m < 64 → ∃ b, ((p.drop (64 * k)).take 64)[m]? = some b ∧ p[64 * k + m]? = some b) := Lib.hid fun m hm => by
          have h1 : 64 * k + m < p.length := by rw [hPN.out]; omega
          exact ⟨p[64 * k + m], by rw [List.getElem?_take_of_lt hm, List.getElem?_drop]; exact List.getElem?_eq_getElem h1, List.getElem?_eq_getElem h1⟩
        have HSK := Lib.hid (HR1.out k)
        have HOKK := Lib.hid (HOK.out k)
        clear hcell hA hc1 hm1 ha1
        generalize (p.drop (64 * k)).take 64 = BL at *
        have hsl : (SF k).list.length = 8 := rfl
        generalize hS1 : SF (k + 1) = S1 at *
        generalize hS0 : SF k = S0 at *
        replace hS1 := Lib.hid hS1
        clear hS0 hsl
        obtain ⟨t, ht⟩ : ∃ t, 64 * k = t := ⟨_, rfl⟩
        rw [ht] at HBG hkk hlt2 ⊢
        replace ht := Lib.hid ht
        go_wp2_with fail
        have R6 := Row.new wo (hcel Z64) 35 _ rfl
        rw [← hZ64.out, ← partZ_zero BL 64] at R6
        have R4' := R4.alloc (.cells (hcel (partZ BL 64 0)) 35)
        have hne : Hid (g4 ≠ wo.heap.size) := Lib.hid (Nat.ne_of_lt R4.lt)
        have NA : Hid (Nx wo (wo.alloc (.cells (hcel (partZ BL 64 0)) 35))) := Lib.hid ((Nx.refl wo).alloc _)
        rw [← hZ64.out, ← partZ_zero BL 64]
        have hG6 : Hid (wo.heap.size ≤ wo.heap.size) := Lib.hid (Nat.le_refl _)
        generalize hwa : wo.alloc (.cells (hcel (partZ BL 64 0)) 35) = wa at *
        clear hwa
        generalize hg6 : wo.heap.size = g6 at *
        replace hg6 := Lib.hid hg6
        go_loopw [7] (fun j wr => ∃ m : Nat, m ≤ 64 ∧ j = .int .i64 m ∧ Hid (Nx wo wr) ∧ Row wr g6 (hcel (partZ BL 64 m)) 35) (fun j _ => 64 - (intOf j).toNat)
        case atStart => exact ⟨0, by omega, rfl, NA, R6⟩
        case round =>
          clear NA R6 R4' wa
          obtain ⟨m, hm, rfl, HN3, R6⟩ := hrel
          by_cases hm64 : m < 64
          · obtain ⟨bt, hb1, hb2⟩ := HBG.out m hm64
            have hq := HCL.out _ _ _ (HN2.out.trans HN3.out) hb2
            have HZL6 := Lib.hid (partZ_length BL 64 m hm HBL.out)
            have HNX := Lib.hid (partZ_next BL 64 m bt hm64 HBL.out hb1)
            have f6 := R6.frozen
            have hzl : m < (partZ BL 64 m).length := by rw [HZL6.out]; exact hm64
            obtain ⟨old, c6⟩ : ∃ old, wr.cell? ⟨g6, m, none⟩ = some (.int .u8 old) := ⟨_, R6.cell (hcel_get _ m hzl)⟩
            clear hzl hb1 hb2
            have hm64' : (m : Int) < 64 := by omega
            go_wp2
            go_roundw
            case rel =>
              refine ⟨m + 1, by omega, by go_num, HN3.out.setAt _ (by rw [hg6.out]; exact Nat.le_refl _), ?_⟩
              rw [← HNX.out, ← hcel_set _ _ _ (by rw [HZL6.out]; exact hm64)]
              exact R6.set m _
            case measure => simp [intOf]; omega
          · obtain rfl : m = 64 := by omega
            rw [partZ_all BL 64 HBL.out] at R6
            have hsb : Hid ((Tryd.prog.info? 35).map (·.size) = some (hcel BL).size) := Lib.hid (by rw [hcel_size, HBL.out]; exact hzbs)
            have R4 := R4.nx HN3.out
            have HNW := Lib.hid (HN.out.trans HN3.out)
            go_wp2_with (first | (refine wpList_load_row rfl 34 (.tmp 4) rfl g4 rfl 34 (ints .u32 S0.list) (0, 0) _ R4 Tryd.underlying34 rfl (h64.out S0) ?_) | (refine wpList_load_row rfl 35 (.tmp 6) rfl g6 rfl 35 (hcel BL) (0, 0) _ R6 Tryd.underlying35 rfl hsb.out ?_))
            refine (HRO.out wr S0 BL HNW.out HOKK.out HBL.out).mono ?_
            rintro e w4 ⟨rfl, n4⟩
            have R44 := R4.nx n4
            go_wp2_with (refine wpList_store_row rfl 34 (.tmp 4) (.tmp 39) rfl g4 (ints .u32 (S0.round BL).list) rfl rfl 34 (ints .u32 S0.list) R44 (h64.out _) (by rw [ints_size, ints_size]; rfl) (ints_one _ _) ?_)
            have NF := Lib.hid ((HNW.out.trans n4).setRow (ints .u32 (S0.round BL).list) (show wc.heap.size ≤ g4 by exact NG.out))
            have NF2 : Hid (Nx w2 (w4.setRow g4 (ints .u32 (S0.round BL).list))) := Lib.hid (((HN2.out.trans HN3.out).trans n4).setRow _ (by rw [hg4.out]; exact Nat.le_refl _))
            have RF := R44.setRow (ints .u32 (S0.round BL).list)
            rw [← HSK.out] at RF NF NF2 ⊢
            refine ⟨⟨k + 1, by omega, ?_, NF, NF2, by rw [hS1.out]; exact RF⟩, by simp [intOf]; omega⟩
            have := ht.out
            congr 1
            omega
      · obtain rfl : k = nb := by omega
        have hge : decide (((64 * k : Nat) : Int) + 64 ≤ (pn : Int)) = false := by have := hpl.out; simp; omega
        have hge2 : decide (64 * (k : Int) + 64 ≤ (pn : Int)) = false := by have := hpl.out; simp; omega
        have hge3 : (pn : Int) < 64 * (k : Int) + 64 := by have := hpl.out; omega
        have hge4 : 64 * (k : Int) ≤ (pn : Int) := by have := hpl.out; omega
        rw [show ((64 * k : Nat) : Int) = 64 * (k : Int) by omega]
        have HHG : Hid (∀ i, i < 32 → H[i]? = some (UInt8.ofNat (((SF k).list.getD (i / 4) 0).toNat / 256 ^ (3 - i % 4)))) := Lib.hid fun i h => by
          rw [← hashL_get (SF k) i h, ← List.getElem?_eq_getElem, HSH.out]
        have HWD := Lib.hid (St.list_wd (HOK.out k))
        have HSL : Hid ((SF k).list.length = 8) := Lib.hid rfl
        have hpm : Hid ((pn : Int) % 64 = 0 ∧ (0 : Int) < (pn : Int)) := Lib.hid (by have := hpl.out; have := HPB.out; omega)
        clear HSH HB0 HR1 HOK HPB P2 HN2
        generalize (SF k).list = SL at *
        go_wp2_with fail
        refine (HSM.out wo _ HN.out (Rb.out.nx HN.out)).mono ?_
        rintro e w5 ⟨rfl, n5⟩
        have N5 := Lib.hid (HN.out.trans n5)
        have R45 := R4.nx n5
        clear n5 R4 HN
        have RZ := Row.new w5 (hcel Z) 24 _ rfl
        have N6 := Lib.hid ((N5.out.alloc (.cells (hcel Z) 24)).setRow (hcel H) N5.out.size)
        have hne : Hid (g4 ≠ w5.heap.size) := Lib.hid (Nat.ne_of_lt R45.lt)
        have R46 := (R45.alloc (.cells (hcel Z) 24)).setRow_other (k := w5.heap.size) (hcel H) hne.out
        have R86 := RZ.setRow (hcel H)
        replace hge := Lib.hid hge
        replace hge2 := Lib.hid hge2
        go_wp2_with (refine wpList_store_row rfl 24 (.tmp 8) (.tmp 41) rfl w5.heap.size (hcel H) rfl rfl 24 (hcel Z) RZ i1.out j1.out (hcel_one _) ?_; clear RZ R45 N5; generalize ((w5.alloc (.cells (hcel Z) 24)).setRow w5.heap.size (hcel H)) = w6 at *; generalize w5.heap.size = g8 at *)
        go_loopw [9] (fun i wr => ∃ j : Nat, j ≤ 32 ∧ i = .int .i64 j ∧ Hid (Nx wc wr) ∧ Row wr g8 (hcel H) 24 ∧ Row wr g4 (ints .u32 SL) 34) (fun i _ => 32 - (intOf i).toNat)
        case atStart => exact ⟨0, by omega, rfl, N6, R86, R46⟩
        case round =>
          clear N6 R86 R46 w6
          obtain ⟨j, hj, rfl, HN, R8, R4⟩ := hrel
          by_cases hlt : j < 32
          · have hj32 : (j : Int) < 32 := by omega
            have hq4 : j / 4 < SL.length := by rw [HSL.out]; omega
            have c4 : wr.cell? ⟨g4, j / 4, none⟩ = some (.int .u32 (SL.getD (j / 4) 0)) := by
              rw [R4.cell (ints_get .u32 SL (j / 4) hq4), List.getD_eq_getElem?_getD, List.getElem?_eq_getElem hq4]; rfl
            have c8 := R8.at (HHG.out j hlt)
            have HW1 := Lib.hid (HWD.out (j / 4))
            obtain ⟨q, hq⟩ : ∃ q : Nat, j / 4 = q := ⟨_, rfl⟩
            obtain ⟨r, hr⟩ : ∃ r : Nat, j % 4 = r := ⟨_, rfl⟩
            rw [hq] at c4 HW1 c8
            rw [hr] at c8
            have hq1 : (j : Int) / 4 = (q : Int) := by omega
            have hr1 : (j : Int) % 4 = (r : Int) := by omega
            have hq8 : (q : Int) < 8 := by omega
            obtain ⟨d, hd⟩ : ∃ d : Nat, 24 - 8 * (r : Int) = (d : Int) := ⟨24 - 8 * r, by omega⟩
            have hd32 : (d : Int) < 32 := by omega
            have HB := Lib.hid (word_byte (SL.getD q 0) r d (by omega) (by omega) HW1.out)
            rw [← HB.out] at c8
            have ht1 : (j : Int).tdiv 4 = (q : Int) := by rw [Int.tdiv_eq_ediv_of_nonneg (by omega)]; exact hq1
            have ht2 : (j : Int).tmod 4 = (r : Int) := by rw [Int.tmod_eq_emod_of_nonneg (by omega)]; exact hr1
            have hw1 : IntKind.i64.wrap (8 * (r : Int)) = 8 * (r : Int) := IntWalk.i64_in _ (by omega)
            have hw2 : IntKind.i64.wrap (24 - 8 * (r : Int)) = (d : Int) := by rw [IntWalk.i64_in _ (by omega)]; exact hd
            have hw3 : IntKind.u64.wrap (d : Int) = (d : Int) := IntWalk.u64_in _ (by omega)
            generalize SL.getD q 0 = x at *
            clear hq hr HHG HWD hq4
            go_wp2_with fail
            go_quiet (fail)
            have e1 : ∀ z : Int, (z != z) = false := fun z => by simp
            go_wp2_with fail
            go_roundw
            case rel => exact ⟨j + 1, by omega, by go_num, HN.out.drewN _, R8.drewN _, R4.drewN _⟩
            case measure => simp [intOf]; omega
          · obtain rfl : j = 32 := by omega
            obtain ⟨m1, m2⟩ := hpm.out
            have m3 : ((pn : Int) % 64 == 0) = true := by simp; omega
            have m4 : decide ((0 : Int) < (pn : Int)) = true := by simp; omega
            have m5 : decide (0 < pn) = true := by simp; omega
            go_wp2_with fail
            refine (HW.out wr HN.out).mono ?_
            rintro e w9 ⟨rfl, n9⟩
            go_wp2_with fail
            go_ret
            exact ⟨rfl, HN.out.trans n9⟩
end Go.Proofs.YtpgdfboogjapeaaDoor
