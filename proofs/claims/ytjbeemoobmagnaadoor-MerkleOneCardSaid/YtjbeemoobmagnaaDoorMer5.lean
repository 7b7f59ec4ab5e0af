/- LAYER 9: Leads. -/
import Derived.Test.YtjbeemoobmagnaaDoorMer4
namespace Go.Proofs.YtjbeemoobmagnaaDoor
open Go Go.RowKit
set_option linter.unusedVariables false
set_option linter.unusedSimpArgs false
set_option linter.unusedVariables false
set_option linter.unusedSimpArgs false

/-- What a step of a way leads to. -/
def stepH (h x : List UInt8) (n many : Nat) : List UInt8 := if n % 2 = 1 then join2 x h else if n + 1 < many then join2 h x else join2 h h
theorem stepH_length (h x : List UInt8) (n many : Nat) : (stepH h x n many).length = 32 := by unfold stepH; split <;> (try split) <;> exact join2_length _ _
theorem leadsF_next (h x : List UInt8) (n many : Nat) (way : Hs) : leadsF h n many (x :: way) = leadsF (stepH h x n many) (n / 2) (halfN many) way := by rw [leadsF]; rfl
/-- What a step calls joined with. -/
def stepA (h x : List UInt8) (n many : Nat) : List UInt8 := if n % 2 = 1 then x else h
def stepB (h x : List UInt8) (n many : Nat) : List UInt8 := if n % 2 = 1 then h else if n + 1 < many then x else h
theorem stepH_is (h x : List UInt8) (n many : Nat) : stepH h x n many = join2 (stepA h x n many) (stepB h x n many) := by unfold stepH stepA stepB; split <;> (try split) <;> rfl

set_option maxRecDepth 100000 in
set_option maxHeartbeats 8000000 in
theorem mleads_yes (h : List UInt8) (n many : Nat) (v : Value) (way : Hs) (w : World) (hh : h.length = 32) (hr : RdE elH w v way) (hn : way.length = belowF many) (hlt : n < many) (hm : many ≤ 1048576) (hk : KIs w) :
    Calls Tryd.prog 35 #[.agg (hcel h), .int .i64 (n : Int), .int .i64 (many : Int), v] w fun e w' => e = .returned (.tuple #[.agg (hcel (leadsF h n many way)), .int .i64 0]) ∧ Nx w w' := by
  obtain ⟨hz, hzs⟩ := zero_of_info info_hash'
  have HK := Lib.hid hk
  have LF := Lib.hid (leadsF_length way h n many hh)
  obtain ⟨F, hF⟩ : ∃ F, leadsF h n many way = F := ⟨_, rfl⟩
  rw [hF] at LF ⊢
  replace hF := Lib.hid hF
  have HZL : Hid ((List.replicate 32 (0 : UInt8)).length = 32) := Lib.hid List.length_replicate
  generalize List.replicate 32 (0 : UInt8) = ZZ at *
  have iF := Lib.hid (hashsz F LF.out)
  have oF := Lib.hid (hashsame ZZ F HZL.out LF.out)
  have i0 := Lib.hid (hashsz h hh)
  have HBL := Lib.hid (fun w => mbelow_any many (by omega) w)
  have HBe : Hid ((belowF many : Int) = (way.length : Int)) := Lib.hid (by rw [hn])
  have hn0 : ¬ (n : Int) < 0 := by omega
  have hn1 : ¬ (many : Int) ≤ (n : Int) := by omega
  have hn2 : ¬ (1048576 : Int) < (many : Int) := by omega
  have hrr := Lib.hid hr
  obtain ⟨A, c, rfl, hc1, hc2, h32, hcell⟩ := hr.h_parts
  have HH := Lib.hid hh
  have HLT := Lib.hid hlt
  have HM := Lib.hid hm
  have H32 := Lib.hid h32
  have hwl : Hid (way.length ≤ c) := Lib.hid hc1
  have HC : Hid (∀ k (hk : k < way.length) , ∃ b o, A = some ⟨b, o, none⟩ ∧ b < w.heap.size ∧ ∀ i u, (hcel (way.getD k []))[i]? = some u → w.cell? ⟨b, o + k * 32 + i, none⟩ = some u) := Lib.hid fun k hk => by
    obtain ⟨b, o, rfl, hb, hc⟩ := hcell (by omega)
    exact ⟨b, o, rfl, hb, fun i u hu => getD_cells hc k hk i u hu⟩
  have HWB : Hid (way.length ≤ 1048576) := Lib.hid (by
    rw [hn]
    have key : ∀ m, belowF m ≤ m := by
      intro m
      induction m using Nat.strongRecOn with
      | _ m ih =>
        by_cases h1 : m ≤ 1
        · rw [belowF_le h1]; omega
        · rw [belowF_gt h1]
          have := ih (halfN m) (by unfold halfN; omega)
          unfold halfN at *
          omega
    have := key many
    omega)
  clear hk hr hn hlt hm hh h32 hcell hc1 hc2
  generalize hwn : way.length = wn at *
  replace hwn := Lib.hid hwn
  have hwi : (wn : Int) ≤ 1048576 := by have := HWB.out; omega
  go_enter Tryd.func35, Tryd.ntmps35
  go_wp2_with fail
  have R0 := (Row.new w (hcel h) 30 _ rfl).alloc (.cells (hcel ZZ) 30)
  have R1 := Row.new2 w (.cells (hcel h) 30) (hcel ZZ) 30
  have N0 := Lib.hid (((Nx.refl w).alloc (.cells (hcel h) 30)).alloc (.cells (hcel ZZ) 30))
  refine (HBL.out _).mono ?_
  rintro e w1 ⟨rfl, rfl⟩
  rw [HBe.out]
  have hnn : ((wn : Int) != (wn : Int)) = false := by simp
  go_wp2_with fail
  generalize hW : (w.alloc (.cells (hcel h) 30)).alloc (.cells (hcel ZZ) 30) = W at *
  clear hW hn0 hn1 hn2
  go_loopw [32, 1, 2] (fun i a m wr => ∃ (k nn mm : Nat) (H : List UInt8), i = .int .i64 (k : Int) ∧ a = .int .i64 (nn : Int) ∧ m = .int .i64 (mm : Int) ∧ k ≤ wn ∧ Hid (nn < mm) ∧ Hid (mm ≤ 1048576) ∧ Hid (H.length = 32) ∧ Row wr w.heap.size (hcel H) 30 ∧ Row wr (w.heap.size + 1) (hcel ZZ) 30 ∧ Hid (leadsF H nn mm (way.drop k) = F) ∧ Hid (Nx w wr)) (fun i _ _ _ => wn - (intOf i).toNat)
  case atStart => exact ⟨0, n, many, h, rfl, rfl, rfl, Nat.zero_le _, HLT, HM, HH, R0, R1, by rw [List.drop_zero]; exact hF, N0⟩
  case round =>
    clear R0 R1 N0 hF HH HLT HM i0
    obtain ⟨k, nn, mm, H, rfl, rfl, rfl, hk, HLT, HM, LH, R0, R1, HF, HN⟩ := hrel
    have iH := Lib.hid (hashsz H LH.out)
    have hmm : (mm : Int) ≤ 1048576 := by have := HM.out; omega
    have hnn1 : (nn : Int) < 1048576 := by have := HM.out; have := HLT.out; omega
    by_cases hlt : k < wn
    · have hlti : (k : Int) < (wn : Int) := by omega
      obtain ⟨b, o, rfl, hb, hcx⟩ := HC.out k hlt
      have C1 : Hid (∀ i u, (hcel (way.getD k []))[i]? = some u → wr.cell? ⟨b, o + k * 32 + i, none⟩ = some u) := Lib.hid fun i u hu => (HN.out.cell (p := ⟨b, o + k * 32 + i, none⟩) hb).trans (hcx i u hu)
      have LX : Hid ((way.getD k []).length = 32) := Lib.hid (H32.out.getD (by rw [hwn.out]; exact hlt))
      have HDR : Hid (way.drop k = (way.getD k []) :: way.drop (k + 1)) := Lib.hid (by rw [List.drop_eq_getElem_cons (show k < way.length by rw [hwn.out]; exact hlt), List.getD_eq_getElem?_getD, List.getElem?_eq_getElem (show k < way.length by rw [hwn.out]; exact hlt)]; rfl)
      rw [HDR.out] at HF
      clear HDR hcx
      generalize (way.getD k []) = x at *
      have iX := Lib.hid (hashsz x LX.out)
      have oX := Lib.hid (hashsame ZZ x HZL.out LX.out)
      have HNB := Lib.hid (fun w => mnbr_any nn mm (by have := HM.out; omega) HLT.out w)
      have HHF := Lib.hid (fun w => mhalf_any mm (by have := HM.out; omega) w)
      have HF2 := Lib.hid ((leadsF_next H x nn mm (way.drop (k + 1))).symm.trans HF.out)
      have LS := Lib.hid (stepH_length H x nn mm)
      have iS := Lib.hid (hashsz _ LS.out)
      have oS := Lib.hid (hashsame H _ LH.out LS.out)
      have HJ : Hid (∀ W, Nx w W → Calls Tryd.prog 70 #[.agg (hcel (stepA H x nn mm)), .agg (hcel (stepB H x nn mm))] W fun e w' => e = .returned (.agg (hcel (stepH H x nn mm))) ∧ Nx W w') := Lib.hid fun W hW => by
        have := mjoined_any (stepA H x nn mm) (stepB H x nn mm) W (by unfold stepA; split <;> first | exact LX.out | exact LH.out) (by unfold stepB; split <;> (try split) <;> first | exact LX.out | exact LH.out) (HK.out.nx hW)
        rw [← stepH_is] at this
        exact this
      have HSA : Hid (stepA H x nn mm = if nn % 2 = 1 then x else H) := Lib.hid rfl
      have HSB : Hid (stepB H x nn mm = if nn % 2 = 1 then H else if nn + 1 < mm then x else H) := Lib.hid rfl
      generalize stepH H x nn mm = S at *
      have HH2 : Hid (nn / 2 < halfN mm ∧ halfN mm ≤ 1048576) := Lib.hid (by have := HM.out; have := HLT.out; unfold halfN; omega)
      replace hk := Lib.hid hk
      replace hlt := Lib.hid hlt
      have HQ : Hid (nbr nn mm = if nn % 2 = 1 then nn - 1 else if nn + 1 < mm then nn + 1 else nn) := Lib.hid rfl
      have RX := Row.new wr (hcel ZZ) 30 _ rfl
      have R0a := (R0.alloc (.cells (hcel ZZ) 30)).setRow_other (k := wr.heap.size) (hcel x) (by have := R0.lt; omega)
      have R1a := (R1.alloc (.cells (hcel ZZ) 30)).setRow_other (k := wr.heap.size) (hcel x) (by have := R1.lt; omega)
      have RXa := RX.setRow (hcel x)
      have HNa := Lib.hid ((HN.out.alloc (.cells (hcel ZZ) 30)).setRow (g := wr.heap.size) (hcel x) HN.out.size)
      have ht0 : ∀ z : Nat, ((nn : Int).tmod 2) = ((nn % 2 : Nat) : Int) := fun _ => rfl
      have key : (nn % 2 = 1 ∧ nbr nn mm ≠ nn) ∨ (nn % 2 = 0 ∧ nn + 1 < mm ∧ nbr nn mm ≠ nn) ∨ (nn % 2 = 0 ∧ ¬ nn + 1 < mm ∧ nbr nn mm = nn) := by
        have := HQ.out
        rcases Nat.mod_two_eq_zero_or_one nn with h | h
        · by_cases h2 : nn + 1 < mm
          · rw [if_neg (by omega), if_pos h2] at this
            exact .inr (.inl ⟨h, h2, by omega⟩)
          · rw [if_neg (by omega), if_neg h2] at this
            exact .inr (.inr ⟨h, h2, this⟩)
        · rw [if_pos h] at this
          exact .inl ⟨h, by omega⟩
      clear ht0
      generalize nbr nn mm = q at *
      clear HQ
      go_wp2_with (first | (refine wpList_load_at rfl 30 (.tmp 34) rfl b (o + k * 32) rfl (hcel x) _ C1.out Tryd.underlying30 rfl iX.out ?_) | (refine wpList_store_row rfl 30 (.tmp 11) (.tmp 35) rfl wr.heap.size (hcel x) rfl rfl 30 (hcel ZZ) RX iX.out oX.out (hcel_one _) ?_))
      clear RX R0 R1 HN C1
      generalize hgx : wr.heap.size = gx at *
      clear hgx
      generalize (wr.alloc (.cells (hcel ZZ) 30)).setRow gx (hcel x) = Wa at *
      refine (HNB.out _).mono ?_
      rintro e w2 ⟨rfl, rfl⟩
      rcases key with ⟨h1, h2⟩ | ⟨h1, h2, h3⟩ | ⟨h1, h2, h3⟩
      · have t1 : ((q : Int) == (nn : Int)) = false := by simp; omega
        have t2 : ((nn : Int) % 2 == 0) = false := by simp; omega
        rw [HSA.out, HSB.out, if_pos h1, if_pos h1] at HJ
        clear h1 h2
        clear HSA HSB
        go_wp2_with (first | (refine wpList_load_row rfl 30 (.tmp 11) rfl gx rfl 30 (hcel x) (0, 0) _ RXa Tryd.underlying30 rfl iX.out ?_) | (refine wpList_load_row rfl 30 (.tmp 4) rfl w.heap.size rfl 30 (hcel H) (0, 0) _ R0a Tryd.underlying30 rfl iH.out ?_))
        refine (HJ.out _ HNa.out).mono ?_
        rintro e w4 ⟨rfl, n4⟩
        have R0b := R0a.nx n4
        have R1b := R1a.nx n4
        have HNb := Lib.hid (HNa.out.trans n4)
        clear n4 R0a R1a RXa HNa
        go_wp2_with (refine wpList_store_row rfl 30 (.tmp 4) (.tmp 38) rfl w.heap.size (hcel S) rfl rfl 30 (hcel H) R0b iS.out oS.out (hcel_one _) ?_)
        refine (HHF.out _).mono ?_
        rintro e w5 ⟨rfl, rfl⟩
        have R0c := R0b.setRow (hcel S)
        have R1c := R1b.setRow_other (k := w.heap.size) (hcel S) (by omega)
        have HNc := Lib.hid (HNb.out.setRow (hcel S) (Nat.le_refl w.heap.size))
        go_wp2_with fail
        go_roundw
        case rel => exact ⟨k + 1, nn / 2, halfN mm, S, by go_num, rfl, rfl, by have := hlt.out; omega, Lib.hid HH2.out.1, Lib.hid HH2.out.2, LS, R0c, R1c, HF2, HNc⟩
        case measure => have := hlt.out; simp [intOf]; omega
      · have t1 : ((q : Int) == (nn : Int)) = false := by simp; omega
        have t2 : ((nn : Int) % 2 == 0) = true := by simp; omega
        rw [HSA.out, HSB.out, if_neg (by omega), if_neg (by omega), if_pos h2] at HJ
        clear h1 h2 h3
        clear HSA HSB
        go_wp2_with (first | (refine wpList_load_row rfl 30 (.tmp 11) rfl gx rfl 30 (hcel x) (0, 0) _ RXa Tryd.underlying30 rfl iX.out ?_) | (refine wpList_load_row rfl 30 (.tmp 4) rfl w.heap.size rfl 30 (hcel H) (0, 0) _ R0a Tryd.underlying30 rfl iH.out ?_))
        refine (HJ.out _ HNa.out).mono ?_
        rintro e w4 ⟨rfl, n4⟩
        have R0b := R0a.nx n4
        have R1b := R1a.nx n4
        have HNb := Lib.hid (HNa.out.trans n4)
        clear n4 R0a R1a RXa HNa
        go_wp2_with (refine wpList_store_row rfl 30 (.tmp 4) (.tmp 54) rfl w.heap.size (hcel S) rfl rfl 30 (hcel H) R0b iS.out oS.out (hcel_one _) ?_)
        refine (HHF.out _).mono ?_
        rintro e w5 ⟨rfl, rfl⟩
        have R0c := R0b.setRow (hcel S)
        have R1c := R1b.setRow_other (k := w.heap.size) (hcel S) (by omega)
        have HNc := Lib.hid (HNb.out.setRow (hcel S) (Nat.le_refl w.heap.size))
        go_wp2_with fail
        go_roundw
        case rel => exact ⟨k + 1, nn / 2, halfN mm, S, by go_num, rfl, rfl, by have := hlt.out; omega, Lib.hid HH2.out.1, Lib.hid HH2.out.2, LS, R0c, R1c, HF2, HNc⟩
        case measure => have := hlt.out; simp [intOf]; omega
      · have t1 : ((q : Int) == (nn : Int)) = true := by simp; omega
        rw [HSA.out, HSB.out, if_neg (by omega), if_neg (by omega), if_neg h2] at HJ
        clear h1 h2 h3
        clear HSA HSB
        go_wp2_with (first | (refine wpList_load_row rfl 30 (.tmp 4) rfl w.heap.size rfl 30 (hcel H) (0, 0) _ R0a Tryd.underlying30 rfl iH.out ?_))
        refine (HJ.out _ HNa.out).mono ?_
        rintro e w4 ⟨rfl, n4⟩
        have R0b := R0a.nx n4
        have R1b := R1a.nx n4
        have HNb := Lib.hid (HNa.out.trans n4)
        clear n4 R0a R1a RXa HNa
        go_wp2_with (refine wpList_store_row rfl 30 (.tmp 4) (.tmp 47) rfl w.heap.size (hcel S) rfl rfl 30 (hcel H) R0b iS.out oS.out (hcel_one _) ?_)
        refine (HHF.out _).mono ?_
        rintro e w5 ⟨rfl, rfl⟩
        have R0c := R0b.setRow (hcel S)
        have R1c := R1b.setRow_other (k := w.heap.size) (hcel S) (by omega)
        have HNc := Lib.hid (HNb.out.setRow (hcel S) (Nat.le_refl w.heap.size))
        go_wp2_with fail
        go_roundw
        case rel => exact ⟨k + 1, nn / 2, halfN mm, S, by go_num, rfl, rfl, by have := hlt.out; omega, Lib.hid HH2.out.1, Lib.hid HH2.out.2, LS, R0c, R1c, HF2, HNc⟩
        case measure => have := hlt.out; simp [intOf]; omega
    · obtain rfl : k = wn := by omega
      rw [List.drop_of_length_le (by rw [hwn.out]; exact Nat.le_refl _)] at HF
      have he : H = F := HF.out
      subst he
      go_wp2_with (first | (refine wpList_load_row rfl 30 (.tmp 4) rfl w.heap.size rfl 30 (hcel H) (0, 0) _ R0 Tryd.underlying30 rfl iF.out ?_) | (refine wpList_store_row rfl 30 (.tmp 8) (.tmp 60) rfl (w.heap.size + 1) (hcel H) rfl rfl 30 (hcel ZZ) R1 iF.out oF.out (hcel_one _) ?_))
      exact bodyPost_ret (results_cell_two Tryd.results35 _ _ (w.heap.size + 1) 30 (hcel H) (0, 0) _ rfl (R1.setRow _) Tryd.underlying30 rfl iF.out) rfl ⟨rfl, HN.out.setRow _ (Nat.le_succ _)⟩
end Go.Proofs.YtjbeemoobmagnaaDoor
