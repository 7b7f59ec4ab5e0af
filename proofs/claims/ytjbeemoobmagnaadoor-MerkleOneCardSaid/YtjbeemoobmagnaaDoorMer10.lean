/- LAYER 9, the document's: Leads. -/
import Derived.Test.YtjbeemoobmagnaaDoorMer9
namespace Go.Proofs.YtjbeemoobmagnaaDoor
open Go Go.RowKit
set_option linter.unusedVariables false
set_option linter.unusedSimpArgs false
set_option linter.unusedVariables false
set_option linter.unusedSimpArgs false

theorem below_le (m : Nat) : belowF m ≤ m := by
  induction m using Nat.strongRecOn with
  | _ m ih =>
    by_cases h1 : m ≤ 1
    · rw [belowF_le h1]; omega
    · rw [belowF_gt h1]
      have := ih (halfN m) (by unfold halfN; omega)
      unfold halfN at *
      omega
theorem hasSet {w : World} {g k : Nat} (h : Has w g) (cs : Array Value) (hk : g ≠ k) : Has (w.setRow k cs) g := Row.setRow_other h cs hk

set_option maxRecDepth 100000 in
set_option maxHeartbeats 8000000 in
theorem rleads_form (h : List UInt8) (n many : Nat) (v : Value) (way : Hs) (w : World) (hh : h.length = 32) (hr : RdE elH w v way) (hn : way.length ≠ belowF many) (hlt : n < many) (hm : many ≤ 1048576) :
    Calls Tryd.prog 36 #[.agg (hcel h), .int .i64 (n : Int), .int .i64 (many : Int), v] w fun e w' => e = .returned (.tuple #[.agg (hcel hZ), .int .i64 5]) ∧ Nx w w' := by
  obtain ⟨hz, hzs⟩ := zero_of_info info_hash'
  change ∀ w, (zeroValue 30).run Tryd.prog w = .ok (.agg (hcel hZ)) w at hz
  have LZ := Lib.hid hZ_length
  have hn0 : ¬ (n : Int) < 0 := by omega
  have hn1 : ¬ (many : Int) ≤ (n : Int) := by omega
  have hn2 : ¬ (1048576 : Int) < (many : Int) := by omega
  obtain ⟨A, c, rfl, hc1, hc2, h32, hcell⟩ := hr.h_parts
  obtain ⟨BF, hBF⟩ : ∃ BF, belowF many = BF := ⟨_, rfl⟩
  have HBF := Lib.hid (show belowF many + 0 = BF from hBF)
  have hmi : (many : Int) ≤ 1048576 := by omega
  rw [hBF] at hn
  have HBLE : Hid (BF ≤ 1048576) := Lib.hid (by rw [← hBF]; have := below_le many; omega)
  clear hBF
  generalize hZ = ZZ at *
  have iZ := Lib.hid (hashsz ZZ LZ.out)
  have R1 := Row.new2 w (.cells (hcel h) 30) (hcel ZZ) 30
  have N0 := Lib.hid (((Nx.refl w).alloc (.cells (hcel h) 30)).alloc (.cells (hcel ZZ) 30))
  replace hn := Lib.hid hn
  clear hcell h32 hc1 hc2 hr hlt hm
  generalize way.length = wn at *
  go_enter Tryd.func36, Tryd.ntmps36
  go_wp2_with fail
  go_loop [10, 11] (fun bv mv => ∃ m r : Nat, mv = .int .i64 (m : Int) ∧ bv = .int .i64 (r : Int) ∧ Hid (m ≤ many) ∧ Hid (r + m ≤ many) ∧ Hid (belowF m + r = BF)) (fun _ mv => (intOf mv).toNat)
  case atStart => exact ⟨many, 0, rfl, rfl, Lib.hid (Nat.le_refl _), Lib.hid (by omega), HBF⟩
  case round =>
    obtain ⟨m, r, rfl, rfl, hm, hrm, HF0⟩ := hrel
    have hr1 : (r : Int) ≤ 1048576 := by have := hrm.out; omega
    have hm1 : (m : Int) ≤ 1048576 := by have := hm.out; omega
    by_cases h1 : m ≤ 1
    · have h2 : ¬ (1 : Int) < (m : Int) := by omega
      have he : r = BF := by rw [← HF0.out, belowF_le h1]; omega
      clear HF0 h1
      subst he
      have hne : ((r : Int) != (wn : Int)) = true := by have := hn.out; simp; omega
      go_wp2_with (refine wpList_store_row rfl 30 (.tmp 8) (.tmp 40) rfl (w.heap.size + 1) (hcel ZZ) rfl rfl 30 (hcel ZZ) R1 iZ.out rfl (hcel_one _) ?_)
      exact bodyPost_ret (results_cell_two Tryd.results36 _ _ (w.heap.size + 1) 30 (hcel ZZ) (0, 0) _ rfl (R1.setRow _) Tryd.underlying30 rfl iZ.out) rfl ⟨rfl, N0.out.setRow _ (Nat.le_succ _)⟩
    · have h2 : (1 : Int) < (m : Int) := by omega
      have hx : Hid (belowF (halfN m) + (r + 1) = BF) := Lib.hid (by rw [← HF0.out, belowF_gt h1]; omega)
      have hy : Hid (halfN m < m ∧ r + 1 + halfN m ≤ many) := Lib.hid (by have := hrm.out; unfold halfN; omega)
      clear HF0 h1
      go_wp2_with fail
      go_round
      case rel => exact ⟨halfN m, r + 1, rfl, by go_num, Lib.hid (by have := hy.out; have := hm.out; omega), Lib.hid hy.out.2, hx⟩
      case measure => have := hy.out; show _ < _; simp [intOf]; unfold halfN at this; omega

set_option maxRecDepth 100000 in
set_option maxHeartbeats 8000000 in
theorem rleads_yes (h : List UInt8) (n many : Nat) (v : Value) (way : Hs) (w : World) (hh : h.length = 32) (hr : RdE elH w v way) (hn : way.length = belowF many) (hlt : n < many) (hm : many ≤ 1048576) :
    Calls Tryd.prog 36 #[.agg (hcel h), .int .i64 (n : Int), .int .i64 (many : Int), v] w fun e w' => e = .returned (.tuple #[.agg (hcel (leadsF h n many way)), .int .i64 0]) ∧ Nx w w' := by
  obtain ⟨hz, hzs⟩ := zero_of_info info_hash'
  change ∀ w, (zeroValue 30).run Tryd.prog w = .ok (.agg (hcel hZ)) w at hz
  have LZ := Lib.hid hZ_length
  have LF := Lib.hid (leadsF_length way h n many hh)
  obtain ⟨F, hF⟩ : ∃ F, leadsF h n many way = F := ⟨_, rfl⟩
  rw [hF] at LF ⊢
  replace hF := Lib.hid hF
  have hn0 : ¬ (n : Int) < 0 := by omega
  have hn1 : ¬ (many : Int) ≤ (n : Int) := by omega
  have hn2 : ¬ (1048576 : Int) < (many : Int) := by omega
  obtain ⟨A, c, rfl, hc1, hc2, h32, hcell⟩ := hr.h_parts
  obtain ⟨BF, hBF⟩ : ∃ BF, belowF many = BF := ⟨_, rfl⟩
  have HBF := Lib.hid (show belowF many + 0 = BF from hBF)
  have hmi : (many : Int) ≤ 1048576 := by omega
  rw [hBF] at hn
  have HBLE : Hid (BF ≤ 1048576) := Lib.hid (by rw [← hBF]; have := below_le many; omega)
  clear hBF
  generalize hZ = ZZ at *
  have iF := Lib.hid (hashsz F LF.out)
  have oF := Lib.hid (hashsame ZZ F LZ.out LF.out)
  have HH := Lib.hid hh
  have HLT := Lib.hid hlt
  have HM := Lib.hid hm
  have H32' := Lib.hid h32
  have HC : Hid (∀ k (hk : k < way.length) , ∃ b o, A = some ⟨b, o, none⟩ ∧ b < w.heap.size ∧ ∀ i u, (hcel (way.getD k []))[i]? = some u → w.cell? ⟨b, o + k * 32 + i, none⟩ = some u) := Lib.hid fun k hk => by
    obtain ⟨b, o, rfl, hb, hc⟩ := hcell (by omega)
    exact ⟨b, o, rfl, hb, fun i u hu => getD_cells hc k hk i u hu⟩
  replace hn := Lib.hid hn
  clear hcell h32 hc1 hc2 hr hlt hm hh
  generalize hwn : way.length = wn at *
  replace hwn := Lib.hid hwn
  have R0 := (Row.new w (hcel h) 30 _ rfl).alloc (.cells (hcel ZZ) 30)
  have R1 := Row.new2 w (.cells (hcel h) 30) (hcel ZZ) 30
  have N0 := Lib.hid (((Nx.refl w).alloc (.cells (hcel h) 30)).alloc (.cells (hcel ZZ) 30))
  go_enter Tryd.func36, Tryd.ntmps36
  go_wp2_with fail
  go_loop [10, 11] (fun bv mv => ∃ m r : Nat, mv = .int .i64 (m : Int) ∧ bv = .int .i64 (r : Int) ∧ Hid (m ≤ many) ∧ Hid (r + m ≤ many) ∧ Hid (belowF m + r = BF)) (fun _ mv => (intOf mv).toNat)
  case atStart => exact ⟨many, 0, rfl, rfl, Lib.hid (Nat.le_refl _), Lib.hid (by omega), HBF⟩
  case round =>
    obtain ⟨m, r, rfl, rfl, hm, hrm, HF0⟩ := hrel
    have hr1 : (r : Int) ≤ 1048576 := by have := hrm.out; omega
    have hm1 : (m : Int) ≤ 1048576 := by have := hm.out; omega
    by_cases h1 : m ≤ 1
    · have h2 : ¬ (1 : Int) < (m : Int) := by omega
      have he : r = BF := by rw [← HF0.out, belowF_le h1]; omega
      clear HF0 h1
      subst he
      have hwr : wn = r := hn.out
      subst hwr
      have hne : ((wn : Int) != (wn : Int)) = false := by simp
      clear hm hrm HBF
      go_wp2_with fail
      refine (new_any _).mono ?_
      rintro e w1 ⟨gh, rfl, hgh, G1, n1⟩
      have R0w := R0.nx n1
      have R1w := R1.nx n1
      have NW1 := Lib.hid (N0.out.trans n1)
      have HG1 := Lib.hid G1
      have HGE : Hid (gh ≠ w.heap.size) := Lib.hid (by simp at hgh; omega)
      clear G1 n1 hgh R0 R1 N0 hn0 hn1 hn2
      have hwi : (wn : Int) ≤ 1048576 := hr1
      go_wp2_with fail
      clear hmi h2 hm1
      go_loopw [1, 2, 13] (fun a m i wr => ∃ (k nn mm : Nat) (H : List UInt8), i = .int .i64 (k : Int) ∧ a = .int .i64 (nn : Int) ∧ m = .int .i64 (mm : Int) ∧ Hid (k ≤ wn) ∧ Hid (nn < mm) ∧ Hid (mm ≤ 1048576) ∧ Hid (H.length = 32) ∧ Row wr w.heap.size (hcel H) 30 ∧ Row wr (w.heap.size + 1) (hcel ZZ) 30 ∧ Hid (leadsF H nn mm (way.drop k) = F) ∧ Hid (Has wr gh) ∧ Hid (Nx w wr)) (fun _ _ i _ => wn - (intOf i).toNat)
      case atStart => exact ⟨0, n, many, h, rfl, rfl, rfl, Lib.hid (Nat.zero_le _), HLT, HM, HH, R0w, R1w, by rw [List.drop_zero]; exact hF, HG1, NW1⟩
      case round =>
        clear R0w R1w NW1 hF HH HLT HM HG1
        obtain ⟨k, nn, mm, H, rfl, rfl, rfl, hk, HLT, HM, LH, R0, R1, HF, HG, HN⟩ := hrel
        have iH := Lib.hid (hashsz H LH.out)
        have oH := Lib.hid (hashsame ZZ H LZ.out LH.out)
        have hmm : (mm : Int) ≤ 1048576 := by have := HM.out; omega
        have hnn1 : (nn : Int) < (mm : Int) := by have := HLT.out; omega
        by_cases hlt : k < wn
        · have hlti : (k : Int) < (wn : Int) := by omega
          obtain ⟨b, o, rfl, hb, hcx⟩ := HC.out k hlt
          have C1 : Hid (∀ wr', Nx w wr' → ∀ i u, (hcel (way.getD k []))[i]? = some u → wr'.cell? ⟨b, o + k * 32 + i, none⟩ = some u) := Lib.hid fun wr' hx i u hu => (hx.cell (p := ⟨b, o + k * 32 + i, none⟩) hb).trans (hcx i u hu)
          have LX : Hid ((way.getD k []).length = 32) := Lib.hid (H32'.out.getD (by rw [hwn.out]; exact hlt))
          have HDR : Hid (way.drop k = way.getD k [] :: way.drop (k + 1)) := Lib.hid (by rw [List.drop_eq_getElem_cons (show k < way.length by rw [hwn.out]; exact hlt), List.getD_eq_getElem?_getD, List.getElem?_eq_getElem (show k < way.length by rw [hwn.out]; exact hlt)]; rfl)
          rw [HDR.out] at HF
          clear HDR hcx
          generalize way.getD k [] = x0 at *
          have iX := Lib.hid (hashsz x0 LX.out)
          have oX := Lib.hid (hashsame ZZ x0 LZ.out LX.out)
          have oHX := Lib.hid (hashsame H x0 LH.out LX.out)
          have oXH := Lib.hid (hashsame x0 H LX.out LH.out)
          have HF2 := Lib.hid ((leadsF_next H x0 nn mm (way.drop (k + 1))).symm.trans HF.out)
          have LS := Lib.hid (stepH_length H x0 nn mm)
          have iS := Lib.hid (hashsz _ LS.out)
          have oS := Lib.hid (hashsame H _ LH.out LS.out)
          have HSA : Hid (stepA H x0 nn mm = if nn % 2 = 1 then x0 else H) := Lib.hid rfl
          have HSB : Hid (stepB H x0 nn mm = if nn % 2 = 1 then H else if nn + 1 < mm then x0 else H) := Lib.hid rfl
          have LSA : Hid ((stepA H x0 nn mm).length = 32) := Lib.hid (by unfold stepA; split <;> first | exact LX.out | exact LH.out)
          have LSB : Hid ((stepB H x0 nn mm).length = 32) := Lib.hid (by unfold stepB; split <;> (try split) <;> first | exact LX.out | exact LH.out)
          have HIS : Hid (shaL (shaL (stepA H x0 nn mm ++ stepB H x0 nn mm)) = stepH H x0 nn mm) := Lib.hid (stepH_is H x0 nn mm).symm
          generalize stepH H x0 nn mm = S at *
          generalize stepA H x0 nn mm = SA at *
          generalize stepB H x0 nn mm = SB at *
          have iSA := Lib.hid (hashsz SA LSA.out)
          have iSB := Lib.hid (hashsz SB LSB.out)
          have HH2 : Hid (nn / 2 < halfN mm ∧ halfN mm ≤ 1048576) := Lib.hid (by have := HM.out; have := HLT.out; unfold halfN; omega)
          have NW := HN
          replace hlt := Lib.hid hlt
          go_wp2_with fail
          refine wp_region_bk 9 [[], [], [], [1, 2], [3], [], [], [5, 0, 0, 5, 6], [6, 4, 7, 0, 1, 2, 3, 4, 5, 6, 7]] [some 48, some 49, some 50, some 51, some 52, some 14, some 15, none, none]
            [.agg (hcel H), .slice (some ⟨b, o, none⟩) wn c, .int .i64 (k : Int), .pointer (some ⟨b, o + k * 32, none⟩), .agg (hcel x0), undef, undef, undef, undef]
            [⟨5, 7, hcel ZZ, hcel H, 30⟩, ⟨6, 8, hcel ZZ, hcel x0, 30⟩] [] [5, 6, 7, 8] [(5, 7), (6, 8)] rfl rfl
            (by kernel_rfl) (by kernel_rfl) (hord_of (by decide)) (by kernel_rfl) rfl (by decide) (by decide) (by decide) (by decide) (fun _ h => by cases h) (by decide) ?_ ?_ ?_ ?_ ?_
          · intro x tm wr htm hx i hi hs hd ho K hK
            simp only [fillA, List.setIfInBounds_toArray, List.set_cons_zero, List.set_cons_succ] at htm
            subst htm
            have hcs : i = 0 ∨ i = 1 ∨ i = 2 ∨ i = 3 ∨ i = 4 ∨ i = 5 ∨ i = 6 ∨ i = 7 ∨ i = 8 := by omega
            clear hi
            rcases hcs with rfl | rfl | rfl | rfl | rfl | rfl | rfl | rfl | rfl
            · exact wpOp_of rfl rfl (wp_load_row_of (some 48) rfl 30 (.tmp 4) rfl (w.heap.size) rfl 30 (hcel H) _ (R0.kp hx (fun h => by cases h)) Tryd.underlying30 rfl iH.out (hK _ (Nx.refl _)))
            · exact wpOp_of rfl rfl (wp_val_of (some 49) rfl (.slice (some ⟨b, o, none⟩) wn c) (by kernel_rfl) (hK _ (Nx.refl _)))
            · exact wpOp_of rfl rfl (wp_val_of (some 50) rfl (.int .i64 (k : Int)) (by kernel_rfl) (hK _ (Nx.refl _)))
            · have e1 : x 1 = .slice (some ⟨b, o, none⟩) wn c := hd 1 (by decide) (by decide)
              generalize x 1 = y1 at e1 hK ⊢
              subst e1
              have e2 : x 2 = .int .i64 (k : Int) := hd 2 (by decide) (by decide)
              generalize x 2 = y2 at e2 hK ⊢
              subst e2
              exact wpOp_of rfl rfl (wp_ix_of (some 51) rfl 46 30 (.tmp 49) (.tmp 50) rfl Tryd.underlying46 32 Tryd.sizeOf30 b o wn c k (k : Int) rfl rfl rfl hlt.out (hK _ (Nx.refl _)))
            · have e3 : x 3 = .pointer (some ⟨b, o + k * 32, none⟩) := hd 3 (by decide) (by decide)
              generalize x 3 = y3 at e3 hK ⊢
              subst e3
              exact wpOp_of rfl rfl (wp_load_at (some 52) rfl 30 (.tmp 51) rfl b (o + k * 32) rfl (hcel x0) _ (C1.out wr (NW.out.trans (Kp.free hx))) Tryd.underlying30 rfl iX.out (hK _ (Nx.refl _)))
            · exact absurd (by decide) hs
            · exact absurd (by decide) hs
            · exact absurd (by decide) hs
            · exact absurd (by decide) hs
          · intro e he
            simp only [List.mem_cons, List.not_mem_nil, or_false] at he
            rcases he with rfl | rfl
            · intro tm wr K hK
              exact wpOp_of rfl rfl (wp_alloc_of (some 14) rfl 30 rfl (hcel ZZ) hz hK)
            · intro tm wr K hK
              exact wpOp_of rfl rfl (wp_alloc_of (some 15) rfl 30 rfl (hcel ZZ) hz hK)
          · intro e he
            simp only [List.mem_cons, List.not_mem_nil, or_false] at he
            rcases he with rfl | rfl
            · intro x tm wr g htm hd hp hr K hK
              dsimp only at hd
              simp only [fillA, List.setIfInBounds_toArray, List.set_cons_zero, List.set_cons_succ] at htm
              subst htm
              replace hp : x 5 = .pointer (some ⟨g, 0, none⟩) := hp
              generalize x 5 = y5 at hp hK ⊢
              subst hp
              have e0 : x 0 = .agg (hcel H) := hd 0 (by decide) (by decide)
              generalize x 0 = y0 at e0 hK ⊢
              subst e0
              exact wpOp_of rfl rfl (wp_store_row 30 (.tmp 14) (.tmp 48) rfl g (hcel H) rfl rfl 30 (hcel ZZ) hr iH.out oH.out (hcel_one _) hK)
            · intro x tm wr g htm hd hp hr K hK
              dsimp only at hd
              simp only [fillA, List.setIfInBounds_toArray, List.set_cons_zero, List.set_cons_succ] at htm
              subst htm
              replace hp : x 6 = .pointer (some ⟨g, 0, none⟩) := hp
              generalize x 6 = y6 at hp hK ⊢
              subst hp
              have e4 : x 4 = .agg (hcel x0) := hd 4 (by decide) (by decide)
              generalize x 4 = y4 at e4 hK ⊢
              subst e4
              have e0 : x 0 = .agg (hcel H) := hd 0 (by decide) (by decide)
              generalize x 0 = y0 at e0 hK ⊢
              subst e0
              have e1 : x 1 = .slice (some ⟨b, o, none⟩) wn c := hd 1 (by decide) (by decide)
              generalize x 1 = y1 at e1 hK ⊢
              subst e1
              have e2 : x 2 = .int .i64 (k : Int) := hd 2 (by decide) (by decide)
              generalize x 2 = y2 at e2 hK ⊢
              subst e2
              have e3 : x 3 = .pointer (some ⟨b, o + k * 32, none⟩) := hd 3 (by decide) (by decide)
              generalize x 3 = y3 at e3 hK ⊢
              subst e3
              exact wpOp_of rfl rfl (wp_store_row 30 (.tmp 15) (.tmp 52) rfl g (hcel x0) rfl rfl 30 (hcel ZZ) hr iX.out oX.out (hcel_one _) hK)
          · intro e he
            cases he
          · intro x tm wr htm hx hv hn hdis ho
            simp only [fillA, List.setIfInBounds_toArray, List.set_cons_zero, List.set_cons_succ] at htm
            subst htm
            obtain ⟨gn0, p0, q0, r0⟩ := hn ⟨5, 7, hcel ZZ, hcel H, 30⟩ (.head _)
            obtain ⟨gn1, p1, q1, r1⟩ := hn ⟨6, 8, hcel ZZ, hcel x0, 30⟩ (.tail _ (.head _))
            have hne01 : gn0 ≠ gn1 := fun h => hdis ⟨5, 7, hcel ZZ, hcel H, 30⟩ (.head _) ⟨6, 8, hcel ZZ, hcel x0, 30⟩ (.tail _ (.head _)) (show ((5 : Nat) ≠ 6) by decide) (p0.trans (by rw [h]; exact p1.symm))
            replace p0 : x 5 = .pointer (some ⟨gn0, 0, none⟩) := p0
            rw [p0]
            replace p1 : x 6 = .pointer (some ⟨gn1, 0, none⟩) := p1
            rw [p1]
            have Ra := R0.nx (Kp.free hx)
            have Ra1 := R1.nx (Kp.free hx)
            have NWa := Lib.hid (HN.out.trans (Kp.free hx))
            have HGa := Lib.hid (HG.out.nx (Kp.free hx))
            have hq0 : Hid (w.heap.size < gn0 ∧ w.heap.size + 1 < gn0) := Lib.hid (by have := R1.lt; have := q0; omega)
            have hq1 : Hid (w.heap.size < gn1 ∧ w.heap.size + 1 < gn1) := Lib.hid (by have := R1.lt; have := q1; omega)
            have hg0 : Hid (gh ≠ gn0 ∧ gh ≠ gn1) := Lib.hid (by have := Row.lt HG.out; constructor <;> omega)
            replace hne01 := Lib.hid hne01
            clear hx hv hn hdis ho p0 p1 q0 q1 R0 R1 NW HN HG
            have NW := NWa
            go_upto_if 55 with (fail)
            go_cut [] (fun wx => Row wx gn0 (hcel SA) 30 ∧ Row wx gn1 (hcel SB) 30 ∧ Row wx w.heap.size (hcel H) 30 ∧ Row wx (w.heap.size + 1) (hcel ZZ) 30 ∧ Hid (Has wx gh) ∧ Hid (Nx w wx))
            case first =>
              rcases Nat.mod_two_eq_zero_or_one nn with hpar | hpar
              · have t2 : (nn : Int) % 2 = 0 := by omega
                have t3 : (nn : Int).tmod 2 = 0 := by rw [Int.tmod_eq_emod_of_nonneg (by omega)]; exact t2
                have eA : H = SA := by rw [HSA.out, if_neg (by omega)]
                by_cases h2 : nn + 1 < mm
                · have h2i : ¬ (mm : Int) ≤ (nn : Int) + 1 := by omega
                  have eB : x0 = SB := by rw [HSB.out, if_neg (by omega), if_pos h2]
                  subst eA eB
                  clear h2 hpar
                  go_wp2_with fail
                  go_meet
                  exact ⟨r0, r1, Ra, Ra1, HGa, NW⟩
                · have h2i : (mm : Int) ≤ (nn : Int) + 1 := by omega
                  have eB : H = SB := by rw [HSB.out, if_neg (by omega), if_neg h2]
                  have Rz := r1.setRow (hcel H)
                  have Ry := r0.setRow_other (k := gn1) (hcel H) hne01.out
                  have Rx := Ra.setRow_other (k := gn1) (hcel H) (by have := hq1.out; omega)
                  have Rw := Ra1.setRow_other (k := gn1) (hcel H) (by have := hq1.out; omega)
                  have HGz := Lib.hid (hasSet HGa.out (hcel H) hg0.out.2)
                  have NWz := Lib.hid (NW.out.setRow (hcel H) (show w.heap.size ≤ gn1 by have := hq1.out; omega))
                  replace eA := Lib.hid eA
                  replace eB := Lib.hid eB
                  clear h2 hpar
                  go_wp2_with (first | (refine wpList_load_row rfl 30 (.tmp 4) rfl w.heap.size rfl 30 (hcel H) (0, 0) _ Ra Tryd.underlying30 rfl iH.out ?_) | (refine wpList_store_row rfl 30 (.tmp 15) (.tmp 65) rfl gn1 (hcel H) rfl rfl 30 (hcel x0) r1 iH.out oXH.out (hcel_one _) ?_))
                  go_meet
                  exact ⟨by rw [← eA.out]; exact Ry, by rw [← eB.out]; exact Rz, Rx, Rw, HGz, NWz⟩
              · have t2 : (nn : Int) % 2 = 1 := by omega
                have t3 : (nn : Int).tmod 2 = 1 := by rw [Int.tmod_eq_emod_of_nonneg (by omega)]; exact t2
                have eA : x0 = SA := by rw [HSA.out, if_pos hpar]
                have eB : H = SB := by rw [HSB.out, if_pos hpar]
                replace eA := Lib.hid eA
                replace eB := Lib.hid eB
                clear hpar
                go_wp2_with fail
                refine wp_region_bk 7 [[], [], [0, 1], [2], [], [3, 0, 1, 2, 3], [4, 5, 0, 1, 2, 3, 4, 5]] [some 56, some 57, some 58, some 59, some 60, none, none]
                  [.slice (some ⟨b, o, none⟩) wn c, .int .i64 (k : Int), .pointer (some ⟨b, o + k * 32, none⟩), .agg (hcel x0), .agg (hcel H), undef, undef]
                  [] [⟨5, gn0, hcel H, hcel x0, 30⟩, ⟨6, gn1, hcel x0, hcel H, 30⟩] [5, 6] [] rfl rfl
                  (by kernel_rfl) (by kernel_rfl) (hord_of (by decide)) (by kernel_rfl) rfl (by decide) (by decide) (by decide) (by decide) (by intro e he; simp only [List.mem_cons, List.not_mem_nil, or_false] at he; rcases he with rfl | rfl; exact r0; exact r1) (by simp only [List.map_cons, List.map_nil, List.nodup_cons, List.mem_cons, List.not_mem_nil, or_false, not_false_eq_true, List.nodup_nil, and_true]; exact hne01.out) ?_ ?_ ?_ ?_ ?_
                · intro x tm wr htm hx i hi hs hd ho K hK
                  simp only [fillA, List.setIfInBounds_toArray, List.set_cons_zero, List.set_cons_succ] at htm
                  subst htm
                  have hcs : i = 0 ∨ i = 1 ∨ i = 2 ∨ i = 3 ∨ i = 4 ∨ i = 5 ∨ i = 6 := by omega
                  clear hi
                  rcases hcs with rfl | rfl | rfl | rfl | rfl | rfl | rfl
                  · exact wpOp_of rfl rfl (wp_val_of (some 56) rfl (.slice (some ⟨b, o, none⟩) wn c) (by kernel_rfl) (hK _ (Nx.refl _)))
                  · exact wpOp_of rfl rfl (wp_val_of (some 57) rfl (.int .i64 (k : Int)) (by kernel_rfl) (hK _ (Nx.refl _)))
                  · have e0 : x 0 = .slice (some ⟨b, o, none⟩) wn c := hd 0 (by decide) (by decide)
                    generalize x 0 = y0 at e0 hK ⊢
                    subst e0
                    have e1 : x 1 = .int .i64 (k : Int) := hd 1 (by decide) (by decide)
                    generalize x 1 = y1 at e1 hK ⊢
                    subst e1
                    exact wpOp_of rfl rfl (wp_ix_of (some 58) rfl 46 30 (.tmp 56) (.tmp 57) rfl Tryd.underlying46 32 Tryd.sizeOf30 b o wn c k (k : Int) rfl rfl rfl hlt.out (hK _ (Nx.refl _)))
                  · have e2 : x 2 = .pointer (some ⟨b, o + k * 32, none⟩) := hd 2 (by decide) (by decide)
                    generalize x 2 = y2 at e2 hK ⊢
                    subst e2
                    exact wpOp_of rfl rfl (wp_load_at (some 59) rfl 30 (.tmp 58) rfl b (o + k * 32) rfl (hcel x0) _ (C1.out wr (hx.to NW.out (fun g hg => by simp only [List.map_cons, List.map_nil, List.mem_cons, List.not_mem_nil, or_false] at hg; have h1 := hq0.out; have h2 := hq1.out; omega))) Tryd.underlying30 rfl iX.out (hK _ (Nx.refl _)))
                  · exact wpOp_of rfl rfl (wp_load_row_of (some 60) rfl 30 (.tmp 4) rfl (w.heap.size) rfl 30 (hcel H) _ (Ra.kp hx (fun hg => by simp only [List.map_cons, List.map_nil, List.mem_cons, List.not_mem_nil, or_false] at hg; have h1 := hq0.out; have h2 := hq1.out; omega)) Tryd.underlying30 rfl iH.out (hK _ (Nx.refl _)))
                  · exact absurd (by decide) hs
                  · exact absurd (by decide) hs
                · intro e he
                  cases he
                · intro e he
                  cases he
                · intro e he
                  simp only [List.mem_cons, List.not_mem_nil, or_false] at he
                  rcases he with rfl | rfl
                  · intro x tm wr htm hd hr K hK
                    dsimp only at hd
                    simp only [fillA, List.setIfInBounds_toArray, List.set_cons_zero, List.set_cons_succ] at htm
                    subst htm
                    have e3 : x 3 = .agg (hcel x0) := hd 3 (by decide) (by decide)
                    generalize x 3 = y3 at e3 hK ⊢
                    subst e3
                    have e0 : x 0 = .slice (some ⟨b, o, none⟩) wn c := hd 0 (by decide) (by decide)
                    generalize x 0 = y0 at e0 hK ⊢
                    subst e0
                    have e1 : x 1 = .int .i64 (k : Int) := hd 1 (by decide) (by decide)
                    generalize x 1 = y1 at e1 hK ⊢
                    subst e1
                    have e2 : x 2 = .pointer (some ⟨b, o + k * 32, none⟩) := hd 2 (by decide) (by decide)
                    generalize x 2 = y2 at e2 hK ⊢
                    subst e2
                    exact wpOp_of rfl rfl (wp_store_row 30 (.tmp 14) (.tmp 59) rfl (gn0) (hcel x0) rfl rfl 30 (hcel H) hr iX.out oHX.out (hcel_one _) hK)
                  · intro x tm wr htm hd hr K hK
                    dsimp only at hd
                    simp only [fillA, List.setIfInBounds_toArray, List.set_cons_zero, List.set_cons_succ] at htm
                    subst htm
                    have e4 : x 4 = .agg (hcel H) := hd 4 (by decide) (by decide)
                    generalize x 4 = y4 at e4 hK ⊢
                    subst e4
                    have e0 : x 0 = .slice (some ⟨b, o, none⟩) wn c := hd 0 (by decide) (by decide)
                    generalize x 0 = y0 at e0 hK ⊢
                    subst e0
                    have e1 : x 1 = .int .i64 (k : Int) := hd 1 (by decide) (by decide)
                    generalize x 1 = y1 at e1 hK ⊢
                    subst e1
                    have e2 : x 2 = .pointer (some ⟨b, o + k * 32, none⟩) := hd 2 (by decide) (by decide)
                    generalize x 2 = y2 at e2 hK ⊢
                    subst e2
                    have e3 : x 3 = .agg (hcel x0) := hd 3 (by decide) (by decide)
                    generalize x 3 = y3 at e3 hK ⊢
                    subst e3
                    exact wpOp_of rfl rfl (wp_store_row 30 (.tmp 15) (.tmp 60) rfl (gn1) (hcel H) rfl rfl 30 (hcel x0) hr iH.out oXH.out (hcel_one _) hK)
                · intro x tm wr htm hx hv hn hdis ho
                  simp only [fillA, List.setIfInBounds_toArray, List.set_cons_zero, List.set_cons_succ] at htm
                  subst htm
                  have ro0 := ho ⟨5, gn0, hcel H, hcel x0, 30⟩ (.head _)
                  have ro1 := ho ⟨6, gn1, hcel x0, hcel H, 30⟩ (.tail _ (.head _))
                  have hS : ∀ g ∈ List.map (fun e : OB => e.g) [⟨5, gn0, hcel H, hcel x0, 30⟩, ⟨6, gn1, hcel x0, hcel H, 30⟩], w.heap.size ≤ g := fun g hg => by
                    simp only [List.map_cons, List.map_nil, List.mem_cons, List.not_mem_nil, or_false] at hg
                    have h1 := hq0.out
                    have h2 := hq1.out
                    omega
                  have hS2 : ∀ g ∈ List.map (fun e : OB => e.g) [⟨5, gn0, hcel H, hcel x0, 30⟩, ⟨6, gn1, hcel x0, hcel H, 30⟩], g ≠ w.heap.size ∧ g ≠ w.heap.size + 1 ∧ g ≠ gh := fun g hg => by
                    simp only [List.map_cons, List.map_nil, List.mem_cons, List.not_mem_nil, or_false] at hg
                    have h1 := hq0.out
                    have h2 := hq1.out
                    have h3 := hg0.out
                    omega
                  have NW2 := Lib.hid (hx.to NW.out hS)
                  have Ra2 := Ra.kp hx (fun hg => (hS2 _ hg).1 rfl)
                  have Ra3 := Ra1.kp hx (fun hg => (hS2 _ hg).2.1 rfl)
                  have HGz : Hid (Has wr gh) := Lib.hid (Row.kp HGa.out hx (fun hg => (hS2 _ hg).2.2 rfl))
                  clear hx hv hn ho hdis hS hS2
                  go_wp2_with fail
                  go_meet
                  exact ⟨by rw [← eA.out]; exact ro0, by rw [← eB.out]; exact ro1, Ra2, Ra3, HGz, NW2⟩
            case rest =>
              obtain ⟨Rx, Ry, Rb, Rb1, HGc, NWc⟩ := hcut
              clear Ra Ra1 NWa HGa NW r0 r1
              go_wp2_with fail
              refine wp_region_sep wc.heap.size 7 [[], [], [1], [], [3, 2], [2, 4, 4], [0, 5, 5], [6, 6, 0, 1, 2, 3, 4, 5, 6]] [some 66, some 67, some 68, some 69, some 70, some 71, some 72]
                [0, 0, 2, 0, 2, 2, 0] [none, none, some 5, none, none, none, none] [none, none, none, none, none, some 2, none]
                [{ V := .pointer (some ⟨gh, 0, none⟩) }, { V := .agg (hcel SA) }, { l := SA }, { V := .agg (hcel SB) }, { l := SB }, { l := SA ++ SB }, { V := .agg (hcel S) }]
                (Nat.le_refl _) (by kernel_rfl) (by kernel_rfl) (hord_of (by decide)) (by kernel_rfl) (by decide) (by decide) (htail_of (by decide)) (stat4 (needs := [[], [], [1], [], [3, 2], [2, 4, 4], [0, 5, 5], [6, 6, 0, 1, 2, 3, 4, 5, 6]]) (cons := [none, none, some 5, none, none, none, none]) (src := [none, none, none, none, none, some 2, none]) (by decide)) (statS (by decide)) ?_ ?_ ?_ ?_ _ (by rfl) ?_
              · intro j hj h1 v w w' _ _
                have : j = 0 ∨ j = 1 ∨ j = 2 ∨ j = 3 ∨ j = 4 ∨ j = 5 ∨ j = 6 := by omega
                rcases this with rfl | rfl | rfl | rfl | rfl | rfl | rfl <;> exact trivial
              · intro j hj h1
                have : j = 0 ∨ j = 1 ∨ j = 2 ∨ j = 3 ∨ j = 4 ∨ j = 5 ∨ j = 6 := by omega
                rcases this with rfl | rfl | rfl | rfl | rfl | rfl | rfl <;> cases h1
              · intro i j hi _ _ h1
                have : i = 0 ∨ i = 1 ∨ i = 2 ∨ i = 3 ∨ i = 4 ∨ i = 5 ∨ i = 6 := by omega
                rcases this with rfl | rfl | rfl | rfl | rfl | rfl | rfl <;> cases h1
              · intro x tm wr htm hbl hB i hi hd K hK
                simp only [fillA, List.setIfInBounds_toArray, List.set_cons_zero, List.set_cons_succ] at htm
                subst htm
                have hcs : i = 0 ∨ i = 1 ∨ i = 2 ∨ i = 3 ∨ i = 4 ∨ i = 5 ∨ i = 6 := by omega
                clear hi
                rcases hcs with rfl | rfl | rfl | rfl | rfl | rfl | rfl
                · exact wpOp_of rfl rfl (wp_val_of (some 66) rfl (.pointer (some ⟨gh, 0, none⟩)) (by kernel_rfl) (hK _ _ ⟨rfl, Nx.refl _⟩))
                · exact wpOp_of rfl rfl (wp_load_row_of (some 67) rfl 30 (.tmp 14) rfl gn0 rfl 30 (hcel SA) _ (Rx.bl hbl Rx.lt) Tryd.underlying30 rfl iSA.out (hK _ _ ⟨rfl, Nx.refl _⟩))
                · have e1 : x 1 = .agg (hcel SA) := hd 1 (by decide)
                  refine wpOp_of rfl rfl (wp_callp_of (some 68) rfl 50 #[x 1] (by kernel_rfl) (fun v w' => Own wr.heap.size w' v SA) ?_ (fun v w' h1 h2 => hK v w' ⟨h1, h2⟩))
                  rw [e1]
                  exact rlist_any SA wr LSA.out
                · exact wpOp_of rfl rfl (wp_load_row_of (some 69) rfl 30 (.tmp 15) rfl gn1 rfl 30 (hcel SB) _ (Ry.bl hbl Ry.lt) Tryd.underlying30 rfl iSB.out (hK _ _ ⟨rfl, Nx.refl _⟩))
                · have e3 : x 3 = .agg (hcel SB) := hd 3 (by decide)
                  refine wpOp_of rfl rfl (wp_callp_of (some 70) rfl 50 #[x 3] (by kernel_rfl) (fun v w' => Own wr.heap.size w' v SB) ?_ (fun v w' h1 h2 => hK v w' ⟨h1, h2⟩))
                  rw [e3]
                  exact rlist_any SB wr LSB.out
                · have o2 : Own wc.heap.size wr (x 2) SA := hd 2 (by decide) (by decide)
                  have o4 : Own wc.heap.size wr (x 4) SB := hd 4 (by decide) (by decide)
                  exact wpOp_of rfl rfl (wp_app_of (some 71) rfl (.tmp 68) (.tmp 70) 34 rfl Tryd.underlying34 info_u8s wc.heap.size (x 2) (x 4) SA SB rfl rfl o2 o4.rd (by rw [LSA.out, LSB.out]; decide) hB (fun v' w' h1 h2 h3 => hK v' w' ⟨h1, h2, h3⟩))
                · have e0 : x 0 = .pointer (some ⟨gh, 0, none⟩) := hd 0 (by decide)
                  have o5 : Own wc.heap.size wr (x 5) (SA ++ SB) := hd 5 (by decide) (by decide)
                  refine wpOp_of rfl rfl (wp_call_of (some 72) rfl 65 #[x 0, x 5] (by kernel_rfl) (.agg (hcel S)) ?_ (fun w' h => hK _ w' ⟨rfl, h⟩))
                  rw [e0, ← HIS.out]
                  exact rtwice_any gh (x 5) (SA ++ SB) wr (HGc.out.nx hbl) o5.rd (by rw [List.length_append, LSA.out, LSB.out]; decide)
              · intro x tm wr htm hbl hv
                simp only [fillA, List.setIfInBounds_toArray, List.set_cons_zero, List.set_cons_succ] at htm
                subst htm
                have e6 : x 6 = .agg (hcel S) := hv 6 (by decide)
                rw [e6]
                refine wpList_store_row rfl 30 (.tmp 4) (.tmp 72) rfl w.heap.size (hcel S) rfl rfl 30 (hcel H) (Rb.bl hbl Rb.lt) iS.out oS.out (hcel_one _) ?_
                refine wpList_nil ?_
                have RF0 := (Rb.bl hbl Rb.lt).setRow (hcel S)
                have RF1 := (Rb1.bl hbl Rb1.lt).setRow_other (k := w.heap.size) (hcel S) (by omega)
                have NF := Lib.hid ((NWc.out.trans hbl).setRow (hcel S) (Nat.le_refl w.heap.size))
                have HGf := Lib.hid (hasSet (HGc.out.nx hbl) (hcel S) HGE.out)
                clear hv hbl
                have HHX := Lib.hid HH2.out
                go_wp2_with fail
                go_roundw
                case rel => exact ⟨k + 1, nn / 2, halfN mm, S, by go_num, rfl, rfl, Lib.hid (by have := hlt.out; omega), Lib.hid HHX.out.1, Lib.hid HHX.out.2, LS, RF0, RF1, HF2, HGf, NF⟩
                case measure => have := hlt.out; simp [intOf]; omega
        · have hkk : k = wn := by have := hk.out; omega
          have hlti : ¬ (k : Int) < (wn : Int) := by omega
          have he : H = F := by
            have := HF.out
            rw [List.drop_of_length_le (by rw [hwn.out]; omega)] at this
            exact this
          subst he
          clear hkk hlt
          go_wp2_with (first | (refine wpList_load_row rfl 30 (.tmp 4) rfl w.heap.size rfl 30 (hcel H) (0, 0) _ R0 Tryd.underlying30 rfl iF.out ?_) | (refine wpList_store_row rfl 30 (.tmp 8) (.tmp 78) rfl (w.heap.size + 1) (hcel H) rfl rfl 30 (hcel ZZ) R1 iF.out oF.out (hcel_one _) ?_))
          exact bodyPost_ret (results_cell_two Tryd.results36 _ _ (w.heap.size + 1) 30 (hcel H) (0, 0) _ rfl (R1.setRow _) Tryd.underlying30 rfl iF.out) rfl ⟨rfl, HN.out.setRow _ (Nat.le_succ _)⟩
    · have h2 : (1 : Int) < (m : Int) := by omega
      have hx : Hid (belowF (halfN m) + (r + 1) = BF) := Lib.hid (by rw [← HF0.out, belowF_gt h1]; omega)
      have hy : Hid (halfN m < m ∧ r + 1 + halfN m ≤ many) := Lib.hid (by have := hrm.out; unfold halfN; omega)
      clear HF0 h1
      go_wp2_with fail
      go_round
      case rel => exact ⟨halfN m, r + 1, rfl, by go_num, Lib.hid (by have := hy.out; have := hm.out; omega), Lib.hid hy.out.2, hx⟩
      case measure => have := hy.out; show _ < _; simp [intOf]; unfold halfN at this; omega

end Go.Proofs.YtjbeemoobmagnaaDoor
