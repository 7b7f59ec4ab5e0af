/- LAYER 9, the laws': collides. -/
import Derived.Test.YtjbeemoobmagnaaDoorMer13
import Derived.Test.YtjbeemoobmagnaaDoorHead4
import Derived.Test.YtjbeemoobmagnaaDoorGc
namespace Go.Proofs.YtjbeemoobmagnaaDoor
open Go Go.RowKit
set_option linter.unusedVariables false
set_option linter.unusedSimpArgs false
set_option linter.unusedVariables false
set_option linter.unusedSimpArgs false

theorem OwnE.gr {B : Nat} {w w' : World} {v : Value} {es : Hs} {s : Option Nat} (h : OwnE elH B w v es) (x : w.grownBy w' s) (hs : ∀ q, v.ownBlock = some q → s ≠ some q) : OwnE elH B w' v es := by
  obtain ⟨fs, ⟨h0, h2 | ⟨g, c, full, rfl, hb, hg, rest⟩⟩, hv⟩ := h
  · obtain ⟨h32, rfl⟩ := allE_is hv
    exact ⟨hfs es, ⟨h0, .inl h2⟩, allE_hfs h32 _ _⟩
  · obtain ⟨h32, rfl⟩ := allE_is hv
    refine ⟨hfs es, ⟨h0, .inr ⟨g, c, full, rfl, hb, ?_, rest⟩⟩, allE_hfs h32 _ _⟩
    rw [x.block g (Array.getElem?_eq_some_iff.1 hg).1 (fun e => hs g rfl e.symm)]
    exact hg
theorem apartS {c d : Value} (h : ∀ q, c.ownBlock = some q → d.ownBlock ≠ some q) : ∀ q, d.ownBlock = some q → c.ownBlock ≠ some q := fun q h1 h2 => h q h2 h1
theorem apartN {B : Nat} {w : World} {c c' d : Value} {es : Hs} (hd : OwnE elH B w d es) (hcd : ∀ q, c.ownBlock = some q → d.ownBlock ≠ some q) (e : c'.ownBlock = c.ownBlock ∨ c'.ownBlock = some w.heap.size) : ∀ q, c'.ownBlock = some q → d.ownBlock ≠ some q := by
  intro q hq
  rcases e with e | e
  · exact hcd q (e.symm.trans hq)
  · intro h
    have h1 := (hd.blk q h).2
    rw [e] at hq
    have : w.heap.size = q := by simpa using hq
    omega
theorem textP_len {l : Hs} (h : H32 l) {k : Nat} (hk : 2 * k < l.length) : (textP l k).length = 64 := by
  unfold textP
  rw [List.length_append, h.getD hk, h.getD (nbr_lt hk)]
theorem colB_yes {a b : Hs} {k : Nat} (h : ¬ a.length ≤ 1) (hk : k < halfN a.length) (hc : colAt a b k = true) : colB a b = true := by
  rw [colB_gt b h, Bool.or_eq_true]
  left
  unfold colTo
  exact List.any_eq_true.2 ⟨k, List.mem_range.2 hk, hc⟩
theorem abvTo_text (l : Hs) (k : Nat) (hk : k < halfN l.length) : abvTo l (k + 1) = abvTo l k ++ [shaL (shaL (textP l k))] := abvTo_next l k hk

set_option maxRecDepth 100000 in
set_option maxHeartbeats 8000000 in
theorem mcoll_any (v1 v2 : Value) (l1 l2 : Hs) (w : World) (r1 : RdE elH w v1 l1) (r2 : RdE elH w v2 l2) (hl : l1.length = l2.length) (hn : l1.length ≤ 1000) :
    Calls Tryd.prog 39 #[v1, v2] w fun e w' => e = .returned (.bool (colB l1 l2)) ∧ Nx w w' := by
  obtain ⟨hz, hzs⟩ := zero_of_info info_hash'
  change ∀ w, (zeroValue 30).run Tryd.prog w = .ok (.agg (hcel hZ)) w at hz
  have LZ := Lib.hid hZ_length
  obtain ⟨RB0, hRB⟩ : ∃ RB, colB l1 l2 = RB := ⟨_, rfl⟩
  rw [hRB]
  generalize hZ = ZZ at *
  have H1 := Lib.hid r1
  have H2 := Lib.hid r2
  have HL := Lib.hid hl
  have HN0 := Lib.hid hn
  have HB0 := Lib.hid hRB
  obtain ⟨A1, c1, rfl, -⟩ := r1.h_parts
  obtain ⟨A2, c2, rfl, -⟩ := r2.h_parts
  clear r1 r2 hl hn hRB
  go_enter Tryd.func39, Tryd.ntmps39
  go_wp2_with fail
  go_loopw [0, 1] (fun a b wr => ∃ (La Lb : Hs), Hid (RdE elH wr a La) ∧ Hid (RdE elH wr b Lb) ∧ Hid (La.length = Lb.length) ∧ Hid (La.length ≤ 1000) ∧ Hid (colB La Lb = RB0) ∧ Hid (Nx w wr)) (fun a _ _ => lenOf a)
  case atStart => exact ⟨l1, l2, H1, H2, HL, HN0, HB0, Lib.hid (Nx.refl w)⟩
  case round =>
    clear H1 H2 HL HN0 HB0
    obtain ⟨La, Lb, HA, HB, HL, HN, HC0, HX⟩ := hrel
    obtain ⟨AL, cL, rfl, -, -, hA32, -⟩ := HA.out.h_parts
    obtain ⟨BL, dL, rfl, -, -, hB32, -⟩ := HB.out.h_parts
    rw [← HL.out] at HB ⊢
    by_cases h1 : La.length ≤ 1
    · have h1i : ¬ (1 : Int) < (La.length : Int) := by omega
      have e1 : Hid (RB0 = false) := Lib.hid (by rw [← HC0.out, colB_le _ h1])
      clear h1 hA32 hB32 HL
      generalize La.length = n at *
      go_wp2_with fail
      go_ret
      exact ⟨by rw [e1.out]; rfl, HX.out⟩
    · have h1i : (1 : Int) < (La.length : Int) := by omega
      have HTX : Hid (∀ k, 2 * k < La.length → (textP La k).length = 64) := Lib.hid fun k hk => textP_len hA32 hk
      have HTY : Hid (∀ k, 2 * k < La.length → (textP Lb k).length = 64) := Lib.hid fun k hk => textP_len hB32 (by rw [← HL.out]; exact hk)
      have HCY : Hid (∀ k, k < halfN La.length → colAt La Lb k = true → RB0 = true) := Lib.hid fun k hk hc => by rw [← HC0.out]; exact colB_yes h1 hk hc
      have HCN : Hid (colTo La Lb (halfN La.length) = false → colB (abv La) (abv Lb) = RB0) := Lib.hid fun h => by rw [← HC0.out, colB_gt Lb h1, h]; rfl
      have HNA : Hid (∀ k, k < halfN La.length → abvTo La (k + 1) = abvTo La k ++ [shaL (shaL (textP La k))]) := Lib.hid (abvTo_text La)
      have HNB : Hid (∀ k, k < halfN La.length → abvTo Lb (k + 1) = abvTo Lb k ++ [shaL (shaL (textP Lb k))]) := Lib.hid fun k hk => abvTo_text Lb k (by rw [← HL.out]; exact hk)
      have HAL := Lib.hid (abv_length La)
      have HBL : Hid ((abv Lb).length = halfN La.length) := Lib.hid (by rw [abv_length, HL.out])
      have HAT : Hid ((abv La).length < La.length) := Lib.hid (abv_lt h1)
      have HEA : Hid (abvTo La (halfN La.length) = abv La) := Lib.hid (by unfold abvTo; rw [List.take_of_length_le (by rw [abv_length]; exact Nat.le_refl _)])
      have HEB : Hid (abvTo Lb (halfN La.length) = abv Lb) := Lib.hid (by unfold abvTo; rw [List.take_of_length_le (by rw [HBL.out]; exact Nat.le_refl _)])
      have HHL : Hid (halfN La.length < La.length) := Lib.hid (by unfold halfN; omega)
      obtain ⟨wo, hwo⟩ : ∃ x, x = wr := ⟨_, rfl⟩
      subst hwo
      have PA : Hid (∀ k W, 2 * k < La.length → Nx wo W → Calls Tryd.prog 72 #[.slice AL La.length cL, .int .i64 ((2 * k : Nat) : Int)] W fun e w' => ∃ v', e = .returned v' ∧ Own W.heap.size w' v' (textP La k) ∧ Nx W w') := Lib.hid fun k W hk hW => mpair_any _ La k W (HA.out.nx hW) hk HN.out
      have PB : Hid (∀ k W, 2 * k < La.length → Nx wo W → Calls Tryd.prog 72 #[.slice BL La.length dL, .int .i64 ((2 * k : Nat) : Int)] W fun e w' => ∃ v', e = .returned v' ∧ Own W.heap.size w' v' (textP Lb k) ∧ Nx W w') := Lib.hid fun k W hk hW => mpair_any _ Lb k W (HB.out.nx hW) (by rw [← HL.out]; exact hk) (by rw [← HL.out]; exact HN.out)
      clear h1 hA32 hB32 HL HC0 HA HB
      generalize La.length = n at *
      go_wp2_with fail
      go_loopw [5, 6, 7] (fun c d i wq => ∃ (k : Nat), Hid (OwnE elH wo.heap.size wq c (abvTo La k)) ∧ Hid (OwnE elH wo.heap.size wq d (abvTo Lb k)) ∧ Hid (∀ q, c.ownBlock = some q → d.ownBlock ≠ some q) ∧ i = .int .i64 ((2 * k : Nat) : Int) ∧ Hid (k ≤ halfN n) ∧ Hid (colTo La Lb k = false) ∧ Hid (Nx wo wq)) (fun _ _ i _ => n + 1 - (intOf i).toNat)
      case atStart => exact ⟨0, Lib.hid (by unfold abvTo; rw [List.take_zero]; exact OwnE.nil _ _), Lib.hid (by unfold abvTo; rw [List.take_zero]; exact OwnE.nil _ _), Lib.hid (fun q h => by cases h), rfl, Lib.hid (Nat.zero_le _), Lib.hid rfl, Lib.hid (Nx.refl wo)⟩
      case round =>
        obtain ⟨k, HC, HD, HCD, rfl, HK, HT, HNO⟩ := hrel
        by_cases hlt : 2 * k < n
        · have hlti : ((2 * k : Nat) : Int) < (n : Int) := by omega
          have hzi : 0 ≤ ((2 * k : Nat) : Int) ∧ ((2 * k : Nat) : Int) ≤ 1000 := by have := HN.out; omega
          have HM1 : Hid (k < halfN n) := Lib.hid (by unfold halfN; omega)
          have NA := Lib.hid (HNA.out k HM1.out)
          have NB := Lib.hid (HNB.out k HM1.out)
          have LX := Lib.hid (HTX.out k hlt)
          have LY := Lib.hid (HTY.out k hlt)
          have PA1 := Lib.hid (PA.out k · hlt)
          have PB1 := Lib.hid (PB.out k · hlt)
          have YES := Lib.hid (HCY.out k HM1.out)
          have HTN := Lib.hid (colTo_next La Lb k)
          have HCA : Hid (colAt La Lb k = (decide (shaL (shaL (textP La k)) = shaL (shaL (textP Lb k))) && !decide (textP La k = textP Lb k))) := Lib.hid rfl
          have HDA : Hid ((abvTo La k).length ≤ 1000) := Lib.hid (by unfold abvTo; rw [List.length_take, HAL.out]; have := HHL.out; have := HN.out; omega)
          have HDB : Hid ((abvTo Lb k).length ≤ 1000) := Lib.hid (by unfold abvTo; rw [List.length_take, HBL.out]; have := HHL.out; have := HN.out; omega)
          have HKN : Hid (((2 * k : Nat) : Int) + 2 = ((2 * (k + 1) : Nat) : Int)) := Lib.hid (by omega)
          have HMS : Hid (n + 1 - (2 * (k + 1)) < n + 1 - 2 * k) := Lib.hid (by omega)
          have HZN : Hid (((2 * k : Nat) : Int).toNat = 2 * k) := Lib.hid (by omega)
          generalize hzz : ((2 * k : Nat) : Int) = z at *
          clear hzz hlt
          generalize textP La k = X at *
          generalize textP Lb k = Y at *
          have TWX := Lib.hid (fun W v (h : Rd W v X) => rtw_any v X W h (by rw [LX.out]; decide))
          have TWY := Lib.hid (fun W v (h : Rd W v Y) => rtw_any v Y W h (by rw [LY.out]; decide))
          have LU : Hid ((shaL (shaL X)).length = 32) := Lib.hid (shaL_length _)
          have LV : Hid ((shaL (shaL Y)).length = 32) := Lib.hid (shaL_length _)
          generalize hU : shaL (shaL X) = U at *
          generalize hV : shaL (shaL Y) = V at *
          replace hU := Lib.hid hU
          replace hV := Lib.hid hV
          have iU := Lib.hid (hashsz U LU.out)
          have oU := Lib.hid (hashsame ZZ U LZ.out LU.out)
          have iV := Lib.hid (hashsz V LV.out)
          have oV := Lib.hid (hashsame ZZ V LZ.out LV.out)
          have EQ := Lib.hid (fun w => eq_hash2 U V LU.out LV.out w)
          have MU := Lib.hid (fun w => run_mk1h U LU.out w)
          have MV := Lib.hid (fun w => run_mk1h V LV.out w)
          by_cases hXY : X = Y
          · subst hXY
            obtain rfl : U = V := hU.out.symm.trans hV.out
            clear hV MV iV oV LV
            have EQ := Lib.hid (fun w => eq_hash' U LU.out w)
            go_wp2_with fail
            refine (PA1.out _ HNO.out).mono ?_
            rintro e w1 ⟨x1, rfl, ox, n1⟩
            have OX := Lib.hid ox
            have N1 := Lib.hid (HNO.out.trans n1)
            have HC1 := Lib.hid (HC.out.nx n1)
            have HD1 := Lib.hid (HD.out.nx n1)
            clear ox n1 HC HD HNO
            go_wp2_with fail
            refine (PB1.out _ N1.out).mono ?_
            rintro e w2 ⟨y1, rfl, oy, n2⟩
            have RX2 := Lib.hid (OX.out.rd.nx n2)
            have RY2 := Lib.hid oy.rd
            have N2 := Lib.hid (N1.out.trans n2)
            have HC2 := Lib.hid (HC1.out.nx n2)
            have HD2 := Lib.hid (HD1.out.nx n2)
            clear oy n2 HC1 HD1 N1 OX
            go_wp2_with fail
            refine (TWX.out _ _ RX2.out).mono ?_
            rintro e w3 ⟨rfl, n3⟩
            have RX3 := Lib.hid (RX2.out.nx n3)
            have RY3 := Lib.hid (RY2.out.nx n3)
            have N3 := Lib.hid (N2.out.trans n3)
            have HC3 := Lib.hid (HC2.out.nx n3)
            have HD3 := Lib.hid (HD2.out.nx n3)
            clear n3 RX2 RY2 N2 HC2 HD2
            go_wp2_with fail
            refine (TWY.out _ _ RY3.out).mono ?_
            rintro e w4 ⟨rfl, n4⟩
            have RX4 := Lib.hid (RX3.out.nx n4)
            have RY4 := Lib.hid (RY3.out.nx n4)
            have N4 := Lib.hid (N3.out.trans n4)
            have HC4 := Lib.hid (HC3.out.nx n4)
            have HD4 := Lib.hid (HD3.out.nx n4)
            clear n4 RX3 RY3 N3 HC3 HD3
            have S0 := (Row.new w4 (hcel ZZ) 30 _ rfl).nx ((Nx.refl _).alloc (.cells (hcel ZZ) 30))
            have S1 := (Row.new2 w4 (.cells (hcel ZZ) 30) (hcel ZZ) 30).setRow_other (k := w4.heap.size) (hcel U) (by omega)
            have T0 := (S0.setRow (hcel U)).setRow_other (k := w4.heap.size + 1) (hcel U) (by omega)
            have T1 := S1.setRow (hcel U)
            have N45 := Lib.hid (((((Nx.refl w4).alloc (.cells (hcel ZZ) 30)).alloc (.cells (hcel ZZ) 30)).setRow (g := w4.heap.size) (hcel U) (Nat.le_refl _)).setRow (g := w4.heap.size + 1) (hcel U) (Nat.le_succ _))
            have HCB : Hid (∀ q, u5.ownBlock = some q → q < w4.heap.size) := Lib.hid fun q h => (HC4.out.blk q h).2
            go_wp2_with (first | (refine wpList_store_row rfl 30 (.tmp 10) (.tmp 35) rfl w4.heap.size (hcel U) rfl rfl 30 (hcel ZZ) S0 iU.out oU.out (hcel_one _) ?_) | (refine wpList_store_row rfl 30 (.tmp 11) (.tmp 37) rfl (w4.heap.size + 1) (hcel U) rfl rfl 30 (hcel ZZ) S1 iU.out oU.out (hcel_one _) ?_) | (refine wpList_load_row rfl 30 (.tmp 10) rfl w4.heap.size rfl 30 (hcel U) (0, 0) _ T0 Tryd.underlying30 rfl iU.out ?_) | (refine wpList_load_row rfl 30 (.tmp 11) rfl (w4.heap.size + 1) rfl 30 (hcel U) (0, 0) _ T1 Tryd.underlying30 rfl iU.out ?_) | (refine wpList_eql rfl 30 (.tmp 38) (.tmp 39) _ rfl (hcel U) (hcel U) rfl rfl (by kernel_rfl) true (EQ.out _) ?_))
            generalize hW5 : (((w4.alloc (.cells (hcel ZZ) 30)).alloc (.cells (hcel ZZ) 30)).setRow w4.heap.size (hcel U)).setRow (w4.heap.size + 1) (hcel U) = w5 at *
            have N5 := Lib.hid (N4.out.trans N45.out)
            have HC5 := Lib.hid (HC4.out.nx N45.out)
            have HD5 := Lib.hid (HD4.out.nx N45.out)
            have RX5 := Lib.hid (RX4.out.nx N45.out)
            have RY5 := Lib.hid (RY4.out.nx N45.out)
            clear hW5 S0 S1 RX4 RY4 HC4 HD4
            refine (same_yes _ _ X _ RX5.out RY5.out).mono ?_
            rintro e w6 ⟨rfl, n6⟩
            have N6 := Lib.hid (N5.out.trans n6)
            have HC6 := Lib.hid (HC5.out.nx n6)
            have HD6 := Lib.hid (HD5.out.nx n6)
            have U0 := T0.nx n6
            have U1 := T1.nx n6
            clear n6 N5 HC5 HD5 T0 T1 RX5 RY5
            have A0 := Lib.hid ((Nx.refl w6).alloc (.cells (hcel U) 30))
            have NA6 := Lib.hid (N6.out.trans A0.out)
            have HC7 := Lib.hid (HC6.out.nx A0.out)
            have HD7 := Lib.hid (HD6.out.nx A0.out)
            have Q0 := U0
            have Q1 := Lib.hid (U1.nx A0.out)
            have RXU := Lib.hid (RdE.one_h w6 U LU.out)
            clear HC6 HD6 A0 N6
            go_wp2_with (first | (refine wpList_load_row rfl 30 (.tmp 10) rfl w4.heap.size rfl 30 (hcel U) (0, 0) _ Q0 Tryd.underlying30 rfl iU.out ?_) | (refine wpList_mk rfl 46 1 #[(0, .tmp 48)] rfl #[(0, .agg (hcel U))] (by kernel_rfl) _ (MU.out _) ?_) | (at_builtin; refine wpList_appE2 elH rfl (.tmp 47) (.tmp 49) 46 rfl (.agg (hcel (List.replicate 32 0))) 32 Tryd.underlying46 info_hash3 info_hash3z wo.heap.size _ (.slice (some ⟨w6.heap.size, 0, none⟩) 1 1) (abvTo La k) [U] (hfs [U]) rfl rfl HC7.out RXU.out (allE_hfs (H32.one LU.out) _ _) ?e1 ?e2 NA6.out.size ?_))
            case e1 => have := HDA.out; simp only [List.length_singleton]; omega
            case e2 => have := HDA.out; simp only [List.length_singleton, maxLen]; omega
            intro v7 w7 o7 b7 g7 e7
            have HC8 := Lib.hid o7
            have HD8 := Lib.hid (HD7.out.gr g7 (apartS HCD.out))
            have HCD8 := Lib.hid (apartN HD7.out HCD.out (by rw [alloc_size]; exact e7))
            have N8 := Lib.hid (NA6.out.app b7)
            have Q1b := Q1.out.grown g7 (fun q hq => by have := HCB.out q hq; omega)
            clear o7 b7 g7 e7 HC7 HD7 HCD Q0 Q1 RXU NA6 U0 U1
            have B0 := Lib.hid ((Nx.refl w7).alloc (.cells (hcel U) 30))
            have NA8 := Lib.hid (N8.out.trans B0.out)
            have HC9 := Lib.hid (HC8.out.nx B0.out)
            have HD9 := Lib.hid (HD8.out.nx B0.out)
            have RXV := Lib.hid (RdE.one_h w7 U LU.out)
            clear HC8 HD8 B0 N8
            go_wp2_with (first | (refine wpList_load_row rfl 30 (.tmp 11) rfl (w4.heap.size + 1) rfl 30 (hcel U) (0, 0) _ Q1b Tryd.underlying30 rfl iU.out ?_) | (refine wpList_mk rfl 46 1 #[(0, .tmp 52)] rfl #[(0, .agg (hcel U))] (by kernel_rfl) _ (MU.out _) ?_) | (at_builtin; refine wpList_appE2 elH rfl (.tmp 51) (.tmp 53) 46 rfl (.agg (hcel (List.replicate 32 0))) 32 Tryd.underlying46 info_hash3 info_hash3z wo.heap.size _ (.slice (some ⟨w7.heap.size, 0, none⟩) 1 1) (abvTo Lb k) [U] (hfs [U]) rfl rfl HD9.out RXV.out (allE_hfs (H32.one LU.out) _ _) ?e1 ?e2 NA8.out.size ?_))
            case e1 => have := HDB.out; simp only [List.length_singleton]; omega
            case e2 => have := HDB.out; simp only [List.length_singleton, maxLen]; omega
            intro v9 w9 o9 b9 g9 e9
            have HD10 := Lib.hid o9
            have HC10 := Lib.hid (HC9.out.gr g9 HCD8.out)
            have HCD10 := Lib.hid (apartS (apartN HC9.out (apartS HCD8.out) (by rw [alloc_size]; exact e9)))
            have N10 := Lib.hid (NA8.out.app b9)
            clear o9 b9 g9 e9 HC9 HD9 HCD8 Q1b RXV NA8
            go_wp2_with fail
            go_roundw
            case rel => exact ⟨k + 1, by rw [NA.out]; exact HC10, by rw [NB.out]; exact HD10, HCD10, by rw [HKN.out], Lib.hid (by have := HM1.out; omega), Lib.hid (by rw [HTN.out, HT.out, HCA.out]; simp), N10⟩
            case measure => have := HKN.out; have := HZN.out; have := HMS.out; simp [intOf]; omega
          · by_cases hUV : U = V
            · subst hUV
              have EQ := Lib.hid (fun w => eq_hash' U LU.out w)
              have YY : Hid (RB0 = true) := Lib.hid (YES.out (by rw [HCA.out]; simp [hXY]))
              replace hXY := Lib.hid hXY
              go_wp2_with fail
              refine (PA1.out _ HNO.out).mono ?_
              rintro e w1 ⟨x1, rfl, ox, n1⟩
              have OX := Lib.hid ox
              have N1 := Lib.hid (HNO.out.trans n1)
              have HC1 := Lib.hid (HC.out.nx n1)
              have HD1 := Lib.hid (HD.out.nx n1)
              clear ox n1 HC HD HNO
              go_wp2_with fail
              refine (PB1.out _ N1.out).mono ?_
              rintro e w2 ⟨y1, rfl, oy, n2⟩
              have RX2 := Lib.hid (OX.out.rd.nx n2)
              have RY2 := Lib.hid oy.rd
              have N2 := Lib.hid (N1.out.trans n2)
              have HC2 := Lib.hid (HC1.out.nx n2)
              have HD2 := Lib.hid (HD1.out.nx n2)
              clear oy n2 HC1 HD1 N1 OX
              go_wp2_with fail
              refine (TWX.out _ _ RX2.out).mono ?_
              rintro e w3 ⟨rfl, n3⟩
              have RX3 := Lib.hid (RX2.out.nx n3)
              have RY3 := Lib.hid (RY2.out.nx n3)
              have N3 := Lib.hid (N2.out.trans n3)
              have HC3 := Lib.hid (HC2.out.nx n3)
              have HD3 := Lib.hid (HD2.out.nx n3)
              clear n3 RX2 RY2 N2 HC2 HD2
              go_wp2_with fail
              refine (TWY.out _ _ RY3.out).mono ?_
              rintro e w4 ⟨rfl, n4⟩
              have RX4 := Lib.hid (RX3.out.nx n4)
              have RY4 := Lib.hid (RY3.out.nx n4)
              have N4 := Lib.hid (N3.out.trans n4)
              have HC4 := Lib.hid (HC3.out.nx n4)
              have HD4 := Lib.hid (HD3.out.nx n4)
              clear n4 RX3 RY3 N3 HC3 HD3
              have S0 := (Row.new w4 (hcel ZZ) 30 _ rfl).nx ((Nx.refl _).alloc (.cells (hcel ZZ) 30))
              have S1 := (Row.new2 w4 (.cells (hcel ZZ) 30) (hcel ZZ) 30).setRow_other (k := w4.heap.size) (hcel U) (by omega)
              have T0 := (S0.setRow (hcel U)).setRow_other (k := w4.heap.size + 1) (hcel U) (by omega)
              have T1 := S1.setRow (hcel U)
              have N45 := Lib.hid (((((Nx.refl w4).alloc (.cells (hcel ZZ) 30)).alloc (.cells (hcel ZZ) 30)).setRow (g := w4.heap.size) (hcel U) (Nat.le_refl _)).setRow (g := w4.heap.size + 1) (hcel U) (Nat.le_succ _))
              have HCB : Hid (∀ q, u5.ownBlock = some q → q < w4.heap.size) := Lib.hid fun q h => (HC4.out.blk q h).2
              go_wp2_with (first | (refine wpList_store_row rfl 30 (.tmp 10) (.tmp 35) rfl w4.heap.size (hcel U) rfl rfl 30 (hcel ZZ) S0 iU.out oU.out (hcel_one _) ?_) | (refine wpList_store_row rfl 30 (.tmp 11) (.tmp 37) rfl (w4.heap.size + 1) (hcel U) rfl rfl 30 (hcel ZZ) S1 iU.out oU.out (hcel_one _) ?_) | (refine wpList_load_row rfl 30 (.tmp 10) rfl w4.heap.size rfl 30 (hcel U) (0, 0) _ T0 Tryd.underlying30 rfl iU.out ?_) | (refine wpList_load_row rfl 30 (.tmp 11) rfl (w4.heap.size + 1) rfl 30 (hcel U) (0, 0) _ T1 Tryd.underlying30 rfl iU.out ?_) | (refine wpList_eql rfl 30 (.tmp 38) (.tmp 39) _ rfl (hcel U) (hcel U) rfl rfl (by kernel_rfl) true (EQ.out _) ?_))
              generalize hW5 : (((w4.alloc (.cells (hcel ZZ) 30)).alloc (.cells (hcel ZZ) 30)).setRow w4.heap.size (hcel U)).setRow (w4.heap.size + 1) (hcel U) = w5 at *
              have N5 := Lib.hid (N4.out.trans N45.out)
              have HC5 := Lib.hid (HC4.out.nx N45.out)
              have HD5 := Lib.hid (HD4.out.nx N45.out)
              have RX5 := Lib.hid (RX4.out.nx N45.out)
              have RY5 := Lib.hid (RY4.out.nx N45.out)
              clear hW5 S0 S1 RX4 RY4 HC4 HD4
              refine (same_no _ _ X Y _ RX5.out RY5.out hXY.out).mono ?_
              rintro e w6 ⟨rfl, n6⟩
              go_wp2_with fail
              go_ret
              exact ⟨by rw [YY.out]; rfl, HX.out.trans (N5.out.trans n6)⟩
            · rw [show decide (U = V) = false by simp [hUV]] at EQ HCA
              replace hXY := Lib.hid hXY
              replace hUV := Lib.hid hUV
              go_wp2_with fail
              refine (PA1.out _ HNO.out).mono ?_
              rintro e w1 ⟨x1, rfl, ox, n1⟩
              have OX := Lib.hid ox
              have N1 := Lib.hid (HNO.out.trans n1)
              have HC1 := Lib.hid (HC.out.nx n1)
              have HD1 := Lib.hid (HD.out.nx n1)
              clear ox n1 HC HD HNO
              go_wp2_with fail
              refine (PB1.out _ N1.out).mono ?_
              rintro e w2 ⟨y1, rfl, oy, n2⟩
              have RX2 := Lib.hid (OX.out.rd.nx n2)
              have RY2 := Lib.hid oy.rd
              have N2 := Lib.hid (N1.out.trans n2)
              have HC2 := Lib.hid (HC1.out.nx n2)
              have HD2 := Lib.hid (HD1.out.nx n2)
              clear oy n2 HC1 HD1 N1 OX
              go_wp2_with fail
              refine (TWX.out _ _ RX2.out).mono ?_
              rintro e w3 ⟨rfl, n3⟩
              have RX3 := Lib.hid (RX2.out.nx n3)
              have RY3 := Lib.hid (RY2.out.nx n3)
              have N3 := Lib.hid (N2.out.trans n3)
              have HC3 := Lib.hid (HC2.out.nx n3)
              have HD3 := Lib.hid (HD2.out.nx n3)
              clear n3 RX2 RY2 N2 HC2 HD2
              go_wp2_with fail
              refine (TWY.out _ _ RY3.out).mono ?_
              rintro e w4 ⟨rfl, n4⟩
              have RX4 := Lib.hid (RX3.out.nx n4)
              have RY4 := Lib.hid (RY3.out.nx n4)
              have N4 := Lib.hid (N3.out.trans n4)
              have HC4 := Lib.hid (HC3.out.nx n4)
              have HD4 := Lib.hid (HD3.out.nx n4)
              clear n4 RX3 RY3 N3 HC3 HD3
              have S0 := (Row.new w4 (hcel ZZ) 30 _ rfl).nx ((Nx.refl _).alloc (.cells (hcel ZZ) 30))
              have S1 := (Row.new2 w4 (.cells (hcel ZZ) 30) (hcel ZZ) 30).setRow_other (k := w4.heap.size) (hcel U) (by omega)
              have T0 := (S0.setRow (hcel U)).setRow_other (k := w4.heap.size + 1) (hcel V) (by omega)
              have T1 := S1.setRow (hcel V)
              have N45 := Lib.hid (((((Nx.refl w4).alloc (.cells (hcel ZZ) 30)).alloc (.cells (hcel ZZ) 30)).setRow (g := w4.heap.size) (hcel U) (Nat.le_refl _)).setRow (g := w4.heap.size + 1) (hcel V) (Nat.le_succ _))
              have HCB : Hid (∀ q, u5.ownBlock = some q → q < w4.heap.size) := Lib.hid fun q h => (HC4.out.blk q h).2
              go_upto_if 46 with (first | (refine wpList_store_row rfl 30 (.tmp 10) (.tmp 35) rfl w4.heap.size (hcel U) rfl rfl 30 (hcel ZZ) S0 iU.out oU.out (hcel_one _) ?_) | (refine wpList_store_row rfl 30 (.tmp 11) (.tmp 37) rfl (w4.heap.size + 1) (hcel V) rfl rfl 30 (hcel ZZ) S1 iV.out oV.out (hcel_one _) ?_) | (refine wpList_load_row rfl 30 (.tmp 10) rfl w4.heap.size rfl 30 (hcel U) (0, 0) _ T0 Tryd.underlying30 rfl iU.out ?_) | (refine wpList_load_row rfl 30 (.tmp 11) rfl (w4.heap.size + 1) rfl 30 (hcel V) (0, 0) _ T1 Tryd.underlying30 rfl iV.out ?_) | (refine wpList_eql rfl 30 (.tmp 38) (.tmp 39) _ rfl (hcel U) (hcel V) rfl rfl (by kernel_rfl) false (EQ.out _) ?_))
              generalize hW5 : (((w4.alloc (.cells (hcel ZZ) 30)).alloc (.cells (hcel ZZ) 30)).setRow w4.heap.size (hcel U)).setRow (w4.heap.size + 1) (hcel V) = w5 at *
              have N5 := Lib.hid (N4.out.trans N45.out)
              have HC5 := Lib.hid (HC4.out.nx N45.out)
              have HD5 := Lib.hid (HD4.out.nx N45.out)
              have RX5 := Lib.hid (RX4.out.nx N45.out)
              have RY5 := Lib.hid (RY4.out.nx N45.out)
              clear hW5 S0 S1 RX4 RY4 HC4 HD4
              have N6 := N5
              have HC6 := HC5
              have HD6 := HD5
              have U0 := T0
              have U1 := T1
              clear N5 HC5 HD5 T0 T1 RX5 RY5
              have A0 := Lib.hid ((Nx.refl w5).alloc (.cells (hcel U) 30))
              have NA6 := Lib.hid (N6.out.trans A0.out)
              have HC7 := Lib.hid (HC6.out.nx A0.out)
              have HD7 := Lib.hid (HD6.out.nx A0.out)
              have Q0 := U0
              have Q1 := Lib.hid (U1.nx A0.out)
              have RXU := Lib.hid (RdE.one_h w5 U LU.out)
              clear HC6 HD6 A0 N6
              go_wp2_with (first | (refine wpList_load_row rfl 30 (.tmp 10) rfl w4.heap.size rfl 30 (hcel U) (0, 0) _ Q0 Tryd.underlying30 rfl iU.out ?_) | (refine wpList_mk rfl 46 1 #[(0, .tmp 48)] rfl #[(0, .agg (hcel U))] (by kernel_rfl) _ (MU.out _) ?_) | (at_builtin; refine wpList_appE2 elH rfl (.tmp 47) (.tmp 49) 46 rfl (.agg (hcel (List.replicate 32 0))) 32 Tryd.underlying46 info_hash3 info_hash3z wo.heap.size _ (.slice (some ⟨w5.heap.size, 0, none⟩) 1 1) (abvTo La k) [U] (hfs [U]) rfl rfl HC7.out RXU.out (allE_hfs (H32.one LU.out) _ _) ?e1 ?e2 NA6.out.size ?_))
              case e1 => have := HDA.out; simp only [List.length_singleton]; omega
              case e2 => have := HDA.out; simp only [List.length_singleton, maxLen]; omega
              intro v7 w7 o7 b7 g7 e7
              have HC8 := Lib.hid o7
              have HD8 := Lib.hid (HD7.out.gr g7 (apartS HCD.out))
              have HCD8 := Lib.hid (apartN HD7.out HCD.out (by rw [alloc_size]; exact e7))
              have N8 := Lib.hid (NA6.out.app b7)
              have Q1b := Q1.out.grown g7 (fun q hq => by have := HCB.out q hq; omega)
              clear o7 b7 g7 e7 HC7 HD7 HCD Q0 Q1 RXU NA6 U0 U1
              have B0 := Lib.hid ((Nx.refl w7).alloc (.cells (hcel V) 30))
              have NA8 := Lib.hid (N8.out.trans B0.out)
              have HC9 := Lib.hid (HC8.out.nx B0.out)
              have HD9 := Lib.hid (HD8.out.nx B0.out)
              have RXV := Lib.hid (RdE.one_h w7 V LV.out)
              clear HC8 HD8 B0 N8
              go_wp2_with (first | (refine wpList_load_row rfl 30 (.tmp 11) rfl (w4.heap.size + 1) rfl 30 (hcel V) (0, 0) _ Q1b Tryd.underlying30 rfl iV.out ?_) | (refine wpList_mk rfl 46 1 #[(0, .tmp 52)] rfl #[(0, .agg (hcel V))] (by kernel_rfl) _ (MV.out _) ?_) | (at_builtin; refine wpList_appE2 elH rfl (.tmp 51) (.tmp 53) 46 rfl (.agg (hcel (List.replicate 32 0))) 32 Tryd.underlying46 info_hash3 info_hash3z wo.heap.size _ (.slice (some ⟨w7.heap.size, 0, none⟩) 1 1) (abvTo Lb k) [V] (hfs [V]) rfl rfl HD9.out RXV.out (allE_hfs (H32.one LV.out) _ _) ?e1 ?e2 NA8.out.size ?_))
              case e1 => have := HDB.out; simp only [List.length_singleton]; omega
              case e2 => have := HDB.out; simp only [List.length_singleton, maxLen]; omega
              intro v9 w9 o9 b9 g9 e9
              have HD10 := Lib.hid o9
              have HC10 := Lib.hid (HC9.out.gr g9 HCD8.out)
              have HCD10 := Lib.hid (apartS (apartN HC9.out (apartS HCD8.out) (by rw [alloc_size]; exact e9)))
              have N10 := Lib.hid (NA8.out.app b9)
              clear o9 b9 g9 e9 HC9 HD9 HCD8 Q1b RXV NA8
              go_wp2_with fail
              go_roundw
              case rel => exact ⟨k + 1, by rw [NA.out]; exact HC10, by rw [NB.out]; exact HD10, HCD10, by rw [HKN.out], Lib.hid (by have := HM1.out; omega), Lib.hid (by rw [HTN.out, HT.out, HCA.out]; simp), N10⟩
              case measure => have := HKN.out; have := HZN.out; have := HMS.out; simp [intOf]; omega
        · have hlti : ¬ ((2 * k : Nat) : Int) < (n : Int) := by omega
          obtain rfl : k = halfN n := by have := HK.out; unfold halfN at *; omega
          have RA : Hid (RdE elH wr u5 (abv La)) := Lib.hid (by have := HC.out.rd; rwa [HEA.out] at this)
          have RB : Hid (RdE elH wr u6 (abv Lb)) := Lib.hid (by have := HD.out.rd; rwa [HEB.out] at this)
          have NN := Lib.hid (HX.out.trans HNO.out)
          have REL := Lib.hid (HCN.out HT.out)
          obtain ⟨A7, c7, hu7, -⟩ := RA.out.h_parts
          clear hlt HK HT HC HD
          generalize u5 = v5 at *
          subst hu7
          go_wp2_with fail
          go_roundw
          case rel => exact ⟨abv La, abv Lb, RA, RB, Lib.hid (by rw [HAL.out, HBL.out]), Lib.hid (by rw [HAL.out]; have := HHL.out; have := HN.out; omega), REL, NN⟩
          case measure => have := HAT.out; exact this
end Go.Proofs.YtjbeemoobmagnaaDoor
