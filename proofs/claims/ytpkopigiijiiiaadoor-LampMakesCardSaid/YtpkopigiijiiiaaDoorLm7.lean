/- LAYER 13: Check, the program's. -/
import Derived.Test.YtpkopigiijiiiaaDoorLm6
import Derived.Test.YtpkopigiijiiiaaDoorEqH
namespace Go.Proofs.YtpkopigiijiiiaaDoor
open Go Go.RowKit
set_option linter.unusedVariables false
set_option linter.unusedSimpArgs false
set_option linter.unusedVariables false
set_option linter.unusedSimpArgs false

theorem wp_neq13 {P : Program} {o : Oper} {a : Act} {w : World} {K : Act → World → Prop} {Q : Exit → Act → World → Prop} (dst : Option Tmp) (hd : o.dst = dst) (T : TypeId) (x y : Operand) (T' : TypeId) (ho : o.op = .binOp .neq T x y T') (X Y : Array Value)
    (hx : a.eval x = .agg X) (hy : a.eval y = .agg Y) (hgt : P.eqGuardType P.depth T = false) (b : Bool) (heq : (Op.equalIn 10000 T (.agg X) (.agg Y)).run P w = .ok b w) (h : K (a.put dst (.bool (!b))) w) : o.wp P a w K Q := by
  refine wp_val_of dst hd (.bool (!b)) ?_ h
  unfold execOp
  simp only [ho]
  have e1 : (eqGuard .neq T x y (a.eval x) (a.eval y)).run P w = .ok () w := by
    rw [hx, hy]
    simp [eqGuard, hgt, Sem.run_bind, Sem.run_pure, run_program]
  have e2 : (binOp .neq T (a.eval x) (a.eval y)).run P w = .ok (.bool (!b)) w := by
    rw [hx, hy]
    have : (Op.equal T (.agg X) (.agg Y)).run P w = .ok b w := heq
    simp [binOp, Sem.run_bind, this]
  simp only [Sem.run_bind, e1, e2, Result.andThen_ok, Sem.run_pure]
set_option maxHeartbeats 2000000 in
theorem check_no (v : Value) (key d g : Bs) (w : World) (hr : Rd w v g) (hg : g.length ≠ 2048) :
    Calls Tryd.prog 20 #[.agg (hcel key), .agg (hcel d), v] w fun e w' => e = .returned (.int .i64 5) ∧ Nx w w' := by
  have HR := Lib.hid hr
  obtain ⟨A, c, rfl, -, -, -⟩ := hr
  have N0 := Lib.hid (((Nx.refl w).alloc (.cells (hcel key) 23)).alloc (.cells (hcel d) 23))
  have HO := Lib.hid (open_no _ g _ (HR.out.nx N0.out) hg)
  go_enter Tryd.func20, Tryd.ntmps20
  go_wp2_with fail
  refine HO.out.mono ?_
  rintro e w1 ⟨rfl, n1⟩
  have N1 := Lib.hid (N0.out.trans n1)
  clear n1
  go_wp2_with fail
  exact bodyPost_ret (results_tmp Tryd.results20 _ _ _) rfl ⟨rfl, N1.out⟩
set_option maxRecDepth 100000 in
set_option maxHeartbeats 8000000 in
theorem check_ok (v : Value) (key d g : Bs) (w : World) (hr : Rd w v g) (hg : g.length = 2048) (hkey : key.length = 32) (hd : d.length = 32) (hK : KIs w) :
    Calls Tryd.prog 20 #[.agg (hcel key), .agg (hcel d), v] w fun e w' => e = .returned (.int .i64 (chkE key d g : Int)) ∧ Nx w w' := by
  have HSUM := Lib.hid (fun W y (l : Bs) (hr : Rd W y l) (hk : KIs W) (hn : l.length ≤ 140737488355000) => sum_any y l W hk hr hn)
  have HBIT := Lib.hid (fun k (hk : k < 256) W => bit_any d hd k hk W)
  have HR := Lib.hid hr
  have HKK := Lib.hid hK
  have hkz := Lib.hid (hashsz key hkey)
  have hdz := Lib.hid (hashsz d hd)
  have HZL : Hid ((List.replicate 32 (0 : UInt8)).length = 32) := Lib.hid List.length_replicate
  obtain ⟨hz, hzs⟩ := zero_of_info info_hash'
  generalize List.replicate 32 (0 : UInt8) = Z at *
  have HG := Lib.hid hg
  have HKL := Lib.hid hkey
  have HE : Hid (chkE key d g = if shaL (flt (ckB d g) 32) = key then 0 else 5) := Lib.hid (by unfold chkE; rw [if_pos hg])
  have HCL := Lib.hid (fun k hk => ckB_length d g hg k hk)
  have HFL := Lib.hid (fun k (hk : k ≤ 32) => (flt_cut2 (ckB d g) k (fun j hj => ckB_length d g hg j (by omega))).1)
  have HOL := Lib.hid (opL_length g)
  have HOG := Lib.hid (fun k hk => opL_get g k hk)
  have HOS := Lib.hid (fun k hk => opS_length g hg k hk)
  have HSS := Lib.hid (fun k hk => shS_length g hg k hk)
  obtain ⟨A, c, rfl, hc, hm, ha⟩ := hr
  obtain ⟨b, q, rfl, hb, hcell⟩ := ha (by omega)
  have HAT := Lib.hid ha
  rw [hg] at hc
  have R3 := (Row.new w (hcel key) 23 _ rfl).alloc (.cells (hcel d) 23)
  have R4 := Row.new2 w (.cells (hcel key) 23) (hcel d) 23
  have N0 := Lib.hid (((Nx.refl w).alloc (.cells (hcel key) 23)).alloc (.cells (hcel d) 23))
  have HO := Lib.hid (open_ok _ g _ (HR.out.nx N0.out) hg)
  rw [hg] at HO ⊢
  clear ha hcell hkey hd hK
  go_enter Tryd.func20, Tryd.ntmps20
  go_wp2_with fail
  refine HO.out.mono ?_
  rintro e w1 ⟨v1, rfl, o1, n1⟩
  obtain ⟨A1, c1, rfl, -, -, -, hq1⟩ := o1.rd.h_parts
  obtain ⟨b1, q1, rfl, hb1, hcell1⟩ := hq1 (by rw [HOL.out]; decide)
  have HX1 : Hid (∀ W, Nx w1 W → ∀ k, k < 32 → ∀ i u, (hcel (opS g k))[i]? = some u → W.cell? ⟨b1, q1 + k * 32 + i, none⟩ = some u) := Lib.hid fun W h k hk i u hu => by
    rw [h.cell (p := ⟨b1, q1 + k * 32 + i, none⟩) hb1]
    have hk2 : k < (opL g).length := by rw [HOL.out]; exact hk
    refine hcell1 k hk2 i u ?_
    have := HOG.out k hk
    rw [List.getElem?_eq_getElem hk2] at this
    rw [Option.some.inj this]; exact hu
  rw [HOL.out]
  have N1 := Lib.hid (N0.out.trans n1)
  replace R3 := R3.nx n1
  replace R4 := R4.nx n1
  clear o1 n1 hq1 hcell1 HO N0
  go_wp2_with fail
  go_loopw [9, 24] (fun u i wr => ∃ k : Nat, k ≤ 32 ∧ i = .int .i64 (k : Int) ∧ Rd wr u (flt (ckB d g) k) ∧ Hid (Nx w1 wr)) (fun _ i _ => 32 - (intOf i).toNat)
  case atStart => exact ⟨0, Nat.zero_le _, rfl, Rd.nil _, Lib.hid (Nx.refl _)⟩
  case round =>
    obtain ⟨k, hk, rfl, hrd, HN⟩ := hrel
    by_cases hlt : k < 32
    · have hlti : (k : Int) < 32 := by omega
      have hX := HX1.out wr HN.out k hlt
      have HX := Lib.hid hX
      have hxl := HOS.out k hlt
      have hsl := HSS.out k hlt
      have HFK := Lib.hid (HFL.out k hk)
      have HFN : Hid (flt (ckB d g) (k + 1) = flt (ckB d g) k ++ ckB d g k) := Lib.hid (flt_succ _ _)
      have HCB : Hid (ckB d g k = if bitN d k = 0 then shaL (opS g k) ++ shS g k else shS g k ++ shaL (opS g k)) := Lib.hid rfl
      have HRS : Hid (∀ W, Nx w W → Rd W (.slice (some ⟨b, q + (k * 64 + 32), none⟩) 32 (c - (k * 64 + 32))) (shS g k)) := Lib.hid fun W h => by
        have := (Rd.cut (HAT.out) (c := c - (k * 64 + 32)) (i := k * 64 + 32) (m := 32) (by have := HG.out; omega) (by omega) (by omega)).nx h
        rw [Option.map_some, addr_add] at this
        unfold shS
        rw [show 64 * k + 32 = k * 64 + 32 by omega]
        exact this
      have HBK := Lib.hid (HBIT.out k (by omega))
      have hu8 : IntKind.u8.wrap (k : Int) = (k : Int) := by rw [IntKind.wrap_u8']; omega
      have hb01 := bitN_cases d k
      generalize hBN : bitN d k = bb at *
      generalize hXE : opS g k = X at *
      generalize hSE : shS g k = T at *
      have Z1 := Lib.hid (hashsz X hxl)
      have ZZ1 := Lib.hid (hashsame Z X HZL.out hxl)
      have RN := Row.new wr (hcel Z) 23 _ rfl
      obtain ⟨A9, m9, c9, rfl⟩ := hrd.sl
      go_wp2_with (first | (refine wpList_plain rfl fun K hK => wp_ix_of (some 27) rfl 32 23 (.tmp 22) (.tmp 24) rfl Tryd.underlying32 32 Tryd.sizeOf23 b1 q1 32 c1 k (k : Int) rfl rfl rfl hlt (hK _ _ ?_)) | (refine wpList_load_at rfl 23 (.tmp 27) rfl b1 (q1 + k * 32) rfl (hcel X) _ HX.out Tryd.underlying23 rfl Z1.out ?_) | (refine wpList_store_row rfl 23 (.tmp 11) (.tmp 28) rfl wr.heap.size (hcel X) rfl rfl 23 (hcel Z) RN Z1.out ZZ1.out (hcel_one _) ?_))
      have NA : Nx wr ((wr.alloc (.cells (hcel Z) 23)).setRow wr.heap.size (hcel X)) := ((Nx.refl wr).alloc _).setRow (g := wr.heap.size) _ (Nat.le_refl _)
      have RA := RN.setRow (hcel X)
      have NWA := Lib.hid (N1.out.trans (HN.out.trans NA))
      have hS := HSUM.out _ _ X (Row.rd RA 32 hxl (by decide)) (HKK.out.nx NWA.out) (by rw [hxl]; decide)
      have HS := Lib.hid hS
      have HQL : Hid ((shaL X).length = 32) := Lib.hid (shaL_length X)
      have VN := Lib.hid (HN.out.trans NA)
      have VR := hrd.nx NA
      clear hS RA NA RN hX hrd
      generalize shaL X = SA at *
      have sAi := Lib.hid (hashsz SA HQL.out)
      have sAo := Lib.hid (hashsame Z SA HZL.out HQL.out)
      generalize (wr.alloc (.cells (hcel Z) 23)).setRow wr.heap.size (hcel X) = W4 at *
      generalize wr.heap.size = g11 at *
      refine HS.out.mono ?_
      rintro e W5 ⟨rfl, n5⟩
      have RN := Row.new W5 (hcel Z) 23 _ rfl
      have NB : Nx W4 ((W5.alloc (.cells (hcel Z) 23)).setRow W5.heap.size (hcel SA)) := (n5.alloc _).setRow (g := W5.heap.size) _ n5.size
      have VN2 := Lib.hid (VN.out.trans NB)
      have VR2 := VR.nx NB
      have RA := RN.setRow (hcel SA)
      have RD12 := Row.rd RA 32 HQL.out (by decide)
      have R4b := R4.nx VN2.out
      have hRS := HRS.out _ (N1.out.trans VN2.out)
      go_wp2_with (first | (refine wpList_store_row rfl 23 (.tmp 12) (.tmp 30) rfl W5.heap.size (hcel SA) rfl rfl 23 (hcel Z) RN sAi.out sAo.out (hcel_one _) ?_) | (refine wpList_load_row rfl 23 (.tmp 4) rfl (w.heap.size + 1) rfl 23 (hcel d) (0, 0) _ R4b Tryd.underlying23 rfl hdz.out ?_))
      rw [show (k + 1) * 64 - (k * 64 + 32) = 32 by omega]
      generalize (W5.alloc (.cells (hcel Z) 23)).setRow W5.heap.size (hcel SA) = W6 at *
      generalize W5.heap.size = g12 at *
      refine (HBK.out _).mono ?_
      rintro e W8 ⟨rfl, n8⟩
      have R9s := VR2.nx n8
      have RDs := RD12.nx n8
      have RTs := hRS.nx n8
      have hq32 := HQL.out
      have hfk := HFK.out
      clear n5 NB RN RA RD12 R4b hRS VR VR2 VN HS HRS HBK hBN hXE hSE
      rcases hb01 with rfl | rfl
      · rw [if_pos rfl] at HCB
        go_wp2_with fail
        have HCA := Lib.hid (catAt3 R9s RDs RTs)
        have hCC := concat_at _ HCA.out (by simp) (by simp only [List.flatten_cons, List.flatten_nil, List.append_nil, List.length_append]; omega) 0 (Nat.zero_le _)
        simp only [List.flatten_cons, List.flatten_nil, List.append_nil] at hCC
        refine hCC.mono ?_
        rintro e W9 ⟨v9, rfl, o9, n9⟩
        have NN := Lib.hid ((VN2.out.trans (n8.alloc _)).trans n9)
        have RR : Rd W9 v9 (flt (ckB d g) (k + 1)) := by
          rw [HFN.out, HCB.out]
          exact o9.rd
        obtain ⟨A8, m8, c8, rfl⟩ := o9.rd.sl
        clear hCC HCA o9 n9 n8 R9s RDs RTs
        go_wp2_with fail
        go_roundw
        case rel => exact ⟨k + 1, by omega, by go_num, RR, NN⟩
        case measure => simp [intOf]; omega
      · rw [if_neg (by decide)] at HCB
        go_wp2_with fail
        have HCA := Lib.hid (catAt3 R9s RTs RDs)
        have hCC := concat_at _ HCA.out (by simp) (by simp only [List.flatten_cons, List.flatten_nil, List.append_nil, List.length_append]; omega) 0 (Nat.zero_le _)
        simp only [List.flatten_cons, List.flatten_nil, List.append_nil] at hCC
        refine hCC.mono ?_
        rintro e W9 ⟨v9, rfl, o9, n9⟩
        have NN := Lib.hid ((VN2.out.trans (n8.alloc _)).trans n9)
        have RR : Rd W9 v9 (flt (ckB d g) (k + 1)) := by
          rw [HFN.out, HCB.out]
          exact o9.rd
        obtain ⟨A8, m8, c8, rfl⟩ := o9.rd.sl
        clear hCC HCA o9 n9 n8 R9s RDs RTs
        go_wp2_with fail
        go_roundw
        case rel => exact ⟨k + 1, by omega, by go_num, RR, NN⟩
        case measure => simp [intOf]; omega
    · obtain rfl : k = 32 := by omega
      have R3b := R3.nx HN.out
      have R3 := R3b
      obtain ⟨A9, m9, c9, rfl⟩ := hrd.sl
      have NW := Lib.hid (N1.out.trans HN.out)
      have hfl := HFL.out 32 (Nat.le_refl _)
      have hS := fun W (h : Nx wr W) => HSUM.out W _ _ (hrd.nx h) (HKK.out.nx (NW.out.trans h)) (by rw [hfl]; decide)
      have HSB := Lib.hid hS
      have hSL := shaL_length (flt (ckB d g) 32)
      clear hS hrd R3b
      generalize flt (ckB d g) 32 = FL at *
      generalize shaL FL = SB at *
      have EQ := Lib.hid (fun w => eq_hash2 SB key hSL HKL.out w)
      generalize hD : decide (SB = key) = D at *
      have HD := Lib.hid hD
      clear hD
      go_wp2_with fail
      refine wp_region_nx 4 [[], [0], [], [1, 2]] [some 55, some 56, some 57, some 58]
        [.eq (.slice A9 m9 c9), .eq (.agg (hcel SB)), .eq (.agg (hcel key)), .eq (.bool (!D))]
        (by kernel_rfl) (by kernel_rfl) (hord_of (by decide)) (by kernel_rfl) (by decide) (by decide) (htail_of (by decide)) ?_ _ (by rfl) ?_
      · intro x tm wr htm hx i hi hd K hK
        simp only [fillA, List.setIfInBounds_toArray, List.set_cons_zero, List.set_cons_succ] at htm
        subst htm
        have hcs : i = 0 ∨ i = 1 ∨ i = 2 ∨ i = 3 := by omega
        clear hi
        rcases hcs with rfl | rfl | rfl | rfl
        · exact wpOp_of rfl rfl (wp_val_of (some 55) rfl (.slice A9 m9 c9) (by kernel_rfl) (hK _ _ rfl (Nx.refl _)))
        · have e0 : x 0 = .slice A9 m9 c9 := hd 0 (by decide)
          generalize x 0 = y0 at e0 hK ⊢
          subst e0
          refine wpOp_of rfl rfl (wp_call_of (some 56) rfl 26 #[(.slice A9 m9 c9)] (by kernel_rfl) (.agg (hcel SB)) ?_ (fun w' h => hK _ w' rfl h))
          exact HSB.out wr hx
        · exact wpOp_of rfl rfl (wp_load_row_of (some 57) rfl 23 (.tmp 3) rfl (w.heap.size) rfl 23 (hcel key) _ (R3.nx hx) Tryd.underlying23 rfl hkz.out (hK _ _ rfl (Nx.refl _)))
        · have e1 : x 1 = .agg (hcel SB) := hd 1 (by decide)
          have e2 : x 2 = .agg (hcel key) := hd 2 (by decide)
          generalize x 1 = y1 at e1 hK ⊢
          subst e1
          generalize x 2 = y2 at e2 hK ⊢
          subst e2
          exact wpOp_of rfl rfl (wp_neq13 (some 58) rfl 23 _ _ _ rfl (hcel SB) (hcel key) rfl rfl (by kernel_rfl) D (EQ.out wr) (hK _ _ rfl (Nx.refl _)))
      · intro x tm wr htm hx hv
        simp only [fillA, List.setIfInBounds_toArray, List.set_cons_zero, List.set_cons_succ] at htm
        subst htm
        have e0 : x 0 = .slice A9 m9 c9 := hv 0 (by decide)
        rw [e0]
        have e1 : x 1 = .agg (hcel SB) := hv 1 (by decide)
        rw [e1]
        have e2 : x 2 = .agg (hcel key) := hv 2 (by decide)
        rw [e2]
        have e3 : x 3 = .bool (!D) := hv 3 (by decide)
        rw [e3]
        have NX := Lib.hid hx
        clear hx hv e0 e1 e2 e3 EQ HSB hSL hfl
        simp only [List.drop_succ_cons, List.drop_nil, List.drop_zero]
        refine wpList_nil ?_
        cases D
        · simp only [Bool.not_false]
          go_wp2_with fail
          exact bodyPost_ret (results_tmp Tryd.results20 _ _ _) rfl ⟨by rw [HE.out, if_neg (of_decide_eq_false HD.out)]; rfl, NW.out.trans NX.out⟩
        · simp only [Bool.not_true]
          go_wp2_with fail
          exact bodyPost_ret (results_tmp Tryd.results20 _ _ _) rfl ⟨by rw [HE.out, if_pos (of_decide_eq_true HD.out)]; rfl, NW.out.trans NX.out⟩
theorem check_any (v : Value) (key d g : Bs) (w : World) (hr : Rd w v g) (hkey : key.length = 32) (hd : d.length = 32) (hK : KIs w) :
    Calls Tryd.prog 20 #[.agg (hcel key), .agg (hcel d), v] w fun e w' => e = .returned (.int .i64 (chkE key d g : Int)) ∧ Nx w w' := by
  by_cases hg : g.length = 2048
  · exact check_ok v key d g w hr hg hkey hd hK
  · have : chkE key d g = 5 := by unfold chkE; rw [if_neg hg]
    rw [this]
    exact check_no v key d g w hr hg
end Go.Proofs.YtpkopigiijiiiaaDoor
