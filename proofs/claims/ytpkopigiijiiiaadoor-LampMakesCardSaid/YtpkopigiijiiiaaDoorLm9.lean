/- LAYER 13: the document's Check. -/
import Derived.Test.YtpkopigiijiiiaaDoorLm2
import Derived.Test.YtpkopigiijiiiaaDoorLm7
namespace Go.Proofs.YtpkopigiijiiiaaDoor
open Go Go.RowKit
set_option linter.unusedVariables false
set_option linter.unusedSimpArgs false
set_option linter.unusedVariables false
set_option linter.unusedSimpArgs false

theorem row_grown {B : Nat} {W W' : World} {g : Nat} {cs : Array Value} {t : TypeId} {v : Value} {l : Bs} (h : Row W g cs t) (k : W.grownBy W' v.ownBlock) (o : Own B W v l) (hg : g < B) : Row W' g cs t := by
  have hl := h.lt
  unfold Row at *
  rw [k.block g hl (fun e => by have := o.block g e.symm; omega)]; exact h

set_option maxRecDepth 100000 in
set_option maxHeartbeats 8000000 in
theorem rcheck_ok (v : Value) (key d g : Bs) (w : World) (hr : Rd w v g) (hg : g.length = 2048) (hkey : key.length = 32) (hd : d.length = 32) :
    Calls Tryd.prog 21 #[.agg (hcel key), .agg (hcel d), v] w fun e w' => e = .returned (.int .i64 (chkE key d g : Int)) ∧ Nx w w' := by
  have HBIT := Lib.hid (fun k (hk : k < 256) W => rbit_any d hd k hk W)
  have hkz := Lib.hid (hashsz key hkey)
  have hdz := Lib.hid (hashsz d hd)
  have HG := Lib.hid hg
  have HKL := Lib.hid hkey
  have HE : Hid (chkE key d g = if shaL (flt (ckB d g) 32) = key then 0 else 5) := Lib.hid (by unfold chkE; rw [if_pos hg])
  have HFL := Lib.hid (fun k (hk : k ≤ 32) => (flt_cut2 (ckB d g) k (fun j hj => ckB_length d g hg j (by omega))).1)
  have HOS := Lib.hid (fun k hk => opS_length g hg k hk)
  have HSS := Lib.hid (fun k hk => shS_length g hg k hk)
  obtain ⟨A, c, rfl, hc, hm, ha⟩ := hr
  obtain ⟨b, q, rfl, hb, hcell⟩ := ha (by omega)
  have HAT := Lib.hid ha
  rw [hg] at hc ⊢
  have R3 := (Row.new w (hcel key) 23 _ rfl).alloc (.cells (hcel d) 23)
  have R4 := Row.new2 w (.cells (hcel key) 23) (hcel d) 23
  have N0 := Lib.hid (((Nx.refl w).alloc (.cells (hcel key) 23)).alloc (.cells (hcel d) 23))
  have hsz2 : ((w.alloc (.cells (hcel key) 23)).alloc (.cells (hcel d) 23)).heap.size = w.heap.size + 1 + 1 := by rw [alloc_size, alloc_size]
  clear ha hcell hkey hd
  go_enter Tryd.func21, Tryd.ntmps21
  go_wp2_with fail
  generalize (w.alloc (.cells (hcel key) 23)).alloc (.cells (hcel d) 23) = W0 at *
  go_loopw [7, 8] (fun u i wr => ∃ k : Nat, k ≤ 32 ∧ i = .int .i64 (k : Int) ∧ Own W0.heap.size wr u (flt (ckB d g) k) ∧ Hid (W0.heap.size ≤ wr.heap.size) ∧ Hid (Nx w wr) ∧ Row wr w.heap.size (hcel key) 23 ∧ Row wr (w.heap.size + 1) (hcel d) 23) (fun _ i _ => 32 - (intOf i).toNat)
  case atStart => exact ⟨0, Nat.zero_le _, rfl, Own.nil _ _, Lib.hid (Nat.le_refl _), N0, R3, R4⟩
  case round =>
    obtain ⟨k, hk, rfl, hown, HY, HN, R3, R4⟩ := hrel
    by_cases hlt : k < 32
    · have hlti : (k : Int) < 32 := by omega
      have HM : Hid (IntKind.i64.wrap (64 * (k : Int)) = 64 * (k : Int)) := Lib.hid (by rw [IntWalk.i64_in _ (by omega)])
      have HM32 : Hid (IntKind.i64.wrap (64 * (k : Int) + 32) = 64 * (k : Int) + 32) := Lib.hid (by rw [IntWalk.i64_in _ (by omega)])
      have HM64 : Hid (IntKind.i64.wrap (64 * (k : Int) + 64) = 64 * (k : Int) + 64) := Lib.hid (by rw [IntWalk.i64_in _ (by omega)])
      have HCU1 := Lib.hid (fun W => slice_in (P := Tryd.prog) 28 5 Tryd.underlying28 Tryd.sizeOf5 b q 2048 c (64 * k) (64 * k + 32) (64 * (k : Int)) (64 * (k : Int) + 32) (by omega) (by omega) (by omega) (by omega) (by omega) W)
      have HCU2 := Lib.hid (fun W => slice_in (P := Tryd.prog) 28 5 Tryd.underlying28 Tryd.sizeOf5 b q 2048 c (64 * k + 32) (64 * k + 64) (64 * (k : Int) + 32) (64 * (k : Int) + 64) (by omega) (by omega) (by omega) (by omega) (by omega) W)
      rw [Nat.add_sub_cancel_left] at HCU1
      rw [show 64 * k + 64 - (64 * k + 32) = 32 by omega] at HCU2
      have HR1 : Hid (∀ W, Nx w W → Rd W (.slice (some ⟨b, q + 64 * k, none⟩) 32 (c - 64 * k)) (opS g k)) := Lib.hid fun W h => by
        have := (Rd.cut HAT.out (c := c - 64 * k) (i := 64 * k) (m := 32) (by have := HG.out; omega) (by omega) (by omega)).nx h
        rwa [Option.map_some, addr_add] at this
      have HR2 : Hid (∀ W, Nx w W → Rd W (.slice (some ⟨b, q + (64 * k + 32), none⟩) 32 (c - (64 * k + 32))) (shS g k)) := Lib.hid fun W h => by
        have := (Rd.cut HAT.out (c := c - (64 * k + 32)) (i := 64 * k + 32) (m := 32) (by have := HG.out; omega) (by omega) (by omega)).nx h
        rwa [Option.map_some, addr_add] at this
      have hxl := HOS.out k hlt
      have hsl := HSS.out k hlt
      have hfk := HFL.out k hk
      have HFN : Hid (flt (ckB d g) (k + 1) = flt (ckB d g) k ++ ckB d g k) := Lib.hid (flt_succ _ _)
      have HCB : Hid (ckB d g k = if bitN d k = 0 then shaL (opS g k) ++ shS g k else shS g k ++ shaL (opS g k)) := Lib.hid rfl
      have HBK := Lib.hid (HBIT.out k (by omega))
      have hu8 : IntKind.u8.wrap (k : Int) = (k : Int) := by rw [IntKind.wrap_u8']; omega
      have HSM : Hid (∀ W, Nx wr W → Calls Tryd.prog 24 #[.slice (some ⟨b, q + 64 * k, none⟩) 32 (c - 64 * k)] W fun e w' => e = .returned (.agg (hcel (shaL (opS g k)))) ∧ Nx W w') := Lib.hid fun W h => rhsum_any _ _ W (HR1.out W (HN.out.trans h)) (by rw [hxl]; decide)
      have HBY := Lib.hid (fun W => rbytes13_any (shaL (opS g k)) W (shaL_length _))
      have HCP : Hid (∀ W, Nx wr W → Calls Tryd.prog 31 #[.slice (some ⟨b, q + (64 * k + 32), none⟩) 32 (c - (64 * k + 32))] W fun e w' => ∃ v, e = .returned v ∧ Own W.heap.size w' v (shS g k) ∧ Nx W w') := Lib.hid fun W h => rcopy13_any _ _ W (HR2.out W (HN.out.trans h)) (by rw [hsl]; decide)
      have hsal := shaL_length (opS g k)
      have hb01 := bitN_cases d k
      generalize hBN : bitN d k = bb at *
      generalize shaL (opS g k) = SA at *
      generalize shS g k = T at *
      clear hBN
      obtain ⟨gB, hgB⟩ : ∃ gB, wr.heap.size = gB := ⟨_, rfl⟩
      have hult := hown.lt
      rw [hgB] at hult
      replace hgB := Lib.hid hgB
      go_wp2_with fail
      refine wp_region_nx 20 [[], [], [1], [], [3], [4], [0, 2, 5], [6], [7, 7], [], [], [10], [11], [], [13], [14], [9, 12, 15], [16, 8], [8, 17, 0, 1, 2, 3, 4, 5, 6, 7, 8], [17, 18, 0, 1, 2, 3, 4, 5, 6, 7, 8, 9, 10, 11, 12, 13, 14, 15, 16, 17, 18]] [some 18, some 19, some 20, some 21, some 22, some 23, some 24, some 25, some 26, some 27, some 28, some 29, some 30, some 31, some 32, some 33, some 34, some 35, some 9, some 10]
        [.eq (.slice (some ⟨b, q, none⟩) 2048 c), .eq (.int .i64 (k : Int)), .eq (.int .i64 (64 * (k : Int))), .eq (.int .i64 (k : Int)), .eq (.int .i64 (64 * (k : Int))), .eq (.int .i64 (64 * (k : Int) + 32)), .eq (.slice (some ⟨b, q + 64 * k, none⟩) 32 (c - 64 * k)), .eq (.agg (hcel SA)), .own gB SA, .eq (.slice (some ⟨b, q, none⟩) 2048 c), .eq (.int .i64 (k : Int)), .eq (.int .i64 (64 * (k : Int))), .eq (.int .i64 (64 * (k : Int) + 32)), .eq (.int .i64 (k : Int)), .eq (.int .i64 (64 * (k : Int))), .eq (.int .i64 (64 * (k : Int) + 64)), .eq (.slice (some ⟨b, q + (64 * k + 32), none⟩) 32 (c - (64 * k + 32))), .own gB T, .own gB SA, .own gB T]
        (by kernel_rfl) (by kernel_rfl) (hord_of (by decide)) (by kernel_rfl) (by decide) (by decide) (htail_of (by decide)) ?_ _ (by rfl) ?_
      · intro x tm wr htm hx i hi hd K hK
        simp only [fillA, List.setIfInBounds_toArray, List.set_cons_zero, List.set_cons_succ] at htm
        subst htm
        have hcs : i = 0 ∨ i = 1 ∨ i = 2 ∨ i = 3 ∨ i = 4 ∨ i = 5 ∨ i = 6 ∨ i = 7 ∨ i = 8 ∨ i = 9 ∨ i = 10 ∨ i = 11 ∨ i = 12 ∨ i = 13 ∨ i = 14 ∨ i = 15 ∨ i = 16 ∨ i = 17 ∨ i = 18 ∨ i = 19 := by omega
        clear hi
        rcases hcs with rfl | rfl | rfl | rfl | rfl | rfl | rfl | rfl | rfl | rfl | rfl | rfl | rfl | rfl | rfl | rfl | rfl | rfl | rfl | rfl
        · exact wpOp_of rfl rfl (wp_val_of (some 18) rfl (.slice (some ⟨b, q, none⟩) 2048 c) (by kernel_rfl) (hK _ _ rfl (Nx.refl _)))
        · exact wpOp_of rfl rfl (wp_val_of (some 19) rfl (.int .i64 (k : Int)) (by kernel_rfl) (hK _ _ rfl (Nx.refl _)))
        · have e1 : x 1 = .int .i64 (k : Int) := hd 1 (by decide)
          generalize x 1 = y1 at e1 hK ⊢
          subst e1
          exact wpOp_of rfl rfl (wp_val_of (some 20) rfl (.int .i64 (IntKind.i64.wrap (64 * (k : Int)))) (by kernel_rfl) (hK _ _ (show _ = _ by rw [HM.out]) (Nx.refl _)))
        · exact wpOp_of rfl rfl (wp_val_of (some 21) rfl (.int .i64 (k : Int)) (by kernel_rfl) (hK _ _ rfl (Nx.refl _)))
        · have e3 : x 3 = .int .i64 (k : Int) := hd 3 (by decide)
          generalize x 3 = y3 at e3 hK ⊢
          subst e3
          exact wpOp_of rfl rfl (wp_val_of (some 22) rfl (.int .i64 (IntKind.i64.wrap (64 * (k : Int)))) (by kernel_rfl) (hK _ _ (show _ = _ by rw [HM.out]) (Nx.refl _)))
        · have e4 : x 4 = .int .i64 (64 * (k : Int)) := hd 4 (by decide)
          generalize x 4 = y4 at e4 hK ⊢
          subst e4
          exact wpOp_of rfl rfl (wp_val_of (some 23) rfl (.int .i64 (IntKind.i64.wrap (64 * (k : Int) + 32))) (by kernel_rfl) (hK _ _ (show _ = _ by rw [HM32.out]) (Nx.refl _)))
        · have e0 : x 0 = .slice (some ⟨b, q, none⟩) 2048 c := hd 0 (by decide)
          have e2 : x 2 = .int .i64 (64 * (k : Int)) := hd 2 (by decide)
          have e5 : x 5 = .int .i64 (64 * (k : Int) + 32) := hd 5 (by decide)
          generalize x 0 = y0 at e0 hK ⊢
          subst e0
          generalize x 2 = y2 at e2 hK ⊢
          subst e2
          generalize x 5 = y5 at e5 hK ⊢
          subst e5
          exact wpOp_of rfl rfl (wp_slice_of (some 24) rfl 28 (.tmp 18) (some (.tmp 20)) (some (.tmp 23)) none rfl _ (HCU1.out wr) (hK _ _ rfl (Nx.refl _)))
        · have e6 : x 6 = .slice (some ⟨b, q + 64 * k, none⟩) 32 (c - 64 * k) := hd 6 (by decide)
          generalize x 6 = y6 at e6 hK ⊢
          subst e6
          refine wpOp_of rfl rfl (wp_call_of (some 25) rfl 24 #[(.slice (some ⟨b, q + 64 * k, none⟩) 32 (c - 64 * k))] (by kernel_rfl) (.agg (hcel SA)) ?_ (fun w' h => hK _ w' rfl h))
          exact HSM.out wr hx
        · have e7 : x 7 = .agg (hcel SA) := hd 7 (by decide)
          generalize x 7 = y7 at e7 hK ⊢
          subst e7
          refine wpOp_of rfl rfl (wp_callp_of (some 26) rfl 28 #[(.agg (hcel SA))] (by kernel_rfl) (fun v w' => Own gB w' v (SA)) ?_ hK)
          exact (HBY.out wr).mono fun _ _ ⟨v, h1, h2, h3⟩ => ⟨v, h1, h2.mono (by rw [← hgB.out]; exact hx.size), h3⟩
        · exact wpOp_of rfl rfl (wp_val_of (some 27) rfl (.slice (some ⟨b, q, none⟩) 2048 c) (by kernel_rfl) (hK _ _ rfl (Nx.refl _)))
        · exact wpOp_of rfl rfl (wp_val_of (some 28) rfl (.int .i64 (k : Int)) (by kernel_rfl) (hK _ _ rfl (Nx.refl _)))
        · have e10 : x 10 = .int .i64 (k : Int) := hd 10 (by decide)
          generalize x 10 = y10 at e10 hK ⊢
          subst e10
          exact wpOp_of rfl rfl (wp_val_of (some 29) rfl (.int .i64 (IntKind.i64.wrap (64 * (k : Int)))) (by kernel_rfl) (hK _ _ (show _ = _ by rw [HM.out]) (Nx.refl _)))
        · have e11 : x 11 = .int .i64 (64 * (k : Int)) := hd 11 (by decide)
          generalize x 11 = y11 at e11 hK ⊢
          subst e11
          exact wpOp_of rfl rfl (wp_val_of (some 30) rfl (.int .i64 (IntKind.i64.wrap (64 * (k : Int) + 32))) (by kernel_rfl) (hK _ _ (show _ = _ by rw [HM32.out]) (Nx.refl _)))
        · exact wpOp_of rfl rfl (wp_val_of (some 31) rfl (.int .i64 (k : Int)) (by kernel_rfl) (hK _ _ rfl (Nx.refl _)))
        · have e13 : x 13 = .int .i64 (k : Int) := hd 13 (by decide)
          generalize x 13 = y13 at e13 hK ⊢
          subst e13
          exact wpOp_of rfl rfl (wp_val_of (some 32) rfl (.int .i64 (IntKind.i64.wrap (64 * (k : Int)))) (by kernel_rfl) (hK _ _ (show _ = _ by rw [HM.out]) (Nx.refl _)))
        · have e14 : x 14 = .int .i64 (64 * (k : Int)) := hd 14 (by decide)
          generalize x 14 = y14 at e14 hK ⊢
          subst e14
          exact wpOp_of rfl rfl (wp_val_of (some 33) rfl (.int .i64 (IntKind.i64.wrap (64 * (k : Int) + 64))) (by kernel_rfl) (hK _ _ (show _ = _ by rw [HM64.out]) (Nx.refl _)))
        · have e9 : x 9 = .slice (some ⟨b, q, none⟩) 2048 c := hd 9 (by decide)
          have e12 : x 12 = .int .i64 (64 * (k : Int) + 32) := hd 12 (by decide)
          have e15 : x 15 = .int .i64 (64 * (k : Int) + 64) := hd 15 (by decide)
          generalize x 9 = y9 at e9 hK ⊢
          subst e9
          generalize x 12 = y12 at e12 hK ⊢
          subst e12
          generalize x 15 = y15 at e15 hK ⊢
          subst e15
          exact wpOp_of rfl rfl (wp_slice_of (some 34) rfl 28 (.tmp 27) (some (.tmp 30)) (some (.tmp 33)) none rfl _ (HCU2.out wr) (hK _ _ rfl (Nx.refl _)))
        · have e16 : x 16 = .slice (some ⟨b, q + (64 * k + 32), none⟩) 32 (c - (64 * k + 32)) := hd 16 (by decide)
          generalize x 16 = y16 at e16 hK ⊢
          subst e16
          refine wpOp_of rfl rfl (wp_callp_of (some 35) rfl 31 #[(.slice (some ⟨b, q + (64 * k + 32), none⟩) 32 (c - (64 * k + 32)))] (by kernel_rfl) (fun v w' => Own gB w' v (T)) ?_ hK)
          exact (HCP.out wr hx).mono fun _ _ ⟨v, h1, h2, h3⟩ => ⟨v, h1, h2.mono (by rw [← hgB.out]; exact hx.size), h3⟩
        · have r8 := hd 8 (by decide)
          exact wpOp_of rfl rfl (wp_val_of (some 9) rfl (x 8) (by kernel_rfl) (hK _ _ r8 (Nx.refl _)))
        · have r17 := hd 17 (by decide)
          exact wpOp_of rfl rfl (wp_val_of (some 10) rfl (x 17) (by kernel_rfl) (hK _ _ r17 (Nx.refl _)))
      · intro x tm wr htm hx hv
        simp only [fillA, List.setIfInBounds_toArray, List.set_cons_zero, List.set_cons_succ] at htm
        subst htm
        have e0 : x 0 = .slice (some ⟨b, q, none⟩) 2048 c := hv 0 (by decide)
        rw [e0]
        have e1 : x 1 = .int .i64 (k : Int) := hv 1 (by decide)
        rw [e1]
        have e2 : x 2 = .int .i64 (64 * (k : Int)) := hv 2 (by decide)
        rw [e2]
        have e3 : x 3 = .int .i64 (k : Int) := hv 3 (by decide)
        rw [e3]
        have e4 : x 4 = .int .i64 (64 * (k : Int)) := hv 4 (by decide)
        rw [e4]
        have e5 : x 5 = .int .i64 (64 * (k : Int) + 32) := hv 5 (by decide)
        rw [e5]
        have e6 : x 6 = .slice (some ⟨b, q + 64 * k, none⟩) 32 (c - 64 * k) := hv 6 (by decide)
        rw [e6]
        have e7 : x 7 = .agg (hcel SA) := hv 7 (by decide)
        rw [e7]
        have r8 := hv 8 (by decide)
        have e9 : x 9 = .slice (some ⟨b, q, none⟩) 2048 c := hv 9 (by decide)
        rw [e9]
        have e10 : x 10 = .int .i64 (k : Int) := hv 10 (by decide)
        rw [e10]
        have e11 : x 11 = .int .i64 (64 * (k : Int)) := hv 11 (by decide)
        rw [e11]
        have e12 : x 12 = .int .i64 (64 * (k : Int) + 32) := hv 12 (by decide)
        rw [e12]
        have e13 : x 13 = .int .i64 (k : Int) := hv 13 (by decide)
        rw [e13]
        have e14 : x 14 = .int .i64 (64 * (k : Int)) := hv 14 (by decide)
        rw [e14]
        have e15 : x 15 = .int .i64 (64 * (k : Int) + 64) := hv 15 (by decide)
        rw [e15]
        have e16 : x 16 = .slice (some ⟨b, q + (64 * k + 32), none⟩) 32 (c - (64 * k + 32)) := hv 16 (by decide)
        rw [e16]
        have r17 := hv 17 (by decide)
        have r18 := hv 18 (by decide)
        have r19 := hv 19 (by decide)
        simp only [List.drop_succ_cons, List.drop_nil, List.drop_zero]
        refine wpList_nil ?_
        have RS : Own gB wr (x 18) SA := r18
        have RT : Own gB wr (x 19) T := r19
        generalize x 18 = y18 at *
        generalize x 19 = y19 at *
        generalize x (0 + 1 + 1 + 1 + 1 + 1 + 1 + 1 + 1) = y8 at *
        generalize x (0 + 1 + 1 + 1 + 1 + 1 + 1 + 1 + 1 + 1 + 1 + 1 + 1 + 1 + 1 + 1 + 1 + 1) = y17 at *
        have U2 := hown.nx hx
        have U3 := R3.nx hx
        have U4 := R4.nx hx
        have UY := Lib.hid (Nat.le_trans HY.out hx.size)
        have UN := Lib.hid (HN.out.trans hx)
        obtain ⟨A1, m1, c1, rfl⟩ := RS.rd.sl
        obtain ⟨A2, m2, c2, rfl⟩ := RT.rd.sl
        clear hx hv hown R4 HY HN r18 r19 r8 r17
        go_wp2_with (refine wpList_load_row rfl 23 (.tmp 4) rfl (w.heap.size + 1) rfl 23 (hcel d) (0, 0) _ U4 Tryd.underlying23 rfl hdz.out ?_)
        refine (HBK.out _).mono ?_
        rintro e W5 ⟨rfl, n5⟩
        replace U2 := U2.nx n5
        replace U3 := U3.nx n5
        replace U4 := U4.nx n5
        replace RS := RS.nx n5
        replace RT := RT.nx n5
        have Y5 := Nat.le_trans UY.out n5.size
        have N5 := Lib.hid (UN.out.trans n5)
        clear n5 UY UN HBK
        rcases hb01 with rfl | rfl
        · rw [if_pos rfl] at HCB
          obtain ⟨A9, m9, c9, rfl⟩ := U2.rd.sl
          go_upto_region 11 with (refine wpList_plain rfl fun K hK => wp_app_of (some 45) rfl (.tmp 43) (.tmp 44) 28 rfl Tryd.underlying28 info_u8s W0.heap.size _ _ (flt (ckB d g) k) SA rfl rfl U2 RS.rd (by omega) Y5 fun v7 W7 o7 b7 _ => hK _ _ ?_)
          have Z2 : Own gB W7 (.slice A2 m2 c2) T := RT.grown b7 (fun b hb e => by have h1 := hult _ e; have h2 := RT.block _ hb; omega)
          have Z3 := row_grown U3 b7 U2 (by omega)
          have Z4 := row_grown U4 b7 U2 (by omega)
          have N7 := Lib.hid (N5.out.app (Below.mono (Own.below Y5 U2 b7) (by omega)))
          have Y7 := Nat.le_trans Y5 b7.size
          have hl7 := hfk
          obtain ⟨A7, m7, c7, rfl⟩ := o7.rd.sl
          clear K hK
          go_wp2_with (refine wpList_plain rfl fun K hK => wp_app_of (some 48) rfl (.tmp 46) (.tmp 47) 28 rfl Tryd.underlying28 info_u8s W0.heap.size _ _ (flt (ckB d g) k ++ SA) T rfl rfl o7 Z2.rd (by rw [List.length_append]; omega) Y7 fun v8 W8 o8 b8 _ => hK _ _ ?_)
          have X3 := row_grown Z3 b8 o7 (by omega)
          have X4 := row_grown Z4 b8 o7 (by omega)
          have N8 := Lib.hid (N7.out.app (Below.mono (Own.below Y7 o7 b8) (by omega)))
          have Y8 := Lib.hid (Nat.le_trans Y7 b8.size)
          have O8 : Own W0.heap.size W8 v8 (flt (ckB d g) (k + 1)) := by
            rw [HFN.out, HCB.out, ← List.append_assoc]
            exact o8
          obtain ⟨A8, m8, c8, rfl⟩ := o8.rd.sl
          clear K hK o7 b7 o8 b8 U2 RS RT Z2
          go_wp2_with fail
          go_roundw
          case rel => exact ⟨k + 1, by omega, by go_num, O8, Y8, N8, X3, X4⟩
          case measure => simp [intOf]; omega
        · rw [if_neg (by decide)] at HCB
          obtain ⟨A9, m9, c9, rfl⟩ := U2.rd.sl
          go_upto_region 11 with (refine wpList_plain rfl fun K hK => wp_app_of (some 45) rfl (.tmp 43) (.tmp 44) 28 rfl Tryd.underlying28 info_u8s W0.heap.size _ _ (flt (ckB d g) k) T rfl rfl U2 RT.rd (by omega) Y5 fun v7 W7 o7 b7 _ => hK _ _ ?_)
          have Z2 : Own gB W7 (.slice A1 m1 c1) SA := RS.grown b7 (fun b hb e => by have h1 := hult _ e; have h2 := RS.block _ hb; omega)
          have Z3 := row_grown U3 b7 U2 (by omega)
          have Z4 := row_grown U4 b7 U2 (by omega)
          have N7 := Lib.hid (N5.out.app (Below.mono (Own.below Y5 U2 b7) (by omega)))
          have Y7 := Nat.le_trans Y5 b7.size
          have hl7 := hfk
          obtain ⟨A7, m7, c7, rfl⟩ := o7.rd.sl
          clear K hK
          go_wp2_with (refine wpList_plain rfl fun K hK => wp_app_of (some 48) rfl (.tmp 46) (.tmp 47) 28 rfl Tryd.underlying28 info_u8s W0.heap.size _ _ (flt (ckB d g) k ++ T) SA rfl rfl o7 Z2.rd (by rw [List.length_append]; omega) Y7 fun v8 W8 o8 b8 _ => hK _ _ ?_)
          have X3 := row_grown Z3 b8 o7 (by omega)
          have X4 := row_grown Z4 b8 o7 (by omega)
          have N8 := Lib.hid (N7.out.app (Below.mono (Own.below Y7 o7 b8) (by omega)))
          have Y8 := Lib.hid (Nat.le_trans Y7 b8.size)
          have O8 : Own W0.heap.size W8 v8 (flt (ckB d g) (k + 1)) := by
            rw [HFN.out, HCB.out, ← List.append_assoc]
            exact o8
          obtain ⟨A8, m8, c8, rfl⟩ := o8.rd.sl
          clear K hK o7 b7 o8 b8 U2 RS RT Z2
          go_wp2_with fail
          go_roundw
          case rel => exact ⟨k + 1, by omega, by go_num, O8, Y8, N8, X3, X4⟩
          case measure => simp [intOf]; omega
    · obtain rfl : k = 32 := by omega
      have hrd := hown.rd
      obtain ⟨A9, m9, c9, rfl⟩ := hown.rd.sl
      have hfl := HFL.out 32 (Nat.le_refl _)
      have hS := fun W (h : Nx wr W) => rhsum_any _ _ W (hrd.nx h) (by rw [hfl]; decide)
      have HSB := Lib.hid hS
      have hSL := shaL_length (flt (ckB d g) 32)
      clear hS hrd hown
      generalize flt (ckB d g) 32 = FL at *
      generalize shaL FL = SB at *
      have EQ := Lib.hid (fun w => eq_hash2 SB key hSL HKL.out w)
      generalize hD : decide (SB = key) = D at *
      have HD := Lib.hid hD
      clear hD
      go_wp2_with fail
      refine wp_region_nx 4 [[], [0], [], [1, 2]] [some 49, some 50, some 51, some 52]
        [.eq (.slice A9 m9 c9), .eq (.agg (hcel SB)), .eq (.agg (hcel key)), .eq (.bool (!D))]
        (by kernel_rfl) (by kernel_rfl) (hord_of (by decide)) (by kernel_rfl) (by decide) (by decide) (htail_of (by decide)) ?_ _ (by rfl) ?_
      · intro x tm wr htm hx i hi hd K hK
        simp only [fillA, List.setIfInBounds_toArray, List.set_cons_zero, List.set_cons_succ] at htm
        subst htm
        have hcs : i = 0 ∨ i = 1 ∨ i = 2 ∨ i = 3 := by omega
        clear hi
        rcases hcs with rfl | rfl | rfl | rfl
        · exact wpOp_of rfl rfl (wp_val_of (some 49) rfl (.slice A9 m9 c9) (by kernel_rfl) (hK _ _ rfl (Nx.refl _)))
        · have e0 : x 0 = .slice A9 m9 c9 := hd 0 (by decide)
          generalize x 0 = y0 at e0 hK ⊢
          subst e0
          refine wpOp_of rfl rfl (wp_call_of (some 50) rfl 24 #[(.slice A9 m9 c9)] (by kernel_rfl) (.agg (hcel SB)) ?_ (fun w' h => hK _ w' rfl h))
          exact HSB.out wr hx
        · exact wpOp_of rfl rfl (wp_load_row_of (some 51) rfl 23 (.tmp 3) rfl (w.heap.size) rfl 23 (hcel key) _ (R3.nx hx) Tryd.underlying23 rfl hkz.out (hK _ _ rfl (Nx.refl _)))
        · have e1 : x 1 = .agg (hcel SB) := hd 1 (by decide)
          have e2 : x 2 = .agg (hcel key) := hd 2 (by decide)
          generalize x 1 = y1 at e1 hK ⊢
          subst e1
          generalize x 2 = y2 at e2 hK ⊢
          subst e2
          exact wpOp_of rfl rfl (wp_neq13 (some 52) rfl 23 _ _ _ rfl (hcel SB) (hcel key) rfl rfl (by kernel_rfl) D (EQ.out wr) (hK _ _ rfl (Nx.refl _)))
      · intro x tm wr htm hx hv
        simp only [fillA, List.setIfInBounds_toArray, List.set_cons_zero, List.set_cons_succ] at htm
        subst htm
        have e0 : x 0 = .slice A9 m9 c9 := hv 0 (by decide)
        rw [e0]
        have e1 : x 1 = .agg (hcel SB) := hv 1 (by decide)
        rw [e1]
        have e2 : x 2 = .agg (hcel key) := hv 2 (by decide)
        rw [e2]
        have e3 : x 3 = .bool (!D) := hv 3 (by decide)
        rw [e3]
        have NX := Lib.hid hx
        clear hx hv e0 e1 e2 e3 EQ HSB hSL hfl
        simp only [List.drop_succ_cons, List.drop_nil, List.drop_zero]
        refine wpList_nil ?_
        cases D
        · simp only [Bool.not_false]
          go_wp2_with fail
          exact bodyPost_ret (results_tmp Tryd.results21 _ _ _) rfl ⟨by rw [HE.out, if_neg (of_decide_eq_false HD.out)]; rfl, HN.out.trans NX.out⟩
        · simp only [Bool.not_true]
          go_wp2_with fail
          exact bodyPost_ret (results_tmp Tryd.results21 _ _ _) rfl ⟨by rw [HE.out, if_pos (of_decide_eq_true HD.out)]; rfl, HN.out.trans NX.out⟩
set_option maxHeartbeats 2000000 in
theorem rcheck_no (v : Value) (key d g : Bs) (w : World) (hr : Rd w v g) (hg : g.length ≠ 2048) :
    Calls Tryd.prog 21 #[.agg (hcel key), .agg (hcel d), v] w fun e w' => e = .returned (.int .i64 5) ∧ Nx w w' := by
  have hgi : ((g.length : Int) != 2048) = true := by rw [bne_iff_ne]; omega
  obtain ⟨A, c, rfl, -, -, -⟩ := hr
  have N0 := Lib.hid (((Nx.refl w).alloc (.cells (hcel key) 23)).alloc (.cells (hcel d) 23))
  generalize g.length = n at *
  go_enter Tryd.func21, Tryd.ntmps21
  go_wp2
  exact bodyPost_ret (results_tmp Tryd.results21 _ _ _) rfl ⟨rfl, N0.out⟩
theorem rcheck_any (v : Value) (key d g : Bs) (w : World) (hr : Rd w v g) (hkey : key.length = 32) (hd : d.length = 32) :
    Calls Tryd.prog 21 #[.agg (hcel key), .agg (hcel d), v] w fun e w' => e = .returned (.int .i64 (chkE key d g : Int)) ∧ Nx w w' := by
  by_cases hg : g.length = 2048
  · exact rcheck_ok v key d g w hr hg hkey hd
  · have : chkE key d g = 5 := by unfold chkE; rw [if_neg hg]
    rw [this]
    exact rcheck_no v key d g w hr hg
end Go.Proofs.YtpkopigiijiiiaaDoor
