/- LAYER 8: Get of the document. -/
import Derived.Test.YtjbeemoobmagnaaDoorHead8
namespace Go.Proofs.YtjbeemoobmagnaaDoor
open Go Go.RowKit
set_option linter.unusedVariables false
set_option linter.unusedSimpArgs false
set_option linter.unusedVariables false
set_option linter.unusedSimpArgs false

theorem hd_set_p (p r : List UInt8) (t b n i : Nat) (x : UInt8) (hi : i < p.length) : (hdc p r t b n).setIfInBounds i (.int .u8 (x.toNat : Int)) = hdc (p.set i x) r t b n := by
  have e : (bvs p).set i (.int .u8 (x.toNat : Int)) = bvs (p.set i x) := by simp [bvs, bv, List.map_set]
  simp only [hdc, hdl, List.setIfInBounds_toArray]
  rw [List.set_append_left _ _ (by rw [bvs_length]; exact hi), e]
theorem hd_set_r (p r : List UInt8) (t b n i : Nat) (x : UInt8) (hp : p.length = 32) (hi : i < r.length) : (hdc p r t b n).setIfInBounds (32 + i) (.int .u8 (x.toNat : Int)) = hdc p (r.set i x) t b n := by
  have e : (bvs r).set i (.int .u8 (x.toNat : Int)) = bvs (r.set i x) := by simp [bvs, bv, List.map_set]
  simp only [hdc, hdl, List.setIfInBounds_toArray]
  rw [List.set_append_right _ _ (by rw [bvs_length, hp]; omega), bvs_length, hp, Nat.add_sub_cancel_left, List.set_append_left _ _ (by rw [bvs_length]; exact hi), e]
theorem hd_set_t (p r : List UInt8) (t b n x : Nat) (hp : p.length = 32) (hr : r.length = 32) : (hdc p r t b n).setIfInBounds 64 (.int .u32 (x : Int)) = hdc p r x b n := by
  simp only [hdc, hdl, List.setIfInBounds_toArray]
  rw [List.set_append_right _ _ (by rw [bvs_length, hp]; omega), bvs_length, hp, List.set_append_right _ _ (by rw [bvs_length, hr]; omega), bvs_length, hr]
  rfl
theorem hd_set_b (p r : List UInt8) (t b n x : Nat) (hp : p.length = 32) (hr : r.length = 32) : (hdc p r t b n).setIfInBounds 65 (.int .u32 (x : Int)) = hdc p r t x n := by
  simp only [hdc, hdl, List.setIfInBounds_toArray]
  rw [List.set_append_right _ _ (by rw [bvs_length, hp]; omega), bvs_length, hp, List.set_append_right _ _ (by rw [bvs_length, hr]; omega), bvs_length, hr]
  rfl
theorem hd_set_n (p r : List UInt8) (t b n x : Nat) (hp : p.length = 32) (hr : r.length = 32) : (hdc p r t b n).setIfInBounds 66 (.int .u32 (x : Int)) = hdc p r t b x := by
  simp only [hdc, hdl, List.setIfInBounds_toArray]
  rw [List.set_append_right _ _ (by rw [bvs_length, hp]; omega), bvs_length, hp, List.set_append_right _ _ (by rw [bvs_length, hr]; omega), bvs_length, hr]
  rfl
set_option maxRecDepth 100000 in
set_option maxHeartbeats 8000000 in
theorem rhget_any (v : Value) (l : List UInt8) (at_ : Int) (w : World) (h : Rd w v l) (hr : l.length ≤ 140737488355328) :
    Calls Tryd.prog 26 #[v, .int .i64 at_] w fun e w' => e = .returned (.tuple #[.agg (hdc (hgT l at_).p (hgT l at_).r (hgT l at_).t (hgT l at_).b (hgT l at_).n), .int .i64 (hgT l at_).at_, .int .i64 (hgT l at_).e]) ∧ Nx w w' := by
  have HP := Lib.hid (fun w h => refPart_any v l at_ 76 w h hr)
  have HR := Lib.hid h
  obtain ⟨A, c, rfl, -⟩ := h
  obtain ⟨hz, hzs⟩ := zero_of_info info_head
  have HZL := Lib.hid Z32_length
  have cz := Lib.hid (headsz Z32 Z32 0 0 0 HZL.out HZL.out)
  have hl : w.heap.size ≤ w.heap.size := Nat.le_refl _
  unfold hgT
  by_cases hE : cutE l.length at_ 76 = 0
  · obtain ⟨q1, q2, q3⟩ := cut76 hE
    rw [if_pos hE]
    rw [hE] at HP
    unfold hdOf
    dsimp only
    have HQ := Lib.hid q1
    have q4 : at_ + 76 ≤ 9223372036854775807 := by omega
    obtain ⟨a1, a2, a3⟩ := getAt _ 76 q1 64 4 (by decide) (by decide)
    obtain ⟨a4, a5, a6⟩ := getAt _ 76 q1 68 4 (by decide) (by decide)
    obtain ⟨a7, a8, a9⟩ := getAt _ 76 q1 72 4 (by decide) (by decide)
    have HN1 : Hid (∀ v w, Rd w v (cutL l at_ 76) → Calls Tryd.prog 60 #[v, .int .i64 64, .int .i64 4] w fun e w' => e = .returned (.tuple #[.int .u64 (num (((cutL l at_ 76).drop 64).take 4) : Int), .int .i64 0]) ∧ Nx w w') := Lib.hid fun v w h => by
      have := refGet_any v _ 64 4 w h (by omega)
      rw [show getE (cutL l at_ 76).length 64 4 = 0 from a1, show getN (cutL l at_ 76) 64 4 = _ from a2] at this
      exact this
    have HN2 : Hid (∀ v w, Rd w v (cutL l at_ 76) → Calls Tryd.prog 60 #[v, .int .i64 68, .int .i64 4] w fun e w' => e = .returned (.tuple #[.int .u64 (num (((cutL l at_ 76).drop 68).take 4) : Int), .int .i64 0]) ∧ Nx w w') := Lib.hid fun v w h => by
      have := refGet_any v _ 68 4 w h (by omega)
      rw [show getE (cutL l at_ 76).length 68 4 = 0 from a4, show getN (cutL l at_ 76) 68 4 = _ from a5] at this
      exact this
    have HN3 : Hid (∀ v w, Rd w v (cutL l at_ 76) → Calls Tryd.prog 60 #[v, .int .i64 72, .int .i64 4] w fun e w' => e = .returned (.tuple #[.int .u64 (num (((cutL l at_ 76).drop 72).take 4) : Int), .int .i64 0]) ∧ Nx w w') := Lib.hid fun v w h => by
      have := refGet_any v _ 72 4 w h (by omega)
      rw [show getE (cutL l at_ 76).length 72 4 = 0 from a7, show getN (cutL l at_ 76) 72 4 = _ from a8] at this
      exact this
    rw [p4] at a3 a6 a9
    have HXL : Hid (((cutL l at_ 76).take 32).length = 32) := Lib.hid (by rw [List.length_take]; omega)
    have HYL : Hid ((((cutL l at_ 76).drop 32).take 32).length = 32) := Lib.hid (by rw [List.length_take, List.length_drop]; omega)
    clear hE q1 q3 a1 a2 a4 a5 a7 a8
    generalize cutL l at_ 76 = L at *
    generalize num ((L.drop 64).take 4) = T at *
    generalize num ((L.drop 68).take 4) = B at *
    generalize num ((L.drop 72).take 4) = N at *
    have hT : IntKind.u32.wrap (T : Int) = (T : Int) := by rw [show IntKind.u32.wrap (T : Int) = (T : Int) % 4294967296 from rfl]; omega
    have hB : IntKind.u32.wrap (B : Int) = (B : Int) := by rw [show IntKind.u32.wrap (B : Int) = (B : Int) % 4294967296 from rfl]; omega
    have hN : IntKind.u32.wrap (N : Int) = (N : Int) := by rw [show IntKind.u32.wrap (N : Int) = (N : Int) % 4294967296 from rfl]; omega
    have hT2 : (T : Int) % 4294967296 = (T : Int) := by omega
    have hB2 : (B : Int) % 4294967296 = (B : Int) := by omega
    have hN2 : (N : Int) % 4294967296 = (N : Int) := by omega
    have HXE : Hid (∀ j, j < 32 → (L.take 32)[j]? = L[j]?) := Lib.hid fun j hj => List.getElem?_take_of_lt hj
    have HYE : Hid (∀ j, j < 32 → ((L.drop 32).take 32)[j]? = L[32 + j]?) := Lib.hid fun j hj => by rw [List.getElem?_take_of_lt hj, List.getElem?_drop]
    generalize L.take 32 = X at *
    generalize (L.drop 32).take 32 = Y at *
    have HTW := Lib.hid (And.intro hT hT2)
    have HBW := Lib.hid (And.intro hB hB2)
    have HNW := Lib.hid (And.intro hN hN2)
    clear a3 a6 a9 hT hT2 hB hB2 hN hN2
    go_enter Tryd.func26, Tryd.ntmps26
    go_wp2_with fail
    refine (HP.out _ (HR.out.alloc _)).mono ?_
    rintro e w1 ⟨v1, rfl, o1, n1⟩
    have R4 := ((Row.new w (hdc Z32 Z32 0 0 0) 32 _ rfl).nx n1).alloc (.cells (hdc Z32 Z32 0 0 0) 32)
    have HNE : Hid (w.heap.size ≠ w1.heap.size) := Lib.hid (Nat.ne_of_lt ((Row.new w (hdc Z32 Z32 0 0 0) 32 _ rfl).nx n1).lt)
    have N1 := Lib.hid (((Nx.refl w).alloc (.cells (hdc Z32 Z32 0 0 0) 32)).trans n1)
    have O1 := Lib.hid o1.rd
    have RL := o1.rd
    obtain ⟨A1, c1, rfl, hc1', hm1', ha1⟩ := RL
    obtain ⟨b1, o1', rfl, hb1, hc1⟩ := ha1 (by rw [HQ.out]; decide)
    have HC1 := Lib.hid hc1
    have HB1 := Lib.hid hb1
    have hL76 : (L.length : Int) = 76 := by rw [HQ.out]; rfl
    have RP := Row.new w1 (hdc Z32 Z32 0 0 0) 32 _ rfl
    have eX0 : hashZ X 0 = Z32 := hashZ_zero X
    have eY0 : hashZ Y 0 = Z32 := hashZ_zero Y
    have RP0 : Row (w1.alloc (.cells (hdc Z32 Z32 0 0 0) 32)) w1.heap.size (hdc (hashZ X 0) (hashZ Y 0) 0 0 0) 32 := by rw [eX0, eY0]; exact RP
    have N2 : Hid (Nx w1 (w1.alloc (.cells (hdc Z32 Z32 0 0 0) 32))) := Lib.hid ((Nx.refl w1).alloc _)
    clear o1 n1 hc1' hm1' ha1 hc1 hb1 eX0 eY0 RP
    go_wp2_with fail
    generalize w1.alloc (.cells (hdc Z32 Z32 0 0 0) 32) = W1 at *
    go_loopw [10] (fun i wr => ∃ j : Nat, j ≤ 32 ∧ i = .int .i64 j ∧ Row wr w1.heap.size (hdc (hashZ X j) (hashZ Y j) 0 0 0) 32 ∧ Row wr w.heap.size (hdc Z32 Z32 0 0 0) 32 ∧ Hid (Nx w1 wr)) (fun i _ => 32 - (intOf i).toNat)
    case atStart => exact ⟨0, by omega, rfl, RP0, R4, N2.out⟩
    case round =>
      obtain ⟨j, hj, rfl, hrow, hr4, hx⟩ := hrel
      by_cases hlt : j < 32
      · have hj0 : (0 : Int) ≤ (j : Int) := by omega
        have hlt' : (j : Int) < 32 := by omega
        have hl1 : (j : Int) < (L.length : Int) := by omega
        have hl2 : (32 : Int) + (j : Int) < (L.length : Int) := by omega
        have hw1 : wrap64 (32 + (j : Int)) = 32 + (j : Int) := by unfold wrap64; omega
        have hjl : j < L.length := Int.ofNat_lt.mp hl1
        have hjl2 : 32 + j < L.length := Int.ofNat_lt.mp (by rw [Int.natCast_add]; exact hl2)
        obtain ⟨x, hx0⟩ : ∃ x, L[j]'hjl = x := ⟨_, rfl⟩
        obtain ⟨y, hy0⟩ : ∃ y, L[32 + j]'hjl2 = y := ⟨_, rfl⟩
        have hx1 : X[j]? = some x := by rw [HXE.out j hlt, List.getElem?_eq_getElem hjl, hx0]
        have hy1 : Y[j]? = some y := by rw [HYE.out j hlt, List.getElem?_eq_getElem hjl2, hy0]
        have k1 := (Nx.cell hx (p := ⟨b1, o1' + j, none⟩) HB1.out).trans (HC1.out j hjl)
        have k3 := HC1.out (32 + j) hjl2
        rw [hx0] at k1
        rw [hy0] at k3
        clear hx0 hy0 hjl hjl2
        have eX := Lib.hid (hashZ_next X j x hlt HXL.out hx1)
        have eY := Lib.hid (hashZ_next Y j y hlt HYL.out hy1)
        have zX := hashZ_length X j hj HXL.out
        have zY := hashZ_length Y j hj HYL.out
        have ZX := Lib.hid zX
        have ZY := Lib.hid zY
        have hR1 := hrow.set j (.int .u8 (x.toNat : Int))
        rw [hd_set_p _ _ _ _ _ _ _ (by rw [zX]; exact hlt), eX.out] at hR1
        have c1a := hrow.cell (i := j) (hd_p (hashZ X j) (hashZ Y j) 0 0 0 j (by rw [zX]; exact hlt))
        have f1a := hrow.frozen j
        have c2a := hR1.cell (i := 32 + j) (hd_r (hashZ X (j + 1)) (hashZ Y j) 0 0 0 (hashZ_length X (j + 1) hlt HXL.out) j (by rw [zY]; exact hlt))
        have f2a := hR1.frozen (32 + j)
        have hR2 := hR1.set (32 + j) (.int .u8 (y.toNat : Int))
        rw [hd_set_r _ _ _ _ _ _ _ (hashZ_length X (j + 1) hlt HXL.out) (by rw [zY]; exact hlt), eY.out] at hR2
        have hx2 := Nx.setAt hx (k := w1.heap.size) (i := j) (.int .u8 (x.toNat : Int)) (Nat.le_refl _)
        have k2' : (wr.setCell ⟨w1.heap.size, j, none⟩ (.int .u8 (x.toNat : Int))).cell? ⟨b1, o1' + (32 + j), none⟩ = some (.int .u8 (y.toNat : Int)) := (hx2.cell (p := ⟨b1, o1' + (32 + j), none⟩) HB1.out).trans k3
        have HX3 := Lib.hid (hx2.setAt (k := w1.heap.size) (i := 32 + j) (.int .u8 (y.toNat : Int)) (Nat.le_refl _))
        have HR2 := Lib.hid hR2
        have HR4 := Lib.hid ((hr4.other w1.heap.size j (.int .u8 (x.toNat : Int)) HNE.out).other w1.heap.size (32 + j) (.int .u8 (y.toNat : Int)) HNE.out)
        generalize bv _ = xx at c1a
        generalize bv _ = yy at c2a
        clear hx2 hR1 hR2 hrow hr4 hx zX zY k3
        unfold bv at k1
        go_wp2_with fail
        go_roundw
        case rel => exact ⟨j + 1, by omega, by go_num, HR2.out, HR4.out, HX3.out⟩
        case measure => simp [intOf]; omega
      · obtain rfl : j = 32 := by omega
        rw [hashZ_all X HXL.out, hashZ_all Y HYL.out] at hrow
        have NX := Lib.hid hx
        obtain ⟨hT, hT2⟩ := HTW.out
        obtain ⟨hB, hB2⟩ := HBW.out
        obtain ⟨hN, hN2⟩ := HNW.out
        have O2 := Lib.hid (Rd.nx O1.out hx)
        clear hx hlt hj
        go_wp2_with fail
        refine (HN1.out _ _ O2.out).mono ?_
        rintro e w2 ⟨rfl, n2⟩
        have r2 := hrow.nx n2
        have r4 := hr4.nx n2
        have O3 := Lib.hid (O2.out.nx n2)
        have N3 := Lib.hid (Nx.trans NX.out n2)
        clear n2 hrow hr4
        go_wp2_with fail
        refine (HN2.out _ _ O3.out).mono ?_
        rintro e w3 ⟨rfl, n3⟩
        have r5 := r2.nx n3
        have r6 := r4.nx n3
        have O4 := Lib.hid (O3.out.nx n3)
        have N4 := Lib.hid (N3.out.trans n3)
        clear n3 r2 r4
        go_wp2_with fail
        refine (HN3.out _ _ O4.out).mono ?_
        rintro e w4 ⟨rfl, n4⟩
        have r7 := r5.nx n4
        have r8 := r6.nx n4
        have N5 := Lib.hid (N4.out.trans n4)
        clear n4 r5 r6
        have cA := r7.cell (hd_t X Y 0 0 0 HXL.out HYL.out)
        have fA := r7.frozen 64
        have ra := r7.set 64 (.int .u32 (T : Int))
        rw [hd_set_t _ _ _ _ _ _ HXL.out HYL.out] at ra
        have cB := ra.cell (hd_b X Y T 0 0 HXL.out HYL.out)
        have fB := ra.frozen 65
        have rb := ra.set 65 (.int .u32 (B : Int))
        rw [hd_set_b _ _ _ _ _ _ HXL.out HYL.out] at rb
        have cC := rb.cell (hd_n X Y T B 0 HXL.out HYL.out)
        have fC := rb.frozen 66
        have rc := rb.set 66 (.int .u32 (N : Int))
        rw [hd_set_n _ _ _ _ _ _ HXL.out HYL.out] at rc
        have rd := ((r8.other w1.heap.size 64 (.int .u32 (T : Int)) HNE.out).other w1.heap.size 65 (.int .u32 (B : Int)) HNE.out).other w1.heap.size 66 (.int .u32 (N : Int)) HNE.out
        have NF := Lib.hid ((((N1.out.trans N5.out).setAt (k := w1.heap.size) (i := 64) (.int .u32 (T : Int)) N1.out.size).setAt (k := w1.heap.size) (i := 65) (.int .u32 (B : Int)) N1.out.size).setAt (k := w1.heap.size) (i := 66) (.int .u32 (N : Int)) N1.out.size)
        have ix := Lib.hid (headsz X Y T B N HXL.out HYL.out)
        have jx := Lib.hid (headsame Z32 Z32 X Y 0 0 0 T B N HZL.out HZL.out HXL.out HYL.out)
        clear r7 r8 ra rb
        go_wp2_with (first | (refine wpList_load_row rfl 32 (.tmp 9) rfl w1.heap.size rfl 32 (hdc X Y T B N) (0, 0) _ rc Tryd.underlying32 rfl ix.out ?_) | (refine wpList_store_row rfl 32 (.tmp 4) (.tmp 70) rfl w.heap.size (hdc X Y T B N) rfl rfl 32 (hdc Z32 Z32 0 0 0) rd ix.out jx.out (hd_one _ _ _ _ _) ?_))
        exact bodyPost_ret (results_cell_three Tryd.results26 _ _ w.heap.size 32 (hdc X Y T B N) (0, 0) _ rfl (rd.setRow _) Tryd.underlying32 rfl ix.out) rfl ⟨rfl, NF.out.setRow _ hl⟩
  · rw [if_neg hE]
    unfold HD.bad
    generalize cutE l.length at_ 76 = E at *
    generalize cutL l at_ 76 = L at *
    have dE : (E != 0) = true := by simp [hE]
    clear hE
    go_enter Tryd.func26, Tryd.ntmps26
    go_wp2_with fail
    refine (HP.out _ (HR.out.alloc _)).mono ?_
    rintro e w1 ⟨v1, rfl, o1, n1⟩
    have R4 := (Row.new w (hdc Z32 Z32 0 0 0) 32 _ rfl).nx n1
    have N1 := Lib.hid (((Nx.refl w).alloc (.cells (hdc Z32 Z32 0 0 0) 32)).trans n1)
    clear o1 n1
    go_wp2_with (first | (refine wpList_val (some 25) rfl rfl (.agg (hdc Z32 Z32 0 0 0)) ?_ ?_; (focus kernel_rfl)) | (refine wpList_store_row rfl 32 (.tmp 4) (.tmp 25) rfl w.heap.size (hdc Z32 Z32 0 0 0) rfl rfl 32 (hdc Z32 Z32 0 0 0) R4 cz.out rfl (hd_one _ _ _ _ _) ?_))
    exact bodyPost_ret (results_cell_three Tryd.results26 _ _ w.heap.size 32 (hdc Z32 Z32 0 0 0) (0, 0) _ rfl (R4.setRow _) Tryd.underlying32 rfl cz.out) rfl ⟨rfl, N1.out.setRow _ hl⟩
end Go.Proofs.YtjbeemoobmagnaaDoor
