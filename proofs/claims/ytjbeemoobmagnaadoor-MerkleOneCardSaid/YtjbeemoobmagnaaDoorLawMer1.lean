/- LAYER 9: the walk of MerkleTells. -/
import Derived.Test.YtjbeemoobmagnaaDoorMer12
namespace Go.Proofs.YtjbeemoobmagnaaDoor
open Go Go.RowKit
set_option linter.unusedVariables false
set_option linter.unusedSimpArgs false
set_option linter.unusedVariables false
set_option linter.unusedSimpArgs false

section
variable {P : Program}
/-- A slice up to a place, of elements of k cells. -/
theorem slice_to_k (t e : TypeId) (ht : P.underlying t = some (.slice e)) (k : Nat) (hsz : ∀ w, (sizeOf e).run P w = .ok k w) (A : Option Addr) (n c hi : Nat) (zh : Int) (hh : zh = hi) (h1 : hi ≤ c) (w : World) :
    (Instr.sliceAt t (.slice A n c) none (some (.int .i64 zh)) none).run P w = .ok (.slice A hi c) w := by
  subst hh
  have e2 : (hi : Int) ≤ (c : Int) := by omega
  rcases A with _ | ⟨b, o, p⟩
  · simp [Instr.sliceAt, Instr.slice, Instr.sureAddr, run_underlying ht, Instr.sliceBounds, run_sliceBound, hsz, e2, h1]
  · simp [Instr.sliceAt, Instr.slice, Instr.sureAddr, run_underlying ht, Instr.sliceBounds, run_sliceBound, hsz, e2, h1]
    intro _
    unfold Addr.add
    simp
end
theorem wpList_gd {P : Program} {ops : Array Oper} {rest : List Oper} {o : Oper} {a : Act} {w : World} {Q : Exit → Act → World → Prop} (hw : Region.wanted o (yielded ops a.tmps) = true)
    (h : ∀ K : Act → World → Prop, (∀ a w, wpList P ops Q rest a w → K a w) → o.wp P a w K Q) : wpList P ops Q (o :: rest) a w :=
  wpList_step fun K hK => by rw [if_pos hw]; exact h K hK
theorem wp_eqb_of2 {P : Program} {o : Oper} {a : Act} {w : World} {K : Act → World → Prop} {Q : Exit → Act → World → Prop} (dst : Option Tmp) (hd : o.dst = dst) (T : TypeId) (x y : Operand) (T' : TypeId) (ho : o.op = .binOp .eql T x y T') (z : Bool)
    (hx : a.eval x = .bool z) (hy : a.eval y = .bool z) (heq : ∀ w, (Op.equal T (.bool z) (.bool z)).run P w = .ok true w) (h : K (a.put dst (.bool true)) w) : o.wp P a w K Q := by
  refine wp_val_of dst hd (.bool true) ?_ h
  unfold execOp
  simp only [ho, hx, hy]
  have e1 : (eqGuard .eql T x y (.bool z) (.bool z)).run P w = .ok () w := by
    simp [eqGuard]
  have e2 : (binOp .eql T (.bool z) (.bool z)).run P w = .ok (.bool true) w := by
    simp [binOp, heq]
  simp only [Sem.run_bind, e1, e2, Result.andThen_ok, Sem.run_pure]
theorem eqb_same2 (z : Bool) (w : World) : (Op.equal 4 (.bool z) (.bool z)).run Tryd.prog w = .ok true w := by cases z <;> kernel_rfl
theorem nx_box {a b : World} (n : Nx a b) (z c : Array Value) : Nx a ((b.alloc (.cells z 30)).setRow b.heap.size c) := (n.alloc _).setRow _ n.size
theorem wayF_le2 : ∀ (l : Hs) (n : Nat), (wayF l n).length ≤ l.length := by
  intro l
  induction hn : l.length using Nat.strongRecOn generalizing l with
  | _ m ih =>
    intro n
    by_cases h1 : l.length ≤ 1
    · rw [wayF_le h1]; simp
    · rw [wayF_gt h1, List.length_cons]
      have := ih _ (by rw [← hn]; exact abv_lt h1) (abv l) rfl (n / 2)
      have := abv_lt h1
      omega
theorem wayO_le (l : Hs) (n : Int) (h : l.length ≤ 100) : (wayO l n).length ≤ 1000000 := by
  unfold wayO
  split
  · have := wayF_le2 l n.toNat
    omega
  · simp
theorem take_len (l : Hs) (m : Nat) : (l.take m).length ≤ m := by rw [List.length_take]; omega

set_option maxRecDepth 100000 in
set_option maxHeartbeats 8000000 in
theorem merkleTells_law {w : World} (v0 : Value) (l0 : Hs) (h0 : RdE elH w v0 l0) (n : Int) (_ : -9223372036854775808 ≤ n) (_ : n ≤ 9223372036854775807) (h : List UInt8) (hh : h.length = 32) (many : Int) (_ : -9223372036854775808 ≤ many) (_ : many ≤ 9223372036854775807) (v4 : Value) (l4 : Hs) (h4 : RdE elH w v4 l4) (hk : KIs w) :
    Calls Tryd.prog 8 #[v0, .int .i64 n, .agg (hcel h), .int .i64 many, v4] w fun e w' => e = .returned (.bool true) ∧ Nx w w' := by
  obtain ⟨hz, hzs⟩ := zero_of_info info_hash'
  change ∀ w, (zeroValue 30).run Tryd.prog w = .ok (.agg (hcel hZ)) w at hz
  have LZ := Lib.hid hZ_length
  generalize hZ = ZZ at *
  have LH := Lib.hid hh
  have iH := Lib.hid (hashsz h hh)
  have RB0 := Row.new w (hcel h) 30 _ rfl
  have N0 := Lib.hid ((Nx.refl w).alloc (.cells (hcel h) 30))
  have HK := Lib.hid (hk.nx N0.out)
  have R0 := h0.nx N0.out
  have R4 := h4.nx N0.out
  clear h0 h4 hk hh
  obtain ⟨A0, c0, rfl, hc0, hm0, -⟩ := R0.h_parts
  obtain ⟨A4, c4, rfl, hc4, hm4, -⟩ := R4.h_parts
  have HR0 := Lib.hid R0
  have HR4 := Lib.hid R4
  have hc0' := Lib.hid hc0
  have hm0' := Lib.hid hm0
  have hc4' := Lib.hid hc4
  have hm4' := Lib.hid hm4
  clear R0 R4 hc0 hm0 hc4 hm4
  go_enter Tryd.func8, Tryd.ntmps8
  go_upto_if 25 with fail
  go_cut [0] (fun sl wx => wx = w.alloc (.cells (hcel h) 30) ∧ Hid (RdE elH wx sl (l0.take 100)))
  case first =>
    by_cases hle : l0.length ≤ 100
    · have ht : decide ((100 : Int) < (l0.length : Int)) = false := by simp; omega
      have ht2 : decide (100 < l0.length) = false := by simp; omega
      go_wp2_with fail
      go_meet
      exact ⟨rfl, Lib.hid (by rw [List.take_of_length_le hle]; exact HR0.out)⟩
    · have ht : decide ((100 : Int) < (l0.length : Int)) = true := by simp; omega
      have ht2 : decide (100 < l0.length) = true := by simp; omega
      have hs := slice_to_k (P := Tryd.prog) 46 30 Tryd.underlying46 32 Tryd.sizeOf30 A0 l0.length c0 100 100 rfl (by have := hc0'.out; omega)
      go_wp2_with fail
      go_meet
      exact ⟨rfl, Lib.hid (HR0.out.pre 100 c0 (by omega) (by have := hc0'.out; omega) hm0'.out)⟩
  case rest =>
    obtain ⟨rfl, HR1⟩ := hcut
    clear HR0
    have HL1 := Lib.hid (take_len l0 100)
    generalize l0.take 100 = l at *
    generalize w.alloc (.cells (hcel h) 30) = wc at *
    go_upto_if 30 with fail
    go_cut [4] (fun sl wx => wx = wc ∧ Hid (RdE elH wx sl (l4.take 25)))
    case first =>
      by_cases hle : l4.length ≤ 25
      · have ht : decide ((25 : Int) < (l4.length : Int)) = false := by simp; omega
        have ht2 : decide (25 < l4.length) = false := by simp; omega
        go_wp2_with fail
        go_meet
        exact ⟨rfl, Lib.hid (by rw [List.take_of_length_le hle]; exact HR4.out)⟩
      · have ht : decide ((25 : Int) < (l4.length : Int)) = true := by simp; omega
        have ht2 : decide (25 < l4.length) = true := by simp; omega
        have hs := slice_to_k (P := Tryd.prog) 46 30 Tryd.underlying46 32 Tryd.sizeOf30 A4 l4.length c4 25 25 rfl (by have := hc4'.out; omega)
        go_wp2_with fail
        go_meet
        exact ⟨rfl, Lib.hid (HR4.out.pre 25 c4 (by omega) (by have := hc4'.out; omega) hm4'.out)⟩
    case rest =>
      obtain ⟨rfl, HR5⟩ := hcut
      clear HR4 hc0' hm0' hc4' hm4'
      generalize l4.take 25 = way at *
      obtain ⟨Al, cl, hvl, -⟩ := HR1.out.h_parts
      obtain ⟨Aw, cw, hvw, -⟩ := HR5.out.h_parts
      subst hvl hvw

      have H32 := Lib.hid HR1.out.h32
      have LRH := Lib.hid (rootH_length H32.out)
      have LLO := Lib.hid (leadsO_length h n many way LH.out)
      have C1 := Lib.hid (fun W (x : Nx wc W) => mroot_any _ l W (HR1.out.nx x) (by have := HL1.out; omega) (HK.out.nx x))
      have C2 := Lib.hid (fun W (x : Nx wc W) => rroot_any _ l W (HR1.out.nx x) (by have := HL1.out; omega))
      have C3 := Lib.hid (fun W (x : Nx wc W) => mway_all _ l n W (HR1.out.nx x) (by have := HL1.out; omega) (HK.out.nx x))
      have C4 := Lib.hid (fun W (x : Nx wc W) => rway_all _ l n W (HR1.out.nx x) (by have := HL1.out; omega))
      have C5 := Lib.hid (fun W (x : Nx wc W) => mleads_all h n many _ way W LH.out (HR5.out.nx x) (HK.out.nx x))
      have C6 := Lib.hid (fun W (x : Nx wc W) => rleads_all h n many _ way W LH.out (HR5.out.nx x))
      have C7 : Hid (∀ W v1 v2, RdE elH W v1 (wayO l n) → RdE elH W v2 (wayO l n) → Calls Tryd.prog 37 #[v1, v2] W fun e w' => e = .returned (.bool true) ∧ Nx W w') := Lib.hid fun W v1 v2 r1 r2 => by
        have := hashes_any v1 v2 (wayO l n) (wayO l n) W r1 r2 (wayO_le l n HL1.out)
        rwa [show decide (wayO l n = wayO l n) = true by simp] at this
      have C8 := Lib.hid (fun W (x : Nx wc W) => mworks_any W (HK.out.nx x))
      generalize rootH l = RH at *
      generalize rootB l = RB at *
      generalize wayO l n = F at *
      generalize wayE l n = E at *
      generalize (leadsO h n many way).1 = LO at *
      generalize (leadsO h n many way).2 = LE at *
      have iR := Lib.hid (hashsz RH LRH.out)
      have oR := Lib.hid (hashsame ZZ RH LZ.out LRH.out)
      have iL := Lib.hid (hashsz LO LLO.out)
      have oL := Lib.hid (hashsame ZZ LO LZ.out LLO.out)
      have EQ1 := Lib.hid (fun w => eq_hash' RH LRH.out w)
      have EQ2 := Lib.hid (fun w => eq_hash' LO LLO.out w)
      have NR := Nx.refl wc
      generalize l.length = ln at *
      generalize way.length = wn at *
      go_wp2_with fail
      refine (C1.out _ NR).mono ?_
      rintro e w3 ⟨rfl, n3⟩
      have Z3 := Row.new w3 (hcel ZZ) 30 _ rfl
      have R3 := Z3.setRow (hcel RH)
      have N3 := (NR.trans n3).alloc (.cells (hcel ZZ) 30) |>.setRow (g := w3.heap.size) (hcel RH) (NR.trans n3).size
      have B3 := ((RB0.nx (NR.trans n3)).alloc (.cells (hcel ZZ) 30)).setRow_other (k := w3.heap.size) (hcel RH) (by have := (RB0.nx (NR.trans n3)).lt; omega)
      go_wp2_with (refine wpList_store_row rfl 30 (.tmp 11) (.tmp 36) rfl w3.heap.size (hcel RH) rfl rfl 30 (hcel ZZ) Z3 iR.out oR.out (hcel_one _) ?_)
      generalize (w3.alloc (.cells (hcel ZZ) 30)).setRow w3.heap.size (hcel RH) = W3 at *
      clear n3 NR RB0 Z3
      refine (C2.out _ N3).mono ?_
      rintro e w4 ⟨rfl, n4⟩
      have Z4 := Row.new w4 (hcel ZZ) 30 _ rfl
      have R4 := Z4.setRow (hcel RH)
      have R3b := ((R3.nx n4).alloc (.cells (hcel ZZ) 30)).setRow_other (k := w4.heap.size) (hcel RH) (by have := (R3.nx n4).lt; omega)
      have B4 := ((B3.nx n4).alloc (.cells (hcel ZZ) 30)).setRow_other (k := w4.heap.size) (hcel RH) (by have := (B3.nx n4).lt; omega)
      have N4 := (N3.trans n4).alloc (.cells (hcel ZZ) 30) |>.setRow (g := w4.heap.size) (hcel RH) (N3.trans n4).size
      go_wp2_with (refine wpList_store_row rfl 30 (.tmp 13) (.tmp 41) rfl w4.heap.size (hcel RH) rfl rfl 30 (hcel ZZ) Z4 iR.out oR.out (hcel_one _) ?_)
      generalize (w4.alloc (.cells (hcel ZZ) 30)).setRow w4.heap.size (hcel RH) = W4 at *
      clear n4 N3 R3 B3 Z4
      refine (C3.out _ N4).mono ?_
      rintro e w5 ⟨v5, rfl, o5, n5⟩
      have RV5 := Lib.hid o5.rd
      have R3 := R3b.nx n5
      have R4a := R4.nx n5
      have B5 := B4.nx n5
      have N5 := N4.trans n5
      clear o5 n5 N4 R3b R4 B4
      go_wp2_with fail
      refine (C4.out _ N5).mono ?_
      rintro e w6 ⟨v6, rfl, o6, n6⟩
      have RV6 := Lib.hid o6.rd
      have RV5b := Lib.hid (RV5.out.nx n6)
      have R3b := R3.nx n6
      have R4 := R4a.nx n6
      have B6 := B5.nx n6
      have N6 := N5.trans n6
      clear o6 n6 N5 R3 R4a B5 RV5
      go_wp2_with (refine wpList_load_row rfl 30 (.tmp 7) rfl w.heap.size rfl 30 (hcel h) (0, 0) _ B6 Tryd.underlying30 rfl iH.out ?_)
      refine (C5.out _ N6).mono ?_
      rintro e w7 ⟨rfl, n7⟩
      have Z7 := Row.new w7 (hcel ZZ) 30 _ rfl
      have R7z := Z7.setRow (hcel LO)
      have R3bn := ((R3b.nx n7).alloc (.cells (hcel ZZ) 30)).setRow_other (k := w7.heap.size) (hcel LO) (by have := (R3b.nx n7).lt; omega)
      have R4n := ((R4.nx n7).alloc (.cells (hcel ZZ) 30)).setRow_other (k := w7.heap.size) (hcel LO) (by have := (R4.nx n7).lt; omega)
      have B6n := ((B6.nx n7).alloc (.cells (hcel ZZ) 30)).setRow_other (k := w7.heap.size) (hcel LO) (by have := (B6.nx n7).lt; omega)
      have N7 := (N6.trans n7).alloc (.cells (hcel ZZ) 30) |>.setRow (g := w7.heap.size) (hcel LO) (N6.trans n7).size
      have V5n := Lib.hid (RV5b.out.nx (nx_box n7 (hcel ZZ) (hcel LO)))
      have V6n := Lib.hid (RV6.out.nx (nx_box n7 (hcel ZZ) (hcel LO)))
      go_wp2_with (first | (refine wpList_store_row rfl 30 (.tmp 19) (.tmp 61) rfl w7.heap.size (hcel LO) rfl rfl 30 (hcel ZZ) Z7 iL.out oL.out (hcel_one _) ?_) | (refine wpList_load_row rfl 30 (.tmp 7) rfl w.heap.size rfl 30 (hcel h) (0, 0) _ B6n Tryd.underlying30 rfl iH.out ?_))
      generalize (w7.alloc (.cells (hcel ZZ) 30)).setRow w7.heap.size (hcel LO) = W7 at *
      clear n7 N6 Z7 R3b R4 B6 RV5b RV6
      have R3b := R3bn
      have R4 := R4n
      have B6 := B6n
      have RV5b := V5n
      have RV6 := V6n
      have R7 := R7z
      clear R3bn R4n B6n V5n V6n R7z
      refine (C6.out _ N7).mono ?_
      rintro e w8 ⟨rfl, n8⟩
      have Z8 := Row.new w8 (hcel ZZ) 30 _ rfl
      have R8z := Z8.setRow (hcel LO)
      have R3bn := ((R3b.nx n8).alloc (.cells (hcel ZZ) 30)).setRow_other (k := w8.heap.size) (hcel LO) (by have := (R3b.nx n8).lt; omega)
      have R4n := ((R4.nx n8).alloc (.cells (hcel ZZ) 30)).setRow_other (k := w8.heap.size) (hcel LO) (by have := (R4.nx n8).lt; omega)
      have R7n := ((R7.nx n8).alloc (.cells (hcel ZZ) 30)).setRow_other (k := w8.heap.size) (hcel LO) (by have := (R7.nx n8).lt; omega)
      have N8 := (N7.trans n8).alloc (.cells (hcel ZZ) 30) |>.setRow (g := w8.heap.size) (hcel LO) (N7.trans n8).size
      have V5n := Lib.hid (RV5b.out.nx (nx_box n8 (hcel ZZ) (hcel LO)))
      have V6n := Lib.hid (RV6.out.nx (nx_box n8 (hcel ZZ) (hcel LO)))
      go_wp2_with (first | (refine wpList_store_row rfl 30 (.tmp 21) (.tmp 69) rfl w8.heap.size (hcel LO) rfl rfl 30 (hcel ZZ) Z8 iL.out oL.out (hcel_one _) ?_) | (refine wpList_load_row rfl 30 (.tmp 11) rfl w3.heap.size rfl 30 (hcel RH) (0, 0) _ R3bn Tryd.underlying30 rfl iR.out ?_) | (refine wpList_load_row rfl 30 (.tmp 13) rfl w4.heap.size rfl 30 (hcel RH) (0, 0) _ R4n Tryd.underlying30 rfl iR.out ?_) | (refine wpList_eql rfl 30 (.tmp 71) (.tmp 72) _ rfl (hcel RH) (hcel RH) rfl rfl (by kernel_rfl) true (EQ1.out _) ?_) | (refine wpList_gd (by rfl) fun K hK => ?_; refine wp_eqb_of2 (some 77) rfl _ _ _ _ rfl RB rfl rfl (eqb_same2 RB) (hK _ _ ?_)))
      generalize (w8.alloc (.cells (hcel ZZ) 30)).setRow w8.heap.size (hcel LO) = W8 at *
      refine (C7.out _ _ _ V5n.out V6n.out).mono ?_
      rintro e w9 ⟨rfl, n9⟩
      have RX := R7n.nx n9
      have RY := R8z.nx n9
      have N9 := N8.trans n9
      clear n9 V5n V6n R3bn R4n R7n R8z Z8 n8
      go_wp2_with (refine wpList_gd (by rfl) fun K hK => ?_; first | (refine wp_load_row_of (some 90) rfl 30 (.tmp 19) rfl w7.heap.size rfl 30 (hcel LO) _ RX Tryd.underlying30 rfl iL.out (hK _ _ ?_)) | (refine wp_load_row_of (some 91) rfl 30 (.tmp 21) rfl w8.heap.size rfl 30 (hcel LO) _ RY Tryd.underlying30 rfl iL.out (hK _ _ ?_)) | (refine wp_eql_of (some 92) rfl 30 _ _ _ rfl (hcel LO) (hcel LO) rfl rfl (by kernel_rfl) true (EQ2.out _) (hK _ _ ?_)))
      refine (C8.out _ N9).mono ?_
      rintro e w10 ⟨rfl, n10⟩
      go_wp2_with fail
      go_ret
      exact ⟨rfl, N0.out.trans (N9.trans n10)⟩
end Go.Proofs.YtjbeemoobmagnaaDoor
