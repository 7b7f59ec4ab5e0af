/- THE LAW TxFresh. -/
import Derived.Test.YtnbonmkecmgphaaDoorTx20
import Derived.Test.YtnbonmkecmgphaaDoorTl
namespace Go.Proofs.YtnbonmkecmgphaaDoor
open Go Go.RowKit
set_option linter.unusedVariables false
set_option linter.unusedSimpArgs false
set_option linter.unusedVariables false
set_option linter.unusedSimpArgs false

set_option maxRecDepth 100000 in
set_option maxHeartbeats 8000000 in
theorem txFresh_law {w : World} (v : Value) (l : List UInt8) (h : Rd w v l) (hr0 : l.length ≤ 140737488351232) (_ : KIs w) :
    Calls Tryd.prog 7 #[v] w fun e w' => e = .returned (.bool true) ∧ Nx w w' := by
  have hl : l.length ≤ 140737488355328 := by omega
  have HLL := Lib.hid hl
  have HW := Lib.hid (fun w h => wide_any v l w h hl)
  have HG := Lib.hid (fun w v h => tget_any v l 0 w h hl)
  have HRG := Lib.hid (fun w h => rtget_any v l 0 w h hl)
  have HLE := Lib.hid (fun B w v0 h1 h2 => left_any B v0 v l w h1 h2 hl)
  have HB := Lib.hid h
  obtain ⟨hz, hzs⟩ := zero_of_info info_tx2
  have cz := Lib.hid info_tx
  obtain ⟨A, c, rfl, -⟩ := h
  generalize tgT l 0 = T at *
  obtain ⟨t, p, E⟩ := T
  dsimp only [tcel] at *
  have HSM := Lib.hid (fun A c B d A' c' B' d' W h1 h2 => rsameT_yes (.slice A t.ins.length c) (.slice B t.outs.length d) (.slice A' t.ins.length c') (.slice B' t.outs.length d') t W h1 h2)
  have HP := Lib.hid (fun A c B d W (x : TxAt W (.slice A t.ins.length c) (.slice B t.outs.length d) t) => txput_any (.slice A t.ins.length c) (.slice B t.outs.length d) t W x.i x.o x.a x.g)
  have e2 : ((E : Int) == E) = true := by simp
  have e3 : ((E : Int) != E) = false := by simp
  clear hl hr0
  go_enter Tryd.func7, Tryd.ntmps7
  go_wp2_with fail
  refine (HW.out _ HB.out).mono ?_
  rintro e w1 ⟨v0, rfl, ow, n1⟩
  have OW := Lib.hid ow
  obtain ⟨gv, rfl, -, -⟩ := ow
  have N1 := Lib.hid n1
  clear n1
  go_wp2_with fail
  refine (HG.out _ _ (OW.out.rd HLL.out)).mono ?_
  rintro e w2 ⟨iv, ov, rfl, t2, n2⟩
  obtain ⟨A1, c1, rfl⟩ := t2.i.sl
  obtain ⟨B1, d1, rfl⟩ := t2.o.sl
  have R2 := Row.new w2 #[.slice A1 t.ins.length c1, .slice B1 t.outs.length d1, .int .u32 (t.after : Int)] 26 _ rfl
  have M2 := (Nx.refl w2).alloc (.cells #[.slice A1 t.ins.length c1, .slice B1 t.outs.length d1, .int .u32 (t.after : Int)] 26)
  have SI := Lib.hid ((InsSp.of t2.i).nx M2)
  have SO := Lib.hid ((OutsSp.of t2.o).nx M2)
  have T2 := Lib.hid (t2.at.nx M2)
  have N2 := Lib.hid (N1.out.trans (n2.trans M2))
  have OW2 := Lib.hid (OW.out.nx (n2.trans M2))
  have S12 : Hid (w1.heap.size ≤ w2.heap.size) := Lib.hid n2.size
  have HSZ : Hid ((w2.alloc (.cells #[.slice A1 t.ins.length c1, .slice B1 t.outs.length d1, .int .u32 (t.after : Int)] 26)).heap.size = w2.heap.size + 1) := Lib.hid (by simp)
  clear t2 n2 M2
  go_wp2_with fail
  generalize w2.alloc (.cells #[.slice A1 t.ins.length c1, .slice B1 t.outs.length d1, .int .u32 (t.after : Int)] 26) = V2 at *
  refine (HRG.out _ (HB.out.nx N2.out)).mono ?_
  rintro e w3 ⟨iv, ov, rfl, t3, n3⟩
  obtain ⟨A2, c2, rfl, -⟩ := t3.1.i.elem
  obtain ⟨B2, d2, rfl, -⟩ := t3.1.o.elem
  have M3 := (Nx.refl w3).alloc (.cells #[.slice A2 t.ins.length c2, .slice B2 t.outs.length d2, .int .u32 (t.after : Int)] 26)
  have R3 := Row.new w3 #[.slice A2 t.ins.length c2, .slice B2 t.outs.length d2, .int .u32 (t.after : Int)] 26 _ rfl
  have T3 := Lib.hid (t3.nx M3)
  rw [HSZ.out] at T3
  have N3 := Lib.hid (N2.out.trans (n3.trans M3))
  have K3 := n3.trans M3
  replace R2 := R2.nx K3
  replace SI := Lib.hid (SI.out.nx K3)
  replace SO := Lib.hid (SO.out.nx K3)
  replace T2 := Lib.hid (T2.out.nx K3)
  replace OW2 := Lib.hid (OW2.out.nx K3)
  have S23 : Hid (w2.heap.size ≤ w3.heap.size) := Lib.hid (by have := n3.size; have := HSZ.out; omega)
  clear t3 n3 M3 K3
  have a0 := R2.cell (i := 0) (v := .slice A1 t.ins.length c1) rfl
  have a1 := R2.cell (i := 1) (v := .slice B1 t.outs.length d1) rfl
  have a2 := R2.cell (i := 2) (v := .int .u32 (t.after : Int)) rfl
  have b0 := R3.cell (i := 0) (v := .slice A2 t.ins.length c2) rfl
  have b1 := R3.cell (i := 1) (v := .slice B2 t.outs.length d2) rfl
  have b2 := R3.cell (i := 2) (v := .int .u32 (t.after : Int)) rfl
  have HR2 := Lib.hid R2
  have HR3 := Lib.hid R3
  clear R2 R3
  go_wp2_with fail
  generalize w3.alloc (.cells #[.slice A2 t.ins.length c2, .slice B2 t.outs.length d2, .int .u32 (t.after : Int)] 26) = V3 at *
  refine (HSM.out _ _ _ _ _ _ _ _ _ T2.out T3.out.1).mono ?_
  rintro e w4 ⟨rfl, n4⟩
  have R2 := HR2.out.nx n4
  clear a0 a1 a2 b0 b1 b2
  have a0 := R2.cell (i := 0) (v := .slice A1 t.ins.length c1) rfl
  have a1 := R2.cell (i := 1) (v := .slice B1 t.outs.length d1) rfl
  have a2 := R2.cell (i := 2) (v := .int .u32 (t.after : Int)) rfl
  have N4 := Lib.hid n4
  clear R2 n4
  go_wp2_with fail
  refine (HP.out _ _ _ _ _ (T2.out.nx N4.out)).mono ?_
  rintro e w5 ⟨r, rfl, o5, n5⟩
  have O5 := Lib.hid o5
  have N5 := Lib.hid n5
  obtain ⟨A5, c5, rfl, -⟩ := o5.rd
  clear o5 n5 a0 a1 a2
  go_wp2_with fail
  refine (spoil_rl1 _ (w5.heap.size) _ _ w5 O5.out (fun q hq => (own_blk O5.out q hq).2)).mono ?_
  rintro e w6 ⟨rfl, x6⟩
  have N6 := Lib.hid (N4.out.trans (N5.out.app x6.below))
  clear x6 O5 N5 N4
  have R2 := HR2.out.nx N6.out
  have R3 := HR3.out.nx N6.out
  have a0 := R2.cell (i := 0) (v := .slice A1 t.ins.length c1) rfl
  have a1 := R2.cell (i := 1) (v := .slice B1 t.outs.length d1) rfl
  have a2 := R2.cell (i := 2) (v := .int .u32 (t.after : Int)) rfl
  have b0 := R3.cell (i := 0) (v := .slice A2 t.ins.length c2) rfl
  have b1 := R3.cell (i := 1) (v := .slice B2 t.outs.length d2) rfl
  have b2 := R3.cell (i := 2) (v := .int .u32 (t.after : Int)) rfl
  clear R2 R3
  go_wp2_with fail
  refine (HSM.out _ _ _ _ _ _ _ _ _ (T2.out.nx N6.out) (T3.out.1.nx N6.out)).mono ?_
  rintro e w7 ⟨rfl, n7⟩
  clear a0 a1 a2 b0 b1 b2
  have K7 := N6.out.trans n7
  have R2 := Lib.hid (HR2.out.nx K7)
  have R3 := Lib.hid (HR3.out.nx K7)
  replace SI := Lib.hid (SI.out.nx K7)
  replace SO := Lib.hid (SO.out.nx K7)
  replace T3 := Lib.hid (T3.out.nx K7)
  replace OW2 := Lib.hid (OW2.out.nx K7)
  have N7 := Lib.hid (N3.out.trans K7)
  have BI : Hid (t.ins.length ≤ 9223372036854775807) := Lib.hid (by obtain ⟨_, _, e, h1, h2, -⟩ := T3.out.1.i.elem; unfold maxLen at h2; omega)
  have BO : Hid (t.outs.length ≤ 9223372036854775807) := Lib.hid (by obtain ⟨_, _, e, h1, h2, -⟩ := T3.out.1.o.elem; unfold maxLen at h2; omega)
  clear K7 n7 N6 HR2 HR3 T2 N3 N2
  go_wp2_with fail
  go_loopw [12] (fun iv wr => ∃ j : Nat, iv = .int .i64 (j : Int) ∧ j ≤ t.ins.length ∧ Hid (Rl (w1.heap.size + 1) w2.heap.size w7 wr)) (fun iv _ => t.ins.length - (intOf iv).toNat)
  case atStart => exact ⟨0, rfl, Nat.zero_le _, Lib.hid (Rl.refl _ _ _)⟩
  case round =>
    obtain ⟨j, rfl, hj, HX⟩ := hrel
    have RR := HX.out.row R2.out (Nat.le_refl _)
    have a0 := RR.cell (i := 0) (v := .slice A1 t.ins.length c1) rfl
    clear RR
    by_cases hlt : j < t.ins.length
    · obtain ⟨b, o, cc, uv, l', hv, hcu, ho, hq⟩ := SI.out.rl HX.out j hlt
      injection hv with hv1 hv2 hv3
      subst hv1
      have HJ := Lib.hid hlt
      have hlt1 : (j : Int) < (t.ins.length : Int) := by omega
      have hj16 : (j : Int) < 9223372036854775807 := by have := BI.out; omega
      have HS := Lib.hid (fun w (h : Own (w1.heap.size + 1) w uv l') => spoil_rl1 (w1.heap.size + 1) w2.heap.size uv l' w h hq)
      have HO := Lib.hid ho
      obtain ⟨A6, c6, rfl, -⟩ := ho.rd
      clear hlt hj ho hq hv3 hv2
      go_wp2_with fail
      refine (HS.out _ HO.out).mono ?_
      rintro e w8 ⟨rfl, x8⟩
      replace HX := Lib.hid (HX.out.trans x8)
      clear x8 hcu a0
      go_wp2_with fail
      go_roundw
      case rel => exact ⟨j + 1, by go_num, HJ.out, HX⟩
      case measure => have := HJ.out; simp [intOf]; omega
    · obtain rfl : j = t.ins.length := by omega
      clear hlt hj SI
      go_wp2_with fail
      go_loopw [13] (fun iv wr => ∃ k : Nat, iv = .int .i64 (k : Int) ∧ k ≤ t.outs.length ∧ Hid (Rl (w1.heap.size + 1) w2.heap.size w7 wr)) (fun iv _ => t.outs.length - (intOf iv).toNat)
      case atStart => exact ⟨0, rfl, Nat.zero_le _, HX⟩
      case round =>
        clear HX a0
        obtain ⟨k, rfl, hk, HX⟩ := hrel
        have RR := HX.out.row R2.out (Nat.le_refl _)
        have a1 := RR.cell (i := 1) (v := .slice B1 t.outs.length d1) rfl
        clear RR
        by_cases hlt : k < t.outs.length
        · obtain ⟨b, o, cc, uv, l', hv, hcu, ho, hq⟩ := SO.out.rl HX.out k hlt
          injection hv with hv1 hv2 hv3
          subst hv1
          have HJ := Lib.hid hlt
          have hlt1 : (k : Int) < (t.outs.length : Int) := by omega
          have hk16 : (k : Int) < 9223372036854775807 := by have := BO.out; omega
          have HS := Lib.hid (fun w (h : Own (w1.heap.size + 1) w uv l') => spoil_rl1 (w1.heap.size + 1) w2.heap.size uv l' w h hq)
          have HO := Lib.hid ho
          obtain ⟨A6, c6, rfl, -⟩ := ho.rd
          clear hlt hk ho hq hv3 hv2
          go_wp2_with fail
          refine (HS.out _ HO.out).mono ?_
          rintro e w8 ⟨rfl, x8⟩
          replace HX := Lib.hid (HX.out.trans x8)
          clear x8 hcu a1
          go_wp2_with fail
          go_roundw
          case rel => exact ⟨k + 1, by go_num, HJ.out, HX⟩
          case measure => have := HJ.out; simp [intOf]; omega
        · obtain rfl : k = t.outs.length := by omega
          rename_i wr
          clear hlt hk SO
          have N8 : Hid (Nx w wr) := Lib.hid (N7.out.app (HX.out.below.mono (by have := N1.out.size; omega)))
          have OW3 : Hid (WideAt w.heap.size wr (.slice (some ⟨gv, 0, none⟩) l.length (l.length + 3)) l) := Lib.hid (by
            obtain ⟨g, e, hg, hh⟩ := OW2.out
            obtain ⟨g', e', hg', hh'⟩ := OW.out
            injection e with e1 _ _
            injection e1 with e1
            injection e1 with e1 _ _
            injection e' with e1' _ _
            injection e1' with e1'
            injection e1' with e1' _ _
            subst e1
            subst e1'
            have := (Array.getElem?_eq_some_iff.1 hh').1
            exact ⟨gv, rfl, hg, (HX.out.below.block gv (by omega)).trans hh⟩)
          have T4 := Lib.hid (T3.out.above (HX.out.above.mono (Nat.le_succ _)))
          have R4 := Lib.hid (HX.out.row R3.out S23.out)
          clear HX N7 OW OW2 T3 R3 R2
          go_wp2_with fail
          refine (HG.out _ _ (HB.out.nx N8.out)).mono ?_
          rintro e w9 ⟨iv, ov, rfl, t9, n9⟩
          obtain ⟨A9, c9, rfl⟩ := t9.i.sl
          obtain ⟨B9, d9, rfl⟩ := t9.o.sl
          have M9 := (Nx.refl w9).alloc (.cells #[.slice A9 t.ins.length c9, .slice B9 t.outs.length d9, .int .u32 (t.after : Int)] 26)
          have R9 := Row.new w9 #[.slice A9 t.ins.length c9, .slice B9 t.outs.length d9, .int .u32 (t.after : Int)] 26 _ rfl
          have T9 := Lib.hid (t9.at.nx M9)
          have K9 := n9.trans M9
          have N9 := Lib.hid (N8.out.trans K9)
          have T5 := Lib.hid (T4.out.1.nx K9)
          have R5 := R4.out.nx K9
          have OW4 := Lib.hid (OW3.out.nx K9)
          clear t9 n9 M9 K9 N8 T4 R4 OW3 a1
          have HR5 := Lib.hid R5
          have HR9 := Lib.hid R9
          clear R5 R9
          go_wp2_with fail
          generalize w9.alloc (.cells #[.slice A9 t.ins.length c9, .slice B9 t.outs.length d9, .int .u32 (t.after : Int)] 26) = V9 at *
          refine (HLE.out _ _ _ OW4.out (HB.out.nx N9.out)).mono ?_
          rintro e w10 ⟨rfl, n10⟩
          have R5 := HR5.out.nx n10
          have R9 := HR9.out.nx n10
          have N10 := Lib.hid (N9.out.trans n10)
          replace T9 := Lib.hid (T9.out.nx n10)
          replace T5 := Lib.hid (T5.out.nx n10)
          clear n10 HR5 HR9 N9
          have a0 := R5.cell (i := 0) (v := .slice A2 t.ins.length c2) rfl
          have a1 := R5.cell (i := 1) (v := .slice B2 t.outs.length d2) rfl
          have a2 := R5.cell (i := 2) (v := .int .u32 (t.after : Int)) rfl
          have b0 := R9.cell (i := 0) (v := .slice A9 t.ins.length c9) rfl
          have b1 := R9.cell (i := 1) (v := .slice B9 t.outs.length d9) rfl
          have b2 := R9.cell (i := 2) (v := .int .u32 (t.after : Int)) rfl
          clear R5 R9
          go_wp2_with fail
          refine (HSM.out _ _ _ _ _ _ _ _ _ T5.out T9.out).mono ?_
          rintro e w11 ⟨rfl, n11⟩
          have N11 := Lib.hid (N10.out.trans n11)
          clear n11 a0 a1 a2 b0 b1 b2 N10
          go_wp2_with fail
          refine (txwork_any _).mono ?_
          rintro e w12 ⟨rfl, n12⟩
          have N12 := Lib.hid (N11.out.trans n12)
          clear n12 N11
          go_wp2_with fail
          go_ret
          exact ⟨rfl, N12.out⟩
end Go.Proofs.YtnbonmkecmgphaaDoor
