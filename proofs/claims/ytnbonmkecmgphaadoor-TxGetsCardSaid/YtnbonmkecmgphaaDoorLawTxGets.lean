/- THE LAW TxGets. -/
import Derived.Test.YtnbonmkecmgphaaDoorTt
import Derived.Test.YtnbonmkecmgphaaDoorTl
namespace Go.Proofs.YtnbonmkecmgphaaDoor
open Go Go.RowKit
set_option linter.unusedVariables false
set_option linter.unusedSimpArgs false
set_option linter.unusedVariables false
set_option linter.unusedSimpArgs false

set_option maxRecDepth 100000 in
set_option maxHeartbeats 8000000 in
theorem txGets_law {w : World} (v : Value) (l : List UInt8) (h : Rd w v l) (hr0 : l.length ≤ 140737488351232) (at_ : Int) (_ : -9223372036854775808 ≤ at_) (_ : at_ ≤ 9223372036854775807) (_ : KIs w) :
    Calls Tryd.prog 4 #[v, .int .i64 at_] w fun e w' => e = .returned (.bool true) ∧ Nx w w' := by
  have hl : l.length ≤ 140737488355328 := by omega
  have H1 := Lib.hid (fun w h => tget_any v l at_ w h hl)
  have H2 := Lib.hid (fun w h => rtget_any v l at_ w h hl)
  have H3 := Lib.hid (fun w h => tread_any v l w h hl)
  have H4 := Lib.hid (fun w h => rtread_any v l w h hl)
  have HB := Lib.hid h
  obtain ⟨hz, hzs⟩ := zero_of_info info_tx2
  have cz := Lib.hid info_tx
  obtain ⟨A, c, rfl, -⟩ := h
  generalize tgT l at_ = T at *
  generalize rdX l = U at *
  obtain ⟨t, p, E⟩ := T
  obtain ⟨u, F⟩ := U
  dsimp only [tcel] at *
  have HSM := Lib.hid (fun A c B d A' c' B' d' W h1 h2 => rsameT_yes (.slice A t.ins.length c) (.slice B t.outs.length d) (.slice A' t.ins.length c') (.slice B' t.outs.length d') t W h1 h2)
  have HSN := Lib.hid (fun A c B d A' c' B' d' W h1 h2 => rsameT_yes (.slice A u.ins.length c) (.slice B u.outs.length d) (.slice A' u.ins.length c') (.slice B' u.outs.length d') u W h1 h2)
  have e1 : ((p : Int) == p) = true := by simp
  have e2 : ((E : Int) == E) = true := by simp
  have e3 : ((F : Int) == F) = true := by simp
  clear hl hr0
  go_enter Tryd.func4, Tryd.ntmps4
  go_wp2_with fail
  refine (H1.out _ HB.out).mono ?_
  rintro e w1 ⟨iv, ov, rfl, t1, n1⟩
  obtain ⟨A1, c1, rfl⟩ := t1.i.sl
  obtain ⟨B1, d1, rfl⟩ := t1.o.sl
  have R1 := Row.new w1 #[.slice A1 t.ins.length c1, .slice B1 t.outs.length d1, .int .u32 (t.after : Int)] 26 _ rfl
  have M1 := (Nx.refl w1).alloc (.cells #[.slice A1 t.ins.length c1, .slice B1 t.outs.length d1, .int .u32 (t.after : Int)] 26)
  have T1 := Lib.hid (t1.at.nx M1)
  have N1 := Lib.hid (n1.trans M1)
  clear t1 n1 M1
  go_wp2_with fail
  refine (H2.out _ (HB.out.nx N1.out)).mono ?_
  rintro e w2 ⟨iv, ov, rfl, t2, n2⟩
  obtain ⟨A2, c2, rfl, -⟩ := t2.1.i.elem
  obtain ⟨B2, d2, rfl, -⟩ := t2.1.o.elem
  have M2 := (Nx.refl w2).alloc (.cells #[.slice A2 t.ins.length c2, .slice B2 t.outs.length d2, .int .u32 (t.after : Int)] 26)
  have R2 := Row.new w2 #[.slice A2 t.ins.length c2, .slice B2 t.outs.length d2, .int .u32 (t.after : Int)] 26 _ rfl
  have T2 := Lib.hid (t2.1.nx M2)
  have N2 := Lib.hid (N1.out.trans (n2.trans M2))
  replace R1 := R1.nx (n2.trans M2)
  replace T1 := Lib.hid (T1.out.nx (n2.trans M2))
  clear t2 n2 M2 N1
  go_wp2_with fail
  refine (H3.out _ (HB.out.nx N2.out)).mono ?_
  rintro e w3 ⟨iv, ov, rfl, t3, n3⟩
  obtain ⟨A3, c3, rfl⟩ := t3.i.sl
  obtain ⟨B3, d3, rfl⟩ := t3.o.sl
  have M3 := (Nx.refl w3).alloc (.cells #[.slice A3 u.ins.length c3, .slice B3 u.outs.length d3, .int .u32 (u.after : Int)] 26)
  have R3 := Row.new w3 #[.slice A3 u.ins.length c3, .slice B3 u.outs.length d3, .int .u32 (u.after : Int)] 26 _ rfl
  have T3 := Lib.hid (t3.at.nx M3)
  have N3 := Lib.hid (N2.out.trans (n3.trans M3))
  replace R1 := R1.nx (n3.trans M3)
  replace R2 := R2.nx (n3.trans M3)
  replace T1 := Lib.hid (T1.out.nx (n3.trans M3))
  replace T2 := Lib.hid (T2.out.nx (n3.trans M3))
  clear t3 n3 M3 N2
  go_wp2_with fail
  refine (H4.out _ (HB.out.nx N3.out)).mono ?_
  rintro e w4 ⟨iv, ov, rfl, t4, n4⟩
  obtain ⟨A4, c4, rfl, -⟩ := t4.i.elem
  obtain ⟨B4, d4, rfl, -⟩ := t4.o.elem
  have M4 := n4.trans ((Nx.refl w4).alloc (.cells #[.slice A4 u.ins.length c4, .slice B4 u.outs.length d4, .int .u32 (u.after : Int)] 26))
  have R4 := Row.new w4 #[.slice A4 u.ins.length c4, .slice B4 u.outs.length d4, .int .u32 (u.after : Int)] 26 _ rfl
  have T4 := Lib.hid (t4.nx ((Nx.refl w4).alloc (.cells #[.slice A4 u.ins.length c4, .slice B4 u.outs.length d4, .int .u32 (u.after : Int)] 26)))
  have N4 := Lib.hid (N3.out.trans M4)
  replace R1 := R1.nx M4
  replace R2 := R2.nx M4
  replace R3 := R3.nx M4
  replace T1 := Lib.hid (T1.out.nx M4)
  replace T2 := Lib.hid (T2.out.nx M4)
  replace T3 := Lib.hid (T3.out.nx M4)
  clear t4 n4 M4 N3
  have a0 := R1.cell (i := 0) (v := .slice A1 t.ins.length c1) rfl
  have a1 := R1.cell (i := 1) (v := .slice B1 t.outs.length d1) rfl
  have a2 := R1.cell (i := 2) (v := .int .u32 (t.after : Int)) rfl
  have b0 := R2.cell (i := 0) (v := .slice A2 t.ins.length c2) rfl
  have b1 := R2.cell (i := 1) (v := .slice B2 t.outs.length d2) rfl
  have b2 := R2.cell (i := 2) (v := .int .u32 (t.after : Int)) rfl
  have HR3 := Lib.hid R3
  have HR4 := Lib.hid R4
  clear R1 R2 R3 R4
  go_wp2_with fail
  refine (HSM.out _ _ _ _ _ _ _ _ _ T1.out T2.out).mono ?_
  rintro e w5 ⟨rfl, n5⟩
  have N5 := Lib.hid (N4.out.trans n5)
  have R3 := HR3.out.nx n5
  have R4 := HR4.out.nx n5
  replace T3 := Lib.hid (T3.out.nx n5)
  replace T4 := Lib.hid (T4.out.nx n5)
  clear n5 a0 a1 a2 b0 b1 b2 HR3 HR4 T1 T2
  have a0 := R3.cell (i := 0) (v := .slice A3 u.ins.length c3) rfl
  have a1 := R3.cell (i := 1) (v := .slice B3 u.outs.length d3) rfl
  have a2 := R3.cell (i := 2) (v := .int .u32 (u.after : Int)) rfl
  have b0 := R4.cell (i := 0) (v := .slice A4 u.ins.length c4) rfl
  have b1 := R4.cell (i := 1) (v := .slice B4 u.outs.length d4) rfl
  have b2 := R4.cell (i := 2) (v := .int .u32 (u.after : Int)) rfl
  clear R3 R4
  go_wp2_with fail
  refine (HSN.out _ _ _ _ _ _ _ _ _ T3.out T4.out).mono ?_
  rintro e w6 ⟨rfl, n6⟩
  have N6 := Lib.hid (N5.out.trans n6)
  clear n6 a0 a1 a2 b0 b1 b2 N5
  go_wp2_with fail
  refine (txwork_any _).mono ?_
  rintro e w7 ⟨rfl, n7⟩
  have N7 := Lib.hid (N6.out.trans n7)
  clear n7 N6
  go_wp2_with fail
  go_ret
  exact ⟨rfl, N7.out⟩
end Go.Proofs.YtnbonmkecmgphaaDoor
