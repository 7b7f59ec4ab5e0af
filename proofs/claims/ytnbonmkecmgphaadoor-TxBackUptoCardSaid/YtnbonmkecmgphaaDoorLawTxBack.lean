/- THE LAW TxBack. -/
import Derived.Test.YtnbonmkecmgphaaDoorTx22
import Derived.Test.YtnbonmkecmgphaaDoorTxP
import Derived.Test.YtnbonmkecmgphaaDoorTl
namespace Go.Proofs.YtnbonmkecmgphaaDoor
open Go Go.RowKit
set_option linter.unusedVariables false
set_option linter.unusedSimpArgs false
set_option linter.unusedVariables false
set_option linter.unusedSimpArgs false

set_option maxRecDepth 100000 in
set_option maxHeartbeats 8000000 in
theorem txBack_law {w : World} (iv ov : Value) (t : Txn) (h : TxAt w iv ov t) (v1 : Value) (l1 : List UInt8) (h1 : Rd w v1 l1) (hr1 : l1.length ≤ 140737488351232) (v2 : Value) (l2 : List UInt8) (h2 : Rd w v2 l2) (hr2 : l2.length ≤ 140737488351232) (v3 : Value) (l3 : List UInt8) (h3 : Rd w v3 l3) (hr3 : l3.length ≤ 140737488351232) (_ : KIs w) (hsum : l1.length + l2.length + l3.length ≤ 1048576) :
    Calls Tryd.prog 5 #[.agg #[iv, ov, .int .u32 (t.after : Int)], v1, v2, v3] w fun e w' => e = .returned (.bool true) ∧ Nx w w' := by
  have HGR := Lib.hid (fun W x => great_any iv ov t W x)
  have HPP := Lib.hid (fun W (x : TxAt W iv ov t) => txput_any iv ov t W x.i x.o x.a x.g)
  have HGA := Lib.hid (fun w h => tget_any v3 l3 0 w h (by omega))
  have HTA : Hid ((((tgT l3 0).2.2 == 0) = false ∧ ((tgT l3 0).2.2 != 0) = true) ∨ ((tgT l3 0).2.2 = 0 ∧ ∃ k : Nat, (tgT l3 0).2.1 = (k : Int) ∧ k ≤ l3.length ∧ ∀ A c B d W, ∀ v9 v8, v9 = Value.slice A (tgT l3 0).1.ins.length c → v8 = Value.slice B (tgT l3 0).1.outs.length d → TxAt W v9 v8 (tgT l3 0).1 → Calls Tryd.prog 11 #[.agg #[v9, v8, .int .u32 ((tgT l3 0).1.after : Int)]] W fun e w' => ∃ r, e = .returned (.tuple #[r, .int .i64 0]) ∧ Own W.heap.size w' r (l3.take k) ∧ Nx W w')) := Lib.hid (by
    by_cases hz : (tgT l3 0).2.2 = 0
    · obtain ⟨hm, i, k, hi, hp, hk, -, hB⟩ := tx_got hz
      obtain rfl : i = 0 := by omega
      refine .inr ⟨hz, k, by simpa using hp, by omega, fun A c B d W v9 v8 e9 e8 x => ?_⟩
      have := txput_any v9 v8 (tgT l3 0).1 W x.i x.o x.a x.g
      rw [(pt_yes hm).1, (pt_yes hm).2, hB, List.drop_zero] at this
      exact this
    · exact .inl ⟨by simpa using hz, by simpa using hz⟩)
  replace HTA : Hid ((((tgT l3 0).2.2 == 0) = false ∧ ((tgT l3 0).2.2 != 0) = true) ∨ ((tgT l3 0).2.2 = 0 ∧ ∃ k : Nat, (tgT l3 0).2.1 = (k : Int) ∧ k ≤ l3.length ∧ ∀ v9 v8 W, TxAt W v9 v8 (tgT l3 0).1 → Calls Tryd.prog 11 #[.agg #[v9, v8, .int .u32 ((tgT l3 0).1.after : Int)]] W fun e w' => ∃ r, e = .returned (.tuple #[r, .int .i64 0]) ∧ Own W.heap.size w' r (l3.take k) ∧ Nx W w')) := Lib.hid (by
    rcases HTA.out with h | ⟨h, k, a, b, c⟩
    · exact .inl h
    · exact .inr ⟨h, k, a, b, fun v9 v8 W x => by
        obtain ⟨A, c', e9, -⟩ := x.i.elem
        obtain ⟨B, d', e8, -⟩ := x.o.elem
        exact c A c' B d' W v9 v8 e9 e8 x⟩)
  have HTB : Hid (mayT t = true → tgT (l1 ++ txB t ++ l2) (l1.length : Int) = (t, (l1.length : Int) + ((txB t).length : Int), 0)) := Lib.hid (fun hm => tx_back t l1 l2 hm (fun i hi => by
    obtain ⟨j, hj, rfl⟩ := List.getElem_of_mem hi
    obtain ⟨_, _, _, _, _, hel⟩ := h.i.elem
    obtain ⟨_, _, _, _, _, ⟨_, _, hok, _⟩, _⟩ := hel j hj
    exact hok) h.a)
  have cz := Lib.hid info_tx
  have HT := Lib.hid h
  have H1 := Lib.hid h1
  have H2 := Lib.hid h2
  have H3 := Lib.hid h3
  have hb1 : l1.length ≤ 1048576 := by omega
  have hb2 : l2.length ≤ 1048576 := by omega
  obtain ⟨A0, c0, rfl, -⟩ := h.i.elem
  obtain ⟨B0, d0, rfl, -⟩ := h.o.elem
  have HSM := Lib.hid (fun A' c' B' d' W x1 x2 => rsameT_yes (.slice A0 t.ins.length c0) (.slice B0 t.outs.length d0) (.slice A' t.ins.length c') (.slice B' t.outs.length d') t W x1 x2)
  have HTS := Lib.hid (fun A' c' B' d' W x1 x2 => tsame_yes (.slice A0 t.ins.length c0) (.slice B0 t.outs.length d0) (.slice A' t.ins.length c') (.slice B' t.outs.length d') t W x1 x2)
  unfold tcel at *
  generalize tgT l3 0 = T at *
  obtain ⟨u, p, E⟩ := T
  dsimp only at *
  obtain ⟨A1, c1, rfl, -⟩ := h1
  obtain ⟨A2, c2, rfl, -⟩ := h2
  obtain ⟨A3, c3, rfl, hc3, -⟩ := h3
  have HC3 := Lib.hid hc3
  clear hc3
  have K0 := Row.new w #[.slice A0 t.ins.length c0, .slice B0 t.outs.length d0, .int .u32 (t.after : Int)] 26 _ rfl
  have N0 := Lib.hid ((Nx.refl w).alloc (.cells #[.slice A0 t.ins.length c0, .slice B0 t.outs.length d0, .int .u32 (t.after : Int)] 26))
  have HB1 := Lib.hid hb1
  have HB2 := Lib.hid hb2
  have hlr1 : (l1.length : Int) ≤ 1048576 := by omega
  clear h hr1 hr2 hr3 hsum hb1 hb2
  have a0 := K0.cell (i := 0) (v := .slice A0 t.ins.length c0) rfl
  have a1 := K0.cell (i := 1) (v := .slice B0 t.outs.length d0) rfl
  have a2 := K0.cell (i := 2) (v := .int .u32 (t.after : Int)) rfl
  have HK := Lib.hid K0
  clear K0
  go_enter Tryd.func5, Tryd.ntmps5
  go_wp2_with fail
  refine (HGR.out _ (HT.out.nx N0.out)).mono ?_
  rintro e w1 ⟨B, rfl, n1⟩
  replace HK := Lib.hid (HK.out.nx n1)
  have N1 := Lib.hid (N0.out.trans n1)
  clear n1 a0 a1 a2 N0
  cases B
  case true =>
    go_wp2_with fail
    refine (txwork_any _).mono ?_
    rintro e w2 ⟨rfl, n2⟩
    have N2 := Lib.hid (N1.out.trans n2)
    clear n2 N1
    go_wp2_with fail
    go_ret
    exact ⟨rfl, N2.out⟩
  case false =>
    have a0 := HK.out.cell (i := 0) (v := .slice A0 t.ins.length c0) rfl
    have a1 := HK.out.cell (i := 1) (v := .slice B0 t.outs.length d0) rfl
    have a2 := HK.out.cell (i := 2) (v := .int .u32 (t.after : Int)) rfl
    go_wp2_with fail
    refine (HPP.out _ (HT.out.nx N1.out)).mono ?_
    rintro e w2 ⟨r, rfl, o2, n2⟩
    replace HK := Lib.hid (HK.out.nx n2)
    have N2 := Lib.hid (N1.out.trans n2)
    clear n2 a0 a1 a2 N1 HPP HGR
    cases hm : mayT t
    · obtain ⟨e1, e2⟩ := pt_no hm
      rw [e2] at o2
      rw [e1]
      obtain ⟨A5, c5, rfl, -⟩ := o2.rd
      clear hm e1 e2 o2 HTB HK
      go_wp2_with fail
      refine (HGA.out _ (H3.out.nx N2.out)).mono ?_
      rintro e y1 ⟨iv, ov, rfl, u1, n1⟩
      obtain ⟨A9, c9, rfl⟩ := u1.i.sl
      obtain ⟨B9, d9, rfl⟩ := u1.o.sl
      have Y1 := (Nx.refl y1).alloc (.cells #[.slice A9 u.ins.length c9, .slice B9 u.outs.length d9, .int .u32 (u.after : Int)] 26)
      have RY := Row.new y1 #[.slice A9 u.ins.length c9, .slice B9 u.outs.length d9, .int .u32 (u.after : Int)] 26 _ rfl
      have U1 := Lib.hid (u1.at.nx Y1)
      have NY := Lib.hid (N2.out.trans (n1.trans Y1))
      clear u1 n1 Y1 N2
      rcases HTA.out with ⟨he, hne⟩ | ⟨he, k, hp, hk, HPU⟩
      · have HE := Lib.hid hne
        clear hne he HTA HGA
        have hne := HE.out
        go_wp2_with fail
        refine (txwork_any _).mono ?_
        rintro e y2 ⟨rfl, n2⟩
        have N2 := Lib.hid (NY.out.trans n2)
        clear n2 NY
        go_wp2_with fail
        go_ret
        exact ⟨rfl, N2.out⟩
      · subst he
        subst hp
        have hs := slice_to (P := Tryd.prog) 33 5 Tryd.underlying33 Tryd.sizeOf5 A3 l3.length c3 k k rfl (by have := HC3.out; omega)
        have RT : Hid (∀ w, Rd w (.slice A3 l3.length c3) l3 → Rd w (.slice A3 k c3) (l3.take k)) := Lib.hid fun w hr => by
          obtain ⟨A', c', e', q1, q2, q3⟩ := hr
          injection e' with e1 e2 e3
          subst e1 e3
          exact Rd.pre q3 hk (by have := HC3.out; omega) q2
        have k0 : (0 : Int) ≤ (k : Int) := by omega
        have k1 : (k : Int) ≤ (l3.length : Int) := by omega
        have HPV := Lib.hid HPU
        clear HTA HGA HPU hk
        have r0 := RY.cell (i := 0) (v := .slice A9 u.ins.length c9) rfl
        have r1 := RY.cell (i := 1) (v := .slice B9 u.outs.length d9) rfl
        have r2 := RY.cell (i := 2) (v := .int .u32 (u.after : Int)) rfl
        clear RY
        go_wp2_with fail
        refine (HPV.out _ _ _ U1.out).mono ?_
        rintro e y3 ⟨vp, rfl, o3, n3⟩
        have ON := Lib.hid o3.rd
        have N3 := Lib.hid (NY.out.trans n3)
        have RN3 := Lib.hid (RT.out _ (H3.out.nx N3.out))
        clear n3 o3 r0 r1 r2 NY
        go_wp2_with fail
        refine (same_yes _ _ (l3.take k) _ ON.out RN3.out).mono ?_
        rintro e y4 ⟨rfl, n4⟩
        have N4 := Lib.hid (N3.out.trans n4)
        clear n4 N3
        go_wp2_with fail
        refine (txwork_any _).mono ?_
        rintro e y5 ⟨rfl, n5⟩
        have N5 := Lib.hid (N4.out.trans n5)
        clear n5 N4
        go_wp2_with fail
        go_ret
        exact ⟨rfl, N5.out⟩
    · obtain ⟨e1, e2⟩ := pt_yes hm
      rw [e2] at o2
      rw [e1]
      have hlen := (mayT_parts hm).2.2.2.2
      have HLN := Lib.hid hlen
      have HGT : Hid (∀ W v, Rd W v (l1 ++ txB t ++ l2) → Calls Tryd.prog 20 #[v, .int .i64 (l1.length : Int)] W fun e w' => ∃ iv ov, e = .returned (.tuple #[.agg #[iv, ov, .int .u32 (t.after : Int)], .int .i64 ((l1.length : Int) + ((txB t).length : Int)), .int .i64 0]) ∧ TxNew (W.heap.size + 1) w' iv ov t ∧ Nx W w') := Lib.hid (fun W v hv => by
        have := tget_any v (l1 ++ txB t ++ l2) (l1.length : Int) W hv (by have := HB1.out; have := HB2.out; simp only [List.length_append]; omega)
        rw [HTB.out hm] at this
        exact this)
      have HO := Lib.hid o2.rd
      obtain ⟨A5, c5, rfl, -⟩ := o2.rd
      have hl1 : ((txB t).length : Int) ≤ 8000 := by omega
      have hj0 : (0 : Int) ≤ (l1.length : Int) := by omega
      have hj1 : (0 : Int) ≤ ((txB t).length : Int) := by omega
      have ee : (((l1.length : Int) + ((txB t).length : Int)) != ((l1.length : Int) + ((txB t).length : Int))) = false := by simp
      clear hm e1 e2 o2 HTB hlen
      generalize txB t = L at *
      have R1 := H1.out.nx N2.out
      have R2 := H2.out.nx N2.out
      go_wp2_with (first | (at_builtin; refine wpList_app rfl (.tmp 30) (.tmp 31) _ rfl Tryd.underlying33 info_u8p w2.heap.size (.slice none 0 0) (.slice A1 l1.length c1) [] l1 rfl rfl (Own.nil _ _) R1 (by have := HB1.out; simp; omega) (Nat.le_refl _) ?_; intro vx wx ox bx _) | (at_builtin; refine wpList_app rfl (.tmp 32) (.tmp 33) _ rfl Tryd.underlying33 info_u8p w2.heap.size vx (.slice A5 L.length c5) ([] ++ l1) L rfl rfl ox (HO.out.nx bx) (by have := HB1.out; have := HLN.out; simp; omega) bx.size ?_; intro vy wy oy bY _) | (at_builtin; refine wpList_app rfl (.tmp 34) (.tmp 35) _ rfl Tryd.underlying33 info_u8p w2.heap.size vy (.slice A2 l2.length c2) ([] ++ l1 ++ L) l2 rfl rfl oy (R2.nx (Nx.app bx bY)) (by have := HB1.out; have := HB2.out; have := HLN.out; simp; omega) (Nat.le_trans bx.size bY.size) ?_; intro vz wz oz bz _))
      have nz := Nx.app (Nx.app bx bY) bz
      refine (HGT.out _ _ (by simpa using oz.rd)).mono ?_
      rintro e w3 ⟨iv, ov, rfl, t3, n3⟩
      obtain ⟨A6, c6, rfl⟩ := t3.i.sl
      obtain ⟨B6, d6, rfl⟩ := t3.o.sl
      have M3 := (Nx.refl w3).alloc (.cells #[.slice A6 t.ins.length c6, .slice B6 t.outs.length d6, .int .u32 (t.after : Int)] 26)
      have R6r := Row.new w3 #[.slice A6 t.ins.length c6, .slice B6 t.outs.length d6, .int .u32 (t.after : Int)] 26 _ rfl
      have T3 := Lib.hid (t3.at.nx M3)
      have K3 := nz.trans (n3.trans M3)
      have N3 := Lib.hid (N2.out.trans K3)
      have HK3 := HK.out.nx K3
      have T0 := Lib.hid (HT.out.nx N3.out)
      clear nz t3 n3 M3 K3 ox oy oz bx bY bz R1 R2 HO HGT N2 HK
      have a0 := HK3.cell (i := 0) (v := .slice A0 t.ins.length c0) rfl
      have a1 := HK3.cell (i := 1) (v := .slice B0 t.outs.length d0) rfl
      have a2 := HK3.cell (i := 2) (v := .int .u32 (t.after : Int)) rfl
      have b0 := R6r.cell (i := 0) (v := .slice A6 t.ins.length c6) rfl
      have b1 := R6r.cell (i := 1) (v := .slice B6 t.outs.length d6) rfl
      have b2 := R6r.cell (i := 2) (v := .int .u32 (t.after : Int)) rfl
      have HKa := Lib.hid HK3
      have HKb := Lib.hid R6r
      clear HK3 R6r
      go_wp2_with fail
      generalize w3.alloc (.cells #[.slice A6 t.ins.length c6, .slice B6 t.outs.length d6, .int .u32 (t.after : Int)] 26) = V3 at *
      refine (HSM.out _ _ _ _ _ T0.out T3.out).mono ?_
      rintro e w4 ⟨rfl, n4⟩
      have N4 := Lib.hid (N3.out.trans n4)
      replace T3 := Lib.hid (T3.out.nx n4)
      replace T0 := Lib.hid (T0.out.nx n4)
      have k1 := HKa.out.nx n4
      have k2 := HKb.out.nx n4
      clear a0 a1 a2 b0 b1 b2 n4 HKa HKb N3
      have a0 := k1.cell (i := 0) (v := .slice A0 t.ins.length c0) rfl
      have a1 := k1.cell (i := 1) (v := .slice B0 t.outs.length d0) rfl
      have a2 := k1.cell (i := 2) (v := .int .u32 (t.after : Int)) rfl
      have b0 := k2.cell (i := 0) (v := .slice A6 t.ins.length c6) rfl
      have b1 := k2.cell (i := 1) (v := .slice B6 t.outs.length d6) rfl
      have b2 := k2.cell (i := 2) (v := .int .u32 (t.after : Int)) rfl
      clear k1 k2
      go_wp2_with fail
      refine (HTS.out _ _ _ _ _ T0.out T3.out).mono ?_
      rintro e w5 ⟨rfl, n5⟩
      have N5 := Lib.hid (N4.out.trans n5)
      clear n5 a0 a1 a2 b0 b1 b2 N4 T0 T3
      go_wp2_with fail
      refine (HGA.out _ (H3.out.nx N5.out)).mono ?_
      rintro e y1 ⟨iv, ov, rfl, u1, n1⟩
      obtain ⟨A9, c9, rfl⟩ := u1.i.sl
      obtain ⟨B9, d9, rfl⟩ := u1.o.sl
      have Y1 := (Nx.refl y1).alloc (.cells #[.slice A9 u.ins.length c9, .slice B9 u.outs.length d9, .int .u32 (u.after : Int)] 26)
      have RY := Row.new y1 #[.slice A9 u.ins.length c9, .slice B9 u.outs.length d9, .int .u32 (u.after : Int)] 26 _ rfl
      have U1 := Lib.hid (u1.at.nx Y1)
      have NY := Lib.hid (N5.out.trans (n1.trans Y1))
      clear u1 n1 Y1 N5
      rcases HTA.out with ⟨he, hne⟩ | ⟨he, k, hp, hk, HPU⟩
      · have HE := Lib.hid hne
        clear hne he HTA HGA
        have hne := HE.out
        go_wp2_with fail
        refine (txwork_any _).mono ?_
        rintro e y2 ⟨rfl, n2⟩
        have N2 := Lib.hid (NY.out.trans n2)
        clear n2 NY
        go_wp2_with fail
        go_ret
        exact ⟨rfl, N2.out⟩
      · subst he
        subst hp
        have hs := slice_to (P := Tryd.prog) 33 5 Tryd.underlying33 Tryd.sizeOf5 A3 l3.length c3 k k rfl (by have := HC3.out; omega)
        have RT : Hid (∀ w, Rd w (.slice A3 l3.length c3) l3 → Rd w (.slice A3 k c3) (l3.take k)) := Lib.hid fun w hr => by
          obtain ⟨A', c', e', q1, q2, q3⟩ := hr
          injection e' with e1 e2 e3
          subst e1 e3
          exact Rd.pre q3 hk (by have := HC3.out; omega) q2
        have k0 : (0 : Int) ≤ (k : Int) := by omega
        have k1 : (k : Int) ≤ (l3.length : Int) := by omega
        have HPV := Lib.hid HPU
        clear HTA HGA HPU hk
        have r0 := RY.cell (i := 0) (v := .slice A9 u.ins.length c9) rfl
        have r1 := RY.cell (i := 1) (v := .slice B9 u.outs.length d9) rfl
        have r2 := RY.cell (i := 2) (v := .int .u32 (u.after : Int)) rfl
        clear RY
        go_wp2_with fail
        refine (HPV.out _ _ _ U1.out).mono ?_
        rintro e y3 ⟨vp, rfl, o3, n3⟩
        have ON := Lib.hid o3.rd
        have N3 := Lib.hid (NY.out.trans n3)
        have RN3 := Lib.hid (RT.out _ (H3.out.nx N3.out))
        clear n3 o3 r0 r1 r2 NY
        go_wp2_with fail
        refine (same_yes _ _ (l3.take k) _ ON.out RN3.out).mono ?_
        rintro e y4 ⟨rfl, n4⟩
        have N4 := Lib.hid (N3.out.trans n4)
        clear n4 N3
        go_wp2_with fail
        refine (txwork_any _).mono ?_
        rintro e y5 ⟨rfl, n5⟩
        have N5 := Lib.hid (N4.out.trans n5)
        clear n5 N4
        go_wp2_with fail
        go_ret
        exact ⟨rfl, N5.out⟩
end Go.Proofs.YtnbonmkecmgphaaDoor
