/- TEXTS OF OUR OWN, IN ONE FILE. -/
import Derived.Test.YtpijehaciomkhaaDoorTm
section
namespace Go.Proofs.YtpijehaciomkhaaDoor
open Go Go.RowKit
set_option linter.unusedVariables false
set_option linter.unusedSimpArgs false
set_option linter.unusedVariables false
set_option linter.unusedSimpArgs false

theorem tnumb_any (n : Nat) (s : Int) (w : World) : Calls Tryd.prog 24 #[.int .u64 (n : Int), .int .i64 s] w fun e w' => ∃ v', e = .returned v' ∧ Own w.heap.size w' v' (putL n s) ∧ Nx w w' := by
  have H := Lib.hid (put_any n s w)
  generalize putL n s = l at *
  generalize putE n s = E at *
  go_enter Tryd.func24, Tryd.ntmps24
  go_wp2_with fail
  refine H.out.mono ?_
  rintro e w1 ⟨v, rfl, o1, n1⟩
  have O1 := Lib.hid o1
  have N1 := Lib.hid n1
  clear o1 n1
  go_wp2_with fail
  go_ret
  exact ⟨_, rfl, O1.out, N1.out⟩
def inZ : Inp := ⟨Z32, 0, 0, []⟩
theorem inZ_ok : InOk inZ := ⟨Z32_length, by decide, by decide⟩
theorem info_in : (Tryd.prog.info? 45).map (fun i => (i.zero, i.size)) = some (some (.agg (icel inZ (.slice none 0 0))), 35) := by kernel_rfl
theorem insz (i : Inp) (u : Value) (h : InOk i) : (Tryd.prog.info? 45).map (·.size) = some (icel i u).size := by
  rw [icel_size i u h]; kernel_rfl
theorem insame (i k : Inp) (u v : Value) (h : InOk i) (h2 : InOk k) : (icel i u).size = (icel k v).size := by rw [icel_size _ _ h, icel_size _ _ h2]
theorem outsz : (Tryd.prog.info? 48).map (·.size) = some 2 := by kernel_rfl
theorem info_tx : (Tryd.prog.info? 39).map (·.size) = some 3 := by kernel_rfl
def TxG (t : Txn) : Prop := (∀ i ∈ t.ins, i.u.length ≤ 140737488351232) ∧ (∀ o ∈ t.outs, o.l.length ≤ 140737488351232)
def tcel (iv ov : Value) (a : Nat) : Array Value := #[iv, ov, .int .u32 (a : Int)]
theorem outE_cases (v : Nat) (l : List UInt8) : (mayB v l.length = true ∧ outE v l = 0) ∨ (mayB v l.length = false ∧ outE v l = 2) := by
  unfold outE
  cases mayB v l.length
  · exact .inr ⟨rfl, rfl⟩
  · exact .inl ⟨rfl, rfl⟩
theorem mayT_tail {t : Txn} (h1 : t.ins.length ≤ 16) (h2 : t.outs.length ≤ 16) (h3 : ∀ j (hj : j < t.ins.length), t.ins[j].u.length ≤ 3000) (h4 : ∀ j (hj : j < t.outs.length), mayB t.outs[j].v t.outs[j].l.length = true) : ((txB t).length ≤ 8000 ∧ ptE t = 0 ∧ ptT t = txB t) ∨ (¬ (txB t).length ≤ 8000 ∧ ptE t = 2 ∧ ptT t = []) := by
  have h := mayT_len h1 h2 h3 h4
  unfold ptE ptT
  by_cases hl : (txB t).length ≤ 8000
  · rw [h, decide_eq_true hl]; exact .inl ⟨hl, rfl, rfl⟩
  · rw [h, decide_eq_false hl]; exact .inr ⟨hl, rfl, rfl⟩
theorem pt_no {t : Txn} (h : mayT t = false) : ptE t = 2 ∧ ptT t = [] := by
  unfold ptE ptT; rw [h]; exact ⟨rfl, rfl⟩

set_option maxRecDepth 100000 in
set_option maxHeartbeats 8000000 in
theorem txput_any (iv ov : Value) (t : Txn) (w : World) (hi : RdE inEl w iv t.ins) (ho : RdE outEl w ov t.outs) (ha : t.after < 4294967296) (hg : TxG t) :
    Calls Tryd.prog 11 #[.agg #[iv, ov, .int .u32 (t.after : Int)]] w fun e w' => ∃ r, e = .returned (.tuple #[r, .int .i64 (ptE t)]) ∧ Own w.heap.size w' r (ptT t) ∧ Nx w w' := by
  obtain ⟨A, c, rfl, hc1, hc2, hel⟩ := hi.elem
  obtain ⟨A2, c2, rfl, hd1, hd2, hel2⟩ := ho.elem
  clear hi ho
  have HG := Lib.hid hg
  clear hg
  have R0 := Row.new w #[.slice A t.ins.length c, .slice A2 t.outs.length c2, .int .u32 (t.after : Int)] 39 _ rfl
  have N0 := Lib.hid ((Nx.refl w).alloc (.cells #[.slice A t.ins.length c, .slice A2 t.outs.length c2, .int .u32 (t.after : Int)] 39))
  have HW := Lib.hid (show (w.alloc (.cells #[.slice A t.ins.length c, .slice A2 t.outs.length c2, .int .u32 (t.after : Int)] 39)).heap.size = w.heap.size + 1 by simp)
  have a0 := R0.cell (i := 0) (v := .slice A t.ins.length c) rfl
  have a1 := R0.cell (i := 1) (v := .slice A2 t.outs.length c2) rfl
  replace R0 := Lib.hid R0
  unfold maxLen at hc2 hd2
  by_cases hlen : ¬ (t.ins.length ≤ 16 ∧ t.outs.length ≤ 16)
  · obtain ⟨e1, e2⟩ := pt_no (mayT_false_len hlen)
    rw [e1, e2]
    clear e1 e2 hel hel2
    by_cases h1 : t.ins.length ≤ 16
    · have h5 : ¬ t.outs.length ≤ 16 := fun h => hlen ⟨h1, h⟩
      have h2 : (16 : Int) < (t.outs.length : Int) := by omega
      clear h5
      have h3 : ¬ (16 : Int) < (t.ins.length : Int) := by omega
      clear hlen h1
      go_enter Tryd.func11, Tryd.ntmps11
      go_wp2_with fail
      go_ret2
      exact ⟨_, rfl, Own.nil _ _, N0.out⟩
    · have h3 : (16 : Int) < (t.ins.length : Int) := by omega
      clear hlen h1
      go_enter Tryd.func11, Tryd.ntmps11
      go_wp2_with fail
      go_ret2
      exact ⟨_, rfl, Own.nil _ _, N0.out⟩
  obtain ⟨hl1, hl2⟩ := Classical.not_not.1 hlen
  clear hlen
  have HL1 := Lib.hid hl1
  have HL2 := Lib.hid hl2
  have HEL := Lib.hid hel
  have HEL2 := Lib.hid hel2
  have h3 : ¬ (16 : Int) < (t.ins.length : Int) := by omega
  have h4 : ¬ (16 : Int) < (t.outs.length : Int) := by omega
  have k1 : IntKind.u64.wrap (t.ins.length : Int) = (t.ins.length : Int) := by rw [IntKind.wrap_u64]; omega
  have k2 : IntKind.u64.wrap (t.outs.length : Int) = (t.outs.length : Int) := by rw [IntKind.wrap_u64]; omega
  have HMT := Lib.hid (mayT_tail hl1 hl2)
  have HCT := Lib.hid (countL_le t.ins.length)
  have HCT2 := Lib.hid (countL_le t.outs.length)
  have HAF := Lib.hid ha
  clear hel hel2 hl1 hl2 ha hc1 hc2 hd1 hd2
  obtain ⟨hz, hzs⟩ := zero_of_info info_in
  go_enter Tryd.func11, Tryd.ntmps11
  go_wp2_with fail
  refine (count_any t.ins.length _).mono ?_
  rintro e w1 ⟨bv, rfl, o1, n1⟩
  rw [HW.out] at o1
  have O1 : Hid (Own (w.heap.size + 1) w1 bv (preB t.ins.length (t.ins.take 0))) := Lib.hid (by
    have e : preB t.ins.length (t.ins.take 0) = countL t.ins.length := by simp [preB, insB]
    rw [e]; exact o1)
  have NW := Lib.hid (N0.out.trans n1)
  have R1 := Lib.hid (R0.out.nx n1)
  have HS1 : Hid (w.heap.size + 1 ≤ w1.heap.size) := Lib.hid (by have := n1.size; rw [HW.out] at this; exact this)
  replace a0 := R1.out.cell (i := 0) (v := .slice A t.ins.length c) rfl
  clear o1 n1 N0 R0 HW a1 h3 h4
  go_wp2_with fail
  go_loopw [4, 29] (fun bv iv wr => ∃ (bx : Value) (j : Nat), bx = bv ∧ iv = .int .i64 (j : Int) ∧ j ≤ t.ins.length ∧ Hid (Own (w.heap.size + 1) wr bx (preB t.ins.length (t.ins.take j))) ∧ Hid (Nx w1 wr) ∧ Hid (∀ i (h : i < t.ins.length), i < j → t.ins[i].u.length ≤ 3000 ∧ InOk t.ins[i])) (fun _ iv _ => t.ins.length - (intOf iv).toNat)
  case atStart => exact ⟨_, 0, rfl, rfl, Nat.zero_le _, O1, Lib.hid (Nx.refl _), Lib.hid (fun i _ h => absurd h (Nat.not_lt_zero _))⟩
  case round =>
    clear O1 a0
    obtain ⟨bx, j, rfl, rfl, hj, HO, HN, HA⟩ := hrel
    by_cases hlt : j < t.ins.length
    · obtain ⟨b, o, cs, rfl, hb, ⟨uv, rfl, hok, hu⟩, hcell⟩ := HEL.out j hlt
      have HJ := Lib.hid hlt
      have hlt1 : (j : Int) < (t.ins.length : Int) := by omega
      have hj16 : (j : Int) < 16 := by have := HL1.out; omega
      have HNW := Lib.hid (NW.out.trans HN.out)
      have HSN := Lib.hid (insB_snoc t.ins j hlt)
      have hpl := insB_len (t.ins.take j) (fun x hx => by
        obtain ⟨i, hi, rfl⟩ := List.getElem_of_mem hx
        rw [List.length_take] at hi
        rw [List.getElem_take]
        exact ⟨(HA.out i (by omega) (by omega)).2, (HA.out i (by omega) (by omega)).1⟩)
      have HPL : Hid ((preB t.ins.length (t.ins.take j)).length ≤ 49000) := Lib.hid (by
        have := HL1.out
        have := HCT.out
        rw [List.length_take] at hpl
        have : min j t.ins.length * 3057 ≤ 16 * 3057 := Nat.mul_le_mul_right _ (by omega)
        unfold preB; rw [List.length_append]; omega)
      have HAJ : Hid (InOk t.ins[j]) := Lib.hid hok
      have HBAD := Lib.hid (fun h => pt_no (mayT_false_in (t := t) j hlt h))
      have HGE : Hid (∀ (hs : t.ins[j].u.length ≤ 3000) i (h : i < t.ins.length), i < j + 1 → t.ins[i].u.length ≤ 3000 ∧ InOk t.ins[i]) := Lib.hid (fun hs i h hi => by
        by_cases he : i = j
        · subst he; exact ⟨hs, hok⟩
        · exact HA.out i h (by omega))
      generalize hq : t.ins[j] = q at *
      clear hq
      have HLD := Lib.hid (fun i v (hv : (icel q uv)[i]? = some v) => show wr.cell? ⟨b, o + j * 35 + i, none⟩ = some v by
        rw [HNW.out.cell (p := ⟨b, o + j * 35 + i, none⟩) hb]
        exact hcell i v (by simpa [icel] using hv))
      have HRU := Lib.hid (hu.1.nx HNW.out)
      obtain ⟨A3, c3, rfl⟩ := hu.sl
      have RZ := Row.new wr (icel inZ (.slice none 0 0)) 45 _ rfl
      have HSZ := Lib.hid (insz q (.slice A3 q.u.length c3) hok)
      have HSM := Lib.hid (insame inZ q (.slice none 0 0) (.slice A3 q.u.length c3) inZ_ok hok)
      have HON := icel_one q (.slice A3 q.u.length c3) rfl
      have HU34 := Lib.hid (icel_u q (.slice A3 q.u.length c3) hok)
      have HPS := Lib.hid (pointsz q.x q.n q.h hok.1)
      have HPP := Lib.hid (fun w => putPoint_any q.x q.n q.h hok.1 hok.2.1 hok.2.2 w)
      have RI : Hid (Row ((wr.alloc (.cells (icel inZ (.slice none 0 0)) 45)).setRow wr.heap.size (icel q (.slice A3 q.u.length c3))) wr.heap.size (icel q (.slice A3 q.u.length c3)) 45) := Lib.hid (RZ.setRow _)
      have hwl : w1.heap.size ≤ wr.heap.size := HN.out.size
      have NI : Hid (Nx wr ((wr.alloc (.cells (icel inZ (.slice none 0 0)) 45)).setRow wr.heap.size (icel q (.slice A3 q.u.length c3)))) := Lib.hid (((Nx.refl wr).alloc _).setRow _ (Nat.le_refl _))
      have HB1 : Hid (w.heap.size + 1 ≤ wr.heap.size) := Lib.hid (by have := HS1.out; omega)
      have cu := RI.out.cell HU34.out
      clear hlt hj hok hcell hu hpl hwl HA hb
      by_cases hs : q.u.length ≤ 3000
      · have hs1 : ¬ (3000 : Int) < (q.u.length : Int) := by omega
        have HS3 := Lib.hid hs
        clear hs
        go_wp2_with (first | (refine wpList_load_at rfl 45 (.tmp 31) rfl b (o + j * 35) rfl (icel q (.slice A3 q.u.length c3)) _ HLD.out Tryd.underlying45 rfl HSZ.out ?_) | (refine wpList_store_row rfl 45 (.tmp 6) (.tmp 32) rfl wr.heap.size (icel q (.slice A3 q.u.length c3)) rfl rfl 45 (icel inZ (.slice none 0 0)) RZ HSZ.out HSM.out HON ?_))
        have HO4 := Lib.hid (Own.nx HO.out NI.out)
        replace HN := Lib.hid (HN.out.trans NI.out)
        replace HRU := Lib.hid (HRU.out.nx NI.out)
        have HWS : Hid (w.heap.size + 1 ≤ ((wr.alloc (.cells (icel inZ (.slice none 0 0)) 45)).setRow wr.heap.size (icel q (.slice A3 q.u.length c3))).heap.size) := Lib.hid (Nat.le_trans HB1.out NI.out.size)
        clear RZ HLD HSZ HSM HON cu hs1 NI
        generalize (wr.alloc (.cells (icel inZ (.slice none 0 0)) 45)).setRow wr.heap.size (icel q (.slice A3 q.u.length c3)) = W at *
        generalize wr.heap.size = gi at *
        have HP1 := Lib.hid (ptL_short q.x q.n q.h HAJ.out.1)
        have HP2 := Lib.hid (rowL_len q.u)
        have HRW := Lib.hid (fun w (h : Rd w (.slice A3 q.u.length c3) q.u) => row_any _ q.u w h (by have := HS3.out; omega))
        have RU := HRU
        have RP : Hid (Rd W bx (preB t.ins.length (t.ins.take j))) := Lib.hid HO4.out.rd
        have HSN2 : Hid (preB t.ins.length (t.ins.take (j + 1)) = preB t.ins.length (t.ins.take j) ++ (ptL q.x q.n q.h ++ rowL q.u)) := Lib.hid (by unfold preB; rw [HSN.out, List.append_assoc]; rfl)
        generalize hP1 : ptL q.x q.n q.h = P1 at *
        generalize hP2 : rowL q.u = P2 at *
        clear hP1 hP2
        generalize hPB : preB t.ins.length (t.ins.take j) = PB at *
        clear hPB
        have HCC : Hid (∀ (wr : World) (x : Value), CatAt x [PB, P1, P2] wr → w.heap.size + 1 ≤ wr.heap.size → Calls Tryd.prog 15 #[x] wr fun e w' => ∃ v, e = .returned v ∧ Own (w.heap.size + 1) w' v (PB ++ (P1 ++ P2)) ∧ Nx wr w') := Lib.hid fun wr x h hB => by
          have := concat_at wr h (by simp) (by have := HPL.out; have := HP1.out; have := HP2.out; have := HS3.out; simp only [List.flatten_cons, List.flatten_nil, List.append_nil, List.length_append]; omega) _ hB
          simpa only [List.flatten_cons, List.flatten_nil, List.append_nil] using this
        generalize hL : PB ++ (P1 ++ P2) = L at *
        clear hL
        generalize hBB : w.heap.size + 1 = BB at *
        generalize Value.slice A3 q.u.length c3 = uv at *
        clear HBAD HO HRU
        refine wp_region_nx 9 [[], [], [1], [2], [], [4], [5, 3], [0, 3, 6], [7, 6], [8, 8, 0, 1, 2, 3, 4, 5, 6, 7, 8]] [some 37, some 38, some 39, some 40, some 41, some 42, some 43, some 44, some 45]
          [.eq (bx), .eq (.pointer (some ⟨gi, 0, none⟩)), .eq (.agg (pcel q.x q.n q.h)), .rd (P1), .eq (.pointer (some ⟨gi, 34, none⟩)), .eq (uv), .rd (P2), ⟨fun v w => CatAt v [PB, P1, P2] w, fun _ _ _ h k => h.nx k⟩, .own BB L]
          (by kernel_rfl) (by kernel_rfl) (hord_of (by decide)) (by kernel_rfl) (by decide) (by decide) (htail_of (by decide)) ?_ _ (by rfl) ?_
        · intro x tm wr htm hx i hi hd K hK
          simp only [fillA, List.setIfInBounds_toArray, List.set_cons_zero, List.set_cons_succ] at htm
          subst htm
          have hcs : i = 0 ∨ i = 1 ∨ i = 2 ∨ i = 3 ∨ i = 4 ∨ i = 5 ∨ i = 6 ∨ i = 7 ∨ i = 8 := by omega
          clear hi
          rcases hcs with rfl | rfl | rfl | rfl | rfl | rfl | rfl | rfl | rfl
          · exact wpOp_of rfl rfl (wp_val_of (some 37) rfl bx (by kernel_rfl) (hK _ _ rfl (Nx.refl _)))
          · exact wpOp_of rfl rfl (wp_val_of (some 38) rfl (.pointer (some ⟨gi, 0, none⟩)) (by kernel_rfl) (hK _ _ rfl (Nx.refl _)))
          · have e1 : x 1 = .pointer (some ⟨gi, 0, none⟩) := hd 1 (by decide)
            generalize x 1 = y1 at e1 hK ⊢
            subst e1
            exact wpOp_of rfl rfl (wp_load_at (some 39) rfl 42 (.tmp 38) rfl gi 0 rfl (pcel q.x q.n q.h) _ (fun j v hv => by rw [Nat.zero_add]; exact (RI.out.nx hx).cell (icel_p q uv j v hv)) Tryd.underlying42 rfl HPS.out (hK _ _ rfl (Nx.refl _)))
          · have e2 : x 2 = .agg (pcel q.x q.n q.h) := hd 2 (by decide)
            generalize x 2 = y2 at e2 hK ⊢
            subst e2
            refine wpOp_of rfl rfl (wp_callp_of (some 40) rfl 21 #[(.agg (pcel q.x q.n q.h))] (by kernel_rfl) (fun v w' => Rd w' v (P1)) ?_ hK)
            exact (HPP.out wr).mono fun _ _ ⟨v, h1, h2, h3⟩ => ⟨v, h1, h2.rd, h3⟩
          · exact wpOp_of rfl rfl (wp_val_of (some 41) rfl (.pointer (some ⟨gi, 34, none⟩)) (by kernel_rfl) (hK _ _ rfl (Nx.refl _)))
          · have e4 : x 4 = .pointer (some ⟨gi, 34, none⟩) := hd 4 (by decide)
            generalize x 4 = y4 at e4 hK ⊢
            subst e4
            exact wpOp_of rfl rfl (wp_load_cell (some 42) rfl 43 (.tmp 41) rfl gi 34 rfl uv _ ((RI.out.nx hx).cell HU34.out) Tryd.underlying43 rfl (hK _ _ rfl (Nx.refl _)))
          · have e5 : x 5 = uv := hd 5 (by decide)
            have r3 : Rd wr (x 3) (P1) := hd 3 (by decide)
            generalize x 5 = y5 at e5 hK ⊢
            subst e5
            refine wpOp_of rfl rfl (wp_callp_of (some 43) rfl 22 #[y5] (by kernel_rfl) (fun v w' => Rd w' v (P2)) ?_ hK)
            exact (HRW.out wr (Rd.nx RU.out hx)).mono fun _ _ ⟨v, h1, h2, h3⟩ => ⟨v, h1, h2.rd, h3⟩
          · have e0 : x 0 = bx := hd 0 (by decide)
            have r3 : Rd wr (x 3) (P1) := hd 3 (by decide)
            have r6 : Rd wr (x 6) (P2) := hd 6 (by decide)
            generalize x 0 = y0 at e0 hK ⊢
            subst e0
            have RB := (Rd.nx RP.out hx)
            refine wpOp_of rfl rfl (wp_mk_of (some 44) rfl 57 3 _ rfl (#[(0, y0), (1, x 3), (2, x 6)]) (by kernel_rfl) _ _ (run_mk3 RB.sl r3.sl r6.sl wr) (hK _ _ ?_ ((Nx.refl wr).alloc _)))
            exact catAt3 RB r3 r6
          · have r7 := hd 7 (by decide)
            have r6 : Rd wr (x 6) (P2) := hd 6 (by decide)
            refine wpOp_of rfl rfl (wp_callp_of (some 45) rfl 15 #[x 7] (by kernel_rfl) (fun v w1 => Own BB w1 v L) (HCC.out wr _ r7 (Nat.le_trans HWS.out hx.size)) hK)
        · intro x tm wr htm hx hv
          simp only [fillA, List.setIfInBounds_toArray, List.set_cons_zero, List.set_cons_succ] at htm
          subst htm
          have r8 := hv 8 (by decide)
          have HOL : Hid (Own (w.heap.size + 1) wr (x 8) (preB t.ins.length (t.ins.take (j + 1)))) := Lib.hid (by rw [HSN2.out, hBB]; exact r8)
          replace HN := Lib.hid (HN.out.trans hx)
          clear hv r8 hx
          go_wp2_with fail
          go_roundw
          case rel => exact ⟨_, j + 1, rfl, by go_num, HJ.out, HOL, HN, Lib.hid (HGE.out HS3.out)⟩
          case measure => have := HJ.out; simp [intOf]; omega
      · have hs1 : (3000 : Int) < (q.u.length : Int) := by omega
        obtain ⟨e1, e2⟩ := HBAD.out hs
        clear hs
        go_wp2_with (first | (refine wpList_load_at rfl 45 (.tmp 31) rfl b (o + j * 35) rfl (icel q (.slice A3 q.u.length c3)) _ HLD.out Tryd.underlying45 rfl HSZ.out ?_) | (refine wpList_store_row rfl 45 (.tmp 6) (.tmp 32) rfl wr.heap.size (icel q (.slice A3 q.u.length c3)) rfl rfl 45 (icel inZ (.slice none 0 0)) RZ HSZ.out HSM.out HON ?_))
        go_ret2
        exact ⟨_, by rw [e1]; rfl, by rw [e2]; exact Own.nil _ _, HNW.out.trans NI.out⟩
    · obtain rfl : j = t.ins.length := by omega
      have HA2 := Lib.hid (fun i (h : i < t.ins.length) => (HA.out i h h).1)
      have HNW := Lib.hid (NW.out.trans HN.out)
      have hpl := insB_len t.ins (fun x hx => by
        obtain ⟨i, hi, rfl⟩ := List.getElem_of_mem hx
        exact ⟨(HA.out i hi hi).2, (HA.out i hi hi).1⟩)
      have HPL : Hid ((preB t.ins.length t.ins).length ≤ 49000) := Lib.hid (by
        have := HL1.out
        have := HCT.out
        have : t.ins.length * 3057 ≤ 16 * 3057 := Nat.mul_le_mul_right _ (by omega)
        unfold preB; rw [List.length_append]; omega)
      have HO2 : Hid (Own (w.heap.size + 1) wr bx (preB t.ins.length t.ins)) := Lib.hid (by
        have := HO.out
        rwa [List.take_length] at this)
      have HR := Lib.hid (R1.out.nx HN.out)
      have HB1 : Hid (w.heap.size + 1 ≤ wr.heap.size) := Lib.hid (Nat.le_trans HS1.out HN.out.size)
      have a1 := HR.out.cell (i := 1) (v := .slice A2 t.outs.length c2) rfl
      clear hlt hj hpl HA HO HN HEL NW R1 HS1 hz hzs k1
      go_wp2_with fail
      refine (count_any t.outs.length _).mono ?_
      rintro e w2 ⟨cv, rfl, o2, n2⟩
      have HCR := Lib.hid o2.rd
      replace HO2 := Lib.hid (HO2.out.nx n2)
      replace HR := Lib.hid (HR.out.nx n2)
      replace HNW := Lib.hid (HNW.out.trans n2)
      replace HB1 : Hid (w.heap.size + 1 ≤ w2.heap.size) := Lib.hid (Nat.le_trans HB1.out n2.size)
      clear o2 n2 a1
      go_wp2_with (at_builtin; refine wpList_app rfl (.tmp 47) (.tmp 52) _ rfl Tryd.underlying43 info_u8p (w.heap.size + 1) _ _ (preB t.ins.length t.ins) (countL t.outs.length) rfl rfl HO2.out HCR.out ?c2 ?c3 ?_)
      case c2 => have := HPL.out; have := HCT2.out; omega
      case c3 => exact HB1.out
      intro v3 w3 o3 b3 _
      have HO3 : Hid (Own (w.heap.size + 1) w3 v3 (midB t.ins.length t.ins t.outs.length (t.outs.take 0))) := Lib.hid (by
        have e : midB t.ins.length t.ins t.outs.length (t.outs.take 0) = preB t.ins.length t.ins ++ countL t.outs.length := by simp [midB, outsB]
        rw [e]; exact o3)
      have HN3 := Lib.hid (Below.trans HNW.out (b3.mono (Nat.le_succ _)))
      have HR3 : Hid (Row w3 w.heap.size #[.slice A t.ins.length c, .slice A2 t.outs.length c2, .int .u32 (t.after : Int)] 39) := Lib.hid (by
        have := HR.out
        unfold Row at this ⊢
        rw [b3.block _ (Nat.lt_succ_self _)]
        exact this)
      have HB3 : Hid (w.heap.size + 1 ≤ w3.heap.size) := Lib.hid (Nat.le_trans HB1.out b3.size)
      have a1 := HR3.out.cell (i := 1) (v := .slice A2 t.outs.length c2) rfl
      clear o3 b3 HO2 HNW HR HB1 HCR
      go_wp2_with fail
      clear a1
      go_loopw [4, 57] (fun bv iv wr => ∃ (bx : Value) (k : Nat), bx = bv ∧ iv = .int .i64 (k : Int) ∧ k ≤ t.outs.length ∧ Hid (Own (w.heap.size + 1) wr bx (midB t.ins.length t.ins t.outs.length (t.outs.take k))) ∧ Hid (Nx w wr) ∧ Hid (Row wr w.heap.size #[.slice A t.ins.length c, .slice A2 t.outs.length c2, .int .u32 (t.after : Int)] 39) ∧ Hid (w.heap.size + 1 ≤ wr.heap.size) ∧ Hid (∀ i (h : i < t.outs.length), i < k → mayB t.outs[i].v t.outs[i].l.length = true)) (fun _ iv _ => t.outs.length - (intOf iv).toNat)
      case atStart => exact ⟨_, 0, rfl, rfl, Nat.zero_le _, HO3, HN3, HR3, HB3, Lib.hid (fun i _ h => absurd h (Nat.not_lt_zero _))⟩
      case round =>
        clear HO3 HN3 HR3 HB3
        obtain ⟨bx, k, rfl, rfl, hk, HO, HN, HR, HB, HM⟩ := hrel
        have HQL : Hid ((midB t.ins.length t.ins t.outs.length (t.outs.take k)).length ≤ 53000) := Lib.hid (by
          have h1 := outsB_len (t.outs.take k)
          have := HPL.out
          have := HCT2.out
          have := HL2.out
          rw [List.length_take] at h1
          have : min k t.outs.length * 200 ≤ 16 * 200 := Nat.mul_le_mul_right _ (by omega)
          unfold midB; rw [List.length_append, List.length_append]; omega)
        by_cases hlt : k < t.outs.length
        · obtain ⟨b, o, cs, rfl, hb, ⟨uv, rfl, hok, hu⟩, hcell⟩ := HEL2.out k hlt
          have HJ := Lib.hid hlt
          have hlt1 : (k : Int) < (t.outs.length : Int) := by omega
          have hk16 : (k : Int) < 16 := by have := HL2.out; omega
          have HSN := Lib.hid (outsB_snoc t.outs k hlt)
          have HBAD := Lib.hid (fun h => pt_no (mayT_false_out (t := t) k hlt h))
          have HGE : Hid (∀ (hs : mayB t.outs[k].v t.outs[k].l.length = true) i (h : i < t.outs.length), i < k + 1 → mayB t.outs[i].v t.outs[i].l.length = true) := Lib.hid (fun hs i h hi => by
            by_cases he : i = k
            · subst he; exact hs
            · exact HM.out i h (by omega))
          have hgq : Hid (t.outs[k].l.length ≤ 140737488355328) := Lib.hid (by have := HG.out.2 _ (List.getElem_mem hlt); omega)
          generalize hq : t.outs[k] = q at *
          clear hq
          have HRU := hu.1.nx HN.out
          obtain ⟨A3, c3, rfl⟩ := hu.sl
          have hlen3 : q.l.length ≤ 9223372036854775807 := by
            obtain ⟨_, _, e, h1, h2, _⟩ := HRU
            unfold maxLen at h2
            omega
          have HLD : Hid (∀ i v, (#[.int .u64 (q.v : Int), .slice A3 q.l.length c3] : Array Value)[i]? = some v → wr.cell? ⟨b, o + k * 2 + i, none⟩ = some v) := Lib.hid (fun i v hv => by
            rw [HN.out.cell (p := ⟨b, o + k * 2 + i, none⟩) hb]
            exact hcell i v (by simpa using hv))
          have RO := Row.new wr #[.int .u64 (q.v : Int), .slice A3 q.l.length c3] 48 _ rfl
          have NO := (Nx.refl wr).alloc (.cells #[.int .u64 (q.v : Int), .slice A3 q.l.length c3] 48)
          have HPO : Hid (∀ w, Rd w (.slice A3 q.l.length c3) q.l → Calls Tryd.prog 23 #[.agg #[.int .u64 (q.v : Int), .slice A3 q.l.length c3]] w fun e w' => ∃ r, e = .returned (.tuple #[r, .int .i64 (outE q.v q.l)]) ∧ Own w.heap.size w' r (outB q.v q.l) ∧ Nx w w') := Lib.hid (fun w h => putOut_any q.v _ q.l w h hgq.out)
          have HOC := outE_cases q.v q.l
          have HR2 := Lib.hid (HRU.nx NO)
          replace HO := Lib.hid (HO.out.nx NO)
          replace HN := Lib.hid (HN.out.trans NO)
          replace HR := Lib.hid (HR.out.nx NO)
          replace HB : Hid (w.heap.size + 1 ≤ (wr.alloc (.cells #[.int .u64 (q.v : Int), .slice A3 q.l.length c3] 48)).heap.size) := Lib.hid (Nat.le_trans HB.out NO.size)
          have HOBL := Lib.hid (outB_len q.v q.l)
          have hso := Lib.hid outsz
          clear hlt hk hok hcell hu hb HRU NO HM hlen3
          go_wp2_with (first | (refine wpList_load_at rfl 48 (.tmp 59) rfl b (o + k * 2) rfl #[.int .u64 (q.v : Int), .slice A3 q.l.length c3] _ HLD.out Tryd.underlying48 rfl hso.out ?_) | (refine wpList_load_row rfl 48 (.tmp 8) rfl wr.heap.size rfl 48 #[.int .u64 (q.v : Int), .slice A3 q.l.length c3] (0, 0) _ RO Tryd.underlying48 rfl hso.out ?_))
          refine (HPO.out _ HR2.out).mono ?_
          rintro e w4 ⟨rv, rfl, o4, n4⟩
          have HRV := Lib.hid o4.rd
          replace HO := Lib.hid (HO.out.nx n4)
          replace HN := Lib.hid (HN.out.trans n4)
          replace HR := Lib.hid (HR.out.nx n4)
          replace HB : Hid (w.heap.size + 1 ≤ w4.heap.size) := Lib.hid (Nat.le_trans HB.out n4.size)
          clear o4 n4 HLD RO HR2
          rcases HOC with ⟨m1, m2⟩ | ⟨m1, m2⟩
          · have HM1 := Lib.hid m1
            rw [m2]
            clear m1 m2
            go_wp2_with (at_builtin; refine wpList_app rfl (.tmp 68) (.tmp 69) _ rfl Tryd.underlying43 info_u8p (w.heap.size + 1) _ _ (midB t.ins.length t.ins t.outs.length (t.outs.take k)) (outB q.v q.l) rfl rfl HO.out HRV.out ?d2 ?d3 ?_)
            case d2 => have := HQL.out; have := HOBL.out; omega
            case d3 => exact HB.out
            intro v5 w5 o5 b5 _
            have HO5 : Hid (Own (w.heap.size + 1) w5 v5 (midB t.ins.length t.ins t.outs.length (t.outs.take (k + 1)))) := Lib.hid (by
              have e : midB t.ins.length t.ins t.outs.length (t.outs.take (k + 1)) = midB t.ins.length t.ins t.outs.length (t.outs.take k) ++ outB q.v q.l := by
                unfold midB; rw [HSN.out, List.append_assoc]; simp only [List.append_assoc]
              rw [e]; exact o5)
            have HN5 := Lib.hid (Below.trans HN.out (b5.mono (Nat.le_succ _)))
            have HR5 : Hid (Row w5 w.heap.size #[.slice A t.ins.length c, .slice (some ⟨b, o, none⟩) t.outs.length c2, .int .u32 (t.after : Int)] 39) := Lib.hid (by
              have := HR.out
              unfold Row at this ⊢
              rw [b5.block _ (Nat.lt_succ_self _)]
              exact this)
            have HB5 : Hid (w.heap.size + 1 ≤ w5.heap.size) := Lib.hid (Nat.le_trans HB.out b5.size)
            clear o5 b5 HO HN HR HB HRV
            go_wp2_with fail
            go_roundw
            case rel => exact ⟨_, k + 1, rfl, by go_num, HJ.out, HO5, HN5, HR5, HB5, Lib.hid (HGE.out HM1.out)⟩
            case measure => have := HJ.out; simp [intOf]; omega
          · obtain ⟨e1, e2⟩ := HBAD.out m1
            rw [m2]
            clear m1 m2 HBAD
            go_wp2_with fail
            go_ret2
            exact ⟨_, by rw [e1]; rfl, by rw [e2]; exact Own.nil _ _, HN.out⟩
        · obtain rfl : k = t.outs.length := by omega
          have HO6 : Hid (Own (w.heap.size + 1) wr bx (midB t.ins.length t.ins t.outs.length t.outs)) := Lib.hid (by
            have := HO.out
            rwa [List.take_length] at this)
          have HQL2 : Hid ((midB t.ins.length t.ins t.outs.length t.outs).length ≤ 53000) := Lib.hid (by
            have := HQL.out
            rwa [List.take_length] at this)
          have a2 := HR.out.cell (i := 2) (v := .int .u32 (t.after : Int)) rfl
          have ka : IntKind.u64.wrap (t.after : Int) = (t.after : Int) := by rw [IntKind.wrap_u64]; have := HAF.out; omega
          have HCS := Lib.hid (HMT.out HA2.out (fun i h => HM.out i h h))
          clear hlt hk HO HQL HM HMT
          go_wp2_with fail
          refine (tnumb_any t.after 4 _).mono ?_
          rintro e w6 ⟨nv, rfl, o6, n6⟩
          have HNV := Lib.hid o6.rd
          replace HO6 := Lib.hid (HO6.out.nx n6)
          replace HN := Lib.hid (HN.out.trans n6)
          replace HB : Hid (w.heap.size + 1 ≤ w6.heap.size) := Lib.hid (Nat.le_trans HB.out n6.size)
          have HPS := Lib.hid (putL_short t.after 4)
          clear o6 n6 a2
          go_wp2_with (at_builtin; refine wpList_app rfl (.tmp 72) (.tmp 76) _ rfl Tryd.underlying43 info_u8p (w.heap.size + 1) _ _ (midB t.ins.length t.ins t.outs.length t.outs) (putL t.after 4) rfl rfl HO6.out HNV.out ?f2 ?f3 ?_)
          case f2 => have := HQL2.out; have := HPS.out; omega
          case f3 => exact HB.out
          intro v7 w7 o7 b7 _
          have HO7 : Hid (Own (w.heap.size + 1) w7 v7 (txB t)) := Lib.hid o7
          have HN7 := Lib.hid (Below.trans HN.out (b7.mono (Nat.le_succ _)))
          have HTL : Hid ((txB t).length ≤ 60000) := Lib.hid (by have := HQL2.out; have := HPS.out; unfold txB; rw [List.length_append]; omega)
          obtain ⟨A7, c7, rfl, -⟩ := o7.rd
          clear o7 b7 HO6 HN HB HNV
          have etx : (midB t.ins.length t.ins t.outs.length t.outs ++ putL t.after 4) = txB t := rfl
          rw [etx] at *
          clear etx
          rcases HCS.out with ⟨l1, l2, l3⟩ | ⟨l1, l2, l3⟩
          · have l4 : ¬ (8000 : Int) < ((txB t).length : Int) := by omega
            replace l2 := Lib.hid l2
            replace l3 := Lib.hid l3
            clear l1 HCS
            go_wp2_with fail
            go_ret2
            exact ⟨_, by rw [l2.out]; rfl, by rw [l3.out]; exact HO7.out.mono (Nat.le_succ _), HN7.out⟩
          · have l4 : (8000 : Int) < ((txB t).length : Int) := by omega
            replace l2 := Lib.hid l2
            replace l3 := Lib.hid l3
            clear l1 HCS
            go_wp2_with fail
            go_ret2
            exact ⟨_, by rw [l2.out]; rfl, by rw [l3.out]; exact Own.nil _ _, HN7.out⟩
end Go.Proofs.YtpijehaciomkhaaDoor
end
