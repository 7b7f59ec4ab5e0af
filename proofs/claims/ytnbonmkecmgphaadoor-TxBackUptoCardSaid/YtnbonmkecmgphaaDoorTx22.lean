/- LAYER 7: Same of the program, of like transactions. -/
import Derived.Deep.DeepCutAuto
import Derived.Test.YtnbonmkecmgphaaDoorTx21
namespace Go.Proofs.YtnbonmkecmgphaaDoor
open Go Go.RowKit
set_option linter.unusedVariables false
set_option linter.unusedSimpArgs false
set_option linter.unusedVariables false
set_option linter.unusedSimpArgs false

set_option maxRecDepth 100000 in
set_option maxHeartbeats 4000000 in
theorem eqIns_yes (v1 v2 : Value) (es : List Inp) (w : World) (h1 : RdE inEl w v1 es) (h2 : RdE inEl w v2 es) :
    Calls Tryd.prog 58 #[v1, v2, .func (.func 59) #[] #[]] w fun e w' => e = .returned (.bool true) ∧ Nx w w' := by
  have HL := Lib.hid (show es.length ≤ 9223372036854775807 by have := h1.elem; obtain ⟨_, _, e, k1, k2, -⟩ := this; unfold maxLen at k2; omega)
  obtain ⟨A, c, rfl, -, -, hel⟩ := h1.elem
  obtain ⟨B, d, rfl, -, -, hel2⟩ := h2.elem
  have HEL := Lib.hid hel
  have HEL2 := Lib.hid hel2
  have e2 : ((es.length : Int) != (es.length : Int)) = false := by simp
  obtain ⟨hz, hzs⟩ := zero_of_info info_in
  clear h1 h2 hel hel2
  go_enter Tryd.func58, Tryd.ntmps58
  go_wp2_with fail
  clear e2
  go_loopw [17] (fun i wr => ∃ j : Nat, j ≤ es.length ∧ i = .int .i64 j ∧ Hid (Nx w wr)) (fun i _ => es.length - (intOf i).toNat)
  case atStart => exact ⟨0, Nat.zero_le _, rfl, Lib.hid (Nx.refl _)⟩
  case round =>
    obtain ⟨j, hj, rfl, HN⟩ := hrel
    by_cases hlt : j < es.length
    · obtain ⟨b, o, cs, rfl, hb, HE1, hcell⟩ := HEL.out j hlt
      obtain ⟨b2, o2, cs2, rfl, hb2, HE2, hcell2⟩ := HEL2.out j hlt
      have HJ := Lib.hid hlt
      have hlt1 : (j : Int) < (es.length : Int) := by omega
      have hj16 : (j : Int) < 9223372036854775807 := by have := HL.out; omega
      generalize hq : es[j] = q at *
      clear hq
      obtain ⟨u, rfl, hok, hu⟩ := HE1
      obtain ⟨z, rfl, -, hz2⟩ := HE2
      have S1 : Nx wr ((wr.alloc (.cells (icel inZ (.slice none 0 0)) 55)).setRow wr.heap.size (icel q u)) := ((Nx.refl wr).alloc _).setRow _ (Nat.le_refl _)
      have HG : Hid (∀ i v, (icel q u)[i]? = some v → wr.cell? ⟨b, o + j * 35 + i, none⟩ = some v) := Lib.hid (fun i v hv => by
        rw [HN.out.cell (p := ⟨b, o + j * 35 + i, none⟩) hb]
        exact hcell i v (by simpa [icel] using hv))
      have HF : Hid (∀ i v, (icel q z)[i]? = some v → ((wr.alloc (.cells (icel inZ (.slice none 0 0)) 55)).setRow wr.heap.size (icel q u)).cell? ⟨b2, o2 + j * 35 + i, none⟩ = some v) := Lib.hid (fun i v hv => by
        rw [(HN.out.trans S1).cell (p := ⟨b2, o2 + j * 35 + i, none⟩) hb2]
        exact hcell2 i v (by simpa [icel] using hv))
      have HS1 := Lib.hid (insz q u hok)
      have HS2 := Lib.hid (insz q z hok)
      have HSM1 := Lib.hid (insame inZ q (.slice none 0 0) u inZ_ok hok)
      have HSM2 := Lib.hid (insame inZ q (.slice none 0 0) z inZ_ok hok)
      have HU := Lib.hid hu.1
      have HZ := Lib.hid hz2.1
      have HSA := Lib.hid (fun w h1 h2 => sameIn_yes q u z w hok h1 h2)
      have RZ := Row.new wr (icel inZ (.slice none 0 0)) 55 _ rfl
      have M1 := RZ.setRow (icel q u)
      obtain ⟨A6, c6, rfl⟩ := hu.sl
      obtain ⟨A7, c7, rfl⟩ := hz2.sl
      have HO1 := Lib.hid (icel_one q (.slice A6 q.u.length c6) rfl)
      have HO2 := Lib.hid (icel_one q (.slice A7 q.u.length c7) rfl)
      clear hlt hj hu hz2 hcell hcell2 hb hb2 hok
      go_upto_region 6 with (first | (refine wpList_load_at rfl 55 (.tmp 20) rfl b (o + j * 35) rfl (icel q (.slice A6 q.u.length c6)) _ HG.out Tryd.underlying55 rfl HS1.out ?_) | (refine wpList_store_row rfl 55 (.tmp 8) (.tmp 21) rfl wr.heap.size (icel q (.slice A6 q.u.length c6)) rfl rfl 55 (icel inZ (.slice none 0 0)) RZ HS1.out HSM1.out HO1.out ?_))
      have N1 := Lib.hid S1
      clear S1 RZ HG
      generalize (wr.alloc (.cells (icel inZ (.slice none 0 0)) 55)).setRow wr.heap.size (icel q (.slice A6 q.u.length c6)) = W1 at *
      have S2 : Nx W1 ((W1.alloc (.cells (icel inZ (.slice none 0 0)) 55)).setRow W1.heap.size (icel q (.slice A7 q.u.length c7))) := ((Nx.refl W1).alloc _).setRow _ (Nat.le_refl _)
      have RZ := Row.new W1 (icel inZ (.slice none 0 0)) 55 _ rfl
      have M2 := RZ.setRow (icel q (.slice A7 q.u.length c7))
      replace M1 := M1.nx S2
      go_upto_region 7 with (first | (refine wpList_load_at rfl 55 (.tmp 24) rfl b2 (o2 + j * 35) rfl (icel q (.slice A7 q.u.length c7)) _ HF.out Tryd.underlying55 rfl HS2.out ?_) | (refine wpList_store_row rfl 55 (.tmp 9) (.tmp 25) rfl W1.heap.size (icel q (.slice A7 q.u.length c7)) rfl rfl 55 (icel inZ (.slice none 0 0)) RZ HS2.out HSM2.out HO2.out ?_))
      have N2 := Lib.hid (HN.out.trans (N1.out.trans S2))
      clear S2 RZ HF N1 HN
      generalize (W1.alloc (.cells (icel inZ (.slice none 0 0)) 55)).setRow W1.heap.size (icel q (.slice A7 q.u.length c7)) = W2 at *
      go_wp2_with (first | (refine wpList_load_row rfl 55 (.tmp 8) rfl wr.heap.size rfl 55 (icel q (.slice A6 q.u.length c6)) (0, 0) _ M1 Tryd.underlying55 rfl HS1.out ?_) | (refine wpList_load_row rfl 55 (.tmp 9) rfl W1.heap.size rfl 55 (icel q (.slice A7 q.u.length c7)) (0, 0) _ M2 Tryd.underlying55 rfl HS2.out ?_))
      refine (HSA.out _ (HU.out.nx N2.out) (HZ.out.nx N2.out)).mono ?_
      rintro e w3 ⟨rfl, n3⟩
      have N3 := Lib.hid (N2.out.trans n3)
      clear n3 N2 M1 M2
      go_wp2_with fail
      go_roundw
      case rel => exact ⟨j + 1, HJ.out, by go_num, N3⟩
      case measure => have := HJ.out; simp [intOf]; omega
    · obtain rfl : j = es.length := by omega
      clear hlt hj HEL HEL2
      go_wp2_with fail
      go_ret
      exact ⟨rfl, HN.out⟩
set_option maxRecDepth 100000 in
set_option maxHeartbeats 4000000 in
theorem eqOuts_yes (v1 v2 : Value) (es : List Outp) (w : World) (h1 : RdE outEl w v1 es) (h2 : RdE outEl w v2 es) :
    Calls Tryd.prog 60 #[v1, v2, .func (.func 61) #[] #[]] w fun e w' => e = .returned (.bool true) ∧ Nx w w' := by
  have HL := Lib.hid (show es.length ≤ 9223372036854775807 by have := h1.elem; obtain ⟨_, _, e, k1, k2, -⟩ := this; unfold maxLen at k2; omega)
  obtain ⟨A, c, rfl, -, -, hel⟩ := h1.elem
  obtain ⟨B, d, rfl, -, -, hel2⟩ := h2.elem
  have HEL := Lib.hid hel
  have HEL2 := Lib.hid hel2
  have e2 : ((es.length : Int) != (es.length : Int)) = false := by simp
  have hso := Lib.hid outsz
  clear h1 h2 hel hel2
  go_enter Tryd.func60, Tryd.ntmps60
  go_wp2_with fail
  clear e2
  go_loopw [17] (fun i wr => ∃ j : Nat, j ≤ es.length ∧ i = .int .i64 j ∧ Hid (Nx w wr)) (fun i _ => es.length - (intOf i).toNat)
  case atStart => exact ⟨0, Nat.zero_le _, rfl, Lib.hid (Nx.refl _)⟩
  case round =>
    obtain ⟨j, hj, rfl, HN⟩ := hrel
    by_cases hlt : j < es.length
    · obtain ⟨b, o, cs, rfl, hb, HE1, hcell⟩ := HEL.out j hlt
      obtain ⟨b2, o2, cs2, rfl, hb2, HE2, hcell2⟩ := HEL2.out j hlt
      have HJ := Lib.hid hlt
      have hlt1 : (j : Int) < (es.length : Int) := by omega
      have hj16 : (j : Int) < 9223372036854775807 := by have := HL.out; omega
      generalize hq : es[j] = q at *
      clear hq
      obtain ⟨u, rfl, hv64, hu⟩ := HE1
      obtain ⟨z, rfl, -, hz2⟩ := HE2
      have S1 : Nx wr (wr.alloc (.cells #[.int .u64 (q.v : Int), u] 60)) := (Nx.refl wr).alloc _
      have HG : Hid (∀ i v, (#[.int .u64 (q.v : Int), u] : Array Value)[i]? = some v → wr.cell? ⟨b, o + j * 2 + i, none⟩ = some v) := Lib.hid (fun i v hv => by
        rw [HN.out.cell (p := ⟨b, o + j * 2 + i, none⟩) hb]
        exact hcell i v (by simpa using hv))
      have HF : Hid (∀ i v, (#[.int .u64 (q.v : Int), z] : Array Value)[i]? = some v → (wr.alloc (.cells #[.int .u64 (q.v : Int), u] 60)).cell? ⟨b2, o2 + j * 2 + i, none⟩ = some v) := Lib.hid (fun i v hv => by
        rw [(HN.out.trans S1).cell (p := ⟨b2, o2 + j * 2 + i, none⟩) hb2]
        exact hcell2 i v (by simpa using hv))
      have HU := Lib.hid hu.1
      have HZ := Lib.hid hz2.1
      have HSA := Lib.hid (fun w h1 h2 => sameOut_yes q u z w h1 h2)
      have M1 := Row.new wr #[.int .u64 (q.v : Int), u] 60 _ rfl
      obtain ⟨A6, c6, rfl⟩ := hu.sl
      obtain ⟨A7, c7, rfl⟩ := hz2.sl
      clear hlt hj hu hz2 hcell hcell2 hb hb2 hv64
      go_upto_region 6 with (first | (refine wpList_load_at rfl 60 (.tmp 20) rfl b (o + j * 2) rfl #[.int .u64 (q.v : Int), .slice A6 q.l.length c6] _ HG.out Tryd.underlying60 rfl hso.out ?_))
      have N1 := Lib.hid S1
      clear S1 HG
      generalize wr.alloc (.cells #[.int .u64 (q.v : Int), .slice A6 q.l.length c6] 60) = W1 at *
      have S2 : Nx W1 (W1.alloc (.cells #[.int .u64 (q.v : Int), .slice A7 q.l.length c7] 60)) := (Nx.refl W1).alloc _
      have M2 := Row.new W1 #[.int .u64 (q.v : Int), .slice A7 q.l.length c7] 60 _ rfl
      replace M1 := M1.nx S2
      go_upto_region 7 with (first | (refine wpList_load_at rfl 60 (.tmp 24) rfl b2 (o2 + j * 2) rfl #[.int .u64 (q.v : Int), .slice A7 q.l.length c7] _ HF.out Tryd.underlying60 rfl hso.out ?_))
      have N2 := Lib.hid (HN.out.trans (N1.out.trans S2))
      clear S2 HF N1 HN
      generalize W1.alloc (.cells #[.int .u64 (q.v : Int), .slice A7 q.l.length c7] 60) = W2 at *
      go_wp2_with (first | (refine wpList_load_row rfl 60 (.tmp 8) rfl wr.heap.size rfl 60 #[.int .u64 (q.v : Int), .slice A6 q.l.length c6] (0, 0) _ M1 Tryd.underlying60 rfl hso.out ?_) | (refine wpList_load_row rfl 60 (.tmp 9) rfl W1.heap.size rfl 60 #[.int .u64 (q.v : Int), .slice A7 q.l.length c7] (0, 0) _ M2 Tryd.underlying60 rfl hso.out ?_))
      refine (HSA.out _ (HU.out.nx N2.out) (HZ.out.nx N2.out)).mono ?_
      rintro e w3 ⟨rfl, n3⟩
      have N3 := Lib.hid (N2.out.trans n3)
      clear n3 N2 M1 M2
      go_wp2_with fail
      go_roundw
      case rel => exact ⟨j + 1, HJ.out, by go_num, N3⟩
      case measure => have := HJ.out; simp [intOf]; omega
    · obtain rfl : j = es.length := by omega
      clear hlt hj HEL HEL2
      go_wp2_with fail
      go_ret
      exact ⟨rfl, HN.out⟩
set_option maxRecDepth 100000 in
set_option maxHeartbeats 4000000 in
theorem tsame_yes (iv ov iv' ov' : Value) (t : Txn) (w : World) (h1 : TxAt w iv ov t) (h2 : TxAt w iv' ov' t) :
    Calls Tryd.prog 25 #[.agg (tcel iv ov t.after), .agg (tcel iv' ov' t.after)] w fun e w' => e = .returned (.bool true) ∧ Nx w w' := by
  have H1 := Lib.hid h1
  have H2 := Lib.hid h2
  have HI := Lib.hid (fun w a b => eqIns_yes iv iv' t.ins w a b)
  have HO := Lib.hid (fun w a b => eqOuts_yes ov ov' t.outs w a b)
  obtain ⟨A, c, rfl, -⟩ := h1.i.elem
  obtain ⟨B, d, rfl, -⟩ := h1.o.elem
  obtain ⟨A', c', rfl, -⟩ := h2.i.elem
  obtain ⟨B', d', rfl, -⟩ := h2.o.elem
  unfold tcel
  have NN := Lib.hid (((Nx.refl w).alloc (.cells #[.slice A t.ins.length c, .slice B t.outs.length d, .int .u32 (t.after : Int)] 26)).alloc (.cells #[.slice A' t.ins.length c', .slice B' t.outs.length d', .int .u32 (t.after : Int)] 26))
  have R1 := (Row.new w #[.slice A t.ins.length c, .slice B t.outs.length d, .int .u32 (t.after : Int)] 26 _ rfl).alloc (.cells #[.slice A' t.ins.length c', .slice B' t.outs.length d', .int .u32 (t.after : Int)] 26)
  have R2 := Row.new2 w (.cells #[.slice A t.ins.length c, .slice B t.outs.length d, .int .u32 (t.after : Int)] 26) #[.slice A' t.ins.length c', .slice B' t.outs.length d', .int .u32 (t.after : Int)] 26
  have a0 := R1.cell (i := 0) (v := .slice A t.ins.length c) rfl
  have a1 := R1.cell (i := 1) (v := .slice B t.outs.length d) rfl
  have a2 := R1.cell (i := 2) (v := .int .u32 (t.after : Int)) rfl
  have b0 := R2.cell (i := 0) (v := .slice A' t.ins.length c') rfl
  have b1 := R2.cell (i := 1) (v := .slice B' t.outs.length d') rfl
  have b2 := R2.cell (i := 2) (v := .int .u32 (t.after : Int)) rfl
  have e1 : ((t.after : Int) == (t.after : Int)) = true := by simp
  have HR1 := Lib.hid R1
  have HR2 := Lib.hid R2
  clear h1 h2 R1 R2
  go_enter Tryd.func25, Tryd.ntmps25
  go_wp2_with fail
  refine (HI.out _ (H1.out.nx NN.out).i (H2.out.nx NN.out).i).mono ?_
  rintro e w1 ⟨rfl, n1⟩
  have R1 := HR1.out.nx n1
  have R2 := HR2.out.nx n1
  have N1 := Lib.hid (NN.out.trans n1)
  clear n1 NN a0 a1 a2 b0 b1 b2 e1 HI HR1 HR2
  have a1 := R1.cell (i := 1) (v := .slice B t.outs.length d) rfl
  have b1 := R2.cell (i := 1) (v := .slice B' t.outs.length d') rfl
  clear R1 R2
  go_wp2_with fail
  refine (HO.out _ (H1.out.nx N1.out).o (H2.out.nx N1.out).o).mono ?_
  rintro e w2 ⟨rfl, n2⟩
  have N2 := Lib.hid (N1.out.trans n2)
  clear n2 N1 a1 b1
  go_wp2_with fail
  go_ret
  exact ⟨rfl, N2.out⟩
end Go.Proofs.YtnbonmkecmgphaaDoor
