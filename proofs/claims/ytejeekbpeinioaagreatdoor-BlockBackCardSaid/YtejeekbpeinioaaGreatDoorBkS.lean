/- LAYER 10: Same of the program, of like blocks. -/
import Derived.Test.YtejeekbpeinioaaGreatDoorBkR7
import Derived.Test.YtejeekbpeinioaaGreatDoorBj
namespace Go.Proofs.YtejeekbpeinioaaGreatDoor
open Go Go.RowKit
set_option linter.unusedVariables false
set_option linter.unusedSimpArgs false
set_option linter.unusedVariables false
set_option linter.unusedSimpArgs false

set_option maxRecDepth 100000 in
set_option maxHeartbeats 4000000 in
theorem eqTxs_yes (v1 v2 : Value) (es : List Txn) (w : World) (h1 : RdE (txE noF) w v1 es) (h2 : RdE (txE noF) w v2 es) :
    Calls Tryz.prog 51 #[v1, v2, .func (.func 52) #[] #[]] w fun e w' => e = .returned (.bool true) ∧ Nx w w' := by
  have HL := Lib.hid (show es.length ≤ 9223372036854775807 by have := h1.elem; obtain ⟨_, _, e, k1, k2, -⟩ := this; unfold maxLen at k2; omega)
  obtain ⟨A, c, rfl, -, -, hel⟩ := h1.elem
  obtain ⟨B, d, rfl, -, -, hel2⟩ := h2.elem
  have HEL := Lib.hid hel
  have HEL2 := Lib.hid hel2
  have e2 : ((es.length : Int) != (es.length : Int)) = false := by simp
  clear h1 h2 hel hel2
  go_enter Tryz.func51, Tryz.ntmps51
  go_wp2_with fail
  clear e2
  go_loopw [17] (fun i wr => ∃ j : Nat, j ≤ es.length ∧ i = .int .i64 j ∧ Hid (Nx w wr)) (fun i _ => es.length - (intOf i).toNat)
  case atStart => exact ⟨0, Nat.zero_le _, rfl, Lib.hid (Nx.refl _)⟩
  case round =>
    obtain ⟨j, hj, rfl, HN⟩ := hrel
    by_cases hlt : j < es.length
    · obtain ⟨b, o, cs, rfl, hb, ⟨iv, ov, rfl, hw⟩, hcell⟩ := HEL.out j hlt
      obtain ⟨b2, o2, cs2, rfl, hb2, ⟨iv', ov', rfl, hw2⟩, hcell2⟩ := HEL2.out j hlt
      have HT1 := Lib.hid (hw wr (GrF.of_nx HN.out))
      have HT2 := Lib.hid (hw2 wr (GrF.of_nx HN.out))
      have HJ := Lib.hid hlt
      have hlt1 : (j : Int) < (es.length : Int) := by omega
      have hj16 : (j : Int) < 9223372036854775807 := by have := HL.out; omega
      generalize hq : es[j] = q at *
      clear hq
      obtain ⟨A1, c1, A2, c2, rfl, rfl⟩ := HT1.out.slv
      obtain ⟨A3, c3, A4, c4, rfl, rfl⟩ := HT2.out.slv
      obtain ⟨k0, k1, k2⟩ := kc3 HN.out hb hcell
      have S1 : Nx wr (wr.alloc (.cells #[.slice A1 q.ins.length c1, .slice A2 q.outs.length c2, .int .u32 (q.after : Int)] 54)) := (Nx.refl wr).alloc _
      have HF := Lib.hid (kc3 (HN.out.trans S1) hb2 hcell2)
      have M1 := Row.new wr #[.slice A1 q.ins.length c1, .slice A2 q.outs.length c2, .int .u32 (q.after : Int)] 54 _ rfl
      have HSA := Lib.hid (fun w h1 h2 => tsame_yes (.slice A1 q.ins.length c1) (.slice A2 q.outs.length c2) (.slice A3 q.ins.length c3) (.slice A4 q.outs.length c4) q w h1 h2)
      dsimp only [tcel] at HSA
      have hs1 := Lib.hid (show (Tryz.prog.info? 54).map (·.size) = some (#[.slice A1 q.ins.length c1, .slice A2 q.outs.length c2, .int .u32 (q.after : Int)] : Array Value).size by exact txz _ _ _)
      have hs2 := Lib.hid (show (Tryz.prog.info? 54).map (·.size) = some (#[.slice A3 q.ins.length c3, .slice A4 q.outs.length c4, .int .u32 (q.after : Int)] : Array Value).size by exact txz _ _ _)
      clear hlt hj hcell hcell2 hb hb2 hw hw2
      go_upto_region 6 with fail
      have N1 := Lib.hid S1
      clear S1 k0 k1 k2
      generalize wr.alloc (.cells #[.slice A1 q.ins.length c1, .slice A2 q.outs.length c2, .int .u32 (q.after : Int)] 54) = W1 at *
      obtain ⟨m0, m1, m2⟩ := HF.out
      have S2 : Nx W1 (W1.alloc (.cells #[.slice A3 q.ins.length c3, .slice A4 q.outs.length c4, .int .u32 (q.after : Int)] 54)) := (Nx.refl W1).alloc _
      have M2 := Row.new W1 #[.slice A3 q.ins.length c3, .slice A4 q.outs.length c4, .int .u32 (q.after : Int)] 54 _ rfl
      replace M1 := M1.nx S2
      go_upto_region 7 with fail
      have N2 := Lib.hid (HN.out.trans (N1.out.trans S2))
      have NW := Lib.hid (N1.out.trans S2)
      clear S2 HF N1 HN m0 m1 m2
      generalize W1.alloc (.cells #[.slice A3 q.ins.length c3, .slice A4 q.outs.length c4, .int .u32 (q.after : Int)] 54) = W2 at *
      go_wp2_with (first | (refine wpList_load_row rfl 54 (.tmp 8) rfl wr.heap.size rfl 54 #[.slice A1 q.ins.length c1, .slice A2 q.outs.length c2, .int .u32 (q.after : Int)] (0, 0) _ M1 Tryz.underlying54 rfl hs1.out ?_) | (refine wpList_load_row rfl 54 (.tmp 9) rfl W1.heap.size rfl 54 #[.slice A3 q.ins.length c3, .slice A4 q.outs.length c4, .int .u32 (q.after : Int)] (0, 0) _ M2 Tryz.underlying54 rfl hs2.out ?_))
      refine (HSA.out _ (HT1.out.nx NW.out) (HT2.out.nx NW.out)).mono ?_
      rintro e w3 ⟨rfl, n3⟩
      have N3 := Lib.hid (N2.out.trans n3)
      clear n3 N2 M1 M2 NW
      go_wp2_with fail
      go_roundw
      case rel => exact ⟨j + 1, HJ.out, by go_num, N3⟩
      case measure => have := HJ.out; simp [intOf]; omega
    · obtain rfl : j = es.length := by omega
      clear hlt hj HEL HEL2
      go_wp2_with fail
      go_ret
      exact ⟨rfl, HN.out⟩
set_option maxRecDepth 100000 in
set_option maxHeartbeats 8000000 in
theorem bsame_yes (u v : Value) (B : Blk) (w : World) (h1 : BlAt w u B) (h2 : BlAt w v B) :
    Calls Tryz.prog 24 #[.agg (blc B u), .agg (blc B v)] w fun e w' => e = .returned (.bool true) ∧ Nx w w' := by
  have HE := Lib.hid (fun w a b => eqTxs_yes u v B.txs w a b)
  have HX1 := Lib.hid h1.x
  have HX2 := Lib.hid h2.x
  obtain ⟨A, c, rfl, -⟩ := h1.x.elem
  obtain ⟨A', d, rfl, -⟩ := h2.x.elem
  have hsz := Lib.hid (headsz B.p B.r B.t B.b B.n h1.h.p h1.h.r)
  have EQH : Hid (∀ w, (Op.equalIn 10000 26 (.agg (hdc B.p B.r B.t B.b B.n)) (.agg (hdc B.p B.r B.t B.b B.n))).run Tryz.prog w = .ok true w) := Lib.hid (fun w => by
    have := eq_head B.p B.r B.p B.r B.t B.b B.n B.t B.b B.n h1.h.p h1.h.r h1.h.p h1.h.r w
    simpa using this)
  have HK1 := Lib.hid (blc_v B (.slice A B.txs.length c) h1.h)
  have HK2 := Lib.hid (blc_v B (.slice A' B.txs.length d) h1.h)
  have R1 := Lib.hid ((Row.new w (blc B (.slice A B.txs.length c)) 29 _ rfl).alloc (.cells (blc B (.slice A' B.txs.length d)) 29))
  have R2 := Lib.hid (Row.new2 w (.cells (blc B (.slice A B.txs.length c)) 29) (blc B (.slice A' B.txs.length d)) 29)
  have N0 := Lib.hid (((Nx.refl w).alloc (.cells (blc B (.slice A B.txs.length c)) 29)).alloc (.cells (blc B (.slice A' B.txs.length d)) 29))
  have HLD1 : Hid (∀ j v, (hdc B.p B.r B.t B.b B.n)[j]? = some v → ((w.alloc (.cells (blc B (.slice A B.txs.length c)) 29)).alloc (.cells (blc B (.slice A' B.txs.length d)) 29)).cell? ⟨w.heap.size, 0 + j, none⟩ = some v) := Lib.hid (fun j v hv => by rw [Nat.zero_add]; exact R1.out.cell (blc_h B _ _ _ hv))
  have HLD2 : Hid (∀ j v, (hdc B.p B.r B.t B.b B.n)[j]? = some v → ((w.alloc (.cells (blc B (.slice A B.txs.length c)) 29)).alloc (.cells (blc B (.slice A' B.txs.length d)) 29)).cell? ⟨w.heap.size + 1, 0 + j, none⟩ = some v) := Lib.hid (fun j v hv => by rw [Nat.zero_add]; exact R2.out.cell (blc_h B _ _ _ hv))
  have k1 := R1.out.cell HK1.out
  have k2 := R2.out.cell HK2.out
  clear h1 h2
  go_enter Tryz.func24, Tryz.ntmps24
  go_wp2_with (first | (refine wpList_load_at rfl 26 (.tmp 5) rfl w.heap.size 0 rfl (hdc B.p B.r B.t B.b B.n) _ HLD1.out Tryz.underlying26 rfl hsz.out ?_) | (refine wpList_load_at rfl 26 (.tmp 7) rfl (w.heap.size + 1) 0 rfl (hdc B.p B.r B.t B.b B.n) _ HLD2.out Tryz.underlying26 rfl hsz.out ?_) | (refine wpList_plain rfl fun K hK => wp_eql_of (some 9) rfl 26 _ _ _ rfl (hdc B.p B.r B.t B.b B.n) (hdc B.p B.r B.t B.b B.n) rfl rfl (by kernel_rfl) true (EQH.out _) (hK _ _ ?_)))
  refine (HE.out _ (HX1.out.nx N0.out) (HX2.out.nx N0.out)).mono ?_
  rintro e w1 ⟨rfl, n1⟩
  have N1 := Lib.hid (N0.out.trans n1)
  clear n1 N0 R1 R2 k1 k2 HLD1 HLD2
  go_wp2_with fail
  go_ret
  exact ⟨rfl, N1.out⟩
end Go.Proofs.YtejeekbpeinioaaGreatDoor
