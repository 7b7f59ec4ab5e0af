/- LAYER 7: stripped of the program. -/
import Derived.Test.YtnbonmkecmgphaaDoorTx23
namespace Go.Proofs.YtnbonmkecmgphaaDoor
open Go Go.RowKit
set_option linter.unusedVariables false
set_option linter.unusedSimpArgs false
set_option linter.unusedVariables false
set_option linter.unusedSimpArgs false

set_option maxRecDepth 100000 in
set_option maxHeartbeats 8000000 in
theorem stripped_any (iv ov : Value) (t : Txn) (w : World) (h : TxAt w iv ov t) (hn : t.ins.length ≤ 16) :
    Calls Tryd.prog 43 #[.agg #[iv, ov, .int .u32 (t.after : Int)]] w fun e w' => ∃ iv', e = .returned (.agg #[iv', ov, .int .u32 (t.after : Int)]) ∧ TxAt w' iv' ov (bare t) ∧ Nx w w' := by
  have HT := Lib.hid h
  obtain ⟨fs, hrf, hall⟩ := h.i
  have HALL := Lib.hid hall
  have HRF := Lib.hid hrf
  obtain ⟨B0, d0, rfl, -⟩ := h.o.elem
  obtain ⟨A0, c0, hiv⟩ : ∃ A c, iv = .slice A t.ins.length c := by obtain ⟨A, c, e, _⟩ := h.i.elem; exact ⟨A, c, e⟩
  subst hiv
  obtain ⟨hz, hzs⟩ := zero_of_info info_tx2
  have io := Lib.hid hzs
  have cz := Lib.hid info_tx
  have HN := Lib.hid hn
  have HFL := Lib.hid (show fs.length = t.ins.length * 35 from hall.1)
  have hn16 : (t.ins.length : Int) ≤ 16 := by omega
  have R0 := (Row.new w #[.slice A0 t.ins.length c0, .slice B0 t.outs.length d0, .int .u32 (t.after : Int)] 26 _ rfl).alloc (.cells #[.slice none 0 0, .slice none 0 0, .int .u32 0] 26)
  have R1 := Row.new2 w (.cells #[.slice A0 t.ins.length c0, .slice B0 t.outs.length d0, .int .u32 (t.after : Int)] 26) #[.slice none 0 0, .slice none 0 0, .int .u32 0] 26
  have N0 := Lib.hid (((Nx.refl w).alloc (.cells #[.slice A0 t.ins.length c0, .slice B0 t.outs.length d0, .int .u32 (t.after : Int)] 26)).alloc (.cells #[.slice none 0 0, .slice none 0 0, .int .u32 0] 26))
  have HSZ : Hid (((w.alloc (.cells #[.slice A0 t.ins.length c0, .slice B0 t.outs.length d0, .int .u32 (t.after : Int)] 26)).alloc (.cells #[.slice none 0 0, .slice none 0 0, .int .u32 0] 26)).heap.size = w.heap.size + 2) := Lib.hid (by simp)
  have HCL := Lib.hid (fun W (x : RdF 35 W (.slice A0 t.ins.length c0) t.ins.length fs) => clone_any (.slice A0 t.ins.length c0) t.ins.length fs W x hn)
  have a0 := R0.cell (i := 0) (v := .slice A0 t.ins.length c0) rfl
  have HR0 := Lib.hid R0
  have HR1 := Lib.hid R1
  clear h hrf hall hn R0 R1
  go_enter Tryd.func43, Tryd.ntmps43
  go_wp2_with fail
  refine (HCL.out _ (HRF.out.nx N0.out)).mono ?_
  rintro e w1 ⟨v1, rfl, o1, n1⟩
  rw [HSZ.out] at o1
  have R0 := HR0.out.nx n1
  have R1 := HR1.out.nx n1
  have N1 := Lib.hid (N0.out.trans n1)
  have S1 : Hid (w.heap.size + 2 ≤ w1.heap.size) := Lib.hid (by have := n1.size; have := HSZ.out; omega)
  obtain ⟨A1, c1, rfl⟩ := ownF_sl o1
  have O1 := Lib.hid o1
  clear a0 n1 o1 HR0 HR1 N0 HCL HRF
  have a0 := R0.cell (i := 0) (v := .slice A0 t.ins.length c0) rfl
  have f0 := R0.frozen 0
  have K0 := Lib.hid (R0.set 0 (.slice A1 t.ins.length c1))
  have K1 := Lib.hid (R1.other w.heap.size 0 (.slice A1 t.ins.length c1) (Nat.succ_ne_self _))
  have N2 := Lib.hid (N1.out.setAt (k := w.heap.size) (i := 0) (.slice A1 t.ins.length c1) (Nat.le_refl _))
  have O2 := Lib.hid (ownF_beside (K := w.heap.size) O1.out (by omega) (gr_set w1 w.heap.size 0 (.slice A1 t.ins.length c1)))
  have b0 := K0.out.cell (i := 0) (v := .slice A1 t.ins.length c1) rfl
  clear R0 R1 N1 O1 S1
  go_wp2_with fail
  generalize w1.setCell ⟨w.heap.size, 0, none⟩ (.slice A1 t.ins.length c1) = W2 at *
  clear a0 f0 b0
  go_loopw [11] (fun i wr => ∃ j : Nat, j ≤ t.ins.length ∧ i = .int .i64 j ∧ Hid (Nx w wr) ∧ Hid (Row wr w.heap.size #[.slice A1 t.ins.length c1, .slice B0 t.outs.length d0, .int .u32 (t.after : Int)] 26) ∧ Hid (Row wr (w.heap.size + 1) #[.slice none 0 0, .slice none 0 0, .int .u32 0] 26) ∧ Hid (OwnF 55 35 (w.heap.size + 2) wr (.slice A1 t.ins.length c1) t.ins.length (stripF fs j))) (fun i _ => t.ins.length - (intOf i).toNat)
  case atStart => exact ⟨0, Nat.zero_le _, rfl, N2, K0, K1, O2⟩
  case round =>
    clear N2 K0 K1 O2
    obtain ⟨j, hj, rfl, NN, K0, K1, O⟩ := hrel
    have a0 := K0.out.cell (i := 0) (v := .slice A1 t.ins.length c1) rfl
    by_cases hlt : j < t.ins.length
    · obtain ⟨hl0, ⟨-, h0⟩ | ⟨g, c, full, hv, hB, hg, h1, h2, h3, h4⟩⟩ := O.out
      · omega
      injection hv with hv1 hv2 hv3
      subst hv1
      subst hv3
      have HJ := Lib.hid hlt
      have hlt1 : (j : Int) < (t.ins.length : Int) := by omega
      have RG : Row wr g full.toArray 55 := hg
      have hp : j * 35 + 34 < full.length := by
        have : (j + 1) * 35 ≤ c1 * 35 := Nat.mul_le_mul_right _ (by omega)
        omega
      have g0 := RG.cell (i := j * 35 + 34) (v := full[j * 35 + 34]) (by simp [hp])
      have g1 := RG.frozen (j * 35 + 34)
      have O3 := Lib.hid (ownF_set RG hB h1 h2 h3 (j * 35 + 34) (.slice none 0 0) (by rw [h4]; exact hl0))
      rw [h4] at O3
      have K3 := Lib.hid (K0.out.other g (j * 35 + 34) (.slice none 0 0) (by omega))
      have K4 := Lib.hid (K1.out.other g (j * 35 + 34) (.slice none 0 0) (by omega))
      have N3 := Lib.hid (NN.out.setAt (k := g) (i := j * 35 + 34) (.slice none 0 0) (by omega))
      generalize full[j * 35 + 34] = old at *
      clear hlt hj hl0 hB hg h1 h2 h3 h4 RG hp O K0 K1 NN
      go_wp2_with fail
      go_roundw
      case rel => exact ⟨j + 1, HJ.out, by go_num, N3, K3, K4, O3⟩
      case measure => have := HJ.out; simp [intOf]; omega
    · obtain rfl : j = t.ins.length := by omega
      have KX := K0.out
      have a1 := KX.cell (i := 1) (v := .slice B0 t.outs.length d0) rfl
      have a2 := KX.cell (i := 2) (v := .int .u32 (t.after : Int)) rfl
      have b0 := K1.out.cell (i := 0) (v := .slice none 0 0) rfl
      have b1 := K1.out.cell (i := 1) (v := .slice none 0 0) rfl
      have b2 := K1.out.cell (i := 2) (v := .int .u32 0) rfl
      have f0 := K1.out.frozen 0
      have f1 := K1.out.frozen 1
      have f2 := K1.out.frozen 2
      have RT := ((K1.out.set 0 (.slice A1 t.ins.length c1)).set 1 (.slice B0 t.outs.length d0)).set 2 (.int .u32 (t.after : Int))
      have NE := Lib.hid (((NN.out.setAt (k := w.heap.size + 1) (i := 0) (.slice A1 t.ins.length c1) (by omega)).setAt (k := w.heap.size + 1) (i := 1) (.slice B0 t.outs.length d0) (by omega)).setAt (k := w.heap.size + 1) (i := 2) (.int .u32 (t.after : Int)) (by omega))
      have OE := Lib.hid (ownF_beside (K := w.heap.size + 1) (ownF_beside (K := w.heap.size + 1) (ownF_beside (K := w.heap.size + 1) O.out (by omega) (gr_set wr (w.heap.size + 1) 0 (.slice A1 t.ins.length c1))) (by omega) (gr_set _ (w.heap.size + 1) 1 (.slice B0 t.outs.length d0))) (by omega) (gr_set _ (w.heap.size + 1) 2 (.int .u32 (t.after : Int))))
      have HRT := Lib.hid RT
      clear hlt hj KX RT O K0 K1 NN
      go_wp2_with fail
      have hb : TxAt (((wr.setCell ⟨w.heap.size + 1, 0, none⟩ (.slice A1 t.ins.length c1)).setCell ⟨w.heap.size + 1, 1, none⟩ (.slice B0 t.outs.length d0)).setCell ⟨w.heap.size + 1, 2, none⟩ (.int .u32 (t.after : Int))) (.slice A1 t.ins.length c1) (.slice B0 t.outs.length d0) (bare t) :=
        ⟨⟨stripF fs t.ins.length, by
            have h1 : (bare t).ins.length = t.ins.length := by simp [bare]
            rw [h1]
            exact OE.out.rd (stripF_one fs HALL.out.one _), allE_bare HALL.out⟩, HT.out.o.nx NE.out, HT.out.a, ⟨fun i hi => by
            obtain ⟨a, -, rfl⟩ := List.mem_map.1 (show i ∈ t.ins.map bareI from hi)
            exact Nat.zero_le _, HT.out.g.2⟩⟩
      exact bodyPost_ret (results_cell_row Tryd.results43 _ _ (w.heap.size + 1) 26 (tcel (.slice A1 t.ins.length c1) (.slice B0 t.outs.length d0) t.after) (0, 0) _ rfl HRT.out Tryd.underlying26 rfl (txz _ _ _)) rfl ⟨_, rfl, hb, NE.out⟩
end Go.Proofs.YtnbonmkecmgphaaDoor
