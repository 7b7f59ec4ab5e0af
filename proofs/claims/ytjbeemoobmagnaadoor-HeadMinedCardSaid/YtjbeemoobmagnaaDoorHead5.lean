/- LAYER 8: Get and Read of the program. -/
import Derived.Laws.CopyOwn
import Derived.Deep.WholeRow
import Derived.StillTailTactics
import Derived.Test.YtjbeemoobmagnaaDoorHead4
import Derived.Test.YtjbeemoobmagnaaDoorCutV
namespace Go.Proofs.YtjbeemoobmagnaaDoor
open Go Go.RowKit
set_option linter.unusedVariables false
set_option linter.unusedSimpArgs false
set_option linter.unusedVariables false
set_option linter.unusedSimpArgs false

/-- What Get answers. -/
structure HD where
  p : List UInt8
  r : List UInt8
  t : Nat
  b : Nat
  n : Nat
  at_ : Int
  e : Int
def HD.bad (e : Int) : HD := ⟨Z32, Z32, 0, 0, 0, 0, e⟩
def hdOf (L : List UInt8) (at_ : Int) : HD := ⟨L.take 32, (L.drop 32).take 32, num ((L.drop 64).take 4), num ((L.drop 68).take 4), num ((L.drop 72).take 4), at_, 0⟩
def hgT (l : List UInt8) (at_ : Int) : HD := if cutE l.length at_ 76 = 0 then hdOf (cutL l at_ 76) (at_ + 76) else .bad (cutE l.length at_ 76)
theorem cut76 {l : List UInt8} {at_ : Int} (h : cutE l.length at_ 76 = 0) : (cutL l at_ 76).length = 76 ∧ 0 ≤ at_ ∧ at_ + 76 ≤ l.length := by
  rcases cutE_cases l.length at_ 76 with ⟨_, h2⟩ | ⟨_, h2⟩ | ⟨i, m, rfl, hm, h1, h2⟩
  · rw [h2] at h; cases h
  · rw [h2] at h; cases h
  · obtain rfl : m = 76 := by omega
    unfold cutL
    rw [if_pos h, List.length_take, List.length_drop]
    omega
theorem getAt (L : List UInt8) (N : Nat) (h : L.length = N) (i m : Nat) (hm : m = 1 ∨ m = 2 ∨ m = 4 ∨ m = 8) (hi : i + m ≤ N) : getE L.length (i : Int) (m : Int) = 0 ∧ getN L (i : Int) (m : Int) = num ((L.drop i).take m) ∧ num ((L.drop i).take m) < 256 ^ m := by
  rcases get_cases L (i : Int) (m : Int) with ⟨h1, h2, h3⟩ | ⟨h1, h4, h2, h3⟩ | ⟨h1, h4, h2, h3⟩ | ⟨i', m', hi', hm', hmm, h1, h4, h2, h3⟩
  · exfalso
    have := isSz_no h1
    omega
  · exfalso; omega
  · exfalso; omega
  · obtain rfl : i = i' := by omega
    obtain rfl : m = m' := by omega
    refine ⟨h2, h3, ?_⟩
    have := num_lt ((L.drop i).take m)
    have hl : ((L.drop i).take m).length = m := by rw [List.length_take, List.length_drop]; omega
    rwa [hl] at this
theorem p4 : (256 : Nat) ^ 4 = 4294967296 := by decide
theorem hna_any (v : Value) (L : List UInt8) (i : Nat) (w : World) (h : Rd w v L) (hi : i + 4 ≤ L.length) :
    Calls Tryd.prog 58 #[v, .int .i64 (i : Int)] w fun e w' => e = .returned (.int .u32 (num ((L.drop i).take 4) : Int)) ∧ w = w' := by
  obtain ⟨g1, g2, g3⟩ := getAt L L.length rfl i 4 (by decide) hi
  have HG := Lib.hid (get_any v L (i : Int) 4 w h)
  rw [show getE L.length (i : Int) 4 = 0 from g1, show getN L (i : Int) 4 = _ from g2] at HG
  rw [p4] at g3
  obtain ⟨A, c, rfl, -, -, -⟩ := h
  generalize num ((L.drop i).take 4) = n at *
  have hw : IntKind.u32.wrap (n : Int) = (n : Int) := by rw [show IntKind.u32.wrap (n : Int) = (n : Int) % 4294967296 from rfl]; omega
  have hw2 : (n : Int) % 4294967296 = (n : Int) := by omega
  clear g1 g2 g3 hi
  go_enter Tryd.func58, Tryd.ntmps58
  go_wp2_with fail
  refine HG.out.mono ?_
  rintro e w' ⟨rfl, rfl⟩
  go_wp2_with fail
  go_ret
  exact ⟨rfl, rfl⟩
theorem hd_put_p {q r : List UInt8} {t b n : Nat} (p : List UInt8) (hq : q.length = 32) (hp : p.length = 32) : ((hdc q r t b n).toList.take 0 ++ (bvs p ++ (hdc q r t b n).toList.drop (0 + (bvs p).length))).toArray = hdc p r t b n := by
  rw [bvs_length, hp]
  simp [hdc, hdl, List.drop_append, bvs_length, hq]
theorem hd_put_r {p q : List UInt8} {t b n : Nat} (r : List UInt8) (hp : p.length = 32) (hq : q.length = 32) (hr : r.length = 32) : ((hdc p q t b n).toList.take 32 ++ (bvs r ++ (hdc p q t b n).toList.drop (32 + (bvs r).length))).toArray = hdc p r t b n := by
  rw [bvs_length, hr]
  simp [hdc, hdl, List.drop_append, List.take_append, bvs_length, hp, hq, List.take_of_length_le (Nat.le_of_eq (show (bvs p).length = 32 by rw [bvs_length, hp]))]
set_option maxRecDepth 100000 in
set_option maxHeartbeats 4000000 in
theorem hget_any (v : Value) (l : List UInt8) (at_ : Int) (w : World) (h : Rd w v l) (hr : l.length ≤ 140737488355328) :
    Calls Tryd.prog 25 #[v, .int .i64 at_] w fun e w' => e = .returned (.tuple #[.agg (hdc (hgT l at_).p (hgT l at_).r (hgT l at_).t (hgT l at_).b (hgT l at_).n), .int .i64 (hgT l at_).at_, .int .i64 (hgT l at_).e]) ∧ Nx w w' := by
  have HP := Lib.hid (fun w h => part_any v l at_ 76 w h hr)
  have HR := Lib.hid h
  obtain ⟨A, c, rfl, -⟩ := h
  obtain ⟨hz, hzs⟩ := zero_of_info info_head
  have HZL := Lib.hid Z32_length
  have cz := Lib.hid (headsz Z32 Z32 0 0 0 HZL.out HZL.out)
  have hl : w.heap.size ≤ w.heap.size := Nat.le_refl _
  unfold hgT
  by_cases hE : cutE l.length at_ 76 = 0
  · obtain ⟨q1, q2, q3⟩ := cut76 hE
    rw [if_pos hE]
    rw [hE] at HP
    unfold hdOf
    dsimp only
    have HQ := Lib.hid q1
    have q4 : at_ + 76 ≤ 9223372036854775807 := by omega
    have HN1 := Lib.hid (fun v w h => hna_any v (cutL l at_ 76) 64 w h (by omega))
    have HN2 := Lib.hid (fun v w h => hna_any v (cutL l at_ 76) 68 w h (by omega))
    have HN3 := Lib.hid (fun v w h => hna_any v (cutL l at_ 76) 72 w h (by omega))
    have HXL : Hid (((cutL l at_ 76).take 32).length = 32) := Lib.hid (by rw [List.length_take]; omega)
    have HYL : Hid ((((cutL l at_ 76).drop 32).take 32).length = 32) := Lib.hid (by rw [List.length_take, List.length_drop]; omega)
    clear hE q1 q3
    generalize cutL l at_ 76 = L at *
    generalize num ((L.drop 64).take 4) = T at *
    generalize num ((L.drop 68).take 4) = B at *
    generalize num ((L.drop 72).take 4) = N at *
    have HX : Hid (L.take 32 = L.take 32) := Lib.hid rfl
    generalize hX : L.take 32 = X at *
    generalize hY : (L.drop 32).take 32 = Y at *
    replace hX := Lib.hid hX
    replace hY := Lib.hid hY
    clear HX
    go_enter Tryd.func25, Tryd.ntmps25
    go_wp2_with fail
    refine (HP.out _ (HR.out.alloc _)).mono ?_
    rintro e w1 ⟨v1, rfl, o1, n1⟩
    have R4 := (Row.new w (hdc Z32 Z32 0 0 0) 32 _ rfl).nx n1
    have N1 := Lib.hid (((Nx.refl w).alloc (.cells (hdc Z32 Z32 0 0 0) 32)).trans n1)
    have O1 := Lib.hid o1.rd
    obtain ⟨A1, c1, rfl, -⟩ := o1.rd
    clear o1 n1
    go_wp2_with fail
    refine (HN1.out _ _ O1.out).mono ?_
    rintro e w2 ⟨rfl, rfl⟩
    go_wp2_with fail
    refine (HN2.out _ _ O1.out).mono ?_
    rintro e w2 ⟨rfl, rfl⟩
    go_wp2_with fail
    refine (HN3.out _ _ O1.out).mono ?_
    rintro e w2 ⟨rfl, rfl⟩
    have HU8 : (Tryd.prog.info? 5).map (·.size) = some 1 := by kernel_rfl
    have ip := Lib.hid (headsz Z32 Z32 T B N HZL.out HZL.out)
    have ix := Lib.hid (headsz X Y T B N HXL.out HYL.out)
    have jp := Lib.hid (headsame Z32 Z32 Z32 Z32 0 0 0 T B N HZL.out HZL.out HZL.out HZL.out)
    have jx := Lib.hid (headsame Z32 Z32 X Y 0 0 0 T B N HZL.out HZL.out HXL.out HYL.out)
    have RP := Row.new w1 (hdc Z32 Z32 0 0 0) 32 _ rfl
    have RP2 := RP.setRow (hdc Z32 Z32 T B N)
    have hsl := fun w' => slice_arr_at (P := Tryd.prog) 30 5 32 Tryd.underlying30 Tryd.sizeOf5 w1.heap.size 0 (by omega) w'
    have HSR := Lib.hid fun w' => slice_arr_at (P := Tryd.prog) 30 5 32 Tryd.underlying30 Tryd.sizeOf5 w1.heap.size 32 (by omega) w'
    have RL := O1.out
    obtain ⟨A1', c1', hA, hc1', -, ha1⟩ := RL
    obtain ⟨rfl, rfl⟩ : A1 = A1' ∧ c1 = c1' := by injection hA with h1 h2 h3; exact ⟨h1, h3⟩
    obtain ⟨b1, o1, rfl, hb1, hc1⟩ := ha1 (by rw [HQ.out]; decide)
    have NW : Hid (Nx w1 ((w1.alloc (.cells (hdc Z32 Z32 0 0 0) 32)).setRow w1.heap.size (hdc Z32 Z32 T B N))) := Lib.hid (((Nx.refl w1).alloc _).setRow _ (Nat.le_refl _))
    have HN : Hid ((bvs X).length = Nat.min L.length 32) := Lib.hid (by rw [bvs_length, HXL.out, HQ.out]; rfl)
    have HF : Hid (0 + (bvs X).length ≤ (hdc Z32 Z32 T B N).size) := Lib.hid (by rw [bvs_length, HXL.out, hd_size _ _ _ _ _ HZL.out HZL.out]; decide)
    have HS : Hid (∀ j v, (bvs X)[j]? = some v → ((w1.alloc (.cells (hdc Z32 Z32 0 0 0) 32)).setRow w1.heap.size (hdc Z32 Z32 T B N)).cell? ((⟨b1, o1, none⟩ : Addr).add j) = some v) := Lib.hid fun j v hv => by
      obtain ⟨hj, rfl⟩ := bvs_get hv
      rw [addr_add, NW.out.cell (p := ⟨b1, o1 + j, none⟩) hb1]
      have hjL : j < L.length := by have := HXL.out; have := HQ.out; omega
      rw [hc1 j hjL]
      congr 2
      simp only [← hX.out, List.getElem_take]
    have HEQ := Lib.hid (hd_put_p (r := Z32) (t := T) (b := B) (n := N) X HZL.out HXL.out)
    have R42 := (R4.alloc (.cells (hdc Z32 Z32 0 0 0) 32)).setRow_other (k := w1.heap.size) (hdc Z32 Z32 T B N) (Nat.ne_of_lt R4.lt)
    have RP3 := RP2.setRow (hdc X Z32 T B N)
    have R43 := R42.setRow_other (k := w1.heap.size) (hdc X Z32 T B N) (Nat.ne_of_lt R4.lt)
    have NW3 := Lib.hid (NW.out.setRow (hdc X Z32 T B N) (Nat.le_refl _))
    have HC1 := Lib.hid hc1
    have HNE := Lib.hid (Nat.ne_of_lt R4.lt)
    have HB1 := Lib.hid hb1
    have HCL : Hid (76 ≤ c1) := Lib.hid (by have := HQ.out; omega)
    clear hc1 hA ha1 hc1'
    go_wp2_with (first | (refine wpList_val (some 26) rfl rfl (.agg (hdc Z32 Z32 T B N)) ?_ ?_; (focus kernel_rfl)) | (refine wpList_store_row rfl 32 (.tmp 9) (.tmp 26) rfl w1.heap.size (hdc Z32 Z32 T B N) rfl rfl 32 (hdc Z32 Z32 0 0 0) RP ip.out jp.out (hd_one _ _ _ _ _) ?_) | (refine wpList_copy_own rfl (.tmp 28) (.tmp 29) _ _ rfl 5 Tryd.underlying34 HU8 w1.heap.size 0 32 32 ⟨b1, o1, none⟩ L.length c1 rfl rfl (hdc Z32 Z32 T B N) 32 RP2 (bvs X) HN.out HS.out HF.out (bvs_one _) ?_; rw [HEQ.out]))
    simp only [Act.put, List.setIfInBounds_toArray, List.set_cons_zero, List.set_cons_succ]
    generalize (((w1.alloc (.cells (hdc Z32 Z32 0 0 0) 32)).setRow w1.heap.size (hdc Z32 Z32 T B N)).setRow w1.heap.size (hdc X Z32 T B N)) = W3 at *
    clear hsl HS HN HF HEQ RP RP2 R4 R42 NW ip jp
    have hsr := HSR.out
    have hfr : ∀ w', (Instr.sliceAt 34 (.slice (some ⟨b1, o1, none⟩) L.length c1) (some (.int .i64 32)) none none).run Tryd.prog w' = .ok (.slice (some ⟨b1, o1 + 32, none⟩) (L.length - 32) (c1 - 32)) w' := fun w' => by
      have := slice_fromV (P := Tryd.prog) 34 5 Tryd.underlying34 Tryd.sizeOf5 (some ⟨b1, o1, none⟩) L.length c1 32 32 rfl (by have := HQ.out; omega) (by have := HCL.out; have := HQ.out; omega) w'
      rw [this]
      unfold fromV
      rw [if_neg (by have := HCL.out; omega)]
      simp [addr_add]
    have HN : Hid ((bvs Y).length = Nat.min (L.length - 32) 32) := Lib.hid (by rw [bvs_length, HYL.out, HQ.out]; rfl)
    have HF : Hid (32 + (bvs Y).length ≤ (hdc X Z32 T B N).size) := Lib.hid (by rw [bvs_length, HYL.out, hd_size _ _ _ _ _ HXL.out HZL.out]; decide)
    have HS : Hid (∀ j v, (bvs Y)[j]? = some v → W3.drew.cell? ((⟨b1, o1 + 32, none⟩ : Addr).add j) = some v) := Lib.hid fun j v hv => by
      obtain ⟨hj, rfl⟩ := bvs_get hv
      rw [addr_add, NW3.out.drew.cell (p := ⟨b1, o1 + 32 + j, none⟩) HB1.out]
      have hjL : 32 + j < L.length := by have := HYL.out; have := HQ.out; omega
      have := HC1.out (32 + j) hjL
      rw [← Nat.add_assoc] at this
      rw [this]
      congr 2
      simp only [← hY.out, List.getElem_take, List.getElem_drop]
    have HEQ := Lib.hid (hd_put_r (t := T) (b := B) (n := N) Y HXL.out HZL.out HYL.out)
    have RP4 := RP3.drew
    have RP5 := RP4.setRow (hdc X Y T B N)
    have R44 := (R43.drew).setRow_other (k := w1.heap.size) (hdc X Y T B N) HNE.out
    have NF := Lib.hid ((N1.out.trans NW3.out.drew).setRow (g := w1.heap.size) (hdc X Y T B N) N1.out.size)
    clear RP3 R43 HSR NW3 HC1 HB1
    go_still_tail 4, (by kernel_rfl)
    change wpList _ _ _ _ _ W3.drew
    refine wpList_copy_own rfl (.tmp 32) (.tmp 34) _ _ rfl 5 Tryd.underlying34 HU8 w1.heap.size 32 32 32 ⟨b1, o1 + 32, none⟩ (L.length - 32) (c1 - 32) rfl rfl (hdc X Z32 T B N) 32 RP4 (bvs Y) HN.out HS.out HF.out (bvs_one _) ?_
    rw [HEQ.out]
    go_wp2_with (first | (refine wpList_load_row rfl 32 (.tmp 9) rfl w1.heap.size rfl 32 (hdc X Y T B N) (0, 0) _ RP5 Tryd.underlying32 rfl ix.out ?_) | (refine wpList_store_row rfl 32 (.tmp 4) (.tmp 36) rfl w.heap.size (hdc X Y T B N) rfl rfl 32 (hdc Z32 Z32 0 0 0) R44 ix.out jx.out (hd_one _ _ _ _ _) ?_))
    exact bodyPost_ret (results_cell_three Tryd.results25 _ _ w.heap.size 32 (hdc X Y T B N) (0, 0) _ rfl (R44.setRow _) Tryd.underlying32 rfl ix.out) rfl ⟨rfl, NF.out.setRow _ hl⟩
  · rw [if_neg hE]
    unfold HD.bad
    generalize cutE l.length at_ 76 = E at *
    generalize cutL l at_ 76 = L at *
    have dE : (E != 0) = true := by simp [hE]
    clear hE
    go_enter Tryd.func25, Tryd.ntmps25
    go_wp2_with fail
    refine (HP.out _ (HR.out.alloc _)).mono ?_
    rintro e w1 ⟨v1, rfl, o1, n1⟩
    have R4 := (Row.new w (hdc Z32 Z32 0 0 0) 32 _ rfl).nx n1
    have N1 := Lib.hid (((Nx.refl w).alloc (.cells (hdc Z32 Z32 0 0 0) 32)).trans n1)
    clear o1 n1
    go_wp2_with (first | (refine wpList_val (some 18) rfl rfl (.agg (hdc Z32 Z32 0 0 0)) ?_ ?_; (focus kernel_rfl)) | (refine wpList_store_row rfl 32 (.tmp 4) (.tmp 18) rfl w.heap.size (hdc Z32 Z32 0 0 0) rfl rfl 32 (hdc Z32 Z32 0 0 0) R4 cz.out rfl (hd_one _ _ _ _ _) ?_))
    exact bodyPost_ret (results_cell_three Tryd.results25 _ _ w.heap.size 32 (hdc Z32 Z32 0 0 0) (0, 0) _ rfl (R4.setRow _) Tryd.underlying32 rfl cz.out) rfl ⟨rfl, N1.out.setRow _ hl⟩
end Go.Proofs.YtjbeemoobmagnaaDoor
