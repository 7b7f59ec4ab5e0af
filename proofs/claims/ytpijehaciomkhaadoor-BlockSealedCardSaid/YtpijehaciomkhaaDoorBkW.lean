/- LAYER 10: what its laws ask for besides. -/
import Derived.Test.YtpijehaciomkhaaDoorBk6
import Derived.Test.YtpijehaciomkhaaDoorBh
import Derived.Test.YtpijehaciomkhaaDoorTt
namespace Go.Proofs.YtpijehaciomkhaaDoor
open Go Go.RowKit
set_option linter.unusedVariables false
set_option linter.unusedSimpArgs false
set_option linter.unusedVariables false
set_option linter.unusedSimpArgs false

def bl1 : Blk := ⟨Z32h, Z32h, 0, 0, 0, [txZ]⟩
theorem bp_z : bpE blZ = 2 ∧ bpT blZ = [] := bp_no (by rfl)
theorem br_76 : brT (zeros 76) = (blZ, 4) := by kernel_rfl
theorem br_77 : brT (zeros 77) = (blZ, 5) := by kernel_rfl
theorem bp_1 : bpE bl1 = 0 := by kernel_rfl
theorem bp_1l : (bpT bl1).length = 83 := by kernel_rfl
theorem se_z : seB blZ = false := rfl
theorem run_bl1 (A : Option Addr) (w : World) : (Instr.build 29 #[(1, .slice A 1 1)]).run Tryd.prog w = .ok (.agg (blc bl1 (.slice A 1 1))) w := by kernel_rfl
theorem run_tz (w : World) : (Instr.buildSlice 27 1 #[(0, .agg #[.slice none 0 0, .slice none 0 0, .int .u32 0])]).run Tryd.prog w = .ok (.slice (some ⟨w.heap.size, 0, none⟩) 1 1) (w.alloc (.cells #[.slice none 0 0, .slice none 0 0, .int .u32 0] 39)) := by kernel_rfl
theorem bl1_at (w : World) : BlAt (w.alloc (.cells #[.slice none 0 0, .slice none 0 0, .int .u32 0] 39)) (.slice (some ⟨w.heap.size, 0, none⟩) 1 1) bl1 := by
  refine ⟨HOkZ, ?_⟩
  have R := Row.new w (tcl (.slice none 0 0) (.slice none 0 0) 0).toArray 39 _ rfl
  exact rdE_row (L := txE noF) (es := [txZ]) R (AllE.single (txE_of (txAt_z _))) (by decide) (by decide) (by decide)
theorem bput_z (w : World) (hg : EIs w) : Calls Tryd.prog 8 #[.agg (blc blZ (.slice none 0 0))] w fun e w' => ∃ A c, e = .returned (.tuple #[.slice A 0 c, .int .i64 2]) ∧ Nx w w' := by
  have := bput_any (.slice none 0 0) blZ w (blAt_z w) hg
  rw [bp_z.1, bp_z.2] at this
  refine this.mono ?_
  rintro e w' ⟨r, rfl, h1, h2⟩
  obtain ⟨A, c, rfl, -⟩ := h1.rd
  exact ⟨A, c, rfl, h2⟩
theorem bput_1 (w : World) (v : Value) (h : BlAt w v bl1) (hg : EIs w) : Calls Tryd.prog 8 #[.agg (blc bl1 v)] w fun e w' => ∃ A c, e = .returned (.tuple #[.slice A 83 c, .int .i64 0]) ∧ Nx w w' := by
  have := bput_any v bl1 w h hg
  rw [bp_1] at this
  refine this.mono ?_
  rintro e w' ⟨r, rfl, h1, h2⟩
  obtain ⟨A, c, rfl, -⟩ := h1.rd
  exact ⟨A, c, by rw [bp_1l], h2⟩
theorem bread_z (l : List UInt8) (E : Int) (hE : brT l = (blZ, E)) (hl : l.length ≤ 140737488355328) (W : World) (v : Value) (h : Rd W v l) (hg : EIs W) :
    Calls Tryd.prog 9 #[v] W fun e w' => ∃ A c, e = .returned (.tuple #[.agg (blc blZ (.slice A 0 c)), .int .i64 E]) ∧ Nx W w' := by
  have := bread_any v l W h hl hg
  rw [hE] at this
  refine this.mono ?_
  rintro e w' ⟨tv, rfl, h1, h2⟩
  obtain ⟨A, c, rfl, -⟩ := h1.x.elem
  exact ⟨A, c, rfl, h2⟩
set_option maxRecDepth 100000 in
set_option maxHeartbeats 8000000 in
theorem bworks_any (w : World) (hk : KIs w) (hg : EIs w) : Calls Tryd.prog 5 #[] w fun e w' => e = .returned (.bool true) ∧ Nx w w' := by
  have hmk1 : ∀ w, (Instr.makeSlice 43 (.int .i64 76) (.int .i64 76)).run Tryd.prog w = .ok (.slice (some ⟨w.heap.size, 0, none⟩) 76 76) (w.alloc (.cells (zer 76) 5)) := fun w => run_mk (P := Tryd.prog) 43 Tryd.underlying43 info_u8 .i64 .i64 76 (by omega) w
  have hmk2 : ∀ w, (Instr.makeSlice 43 (.int .i64 77) (.int .i64 77)).run Tryd.prog w = .ok (.slice (some ⟨w.heap.size, 0, none⟩) 77 77) (w.alloc (.cells (zer 77) 5)) := fun w => run_mk (P := Tryd.prog) 43 Tryd.underlying43 info_u8 .i64 .i64 77 (by omega) w
  have HK := Lib.hid hk
  have HG := Lib.hid hg
  obtain ⟨hz, hzs⟩ := zero_of_info info_blz
  obtain ⟨hz2, hzs2⟩ := zero_of_info info_tx2
  have HP0 := Lib.hid (fun w h => bput_z w h)
  have HP1 := Lib.hid (fun w v h g => bput_1 w v h g)
  have HR1 := Lib.hid (fun W v => bread_z (zeros 76) 4 br_76 (by rw [zeros_length]; decide) W v)
  have HR2 := Lib.hid (fun W v => bread_z (zeros 77) 5 br_77 (by rw [zeros_length]; decide) W v)
  have HSE : Hid (∀ w, KIs w → EIs w → Calls Tryd.prog 7 #[.agg (blc blZ (.slice none 0 0))] w fun e w' => e = .returned (.bool false) ∧ Nx w w') := Lib.hid (fun w k g => by have := sealed_any (.slice none 0 0) blZ w (blAt_z w) k g; rwa [se_z] at this)
  have HB1 := Lib.hid (fun A w => run_bl1 A w)
  have HTZ := run_tz
  have HA1 := Lib.hid bl1_at
  have bs := Lib.hid (fun tv => blocksz blZ tv HOkZ)
  have be := Lib.hid (fun tv => blcsame blZ blZ (.slice none 0 0) tv HOkZ HOkZ)
  have bo := Lib.hid (fun A n c => blc_one blZ (.slice A n c) rfl)
  generalize blc blZ = BZ at *
  generalize blc bl1 = B1 at *
  clear hk hg
  go_enter Tryd.func5, Tryd.ntmps5
  go_wp2_with fail
  refine (HP0.out _ HG.out).mono ?_
  rintro e w1 ⟨A1, c1, rfl, n1⟩
  have N1 := Lib.hid n1
  clear n1
  go_wp2_with fail
  refine (HR1.out _ _ ((Own.made w1 76 (by simp [maxLen])).rd) (HG.out.nx (N1.out.alloc _))).mono ?_
  rintro e w2 ⟨A2, c2, rfl, n2⟩
  have N2 := Lib.hid ((N1.out.alloc (.cells (zer 76) 5)).trans n2)
  have Z2 := Row.new w2 (BZ (.slice none 0 0)) 29 _ rfl
  have N3 := Lib.hid ((N2.out.alloc (.cells (BZ (.slice none 0 0)) 29)).setRow (g := w2.heap.size) (BZ (.slice A2 0 c2)) N2.out.size)
  have s1 := Lib.hid (bs.out (.slice A2 0 c2))
  have s2 := Lib.hid (be.out (.slice A2 0 c2))
  have s3 := Lib.hid (bo.out A2 0 c2)
  clear n2 N1 hmk1
  go_upto_region 3 with (refine wpList_store_row rfl 29 (.tmp 3) (.tmp 17) rfl w2.heap.size (BZ (.slice A2 0 c2)) rfl rfl 29 (BZ (.slice none 0 0)) Z2 s1.out s2.out s3.out ?_)
  generalize hg2 : w2.heap.size = g2 at *
  clear Z2 N2 hg2 s1 s2 s3
  generalize (w2.alloc (.cells (BZ (.slice none 0 0)) 29)).setRow g2 (BZ (.slice A2 0 c2)) = V2 at *
  go_wp2_with fail
  refine (HR2.out _ _ ((Own.made V2 77 (by simp [maxLen])).rd) (HG.out.nx (N3.out.alloc _))).mono ?_
  rintro e w3 ⟨A3, c3, rfl, n3⟩
  have N4 := Lib.hid ((N3.out.alloc (.cells (zer 77) 5)).trans n3)
  have Z3 := Row.new w3 (BZ (.slice none 0 0)) 29 _ rfl
  have N5 := Lib.hid ((N4.out.alloc (.cells (BZ (.slice none 0 0)) 29)).setRow (g := w3.heap.size) (BZ (.slice A3 0 c3)) N4.out.size)
  have s1 := Lib.hid (bs.out (.slice A3 0 c3))
  have s2 := Lib.hid (be.out (.slice A3 0 c3))
  have s3 := Lib.hid (bo.out A3 0 c3)
  clear n3 N3 hmk2
  go_upto_region 4 with (refine wpList_store_row rfl 29 (.tmp 5) (.tmp 22) rfl w3.heap.size (BZ (.slice A3 0 c3)) rfl rfl 29 (BZ (.slice none 0 0)) Z3 s1.out s2.out s3.out ?_)
  generalize hg3 : w3.heap.size = g3 at *
  clear Z3 N4 hg3 s1 s2 s3
  generalize (w3.alloc (.cells (BZ (.slice none 0 0)) 29)).setRow g3 (BZ (.slice A3 0 c3)) = V3 at *
  have NT := Lib.hid (N5.out.alloc (.cells #[.slice none 0 0, .slice none 0 0, .int .u32 0] 39))
  have HB1V := Lib.hid (fun w => HB1.out (some ⟨V3.heap.size, 0, none⟩) w)
  go_wp2_with (refine wpList_bld rfl 29 #[(1, .tmp 26)] rfl #[(1, .slice (some ⟨V3.heap.size, 0, none⟩) 1 1)] (by kernel_rfl) _ (HB1V.out _) ?_)
  refine (HP1.out _ _ (HA1.out V3) (HG.out.nx NT.out)).mono ?_
  rintro e w4 ⟨A4, c4, rfl, n4⟩
  have N6 := Lib.hid (NT.out.trans n4)
  clear n4 NT N5 HTZ HB1V
  go_wp2_with fail
  refine (HSE.out _ (HK.out.nx N6.out) (HG.out.nx N6.out)).mono ?_
  rintro e w5 ⟨rfl, n5⟩
  have N7 := Lib.hid (N6.out.trans n5)
  clear n5 N6
  go_wp2_with fail
  go_ret
  exact ⟨rfl, N7.out⟩
end Go.Proofs.YtpijehaciomkhaaDoor
