/- LAYER 9: the laws' works. -/
import Derived.Test.YtjbeemoobmagnaaDoorMer11
namespace Go.Proofs.YtjbeemoobmagnaaDoor
open Go Go.RowKit
set_option linter.unusedVariables false
set_option linter.unusedSimpArgs false
set_option linter.unusedVariables false
set_option linter.unusedSimpArgs false

theorem wpList_bld {P : Program} {w : World} {ops : Array Oper} {rest : List Oper} {o : Oper} {a : Act} {Q : Exit → Act → World → Prop} (hgd : o.guard = none) (ty : TypeId) (parts : Array (Nat × Operand)) (ho : o.op = .build ty parts) (vals : Array (Nat × Value)) (hv : (parts.map fun (i, x) => (i, a.eval x)) = vals) (v : Value)
    (hrun : (Instr.build ty vals).run P w = .ok v w) (h : wpList P ops Q rest (a.put o.dst v) w) : wpList P ops Q (o :: rest) a w :=
  wpList_val _ rfl hgd v (by
    subst hv
    unfold execOp
    simp only [ho]
    simp only [Sem.run_bind, hrun, Result.andThen_ok, Sem.run_pure]) h
def hA : List UInt8 := [1, 0, 0, 0, 0, 0, 0, 0, 0, 0, 0, 0, 0, 0, 0, 0, 0, 0, 0, 0, 0, 0, 0, 0, 0, 0, 0, 0, 0, 0, 0, 0]
def hB : List UInt8 := [2, 0, 0, 0, 0, 0, 0, 0, 0, 0, 0, 0, 0, 0, 0, 0, 0, 0, 0, 0, 0, 0, 0, 0, 0, 0, 0, 0, 0, 0, 0, 0]
theorem hA_length : hA.length = 32 := rfl
theorem hB_length : hB.length = 32 := rfl
theorem h32_3 {a b c : List UInt8} (ha : a.length = 32) (hb : b.length = 32) (hc : c.length = 32) : H32 [a, b, c] := fun x hx => by
  simp only [List.mem_cons, List.not_mem_nil, or_false] at hx
  rcases hx with rfl | rfl | rfl <;> assumption
theorem root_2 : rootB [hA, hA] = false := rootB_no (by decide) (by decide)
theorem two_joins : okRow (abv [hA, hB, hB]) = true := by decide +kernel
theorem root_3 : rootB [hA, hB, hB] = true := by
  rw [rootB_up (by decide) (by decide), rootB_up (by rw [abv_length]; decide) two_joins]
  exact rootB_one (by rw [abv_length, abv_length]; decide)
theorem way_3 : ∃ x, wayF [hA, hB, hA] 2 = [hA, x] := by
  rw [wayF_gt (by decide), wayF_gt (by rw [abv_length]; decide), wayF_le (by rw [abv_length, abv_length]; decide)]
  exact ⟨_, rfl⟩
theorem mk_1 (w : World) : (Instr.buildSlice 46 1 #[(0, .agg (hcel hA))]).run Tryd.prog w = .ok (.slice (some ⟨w.heap.size, 0, none⟩) 1 1) (w.alloc (.cells (hfs [hA]).toArray 30)) := by kernel_rfl
theorem mk_2 (w : World) : (Instr.buildSlice 46 2 #[(0, .agg (hcel hA)), (1, .agg (hcel hA))]).run Tryd.prog w = .ok (.slice (some ⟨w.heap.size, 0, none⟩) 2 2) (w.alloc (.cells (hfs [hA, hA]).toArray 30)) := by kernel_rfl
theorem mk_3 (w : World) : (Instr.buildSlice 46 3 #[(0, .agg (hcel hA)), (1, .agg (hcel hB)), (2, .agg (hcel hB))]).run Tryd.prog w = .ok (.slice (some ⟨w.heap.size, 0, none⟩) 3 3) (w.alloc (.cells (hfs [hA, hB, hB]).toArray 30)) := by kernel_rfl
theorem mk_4 (w : World) : (Instr.buildSlice 46 3 #[(0, .agg (hcel hA)), (1, .agg (hcel hB)), (2, .agg (hcel hA))]).run Tryd.prog w = .ok (.slice (some ⟨w.heap.size, 0, none⟩) 3 3) (w.alloc (.cells (hfs [hA, hB, hA]).toArray 30)) := by kernel_rfl
theorem mk_rd (l : Hs) (h : H32 l) (hm : l.length ≤ 1000) (w : World) (n : Nat) (hn : n = l.length) : RdE elH (w.alloc (.cells (hfs l).toArray 30)) (.slice (some ⟨w.heap.size, 0, none⟩) n n) l :=
  (OwnE.of_row (B := 0) (Row.new w (hfs l).toArray 30 _ rfl) h (Nat.zero_le _) hn (by simp only [maxLen]; omega)).rd
theorem build_A (w : World) : (Instr.build 30 #[(0, .int .u8 1)]).run Tryd.prog w = .ok (.agg (hcel hA)) w := by kernel_rfl

set_option maxRecDepth 100000 in
set_option maxHeartbeats 8000000 in
theorem mworks_any (w : World) (hk : KIs w) : Calls Tryd.prog 38 #[] w fun e w' => e = .returned (.bool true) ∧ Nx w w' := by
  obtain ⟨hz, hzs⟩ := zero_of_info info_hash'
  change ∀ w, (zeroValue 30).run Tryd.prog w = .ok (.agg (hcel hZ)) w at hz
  have LZ := Lib.hid hZ_length
  have LA := Lib.hid hA_length
  have LB := Lib.hid hB_length
  have L0 := Lib.hid (rootH_length (l := []) H32.nil)
  have L2 := Lib.hid (rootH_length (l := [hA, hA]) (fun x hx => by simp at hx; rw [hx]; exact hA_length))
  have L3 := Lib.hid (rootH_length (l := [hA, hB, hB]) (h32_3 hA_length hB_length hB_length))
  have HC0 : Hid (∀ W, Nx w W → Calls Tryd.prog 31 #[.slice none 0 0] W fun e w' => e = .returned (.tuple #[.agg (hcel (rootH [])), .bool false]) ∧ Nx W w') := Lib.hid fun W h => by
    have := mroot_any (.slice none 0 0) [] W (RdE.nil W) (by decide) (hk.nx h)
    rwa [rootB_zero rfl] at this
  have HC1 : Hid (∀ W v, Nx w W → RdE elH W v [hA] → Calls Tryd.prog 31 #[v] W fun e w' => e = .returned (.tuple #[.agg (hcel hA), .bool true]) ∧ Nx W w') := Lib.hid fun W v h hr => by
    have := mroot_any v [hA] W hr (by decide) (hk.nx h)
    rwa [rootB_one rfl, rootH_one rfl] at this
  have HC2 : Hid (∀ W v, Nx w W → RdE elH W v [hA, hA] → Calls Tryd.prog 31 #[v] W fun e w' => e = .returned (.tuple #[.agg (hcel (rootH [hA, hA])), .bool false]) ∧ Nx W w') := Lib.hid fun W v h hr => by
    have := mroot_any v [hA, hA] W hr (by decide) (hk.nx h)
    rwa [root_2] at this
  have HC3 : Hid (∀ W v, Nx w W → RdE elH W v [hA, hB, hB] → Calls Tryd.prog 31 #[v] W fun e w' => e = .returned (.tuple #[.agg (hcel (rootH [hA, hB, hB])), .bool true]) ∧ Nx W w') := Lib.hid fun W v h hr => by
    have := mroot_any v [hA, hB, hB] W hr (by decide) (hk.nx h)
    rwa [root_3] at this
  obtain ⟨xw, hxw⟩ := way_3
  have HC4 : Hid (∀ W v, Nx w W → RdE elH W v [hA, hB, hA] → Calls Tryd.prog 33 #[v, .int .i64 2] W fun e w' => ∃ v', e = .returned (.tuple #[v', .int .i64 0]) ∧ OwnE elH W.heap.size w' v' [hA, xw] ∧ Nx W w') := Lib.hid fun W v h hr => by
    have := mway_yes v [hA, hB, hA] 2 W hr (by decide) (by decide) (hk.nx h)
    rwa [hxw] at this
  have HC5 : Hid (∀ W v, RdE elH W v [hA, hB, hA] → Calls Tryd.prog 33 #[v, .int .i64 3] W fun e w' => e = .returned (.tuple #[.slice none 0 0, .int .i64 2]) ∧ w' = W) := Lib.hid fun W v hr => mway_no v [hA, hB, hA] 3 W hr (by decide) (.inr (by decide))
  have HM1 := Lib.hid mk_1
  have HM2 := Lib.hid mk_2
  have HM3 := Lib.hid mk_3
  have HM4 := Lib.hid mk_4
  have HD1 := Lib.hid (fun W => mk_rd [hA] (H32.one hA_length) (by decide) W 1 rfl)
  have HD2 := Lib.hid (fun W => mk_rd [hA, hA] (fun x hx => by simp at hx; rw [hx]; exact hA_length) (by decide) W 2 rfl)
  have HD3 := Lib.hid (fun W => mk_rd [hA, hB, hB] (h32_3 hA_length hB_length hB_length) (by decide) W 3 rfl)
  have HD4 := Lib.hid (fun W => mk_rd [hA, hB, hA] (h32_3 hA_length hB_length hA_length) (by decide) W 3 rfl)
  have EQ := Lib.hid (fun w => eq_hash' hA hA_length w)
  have HBA : Hid (∀ w, (Instr.build 30 #[(0, .int .u8 1)]).run Tryd.prog w = .ok (.agg (hcel hA)) w) := Lib.hid (fun w => by kernel_rfl)
  have HBB : Hid (∀ w, (Instr.build 30 #[(0, .int .u8 2)]).run Tryd.prog w = .ok (.agg (hcel hB)) w) := Lib.hid (fun w => by kernel_rfl)
  generalize rootH [] = q0 at *
  generalize rootH [hA, hA] = q2 at *
  generalize rootH [hA, hB, hB] = q3 at *
  generalize hfs [hA] = f1 at *
  generalize hfs [hA, hA] = f2 at *
  generalize hfs [hA, hB, hB] = f3 at *
  generalize hfs [hA, hB, hA] = f4 at *
  generalize hA = ha at *
  generalize hB = hb at *
  generalize hZ = ZZ at *
  have iA := Lib.hid (hashsz ha LA.out)
  have iB := Lib.hid (hashsz hb LB.out)
  have i0 := Lib.hid (hashsz q0 L0.out)
  have i2 := Lib.hid (hashsz q2 L2.out)
  have i3 := Lib.hid (hashsz q3 L3.out)
  have oA := Lib.hid (hashsame ZZ ha LZ.out LA.out)
  have oB := Lib.hid (hashsame ZZ hb LZ.out LB.out)
  have o0 := Lib.hid (hashsame ZZ q0 LZ.out L0.out)
  have o2 := Lib.hid (hashsame ZZ q2 LZ.out L2.out)
  have o3 := Lib.hid (hashsame ZZ q3 LZ.out L3.out)
  clear hk hxw
  have S1 := (Row.new w (hcel ZZ) 30 _ rfl).alloc (.cells (hcel ZZ) 30)
  have S2 := (Row.new2 w (.cells (hcel ZZ) 30) (hcel ZZ) 30).setRow_other (k := w.heap.size) (hcel ha) (by omega)
  have R1 := (S1.setRow (hcel ha)).setRow_other (k := w.heap.size + 1) (hcel hb) (by omega)
  have R2 := S2.setRow (hcel hb)
  have N0 : Hid (Nx w ((((w.alloc (.cells (hcel ZZ) 30)).alloc (.cells (hcel ZZ) 30)).setRow w.heap.size (hcel ha)).setRow (w.heap.size + 1) (hcel hb))) := Lib.hid (((((Nx.refl w).alloc _).alloc _).setRow _ (Nat.le_refl _)).setRow _ (Nat.le_succ _))
  go_enter Tryd.func38, Tryd.ntmps38
  go_wp2_with (first | (refine wpList_bld rfl 30 #[(0, .const (.int .u8 1))] rfl #[(0, .int .u8 1)] (by kernel_rfl) _ (HBA.out _) ?_) | (refine wpList_bld rfl 30 #[(0, .const (.int .u8 2))] rfl #[(0, .int .u8 2)] (by kernel_rfl) _ (HBB.out _) ?_) | (refine wpList_store_row rfl 30 (.tmp 1) (.tmp 15) rfl w.heap.size (hcel ha) rfl rfl 30 (hcel ZZ) S1 iA.out oA.out (hcel_one _) ?_) | (refine wpList_store_row rfl 30 (.tmp 2) (.tmp 16) rfl (w.heap.size + 1) (hcel hb) rfl rfl 30 (hcel ZZ) S2 iB.out oB.out (hcel_one _) ?_))
  clear S1 S2
  have HG12 : Hid (w.heap.size + 1 < ((((w.alloc (.cells (hcel ZZ) 30)).alloc (.cells (hcel ZZ) 30)).setRow w.heap.size (hcel ha)).setRow (w.heap.size + 1) (hcel hb)).heap.size) := Lib.hid R2.lt
  generalize ((((w.alloc (.cells (hcel ZZ) 30)).alloc (.cells (hcel ZZ) 30)).setRow w.heap.size (hcel ha)).setRow (w.heap.size + 1) (hcel hb)) = W0 at *
  refine (HC0.out _ N0.out).mono ?_
  rintro e w1 ⟨rfl, n1⟩
  have R1a := R1.nx n1
  have R2a := R2.nx n1
  have Na := Lib.hid (N0.out.trans n1)
  clear n1 R1 R2 N0
  have Z1 := Row.new w1 (hcel ZZ) 30 _ rfl
  have R1 := (R1a.alloc (.cells (hcel ZZ) 30)).setRow_other (k := w1.heap.size) (hcel q0) (by have := R1a.lt; omega)
  have R2 := (R2a.alloc (.cells (hcel ZZ) 30)).setRow_other (k := w1.heap.size) (hcel q0) (by have := R2a.lt; omega)
  have N0 := Lib.hid ((Na.out.alloc (.cells (hcel ZZ) 30)).setRow (g := w1.heap.size) (hcel q0) Na.out.size)
  have T1 := Z1.setRow (hcel q0)
  clear R1a R2a Na
  clear T1
  go_wp2_with (first | (refine wpList_store_row rfl 30 (.tmp 3) (.tmp 19) rfl w1.heap.size (hcel q0) rfl rfl 30 (hcel ZZ) Z1 i0.out o0.out (hcel_one _) ?_) | (refine wpList_load_row rfl 30 (.tmp 1) rfl w.heap.size rfl 30 (hcel ha) (0, 0) _ R1 Tryd.underlying30 rfl iA.out ?_) | (refine wpList_load_row rfl 30 (.tmp 2) rfl (w.heap.size + 1) rfl 30 (hcel hb) (0, 0) _ R2 Tryd.underlying30 rfl iB.out ?_) | (refine wpList_mk rfl 46 1 #[(0, .tmp 22)] rfl #[(0, .agg (hcel ha))] (by kernel_rfl) _ (HM1.out _) ?_))
  clear Z1
  have hs1 : ((w1.alloc (.cells (hcel ZZ) 30)).setRow w1.heap.size (hcel q0)).heap.size = w1.heap.size + 1 := by rw [size_setRow, alloc_size]
  generalize hWW1 : ((w1.alloc (.cells (hcel ZZ) 30)).setRow w1.heap.size (hcel q0)) = W1 at *
  clear hWW1
  rw [← hs1]
  clear hs1
  refine (HC1.out _ _ (N0.out.alloc _) (HD1.out _)).mono ?_
  rintro e w2 ⟨rfl, n2⟩
  have n2 := ((Nx.refl W1).alloc (.cells (f1).toArray 30)).trans n2
  have R1a := R1.nx n2
  have R2a := R2.nx n2
  have Na := Lib.hid (N0.out.trans n2)
  clear n2 R1 R2 N0
  have Z2 := Row.new w2 (hcel ZZ) 30 _ rfl
  have R1 := (R1a.alloc (.cells (hcel ZZ) 30)).setRow_other (k := w2.heap.size) (hcel ha) (by have := R1a.lt; omega)
  have R2 := (R2a.alloc (.cells (hcel ZZ) 30)).setRow_other (k := w2.heap.size) (hcel ha) (by have := R2a.lt; omega)
  have N0 := Lib.hid ((Na.out.alloc (.cells (hcel ZZ) 30)).setRow (g := w2.heap.size) (hcel ha) Na.out.size)
  have T2 := Z2.setRow (hcel ha)
  clear R1a R2a Na
  go_wp2_with (first | (refine wpList_store_row rfl 30 (.tmp 5) (.tmp 25) rfl w2.heap.size (hcel ha) rfl rfl 30 (hcel ZZ) Z2 iA.out oA.out (hcel_one _) ?_) | (refine wpList_load_row rfl 30 (.tmp 1) rfl w.heap.size rfl 30 (hcel ha) (0, 0) _ R1 Tryd.underlying30 rfl iA.out ?_) | (refine wpList_load_row rfl 30 (.tmp 2) rfl (w.heap.size + 1) rfl 30 (hcel hb) (0, 0) _ R2 Tryd.underlying30 rfl iB.out ?_) | (refine wpList_mk rfl 46 2 #[(0, .tmp 28), (1, .tmp 29)] rfl #[(0, .agg (hcel ha)), (1, .agg (hcel ha))] (by kernel_rfl) _ (HM2.out _) ?_))
  clear Z2
  have hs2 : ((w2.alloc (.cells (hcel ZZ) 30)).setRow w2.heap.size (hcel ha)).heap.size = w2.heap.size + 1 := by rw [size_setRow, alloc_size]
  generalize hWW2 : ((w2.alloc (.cells (hcel ZZ) 30)).setRow w2.heap.size (hcel ha)) = W2 at *
  clear hWW2
  rw [← hs2]
  clear hs2
  refine (HC2.out _ _ (N0.out.alloc _) (HD2.out _)).mono ?_
  rintro e w3 ⟨rfl, n3⟩
  have n3 := ((Nx.refl W2).alloc (.cells (f2).toArray 30)).trans n3
  have R1a := R1.nx n3
  have R2a := R2.nx n3
  have Na := Lib.hid (N0.out.trans n3)
  have T2 := T2.nx n3
  clear n3 R1 R2 N0
  have Z3 := Row.new w3 (hcel ZZ) 30 _ rfl
  have R1 := (R1a.alloc (.cells (hcel ZZ) 30)).setRow_other (k := w3.heap.size) (hcel q2) (by have := R1a.lt; omega)
  have R2 := (R2a.alloc (.cells (hcel ZZ) 30)).setRow_other (k := w3.heap.size) (hcel q2) (by have := R2a.lt; omega)
  have N0 := Lib.hid ((Na.out.alloc (.cells (hcel ZZ) 30)).setRow (g := w3.heap.size) (hcel q2) Na.out.size)
  have T3 := Z3.setRow (hcel q2)
  have T2 := (T2.alloc (.cells (hcel ZZ) 30)).setRow_other (k := w3.heap.size) (hcel q2) (by have := T2.lt; omega)
  clear R1a R2a Na
  clear T3
  go_wp2_with (first | (refine wpList_store_row rfl 30 (.tmp 7) (.tmp 32) rfl w3.heap.size (hcel q2) rfl rfl 30 (hcel ZZ) Z3 i2.out o2.out (hcel_one _) ?_) | (refine wpList_load_row rfl 30 (.tmp 1) rfl w.heap.size rfl 30 (hcel ha) (0, 0) _ R1 Tryd.underlying30 rfl iA.out ?_) | (refine wpList_load_row rfl 30 (.tmp 2) rfl (w.heap.size + 1) rfl 30 (hcel hb) (0, 0) _ R2 Tryd.underlying30 rfl iB.out ?_) | (refine wpList_mk rfl 46 3 #[(0, .tmp 35), (1, .tmp 36), (2, .tmp 37)] rfl #[(0, .agg (hcel ha)), (1, .agg (hcel hb)), (2, .agg (hcel hb))] (by kernel_rfl) _ (HM3.out _) ?_))
  clear Z3
  have hs3 : ((w3.alloc (.cells (hcel ZZ) 30)).setRow w3.heap.size (hcel q2)).heap.size = w3.heap.size + 1 := by rw [size_setRow, alloc_size]
  generalize hWW3 : ((w3.alloc (.cells (hcel ZZ) 30)).setRow w3.heap.size (hcel q2)) = W3 at *
  clear hWW3
  rw [← hs3]
  clear hs3
  refine (HC3.out _ _ (N0.out.alloc _) (HD3.out _)).mono ?_
  rintro e w4 ⟨rfl, n4⟩
  have n4 := ((Nx.refl W3).alloc (.cells (f3).toArray 30)).trans n4
  have R1a := R1.nx n4
  have R2a := R2.nx n4
  have Na := Lib.hid (N0.out.trans n4)
  have T2 := T2.nx n4
  clear n4 R1 R2 N0
  have Z4 := Row.new w4 (hcel ZZ) 30 _ rfl
  have R1 := (R1a.alloc (.cells (hcel ZZ) 30)).setRow_other (k := w4.heap.size) (hcel q3) (by have := R1a.lt; omega)
  have R2 := (R2a.alloc (.cells (hcel ZZ) 30)).setRow_other (k := w4.heap.size) (hcel q3) (by have := R2a.lt; omega)
  have N0 := Lib.hid ((Na.out.alloc (.cells (hcel ZZ) 30)).setRow (g := w4.heap.size) (hcel q3) Na.out.size)
  have T4 := Z4.setRow (hcel q3)
  have T2 := (T2.alloc (.cells (hcel ZZ) 30)).setRow_other (k := w4.heap.size) (hcel q3) (by have := T2.lt; omega)
  clear R1a R2a Na
  clear T4
  go_wp2_with (first | (refine wpList_store_row rfl 30 (.tmp 9) (.tmp 40) rfl w4.heap.size (hcel q3) rfl rfl 30 (hcel ZZ) Z4 i3.out o3.out (hcel_one _) ?_) | (refine wpList_load_row rfl 30 (.tmp 1) rfl w.heap.size rfl 30 (hcel ha) (0, 0) _ R1 Tryd.underlying30 rfl iA.out ?_) | (refine wpList_load_row rfl 30 (.tmp 2) rfl (w.heap.size + 1) rfl 30 (hcel hb) (0, 0) _ R2 Tryd.underlying30 rfl iB.out ?_) | (refine wpList_mk rfl 46 3 #[(0, .tmp 43), (1, .tmp 44), (2, .tmp 45)] rfl #[(0, .agg (hcel ha)), (1, .agg (hcel hb)), (2, .agg (hcel ha))] (by kernel_rfl) _ (HM4.out _) ?_))
  clear Z4
  have hs4 : ((w4.alloc (.cells (hcel ZZ) 30)).setRow w4.heap.size (hcel q3)).heap.size = w4.heap.size + 1 := by rw [size_setRow, alloc_size]
  generalize hWW4 : ((w4.alloc (.cells (hcel ZZ) 30)).setRow w4.heap.size (hcel q3)) = W4 at *
  clear hWW4
  rw [← hs4]
  clear hs4
  refine (HC4.out _ _ (N0.out.alloc _) (HD4.out _)).mono ?_
  rintro e w5 ⟨vw, rfl, ow4, n5⟩
  have rw4 := ow4.rd
  obtain ⟨Aw, cw, hvw, -, -, -, hqw⟩ := rw4.h_parts
  obtain ⟨bw, ow, rfl, hbw, hcw⟩ := hqw (by simp)
  replace hvw : vw = .slice (some ⟨bw, ow, none⟩) 2 cw := hvw
  subst hvw
  have CW : Hid (∀ W', Nx w5 W' → ∀ i u, (hcel ha)[i]? = some u → W'.cell? ⟨bw, ow + 0 * 32 + i, none⟩ = some u) := Lib.hid fun W' h i u hu => (h.cell (p := ⟨bw, ow + 0 * 32 + i, none⟩) hbw).trans (hcw 0 (by simp) i u hu)
  clear rw4 hqw hcw hbw ow4
  have n5 := ((Nx.refl W4).alloc (.cells (f4).toArray 30)).trans n5
  have R1a := R1.nx n5
  have R2a := R2.nx n5
  have Na := Lib.hid (N0.out.trans n5)
  have T2 := T2.nx n5
  clear n5 R1 R2 N0
  have R1 := R1a
  have R2 := R2a
  have N0 := Na
  clear R1a R2a Na
  go_wp2_with (first | (refine wpList_load_row rfl 30 (.tmp 1) rfl w.heap.size rfl 30 (hcel ha) (0, 0) _ R1 Tryd.underlying30 rfl iA.out ?_) | (refine wpList_load_row rfl 30 (.tmp 2) rfl (w.heap.size + 1) rfl 30 (hcel hb) (0, 0) _ R2 Tryd.underlying30 rfl iB.out ?_) | (refine wpList_mk rfl 46 3 #[(0, .tmp 51), (1, .tmp 52), (2, .tmp 53)] rfl #[(0, .agg (hcel ha)), (1, .agg (hcel hb)), (2, .agg (hcel ha))] (by kernel_rfl) _ (HM4.out _) ?_))
  generalize hWW5 : w5 = W5 at *
  clear hWW5
  refine (HC5.out _ _ (HD4.out _)).mono ?_
  rintro e w6 ⟨rfl, hw6⟩
  subst hw6
  have R1z := R1.alloc (.cells (f4).toArray 30)
  have R5z := T2.alloc (.cells (f4).toArray 30)
  have NZ := Lib.hid (N0.out.alloc (.cells (f4).toArray 30))
  have CWz := Lib.hid (fun wr (hx : Nx (W5.alloc (.cells (f4).toArray 30)) wr) => CW.out wr (((Nx.refl W5).alloc _).trans hx))
  clear R1 R2 T2 N0 CW HC0 HC1 HC2 HC3 HC4 HC5 HM1 HM2 HM3 HM4 HD1 HD2 HD3 HD4
  generalize W5.alloc (.cells (f4).toArray 30) = WZ at *
  have R1 := R1z
  have R5 := R5z
  have CW := CWz
  clear R1z R5z CWz
  generalize w2.heap.size = g5 at *
  generalize w.heap.size = g1 at *
  go_wp2_with fail
  refine wp_region_nx 38 [[], [0], [1], [2], [2], [3, 4, 2], [2, 5], [6, 2], [7], [7, 8], [9, 7], [10], [11, 10], [10, 12], [13, 10], [14], [14, 15], [16, 14], [17], [18, 17], [19, 17], [17, 20], [21, 17], [22], [23, 22], [24, 22], [22], [25, 26, 22], [22, 27], [28, 22], [29], [30, 29], [29, 31], [32, 29], [33], [34, 33], [33, 35], [36, 33, 0, 1, 2, 3, 4, 5, 6, 7, 8, 9, 10, 11, 12, 13, 14, 15, 16, 17, 18, 19, 20, 21, 22, 23, 24, 25, 26, 27, 28, 29, 30, 31, 32, 33, 34, 35, 36]] [some 58, some 59, some 60, some 61, some 62, some 63, some 64, some 65, some 66, some 67, some 68, some 69, some 70, some 71, some 72, some 73, some 74, some 75, some 76, some 77, some 78, some 79, some 80, some 81, some 82, some 83, some 84, some 85, some 86, some 87, some 88, some 89, some 90, some 91, some 92, some 93, some 94, some 0]
    [.eq (.bool false), .eq (.bool true), .eq (.bool true), .eq (.agg (hcel ha)), .eq (.agg (hcel ha)), .eq (.bool true), .eq (.bool true), .eq (.bool true), .eq (.bool true), .eq (.bool true), .eq (.bool true), .eq (.bool false), .eq (.bool true), .eq (.bool true), .eq (.bool true), .eq (.bool true), .eq (.bool true), .eq (.bool true), .eq (.slice (some ⟨bw, ow, none⟩) 2 cw), .eq (.int .i64 2), .eq (.bool true), .eq (.bool true), .eq (.bool true), .eq (.slice (some ⟨bw, ow, none⟩) 2 cw), .eq (.pointer (some ⟨bw, ow + 0 * 32, none⟩)), .eq (.agg (hcel ha)), .eq (.agg (hcel ha)), .eq (.bool true), .eq (.bool true), .eq (.bool true), .eq (.int .i64 0), .eq (.bool true), .eq (.bool true), .eq (.bool true), .eq (.int .i64 2), .eq (.bool true), .eq (.bool true), .eq (.bool true)]
    (by kernel_rfl) (by kernel_rfl) (hord_of (by decide)) (by kernel_rfl) (by decide) (by decide) (htail_of (by decide)) ?_ _ (by rfl) ?_
  · intro x tm wr htm hx i hi hd K hK
    simp only [fillA, List.setIfInBounds_toArray, List.set_cons_zero, List.set_cons_succ] at htm
    subst htm
    have hcs : i = 0 ∨ i = 1 ∨ i = 2 ∨ i = 3 ∨ i = 4 ∨ i = 5 ∨ i = 6 ∨ i = 7 ∨ i = 8 ∨ i = 9 ∨ i = 10 ∨ i = 11 ∨ i = 12 ∨ i = 13 ∨ i = 14 ∨ i = 15 ∨ i = 16 ∨ i = 17 ∨ i = 18 ∨ i = 19 ∨ i = 20 ∨ i = 21 ∨ i = 22 ∨ i = 23 ∨ i = 24 ∨ i = 25 ∨ i = 26 ∨ i = 27 ∨ i = 28 ∨ i = 29 ∨ i = 30 ∨ i = 31 ∨ i = 32 ∨ i = 33 ∨ i = 34 ∨ i = 35 ∨ i = 36 ∨ i = 37 := by omega
    clear hi
    rcases hcs with rfl | rfl | rfl | rfl | rfl | rfl | rfl | rfl | rfl | rfl | rfl | rfl | rfl | rfl | rfl | rfl | rfl | rfl | rfl | rfl | rfl | rfl | rfl | rfl | rfl | rfl | rfl | rfl | rfl | rfl | rfl | rfl | rfl | rfl | rfl | rfl | rfl | rfl
    · exact wpOp_of rfl rfl (wp_val_of (some 58) rfl (.bool false) (by kernel_rfl) (hK _ _ rfl (Nx.refl _)))
    · have e0 : x 0 = .bool false := hd 0 (by decide)
      generalize x 0 = y0 at e0 hK ⊢
      subst e0
      exact wpOp_of rfl rfl (wp_val_of (some 59) rfl (.bool true) (by kernel_rfl) (hK _ _ rfl (Nx.refl _)))
    · have e1 : x 1 = .bool true := hd 1 (by decide)
      generalize x 1 = y1 at e1 hK ⊢
      subst e1
      exact wpOp_of rfl rfl (wp_val_of (some 60) rfl (.bool true) (by kernel_rfl) (hK _ _ rfl (Nx.refl _)))
    · have e2 : x 2 = .bool true := hd 2 (by decide)
      generalize x 2 = y2 at e2 hK ⊢
      subst e2
      exact wpOp_g rfl (by rfl) (wp_load_row_of (some 61) rfl 30 (.tmp 5) rfl (g5) rfl 30 (hcel ha) _ (R5.nx hx) Tryd.underlying30 rfl iA.out (hK _ _ rfl (Nx.refl _)))
    · have e2 : x 2 = .bool true := hd 2 (by decide)
      generalize x 2 = y2 at e2 hK ⊢
      subst e2
      exact wpOp_g rfl (by rfl) (wp_load_row_of (some 62) rfl 30 (.tmp 1) rfl (g1) rfl 30 (hcel ha) _ (R1.nx hx) Tryd.underlying30 rfl iA.out (hK _ _ rfl (Nx.refl _)))
    · have e3 : x 3 = .agg (hcel ha) := hd 3 (by decide)
      have e4 : x 4 = .agg (hcel ha) := hd 4 (by decide)
      have e2 : x 2 = .bool true := hd 2 (by decide)
      generalize x 3 = y3 at e3 hK ⊢
      subst e3
      generalize x 4 = y4 at e4 hK ⊢
      subst e4
      generalize x 2 = y2 at e2 hK ⊢
      subst e2
      exact wpOp_g rfl (by rfl) (wp_eql_of (some 63) rfl 30 _ _ _ rfl (hcel ha) (hcel ha) rfl rfl (by kernel_rfl) true (EQ.out wr) (hK _ _ rfl (Nx.refl _)))
    · have e2 : x 2 = .bool true := hd 2 (by decide)
      have e5 : x 5 = .bool true := hd 5 (by decide)
      generalize x 2 = y2 at e2 hK ⊢
      subst e2
      generalize x 5 = y5 at e5 hK ⊢
      subst e5
      exact wpOp_of rfl rfl (wp_val_of (some 64) rfl (.bool true) (by kernel_rfl) (hK _ _ rfl (Nx.refl _)))
    · have e6 : x 6 = .bool true := hd 6 (by decide)
      have e2 : x 2 = .bool true := hd 2 (by decide)
      generalize x 6 = y6 at e6 hK ⊢
      subst e6
      generalize x 2 = y2 at e2 hK ⊢
      subst e2
      exact wpOp_of rfl rfl (wp_val_of (some 65) rfl (.bool true) (by kernel_rfl) (hK _ _ rfl (Nx.refl _)))
    · have e7 : x 7 = .bool true := hd 7 (by decide)
      generalize x 7 = y7 at e7 hK ⊢
      subst e7
      exact wpOp_g rfl (by rfl) (wp_val_of (some 66) rfl (.bool true) (by kernel_rfl) (hK _ _ rfl (Nx.refl _)))
    · have e7 : x 7 = .bool true := hd 7 (by decide)
      have e8 : x 8 = .bool true := hd 8 (by decide)
      generalize x 7 = y7 at e7 hK ⊢
      subst e7
      generalize x 8 = y8 at e8 hK ⊢
      subst e8
      exact wpOp_of rfl rfl (wp_val_of (some 67) rfl (.bool true) (by kernel_rfl) (hK _ _ rfl (Nx.refl _)))
    · have e9 : x 9 = .bool true := hd 9 (by decide)
      have e7 : x 7 = .bool true := hd 7 (by decide)
      generalize x 9 = y9 at e9 hK ⊢
      subst e9
      generalize x 7 = y7 at e7 hK ⊢
      subst e7
      exact wpOp_of rfl rfl (wp_val_of (some 68) rfl (.bool true) (by kernel_rfl) (hK _ _ rfl (Nx.refl _)))
    · have e10 : x 10 = .bool true := hd 10 (by decide)
      generalize x 10 = y10 at e10 hK ⊢
      subst e10
      exact wpOp_g rfl (by rfl) (wp_val_of (some 69) rfl (.bool false) (by kernel_rfl) (hK _ _ rfl (Nx.refl _)))
    · have e11 : x 11 = .bool false := hd 11 (by decide)
      have e10 : x 10 = .bool true := hd 10 (by decide)
      generalize x 11 = y11 at e11 hK ⊢
      subst e11
      generalize x 10 = y10 at e10 hK ⊢
      subst e10
      exact wpOp_g rfl (by rfl) (wp_val_of (some 70) rfl (.bool true) (by kernel_rfl) (hK _ _ rfl (Nx.refl _)))
    · have e10 : x 10 = .bool true := hd 10 (by decide)
      have e12 : x 12 = .bool true := hd 12 (by decide)
      generalize x 10 = y10 at e10 hK ⊢
      subst e10
      generalize x 12 = y12 at e12 hK ⊢
      subst e12
      exact wpOp_of rfl rfl (wp_val_of (some 71) rfl (.bool true) (by kernel_rfl) (hK _ _ rfl (Nx.refl _)))
    · have e13 : x 13 = .bool true := hd 13 (by decide)
      have e10 : x 10 = .bool true := hd 10 (by decide)
      generalize x 13 = y13 at e13 hK ⊢
      subst e13
      generalize x 10 = y10 at e10 hK ⊢
      subst e10
      exact wpOp_of rfl rfl (wp_val_of (some 72) rfl (.bool true) (by kernel_rfl) (hK _ _ rfl (Nx.refl _)))
    · have e14 : x 14 = .bool true := hd 14 (by decide)
      generalize x 14 = y14 at e14 hK ⊢
      subst e14
      exact wpOp_g rfl (by rfl) (wp_val_of (some 73) rfl (.bool true) (by kernel_rfl) (hK _ _ rfl (Nx.refl _)))
    · have e14 : x 14 = .bool true := hd 14 (by decide)
      have e15 : x 15 = .bool true := hd 15 (by decide)
      generalize x 14 = y14 at e14 hK ⊢
      subst e14
      generalize x 15 = y15 at e15 hK ⊢
      subst e15
      exact wpOp_of rfl rfl (wp_val_of (some 74) rfl (.bool true) (by kernel_rfl) (hK _ _ rfl (Nx.refl _)))
    · have e16 : x 16 = .bool true := hd 16 (by decide)
      have e14 : x 14 = .bool true := hd 14 (by decide)
      generalize x 16 = y16 at e16 hK ⊢
      subst e16
      generalize x 14 = y14 at e14 hK ⊢
      subst e14
      exact wpOp_of rfl rfl (wp_val_of (some 75) rfl (.bool true) (by kernel_rfl) (hK _ _ rfl (Nx.refl _)))
    · have e17 : x 17 = .bool true := hd 17 (by decide)
      generalize x 17 = y17 at e17 hK ⊢
      subst e17
      exact wpOp_g rfl (by rfl) (wp_val_of (some 76) rfl (.slice (some ⟨bw, ow, none⟩) 2 cw) (by kernel_rfl) (hK _ _ rfl (Nx.refl _)))
    · have e18 : x 18 = .slice (some ⟨bw, ow, none⟩) 2 cw := hd 18 (by decide)
      have e17 : x 17 = .bool true := hd 17 (by decide)
      generalize x 18 = y18 at e18 hK ⊢
      subst e18
      generalize x 17 = y17 at e17 hK ⊢
      subst e17
      exact wpOp_g rfl (by rfl) (wp_val_of (some 77) rfl (.int .i64 2) (by kernel_rfl) (hK _ _ rfl (Nx.refl _)))
    · have e19 : x 19 = .int .i64 2 := hd 19 (by decide)
      have e17 : x 17 = .bool true := hd 17 (by decide)
      generalize x 19 = y19 at e19 hK ⊢
      subst e19
      generalize x 17 = y17 at e17 hK ⊢
      subst e17
      exact wpOp_g rfl (by rfl) (wp_val_of (some 78) rfl (.bool true) (by kernel_rfl) (hK _ _ rfl (Nx.refl _)))
    · have e17 : x 17 = .bool true := hd 17 (by decide)
      have e20 : x 20 = .bool true := hd 20 (by decide)
      generalize x 17 = y17 at e17 hK ⊢
      subst e17
      generalize x 20 = y20 at e20 hK ⊢
      subst e20
      exact wpOp_of rfl rfl (wp_val_of (some 79) rfl (.bool true) (by kernel_rfl) (hK _ _ rfl (Nx.refl _)))
    · have e21 : x 21 = .bool true := hd 21 (by decide)
      have e17 : x 17 = .bool true := hd 17 (by decide)
      generalize x 21 = y21 at e21 hK ⊢
      subst e21
      generalize x 17 = y17 at e17 hK ⊢
      subst e17
      exact wpOp_of rfl rfl (wp_val_of (some 80) rfl (.bool true) (by kernel_rfl) (hK _ _ rfl (Nx.refl _)))
    · have e22 : x 22 = .bool true := hd 22 (by decide)
      generalize x 22 = y22 at e22 hK ⊢
      subst e22
      exact wpOp_g rfl (by rfl) (wp_val_of (some 81) rfl (.slice (some ⟨bw, ow, none⟩) 2 cw) (by kernel_rfl) (hK _ _ rfl (Nx.refl _)))
    · have e23 : x 23 = .slice (some ⟨bw, ow, none⟩) 2 cw := hd 23 (by decide)
      have e22 : x 22 = .bool true := hd 22 (by decide)
      generalize x 23 = y23 at e23 hK ⊢
      subst e23
      generalize x 22 = y22 at e22 hK ⊢
      subst e22
      exact wpOp_g rfl (by rfl) (wp_ix_of (some 82) rfl 46 30 (.tmp 81) (.const (.int .i64 0)) rfl Tryd.underlying46 32 Tryd.sizeOf30 bw ow 2 cw 0 0 rfl rfl rfl (by decide) (hK _ _ rfl (Nx.refl _)))
    · have e24 : x 24 = .pointer (some ⟨bw, ow + 0 * 32, none⟩) := hd 24 (by decide)
      have e22 : x 22 = .bool true := hd 22 (by decide)
      generalize x 24 = y24 at e24 hK ⊢
      subst e24
      generalize x 22 = y22 at e22 hK ⊢
      subst e22
      exact wpOp_g rfl (by rfl) (wp_load_at (some 83) rfl 30 (.tmp 82) rfl bw (ow + 0 * 32) rfl (hcel ha) _ (CW.out wr hx) Tryd.underlying30 rfl iA.out (hK _ _ rfl (Nx.refl _)))
    · have e22 : x 22 = .bool true := hd 22 (by decide)
      generalize x 22 = y22 at e22 hK ⊢
      subst e22
      exact wpOp_g rfl (by rfl) (wp_load_row_of (some 84) rfl 30 (.tmp 1) rfl (g1) rfl 30 (hcel ha) _ (R1.nx hx) Tryd.underlying30 rfl iA.out (hK _ _ rfl (Nx.refl _)))
    · have e25 : x 25 = .agg (hcel ha) := hd 25 (by decide)
      have e26 : x 26 = .agg (hcel ha) := hd 26 (by decide)
      have e22 : x 22 = .bool true := hd 22 (by decide)
      generalize x 25 = y25 at e25 hK ⊢
      subst e25
      generalize x 26 = y26 at e26 hK ⊢
      subst e26
      generalize x 22 = y22 at e22 hK ⊢
      subst e22
      exact wpOp_g rfl (by rfl) (wp_eql_of (some 85) rfl 30 _ _ _ rfl (hcel ha) (hcel ha) rfl rfl (by kernel_rfl) true (EQ.out wr) (hK _ _ rfl (Nx.refl _)))
    · have e22 : x 22 = .bool true := hd 22 (by decide)
      have e27 : x 27 = .bool true := hd 27 (by decide)
      generalize x 22 = y22 at e22 hK ⊢
      subst e22
      generalize x 27 = y27 at e27 hK ⊢
      subst e27
      exact wpOp_of rfl rfl (wp_val_of (some 86) rfl (.bool true) (by kernel_rfl) (hK _ _ rfl (Nx.refl _)))
    · have e28 : x 28 = .bool true := hd 28 (by decide)
      have e22 : x 22 = .bool true := hd 22 (by decide)
      generalize x 28 = y28 at e28 hK ⊢
      subst e28
      generalize x 22 = y22 at e22 hK ⊢
      subst e22
      exact wpOp_of rfl rfl (wp_val_of (some 87) rfl (.bool true) (by kernel_rfl) (hK _ _ rfl (Nx.refl _)))
    · have e29 : x 29 = .bool true := hd 29 (by decide)
      generalize x 29 = y29 at e29 hK ⊢
      subst e29
      exact wpOp_g rfl (by rfl) (wp_val_of (some 88) rfl (.int .i64 0) (by kernel_rfl) (hK _ _ rfl (Nx.refl _)))
    · have e30 : x 30 = .int .i64 0 := hd 30 (by decide)
      have e29 : x 29 = .bool true := hd 29 (by decide)
      generalize x 30 = y30 at e30 hK ⊢
      subst e30
      generalize x 29 = y29 at e29 hK ⊢
      subst e29
      exact wpOp_g rfl (by rfl) (wp_val_of (some 89) rfl (.bool true) (by kernel_rfl) (hK _ _ rfl (Nx.refl _)))
    · have e29 : x 29 = .bool true := hd 29 (by decide)
      have e31 : x 31 = .bool true := hd 31 (by decide)
      generalize x 29 = y29 at e29 hK ⊢
      subst e29
      generalize x 31 = y31 at e31 hK ⊢
      subst e31
      exact wpOp_of rfl rfl (wp_val_of (some 90) rfl (.bool true) (by kernel_rfl) (hK _ _ rfl (Nx.refl _)))
    · have e32 : x 32 = .bool true := hd 32 (by decide)
      have e29 : x 29 = .bool true := hd 29 (by decide)
      generalize x 32 = y32 at e32 hK ⊢
      subst e32
      generalize x 29 = y29 at e29 hK ⊢
      subst e29
      exact wpOp_of rfl rfl (wp_val_of (some 91) rfl (.bool true) (by kernel_rfl) (hK _ _ rfl (Nx.refl _)))
    · have e33 : x 33 = .bool true := hd 33 (by decide)
      generalize x 33 = y33 at e33 hK ⊢
      subst e33
      exact wpOp_g rfl (by rfl) (wp_val_of (some 92) rfl (.int .i64 2) (by kernel_rfl) (hK _ _ rfl (Nx.refl _)))
    · have e34 : x 34 = .int .i64 2 := hd 34 (by decide)
      have e33 : x 33 = .bool true := hd 33 (by decide)
      generalize x 34 = y34 at e34 hK ⊢
      subst e34
      generalize x 33 = y33 at e33 hK ⊢
      subst e33
      exact wpOp_g rfl (by rfl) (wp_val_of (some 93) rfl (.bool true) (by kernel_rfl) (hK _ _ rfl (Nx.refl _)))
    · have e33 : x 33 = .bool true := hd 33 (by decide)
      have e35 : x 35 = .bool true := hd 35 (by decide)
      generalize x 33 = y33 at e33 hK ⊢
      subst e33
      generalize x 35 = y35 at e35 hK ⊢
      subst e35
      exact wpOp_of rfl rfl (wp_val_of (some 94) rfl (.bool true) (by kernel_rfl) (hK _ _ rfl (Nx.refl _)))
    · have e36 : x 36 = .bool true := hd 36 (by decide)
      generalize x 36 = y36 at e36 hK ⊢
      subst e36
      exact wpOp_of rfl rfl (wp_val_of (some 0) rfl (.bool true) (by kernel_rfl) (hK _ _ rfl (Nx.refl _)))
  · intro x tm wr htm hx hv
    simp only [fillA, List.setIfInBounds_toArray, List.set_cons_zero, List.set_cons_succ] at htm
    subst htm
    have e37 : x 37 = .bool true := hv 37 (by decide)
    rw [e37]
    refine wpList_nil ?_
    go_wp2_with fail
    go_ret
    exact ⟨rfl, NZ.out.trans hx⟩
end Go.Proofs.YtjbeemoobmagnaaDoor
