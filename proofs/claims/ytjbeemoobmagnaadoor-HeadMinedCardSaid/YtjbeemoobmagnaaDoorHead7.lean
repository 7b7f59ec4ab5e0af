/- LAYER 8: Begin; Mine where the bits may not be; what the laws of layer 8 ask for besides. -/
import Derived.Test.YtjbeemoobmagnaaDoorHead6
import Derived.Test.YtjbeemoobmagnaaDoorRegG
namespace Go.Proofs.YtjbeemoobmagnaaDoor
open Go Go.RowKit
set_option linter.unusedVariables false
set_option linter.unusedSimpArgs false
set_option linter.unusedVariables false
set_option linter.unusedSimpArgs false

theorem results_cell_cell {P : Program} {fn : Func} {p u : Tmp} {ty tz : TypeId} (h : fn.results = #[.cell p ty, .cell u tz]) (tmps : Array Value) (w : World) (g k : Nat) (t : TypeId) (cs : Array Value) (fr : Nat × Nat) (d : TypeDesc) (v : Value)
    (hp : tmps.getD p undef = .pointer (some ⟨g, 0, none⟩)) (hg : w.heap[g]? = some (.cells cs t fr))
    (hu : P.underlying ty = some d) (hd : (match d with | .struct _ | .array _ _ => true | _ => false) = true) (hi : (P.info? ty).map (·.size) = some cs.size)
    (hq : tmps.getD u undef = .pointer (some ⟨k, 0, none⟩)) (hk : w.cell? ⟨k, 0, none⟩ = some v) (ha : (isAgg tz).run P w = .ok false w) :
    (results fn tmps).run P w = .ok (.tuple #[.agg cs, v]) w := by
  have hp' : tmps[p]?.getD undef = .pointer (some ⟨g, 0, none⟩) := by simpa using hp
  have hq' : tmps[u]?.getD undef = .pointer (some ⟨k, 0, none⟩) := by simpa using hq
  have hl : (loadVar tz ⟨k, 0, none⟩).run P w = .ok v w := by
    simp [loadVar, Sem.run_bind, ha, hk]
  simp [results, h, hp', hq', asAddr, run_loadVar_row w g t ty cs fr d hg hu hd hi, hl, Sem.run_bind, Result.andThen]
theorem wpList_g {P : Program} {ops : Array Oper} {rest : List Oper} {o : Oper} {a : Act} {w : World} {Q : Exit → Act → World → Prop} (hw : Region.wanted o (yielded ops a.tmps) = true)
    (h : ∀ K : Act → World → Prop, (∀ a w, wpList P ops Q rest a w → K a w) → o.wp P a w K Q) : wpList P ops Q (o :: rest) a w :=
  wpList_step fun K hK => by rw [if_pos hw]; exact h K hK
theorem isAgg_err (w : World) : (isAgg 38).run Tryd.prog w = .ok false w := by kernel_rfl
set_option maxRecDepth 100000 in
set_option maxHeartbeats 2000000 in
theorem hbegin_any (w : World) : Calls Tryd.prog 56 #[] w fun e w' => e = .returned (.agg (hdc Z32 Z32 0 545259519 0)) ∧ Nx w w' := by
  obtain ⟨hz2, hzs2⟩ := zero_of_info info_head
  have cz := Lib.hid (headsz Z32 Z32 0 545259519 0 Z32_length Z32_length)
  have dz := Lib.hid (headsame Z32 Z32 Z32 Z32 0 0 0 0 545259519 0 Z32_length Z32_length Z32_length Z32_length)
  have R4 := Row.new w (hdc Z32 Z32 0 0 0) 32 _ rfl
  have N4 := Lib.hid ((Nx.refl w).alloc (.cells (hdc Z32 Z32 0 0 0) 32))
  have hl : w.heap.size ≤ w.heap.size := Nat.le_refl _
  go_enter Tryd.func56, Tryd.ntmps56
  go_wp2_with (first | (refine wpList_val (some 1) rfl rfl (.agg (hdc Z32 Z32 0 545259519 0)) ?_ ?_; (focus kernel_rfl)) | (refine wpList_store_row rfl 32 (.tmp 0) (.tmp 1) rfl w.heap.size (hdc Z32 Z32 0 545259519 0) rfl rfl 32 (hdc Z32 Z32 0 0 0) R4 cz.out dz.out (hd_one _ _ _ _ _) ?_))
  exact bodyPost_ret (results_cell_row Tryd.results56 _ _ w.heap.size 32 (hdc Z32 Z32 0 545259519 0) (0, 0) _ rfl (R4.setRow _) Tryd.underlying32 rfl cz.out) rfl ⟨rfl, N4.out.setRow _ hl⟩
set_option maxRecDepth 100000 in
set_option maxHeartbeats 4000000 in
theorem hmine_bad (p r : List UInt8) (t b n k : Nat) (H : HOk p r t b n) (hE : ofE b ≠ 0) (w : World) :
    Calls Tryd.prog 29 #[.agg (hdc p r t b n), .int .u32 (k : Int)] w fun e w' => e = .returned (.tuple #[.agg (hdc Z32 Z32 0 0 0), .int .i64 5]) ∧ Nx w w' := by
  have HO := Lib.hid (fun w => tof_any b w (by have := H.b; omega))
  obtain ⟨hz2, hzs2⟩ := zero_of_info info_head
  have cz := Lib.hid (headsz Z32 Z32 0 0 0 Z32_length Z32_length)
  have HCB := hd_b p r t b n H.p H.r
  have RB := (((Row.new w (hdc p r t b n) 32 _ rfl).alloc (.cells (hdc Z32 Z32 0 0 0) 32)).alloc (.cells #[.int .i64 0] 38)).cell HCB
  have R4 := (Row.new2 w (.cells (hdc p r t b n) 32) (hdc Z32 Z32 0 0 0) 32).alloc (.cells #[.int .i64 0] 38)
  have R5 := Row.new3 w (.cells (hdc p r t b n) 32) (.cells (hdc Z32 Z32 0 0 0) 32) #[.int .i64 0] 38
  have N0 := Lib.hid ((((Nx.refl w).alloc (.cells (hdc p r t b n) 32)).alloc (.cells (hdc Z32 Z32 0 0 0) 32)).alloc (.cells #[.int .i64 0] 38))
  have dE : (ofE b != 0) = true := by rw [bne_iff_ne]; exact hE
  generalize ofE b = E at *
  generalize ofT b = x at *
  clear H hE HCB
  go_enter Tryd.func29, Tryd.ntmps29
  go_wp2_with fail
  refine (HO.out _).mono ?_
  rintro e w1 ⟨rfl, n1⟩
  have R6 := (R4.nx n1).alloc (.cells #[.int .u64 (lim x 0 : Int), .int .u64 (lim x 1 : Int), .int .u64 (lim x 2 : Int), .int .u64 (lim x 3 : Int)] 81)
  have R7 := ((R5.nx n1).alloc (.cells #[.int .u64 (lim x 0 : Int), .int .u64 (lim x 1 : Int), .int .u64 (lim x 2 : Int), .int .u64 (lim x 3 : Int)] 81)).setRow_other (k := w.heap.size + 1) (hdc Z32 Z32 0 0 0) (by omega)
  have c7 := R7.cell (i := 0) (v := .int .i64 0) rfl
  have f7 := R7.frozen 0
  have N1 := Lib.hid ((N0.out.trans n1).alloc (.cells #[.int .u64 (lim x 0 : Int), .int .u64 (lim x 1 : Int), .int .u64 (lim x 2 : Int), .int .u64 (lim x 3 : Int)] 81))
  clear n1 R4 R5 N0 RB
  go_wp2_with (first | (refine wpList_val (some 17) rfl rfl (.agg (hdc Z32 Z32 0 0 0)) ?_ ?_; (focus kernel_rfl)) | (refine wpList_store_row rfl 32 (.tmp 4) (.tmp 17) rfl (w.heap.size + 1) (hdc Z32 Z32 0 0 0) rfl rfl 32 (hdc Z32 Z32 0 0 0) R6 cz.out rfl (hd_one _ _ _ _ _) ?_))
  exact bodyPost_ret (results_cell_cell Tryd.results29 _ _ (w.heap.size + 1) (w.heap.size + 1 + 1) 32 (hdc Z32 Z32 0 0 0) (0, 0) _ (.int .i64 5) rfl ((R6.setRow _).other (w.heap.size + 1 + 1) 0 _ (by omega)) Tryd.underlying32 rfl cz.out rfl ((R7.set 0 (.int .i64 5)).cell rfl) (isAgg_err _)) rfl ⟨rfl, (N1.out.setRow _ (Nat.le_succ _)).setAt (i := 0) _ (Nat.le_succ_of_le (Nat.le_succ _))⟩
end Go.Proofs.YtjbeemoobmagnaaDoor
