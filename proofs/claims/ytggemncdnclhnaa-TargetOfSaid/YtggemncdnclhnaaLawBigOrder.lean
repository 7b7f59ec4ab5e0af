/- LAYER 3: the walk of BigOrder. -/
import Derived.Test.YtggemncdnclhnaaBig7
import Derived.Test.YtggemncdnclhnaaHash1
import Derived.Lib.QuietBelow
namespace Go.Proofs.Ytggemncdnclhnaa
open Go.RowKit
set_option linter.unusedVariables false
set_option linter.unusedSimpArgs false

theorem Row.loads {P : Program} {w : World} {g : Nat} {h : List UInt8} {t : TypeId} (r : Row w g (hcel h) t) (n : Nat) (hn : h.length = n) : (loadCellsFrom ⟨g, 0, none⟩ 0 n #[]).run P w = .ok (hcel h) w := by
  subst hn
  have := run_loadCells_list (P := P) w ⟨g, 0, none⟩ (hcel h).toList (fun j v hv => by
    rw [addr_add, cell_of_row _ _ _ (hcel h) t (0, 0) r]
    simpa using hv)
  simpa [loadCells, hcel_size] using this
/-- A load of a whole row, within a region that reads alone, in every world of a class. -/
theorem quiet_load {P : Program} {o : Oper} {a : Act} {C : World → Prop} {next : Act → Prop} (ty : TypeId) (x : Operand) (ho : o.op = .load ty x) (g : Nat) (hx : a.eval x = .pointer (some ⟨g, 0, none⟩))
    (t : TypeId) (cs : Array Value) (fr : Nat × Nat) (d : TypeDesc) (hC : ∀ w, C w → w.heap[g]? = some (.cells cs t fr)) (hu : P.underlying ty = some d) (hd : (match d with | .struct _ | .array _ _ => true | _ => false) = true)
    (hi : (P.info? ty).map (·.size) = some cs.size) (h : next (a.put o.dst (.agg cs))) : o.quiet P a C next := by
  refine ⟨.agg cs, fun w hw => ?_, h⟩
  unfold Oper.quietAt execOp
  simp only [ho, hx, Instr.loadAt, Instr.sureAddr, Sem.run_bind, Sem.run_pure, Result.andThen_ok, run_loadVar_row w g t ty cs fr d (hC w hw) hu hd hi]
  exact ⟨rfl, rfl⟩
theorem less_is (a b : Nat) (v : Bool) (w : World) (ha : a < top) (hb : b < top) (h : subB a b = v) :
    Calls Try.prog 21 #[.agg #[.int .u64 (lim a 0 : Int), .int .u64 (lim a 1 : Int), .int .u64 (lim a 2 : Int), .int .u64 (lim a 3 : Int)], .agg #[.int .u64 (lim b 0 : Int), .int .u64 (lim b 1 : Int), .int .u64 (lim b 2 : Int), .int .u64 (lim b 3 : Int)]] w fun e w' => e = .returned (.bool v) ∧ Nx w w' := by
  have := less_any a b w ha hb
  rw [h] at this
  exact this
theorem toHash_of (h : List UInt8) (w : World) (hh : h.length = 32) :
    Calls Try.prog 19 #[.agg #[.int .u64 (lim (num h) 0 : Int), .int .u64 (lim (num h) 1 : Int), .int .u64 (lim (num h) 2 : Int), .int .u64 (lim (num h) 3 : Int)]] w fun e w' => e = .returned (.agg (hcel h)) ∧ Nx w w' := by
  have := toHash_any (num h) w
  have e := low_num h
  rw [hh] at e
  rw [e] at this
  exact this
theorem eq_hash (h : List UInt8) (hh : h.length = 32) (w : World) : (Op.equalIn 10000 26 (.agg (hcel h)) (.agg (hcel h))).run Try.prog w = .ok true w := by
  have := eq_ints (P := Try.prog) 9998 26 5 32 .u8 Try.underlying26 Try.underlying5 Try.isAgg5 Try.sizeOf5 (h.map fun x => (x.toNat : Int)) (h.map fun x => (x.toNat : Int)) (by simp [hh]) (by simp [hh]) w
  rw [← hcel_ints] at this
  simpa using this
theorem sum_back (a b : Nat) (ha : a < top) (hb : b < top) : subN (addN a b) b = a ∧ subB (addN a b) b = addB a b := by
  unfold subN addN subB addB
  by_cases h : a + b < top
  · rw [Nat.mod_eq_of_lt h, if_pos (by omega)]
    refine ⟨by omega, ?_⟩
    rw [Bool.eq_iff_iff]
    simp only [decide_eq_true_eq]
    omega
  · have e : (a + b) % top = a + b - top := by
      rw [Nat.mod_eq_sub_mod (by omega), Nat.mod_eq_of_lt (by omega)]
    rw [e, if_neg (by omega)]
    refine ⟨by omega, ?_⟩
    rw [Bool.eq_iff_iff]
    simp only [decide_eq_true_eq]
    omega

set_option maxHeartbeats 8000000 in
set_option maxRecDepth 100000 in
theorem bigOrder_case (a b : Nat) (h : List UInt8) (w : World) (ha : a < top) (hb : b < top) (hh : h.length = 32) (x y z : Bool) (hx : subB a b = x) (hy : subB b a = y) (hz : decide (a = b) = z)
    (hxyz : (x = true ∧ y = false ∧ z = false) ∨ (x = false ∧ y = true ∧ z = false) ∨ (x = false ∧ y = false ∧ z = true)) :
    Calls Try.prog 9 #[.agg #[.int .u64 (lim a 0 : Int), .int .u64 (lim a 1 : Int), .int .u64 (lim a 2 : Int), .int .u64 (lim a 3 : Int)], .agg #[.int .u64 (lim b 0 : Int), .int .u64 (lim b 1 : Int), .int .u64 (lim b 2 : Int), .int .u64 (lim b 3 : Int)], .agg (hcel h)] w fun e w' => e = .returned (.bool true) ∧ Nx w w' := by
  obtain ⟨s1, s2⟩ := sum_back a b ha hb
  have HADD := fun w => add_any a b w ha hb
  have HSUB := fun w => sub_any (addN a b) b w (addN_lt a b) hb
  rw [s1, s2] at HSUB
  have heab : ∀ w, (Op.equalIn 10000 24 (.agg #[.int .u64 (lim a 0 : Int), .int .u64 (lim a 1 : Int), .int .u64 (lim a 2 : Int), .int .u64 (lim a 3 : Int)]) (.agg #[.int .u64 (lim b 0 : Int), .int .u64 (lim b 1 : Int), .int .u64 (lim b 2 : Int), .int .u64 (lim b 3 : Int)])).run Try.prog w = .ok z w := fun w => by rw [eqU a b ha hb w, hz]
  have heaa : ∀ w, (Op.equalIn 10000 24 (.agg #[.int .u64 (lim a 0 : Int), .int .u64 (lim a 1 : Int), .int .u64 (lim a 2 : Int), .int .u64 (lim a 3 : Int)]) (.agg #[.int .u64 (lim a 0 : Int), .int .u64 (lim a 1 : Int), .int .u64 (lim a 2 : Int), .int .u64 (lim a 3 : Int)])).run Try.prog w = .ok true w := fun w => by rw [eqU a a ha ha w]; simp
  have hehh := eq_hash h hh
  have HX := Lib.hid (fun w => less_is a b x w ha hb hx)
  have HY := Lib.hid (fun w => less_is b a y w hb ha hy)
  have HOF := Lib.hid (fun w => ofHash_any h w hh)
  have HTO := Lib.hid (fun w => toHash_of h w hh)
  have HH := Lib.hid hh
  generalize addB a b = p at *
  generalize addN a b = s at *
  replace HADD := Lib.hid HADD
  replace HSUB := Lib.hid HSUB
  clear ha hb hh hx hy hz s1 s2
  go_enter Try.func9, Try.ntmps9
  go_wp2_with fail
  refine (HADD.out _).mono ?_
  rintro e w1 ⟨rfl, hb1⟩
  have RA := ((((Row.new w #[.int .u64 (lim a 0 : Int), .int .u64 (lim a 1 : Int), .int .u64 (lim a 2 : Int), .int .u64 (lim a 3 : Int)] 24 _ rfl).alloc (.cells #[.int .u64 (lim b 0 : Int), .int .u64 (lim b 1 : Int), .int .u64 (lim b 2 : Int), .int .u64 (lim b 3 : Int)] 24)).alloc (.cells (hcel h) 26)).nx hb1).alloc (.cells #[.int .u64 (lim s 0 : Int), .int .u64 (lim s 1 : Int), .int .u64 (lim s 2 : Int), .int .u64 (lim s 3 : Int)] 24)
  have RB := (((Row.new2 w (.cells #[.int .u64 (lim a 0 : Int), .int .u64 (lim a 1 : Int), .int .u64 (lim a 2 : Int), .int .u64 (lim a 3 : Int)] 24) #[.int .u64 (lim b 0 : Int), .int .u64 (lim b 1 : Int), .int .u64 (lim b 2 : Int), .int .u64 (lim b 3 : Int)] 24).alloc (.cells (hcel h) 26)).nx hb1).alloc (.cells #[.int .u64 (lim s 0 : Int), .int .u64 (lim s 1 : Int), .int .u64 (lim s 2 : Int), .int .u64 (lim s 3 : Int)] 24)
  have RH := ((Row.new3 w (.cells #[.int .u64 (lim a 0 : Int), .int .u64 (lim a 1 : Int), .int .u64 (lim a 2 : Int), .int .u64 (lim a 3 : Int)] 24) (.cells #[.int .u64 (lim b 0 : Int), .int .u64 (lim b 1 : Int), .int .u64 (lim b 2 : Int), .int .u64 (lim b 3 : Int)] 24) (hcel h) 26).nx hb1).alloc (.cells #[.int .u64 (lim s 0 : Int), .int .u64 (lim s 1 : Int), .int .u64 (lim s 2 : Int), .int .u64 (lim s 3 : Int)] 24)
  have N1 := Lib.hid (((((Nx.refl w).alloc _).alloc _).alloc _).trans hb1 |>.alloc (.cells #[.int .u64 (lim s 0 : Int), .int .u64 (lim s 1 : Int), .int .u64 (lim s 2 : Int), .int .u64 (lim s 3 : Int)] 24))
  obtain ⟨b0, b1, b2, b3⟩ := RB.four
  clear hb1
  go_wp2_with fail
  refine (HSUB.out _).mono ?_
  rintro e w2 ⟨rfl, hb2⟩
  replace RA := (RA.nx hb2).alloc (.cells #[.int .u64 (lim a 0 : Int), .int .u64 (lim a 1 : Int), .int .u64 (lim a 2 : Int), .int .u64 (lim a 3 : Int)] 24)
  replace RB := (RB.nx hb2).alloc (.cells #[.int .u64 (lim a 0 : Int), .int .u64 (lim a 1 : Int), .int .u64 (lim a 2 : Int), .int .u64 (lim a 3 : Int)] 24)
  replace RH := (RH.nx hb2).alloc (.cells #[.int .u64 (lim a 0 : Int), .int .u64 (lim a 1 : Int), .int .u64 (lim a 2 : Int), .int .u64 (lim a 3 : Int)] 24)
  have RD : Row (w2.alloc (.cells #[.int .u64 (lim a 0 : Int), .int .u64 (lim a 1 : Int), .int .u64 (lim a 2 : Int), .int .u64 (lim a 3 : Int)] 24)) w2.heap.size #[.int .u64 (lim a 0 : Int), .int .u64 (lim a 1 : Int), .int .u64 (lim a 2 : Int), .int .u64 (lim a 3 : Int)] 24 := Row.new w2 _ _ _ rfl
  replace N1 := Lib.hid ((N1.out.trans hb2).alloc (.cells #[.int .u64 (lim a 0 : Int), .int .u64 (lim a 1 : Int), .int .u64 (lim a 2 : Int), .int .u64 (lim a 3 : Int)] 24))
  clear hb2 b0 b1 b2 b3
  rcases hxyz with ⟨rfl, rfl, rfl⟩ | ⟨rfl, rfl, rfl⟩ | ⟨rfl, rfl, rfl⟩
  all_goals cases p
  all_goals
    go_wp2_with fail
    generalize w2.heap.size = gD at *
    generalize (w2.alloc (.cells #[.int .u64 (lim a 0 : Int), .int .u64 (lim a 1 : Int), .int .u64 (lim a 2 : Int), .int .u64 (lim a 3 : Int)] 24)) = W at *
    have qa0 : ∀ d os, (Sort.grow (redrawn W d) os).cell? ⟨w.heap.size, 0, none⟩ = some (.int .u64 (lim a 0 : Int)) := fun d os => cell_regrown RA.four.1 d os
    have qa1 : ∀ d os, (Sort.grow (redrawn W d) os).cell? ⟨w.heap.size, 1, none⟩ = some (.int .u64 (lim a 1 : Int)) := fun d os => cell_regrown RA.four.2.1 d os
    have qa2 : ∀ d os, (Sort.grow (redrawn W d) os).cell? ⟨w.heap.size, 2, none⟩ = some (.int .u64 (lim a 2 : Int)) := fun d os => cell_regrown RA.four.2.2.1 d os
    have qa3 : ∀ d os, (Sort.grow (redrawn W d) os).cell? ⟨w.heap.size, 3, none⟩ = some (.int .u64 (lim a 3 : Int)) := fun d os => cell_regrown RA.four.2.2.2 d os
    have qb0 : ∀ d os, (Sort.grow (redrawn W d) os).cell? ⟨(w.heap.size + 1), 0, none⟩ = some (.int .u64 (lim b 0 : Int)) := fun d os => cell_regrown RB.four.1 d os
    have qb1 : ∀ d os, (Sort.grow (redrawn W d) os).cell? ⟨(w.heap.size + 1), 1, none⟩ = some (.int .u64 (lim b 1 : Int)) := fun d os => cell_regrown RB.four.2.1 d os
    have qb2 : ∀ d os, (Sort.grow (redrawn W d) os).cell? ⟨(w.heap.size + 1), 2, none⟩ = some (.int .u64 (lim b 2 : Int)) := fun d os => cell_regrown RB.four.2.2.1 d os
    have qb3 : ∀ d os, (Sort.grow (redrawn W d) os).cell? ⟨(w.heap.size + 1), 3, none⟩ = some (.int .u64 (lim b 3 : Int)) := fun d os => cell_regrown RB.four.2.2.2 d os
    have qd0 : ∀ d os, (Sort.grow (redrawn W d) os).cell? ⟨gD, 0, none⟩ = some (.int .u64 (lim a 0 : Int)) := fun d os => cell_regrown RD.four.1 d os
    have qd1 : ∀ d os, (Sort.grow (redrawn W d) os).cell? ⟨gD, 1, none⟩ = some (.int .u64 (lim a 1 : Int)) := fun d os => cell_regrown RD.four.2.1 d os
    have qd2 : ∀ d os, (Sort.grow (redrawn W d) os).cell? ⟨gD, 2, none⟩ = some (.int .u64 (lim a 2 : Int)) := fun d os => cell_regrown RD.four.2.2.1 d os
    have qd3 : ∀ d os, (Sort.grow (redrawn W d) os).cell? ⟨gD, 3, none⟩ = some (.int .u64 (lim a 3 : Int)) := fun d os => cell_regrown RD.four.2.2.2 d os
    have qh := Lib.hid (fun (w' : World) (hw : ∃ p : Regrown, w' = Sort.grow (redrawn W p.d) p.os) => show Row w' (w.heap.size + 1 + 1) (hcel h) 26 by obtain ⟨p, rfl⟩ := hw; exact Row.nx RH (below_regrown W p.d p.os))
    have hsz := Lib.hid (show (Try.prog.info? 26).map (·.size) = some (hcel h).size by rw [hcel_size, HH.out]; exact info_hash)
    clear RA RB RD RH
    refine wp_region_quiet_below (by kernel_rfl) (by kernel_rfl) ?_
    repeat (first
      | (refine wpQuiet_step (fun K hK => ?_); rw [if_pos (by rfl)]; refine quiet_load 26 (.tmp 5) rfl (w.heap.size + 1 + 1) rfl 26 (hcel h) (0, 0) _ qh.out Try.underlying26 rfl hsz.out ?_; refine hK _ ?_; clear hK K)
      | quiet_step ((first
        | (go_at_call 21; (first | with_reducible exact Calls.regrown_of (HX.out _) | with_reducible exact Calls.regrown_of (HY.out _)))
        | (go_at_call 17; with_reducible exact Calls.regrown_of (HOF.out _))
        | (go_at_call 19; with_reducible exact Calls.regrown_of (HTO.out _))
        | (go_at_call 25; with_reducible exact Calls.regrown_of (lives3_any _)))))
    refine wpQuiet_nil ?_
    intro _ hw'
    obtain ⟨⟨dq, osq⟩, hw''⟩ := hw'
    subst hw''
    go_wp2
    go_ret
    exact ⟨rfl, N1.out.trans (below_regrown W dq osq)⟩

theorem bigOrder_law {w : World} (a : Nat) (ha : a < top) (b : Nat) (hb : b < top) (h : List UInt8) (hh : h.length = 32) :
    Calls Try.prog 9 #[.agg #[.int .u64 (lim a 0 : Int), .int .u64 (lim a 1 : Int), .int .u64 (lim a 2 : Int), .int .u64 (lim a 3 : Int)], .agg #[.int .u64 (lim b 0 : Int), .int .u64 (lim b 1 : Int), .int .u64 (lim b 2 : Int), .int .u64 (lim b 3 : Int)], .agg (hcel h)] w fun e w' => e = .returned (.bool true) ∧ Nx w w' := by
  refine bigOrder_case a b h w ha hb hh _ _ _ rfl rfl rfl ?_
  unfold subB
  rcases Nat.lt_trichotomy a b with hl | hl | hl
  · exact .inl ⟨by simp [hl], by simp; omega, by simp; omega⟩
  · exact .inr (.inr ⟨by simp [hl], by simp [hl], by simp [hl]⟩)
  · exact .inr (.inl ⟨by simp; omega, by simp [hl], by simp; omega⟩)
end Go.Proofs.Ytggemncdnclhnaa
