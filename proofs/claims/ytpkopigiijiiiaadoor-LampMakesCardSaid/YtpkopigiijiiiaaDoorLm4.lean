/- LAYER 13: Key, the program's. -/
import Derived.Test.YtpkopigiijiiiaaDoorLm3
import Derived.Test.YtpkopigiijiiiaaDoorTb
namespace Go.Proofs.YtpkopigiijiiiaaDoor
open Go Go.RowKit Go.Shelf
set_option linter.unusedVariables false
set_option linter.unusedSimpArgs false
set_option linter.unusedVariables false
set_option linter.unusedSimpArgs false
attribute [local go_sem] Oper.semAt_some

theorem wpListIn_load_rw {F : Fence} {n : Nat} {P : Program} {ops : Array Oper} {rest : List Oper} {o : Oper} {a : Act} {w : World} {Q : Exit → Act → World → Prop} (hgd : o.guard = none) (ty : TypeId) (x : Operand) (ho : o.op = .load ty x)
    (g : Nat) (hx : a.eval x = .pointer (some ⟨g, 0, none⟩)) (t : TypeId) (vs : Array Value) (d : TypeDesc) (hr : Row w g vs t)
    (hu : P.underlying ty = some d) (hd : (match d with | .struct _ | .array _ _ => true | _ => false) = true) (hi : (P.info? ty).map (·.size) = some vs.size)
    (h : wpListIn F n P ops Q rest (a.put o.dst (.agg vs)) w) : wpListIn F n P ops Q (o :: rest) a w := by
  refine wpListIn_plain hgd fun K hK' => ?_
  have e : (execOp a.eval o).run P w = .ok (.value (.agg vs)) w := by
    unfold execOp
    simp only [ho, hx, Instr.loadAt, Instr.sureAddr, Sem.run_bind, Sem.run_pure, Result.andThen_ok, run_loadVar_at w g 0 ty vs d (fun j v hv => by rw [Nat.zero_add]; exact hr.cell hv) hu hd hi]
  unfold Oper.wpIn
  refine ⟨?_, ?_⟩
  · simp [Oper.about, ho]
  · rw [Oper.semAt_plain F _ _ (by rw [ho]; intro c hc'; cases hc'), e]
    exact hK' _ _ h
theorem wpListIn_store_rw {F : Fence} {n : Nat} {P : Program} {ops : Array Oper} {rest : List Oper} {o : Oper} {a : Act} {w : World} {Q : Exit → Act → World → Prop} (hgd : o.guard = none) (ty : TypeId) (x y : Operand) (ho : o.op = .store ty x y)
    (g : Nat) (cells : Array Value) (hx : a.eval x = .pointer (some ⟨g, 0, none⟩)) (hy : a.eval y = .agg cells) (t : TypeId) (old : Array Value) (hg : Row w g old t) (hi : (P.info? ty).map (·.size) = some cells.size)
    (hold : old.size = cells.size) (h1 : cells.all (·.oneCell') = true)
    (h : wpListIn F n P ops Q rest (a.put o.dst undef) (w.setRow g cells)) : wpListIn F n P ops Q (o :: rest) a w := by
  refine wpListIn_plain hgd fun K hK' => ?_
  have e : (execOp a.eval o).run P w = .ok .skip (w.setRow g cells) := by
    unfold execOp
    simp only [ho, hx, hy, Instr.storeAt, Instr.sureAddr, Sem.run_bind, Sem.run_pure, Result.andThen_ok, run_storeVar_row w g t ty old cells hg hi hold h1]
  unfold Oper.wpIn
  refine ⟨?_, ?_⟩
  · simp [Oper.about, ho]
  · rw [Oper.semAt_plain F _ _ (by rw [ho]; intro c hc'; cases hc'), e]
    exact hK' _ _ h
/-- An operation in a round, by what it does outside of one. -/
theorem wpListI_of {F : Fence} {nf : Nat} {P : Program} {ops : Array Oper} {rest : List Oper} {o : Oper} {a : Act} {w : World} {Q : Exit → Act → World → Prop} (ro : Option Nat) (hF : F = wideR ro) (hgd : o.guard = none) (hd : ∀ c, o.op ≠ .defer c)
    (h : ∀ K : Act → World → Prop, (∀ a w, wpListIn F nf P ops Q rest a w → K a w) → o.wp P a w K Q) : wpListIn F nf P ops Q (o :: rest) a w := by
  subst hF
  exact wpListIn_plain hgd fun K hK' => Oper.wpIn_of_wp ro hd (h K hK')
theorem row_kept {W W' : World} {row : Option Nat} {g : Nat} {cs : Array Value} {t : TypeId} (h : Row W g cs t) (hg : W.grownBy W' row) (hr : ∀ r, row = some r → ∃ o : Obj, W.heap[r]? = some o ∧ o.isCells = false) : Row W' g cs t := by
  unfold Row at *
  rw [grownBy_keeps_cells hg hr h rfl]; exact h
theorem own_kept {B : Nat} {W W' : World} {row : Option Nat} {v : Value} {l : Bs} (h : Own B W v l) (hg : W.grownBy W' row) (hr : ∀ r, row = some r → ∃ o : Obj, W.heap[r]? = some o ∧ o.isCells = false) : Own B W' v l := by
  rcases h with ⟨rfl, hl⟩ | ⟨g, full, rfl, hb, hh, hc, hm, ht⟩
  · exact .inl ⟨rfl, hl⟩
  · exact .inr ⟨g, full, rfl, hb, (grownBy_keeps_cells hg hr hh rfl).trans hh, hc, hm, ht⟩
theorem keepsNx {W W' : World} (h : Nx W W') : KeepsOthers W W' := ⟨h.size, fun k o hk _ => (h.block k (Array.getElem?_eq_some_iff.1 hk).1).trans hk⟩
theorem keepsRow {W : World} {g : Nat} {cs : Array Value} {t : TypeId} (h : Row W g cs t) (new : Array Value) : KeepsOthers W (W.setRow g new) := ⟨by rw [size_setRow]; exact Nat.le_refl _, fun k o hk hc => by
  by_cases e : k = g
  · subst e
    unfold Row at h
    rw [h] at hk
    obtain rfl := Option.some.inj hk
    cases hc
  · rw [Go.setRow_other _ _ _ _ e]; exact hk⟩
/-- An append to bytes of one's own leaves what is no cells. -/
theorem keepsApp {B : Nat} {W W' : World} {v : Value} {l : Bs} (h : Own B W v l) (hg : W.grownBy W' v.ownBlock) : KeepsOthers W W' := ⟨hg.size, fun k o hk hc => by
  refine (hg.block k (Array.getElem?_eq_some_iff.1 hk).1 (fun e => ?_)).trans hk
  rcases h with ⟨rfl, _⟩ | ⟨g, full, rfl, _, hh, _⟩
  · cases e
  · obtain rfl : g = k := by simpa [Value.ownBlock] using e.symm
    rw [hh] at hk
    obtain rfl := Option.some.inj hk
    cases hc⟩
theorem wp_load_cell {P : Program} {o : Oper} {a : Act} {w : World} {K : Act → World → Prop} {Q : Exit → Act → World → Prop} (dst : Option Tmp) (hdst : o.dst = dst) (ty : TypeId) (x : Operand) (ho : o.op = .load ty x)
    (g k : Nat) (hx : a.eval x = .pointer (some ⟨g, k, none⟩)) (v : Value) (d : TypeDesc) (hc : w.cell? ⟨g, k, none⟩ = some v)
    (hu : P.underlying ty = some d) (hd : (match d with | .struct _ | .array _ _ => true | _ => false) = false)
    (h : K (a.put dst v) w) : o.wp P a w K Q := by
  subst hdst
  have hagg : (isAgg ty).run P w = .ok false w := by
    unfold isAgg
    rw [Sem.run_bind, run_underlying hu w]
    cases d <;> simp_all
  have hl : (loadVar ty ⟨g, k, none⟩).run P w = .ok v w := by
    simp [loadVar, Sem.run_bind, hagg, hc]
  unfold Oper.wp execOp
  simp only [ho, hx, Instr.loadAt, Instr.sureAddr, Sem.run_bind, Sem.run_pure, Result.andThen_ok, hl]
  exact h
theorem wp_index13 {P : Program} {o : Oper} {a : Act} {w : World} {K : Act → World → Prop} {Q : Exit → Act → World → Prop} (dst : Option Tmp) (hd : o.dst = dst) (ty : TypeId) (x ix : Operand) (ho : o.op = .index ty x ix) (X I v : Value) (hx : a.eval x = X) (hi : a.eval ix = I)
    (hrun : (Instr.index ty X I).run P w = .ok v w) (h : K (a.put dst v) w) : o.wp P a w K Q := by
  refine wp_val_of dst hd v ?_ h
  unfold execOp
  simp only [ho, hx, hi]
  simp only [Sem.run_bind, hrun, Result.andThen_ok, Sem.run_pure]
theorem row_bl {B : Nat} {W W' : World} {g : Nat} {cs : Array Value} {t : TypeId} (h : Row W g cs t) (k : Below B W W') (hg : g < B) : Row W' g cs t := by
  unfold Row at *
  rw [k.block g hg]; exact h
theorem kpl_of {G : Nat} {A B : World} {cs : Array Value} {t : TypeId} (h : Row A G cs t) (k : Row B G cs t) (x : KIs B) : KpL G A B := ⟨by unfold Row at h k; rw [h, k], fun _ => x⟩
def partK (s : Bs) (k j : Nat) : Bs := match j with | 0 => [] | 1 => hsL s k 0 | _ => twoL s k
theorem twoC_run (s : Bs) (k j : Nat) (hj : j < 2) : ∃ A : Bs, A.length = 32 ∧ (∀ w, (Instr.index 50 (.agg (twoC s k)) (.int .i64 (j : Int))).run Tryd.prog w = .ok (.agg (hcel A)) w) ∧ partK s k (j + 1) = partK s k j ++ shaL A := by
  match j, hj with
  | 0, _ => exact ⟨secL s k 0, secL_length _ _ _, fun w => run_ix0 _ _ (secL_length _ _ _) (secL_length _ _ _) w, by rw [show partK s k (0 + 1) = hsL s k 0 from rfl, show partK s k 0 = [] from rfl, List.nil_append, hsL]⟩
  | 1, _ => exact ⟨secL s k 1, secL_length _ _ _, fun w => run_ix1 _ _ (secL_length _ _ _) (secL_length _ _ _) w, by rw [show partK s k (1 + 1) = twoL s k from rfl, show partK s k 1 = hsL s k 0 from rfl, twoL, show hsL s k 1 = shaL (secL s k 1) from rfl]⟩
theorem partK_le (s : Bs) (k j : Nat) : (partK s k j).length ≤ 64 := by
  unfold partK
  split
  · simp
  · rw [hsL_length]; omega
  · rw [twoL_length]; omega
def keyB (s : Bs) (pre : List N5) : Bs := pre.flatMap fun x => twoL s x.1
theorem keyB_length (s : Bs) : ∀ pre, (keyB s pre).length = 64 * pre.length
  | [] => rfl
  | x :: pre => by
    have := keyB_length s pre
    unfold keyB at this ⊢
    rw [List.flatMap_cons, List.length_append, this, twoL_length, List.length_cons]; omega
theorem keyB_snoc (s : Bs) (pre : List N5) (x : N5) : keyB s (pre ++ [x]) = keyB s pre ++ twoL s x.1 := by simp [keyB]
theorem keyB_all (s : Bs) : ∀ k, k ≤ 32 → keyB s (upto5 k) = flt (twoL s) k
  | 0, _ => rfl
  | k + 1, h => by rw [upto5_succ, keyB_snoc, keyB_all s k (by omega), nth5_val k (by omega), flt_succ]
theorem info_two : (Tryd.prog.info? 50).map (fun i => (i.zero, i.size)) = some (some (.agg (hcel (List.replicate 64 0))), 64) := by kernel_rfl

set_option maxRecDepth 100000 in
set_option maxHeartbeats 4000000 in
theorem key_any (s : Bs) (hs : s.length = 32) (w : World) (hK : KIs w) :
    Calls Tryd.prog 12 #[.agg (hcel s)] w fun e w' => e = .returned (.agg (hcel (keyL s))) ∧ Nx w w' := by
  have HSUM := Lib.hid (fun W y (l : Bs) (hr : Rd W y l) (hk : KIs W) (hn : l.length ≤ 140737488355000) => sum_any y l W hk hr hn)
  have HIL : Hid ((keyL s).length = 32) := Lib.hid (keyL_length s)
  have HZL : Hid ((List.replicate 32 (0 : UInt8)).length = 32) := Lib.hid List.length_replicate
  have HKE : Hid (keyL s = shaL (flt (twoL s) 32)) := Lib.hid rfl
  obtain ⟨hz, hzs⟩ := zero_of_info info_hash'
  obtain ⟨hz5, hzs5⟩ := zero_of_info info_two
  have HZ6 : Hid ((List.replicate 64 (0 : UInt8)).length = 64) := Lib.hid List.length_replicate
  have hsz := Lib.hid (hashsz s hs)
  generalize keyL s = H at *
  generalize List.replicate 32 (0 : UInt8) = Z at *
  generalize List.replicate 64 (0 : UInt8) = Z6 at *
  have h2 := Lib.hid (hashsz H HIL.out)
  have h4 := Lib.hid (hashsame Z H HZL.out HIL.out)
  have HKK := Lib.hid hK
  have HL := Lib.hid hs
  clear hK hs
  have R0 := ((Row.new w (hcel s) 23 _ rfl).alloc (.cells (hcel Z) 23)).alloc (.cells #[.slice none 0 0] 28)
  have R1 := (Row.new2 w (.cells (hcel s) 23) (hcel Z) 23).alloc (.cells #[.slice none 0 0] 28)
  have R2 := Row.new3 w (.cells (hcel s) 23) (.cells (hcel Z) 23) #[.slice none 0 0] 28
  have N0 := Lib.hid ((((Nx.refl w).alloc (.cells (hcel s) 23)).alloc (.cells (hcel Z) 23)).alloc (.cells #[.slice none 0 0] 28))
  refine (callsIn_wide (n := 5)).1 ?_
  refine callsIn_of_wp_marks Tryd.func12 rfl trivial ?_ rfl
  simp only [Tryd.ntmps12, List.size_toArray, List.length_cons, List.length_nil, Nat.reduceAdd, Nat.reduceSub, Array.replicate_succ, Array.replicate_zero, List.push_toArray, List.append_toArray, List.nil_append, List.cons_append]
  have h4' : 1 ≤ 4 := by decide
  gi_wp2_with (refine wpListIn_load_rw rfl 23 (.tmp 1) rfl w.heap.size rfl 23 (hcel s) _ R0 Tryd.underlying23 rfl hsz.out ?_)
  refine ⟨trivial, (all_in 4 s _).mono ?_⟩
  rintro e w2 ⟨rfl, rfl⟩
  have hsz3 : (((w.alloc (.cells (hcel s) 23)).alloc (.cells (hcel Z) 23)).alloc (.cells #[.slice none 0 0] 28)).heap.size = w.heap.size + 1 + 1 + 1 := by rw [alloc_size, alloc_size, alloc_size]
  have R3 := Row.new (((w.alloc (.cells (hcel s) 23)).alloc (.cells (hcel Z) 23)).alloc (.cells #[.slice none 0 0] 28)) (hcel s) 23 _ rfl
  have T1 := R1.alloc (.cells (hcel s) 23)
  have T2 := R2.alloc (.cells (hcel s) 23)
  have N1 := Lib.hid (N0.out.alloc (.cells (hcel s) 23))
  have hsz4 := alloc_size (((w.alloc (.cells (hcel s) 23)).alloc (.cells (hcel Z) 23)).alloc (.cells #[.slice none 0 0] 28)) (.cells (hcel s) 23)
  rw [hsz3] at hsz4 R3
  rw [hsz3]
  generalize (((w.alloc (.cells (hcel s) 23)).alloc (.cells (hcel Z) 23)).alloc (.cells #[.slice none 0 0] 28)).alloc (.cells (hcel s) 23) = W0 at *
  have HW0 := Lib.hid (HKK.out.nx N1.out)
  clear R0 R1 R2 N0 hsz3
  gi_wp2
  have hI0 : w.heap.size + 1 + 1 + 1 < W0.heap.size := by omega
  refine wpIn_rangeFunc_ownH rfl (by decide) (gf := 39) (lb := #[.pointer (some ⟨w.heap.size + 1 + 1 + 1, 0, none⟩)]) rfl trivial (enters_of Tryd.func39 (by kernel_rfl) rfl)
    (all_stops 4 (by decide) s HL.out (w.heap.size + 1 + 1 + 1) W0 hI0 R3 HW0.out) KpL.trans
    (fun W l o o' hl h hc _ => KpL.putObj o' h hc (by omega))
    (Below.refl _ _) (fun _ => rfl)
    (fun pre W => (∃ v, Row W (w.heap.size + 1 + 1) #[v] 28 ∧ Go.Proofs.YtpkopigiijiiiaaDoor.Own W0.heap.size W v (keyB s pre) ∧ Row W (w.heap.size + 1) (hcel Z) 23 ∧ Row W (w.heap.size + 1 + 1 + 1) (hcel s) 23 ∧ W0.heap.size ≤ W.heap.size) ∧ Below w.heap.size w W)
    (fun c pre W => False)
    (OwnFrom.and (Own.from (fun s A B row hs hg hr => by obtain ⟨v, h1, h2, h3, h4, h5⟩ := hs; exact ⟨v, row_kept h1 hg hr, own_kept h2 hg hr, row_kept h3 hg hr, row_kept h4 hg hr, Nat.le_trans h5 hg.size⟩) _) (ownFrom_below (Nat.le_refl _) (by omega)))
    (fun c s A B row hs _ _ => hs.elim)
    ⟨⟨_, T2, .inl ⟨rfl, rfl⟩, T1, R3, Nat.le_refl _⟩, N1.out⟩
    (fun x a' W => ∃ g, W0.heap.size ≤ g ∧ Row W g (twoC s x.1) 50 ∧ a' = ⟨#[.agg (hcel s), .pointer (some ⟨w.heap.size, 0, none⟩), .pointer (some ⟨w.heap.size + 1, 0, none⟩), .pointer (some ⟨w.heap.size + 1 + 1, 0, none⟩), undef, .pointer (some ⟨g, 0, none⟩), undef, undef, undef, .agg (hcel s), .func (.func 39) #[] #[.pointer (some ⟨w.heap.size + 1 + 1 + 1, 0, none⟩)], .int .u8 (x.1 : Int), .agg (twoC s x.1), undef, undef, undef, undef, undef, undef, undef, undef, undef, undef, undef, undef], []⟩)
    (fun x a' s A B row hs hg hr => by obtain ⟨g, h1, h2, h3⟩ := hs; exact ⟨g, h1, row_kept h2 hg (fun r e => (hr r e).2), h3⟩) ?assign ?body ?done ?stop
  case assign =>
    rintro l pre x W K ⟨⟨v, P1, P2, P3, P4, P5⟩, hB⟩ hK
    have hx2 : (twoC s x.1).size = 64 := by unfold twoC; rw [hcel_size, List.length_append, secL_length, secL_length]
    have i2 := Lib.hid (show (Tryd.prog.info? 50).map (·.size) = some (twoC s x.1).size by rw [hx2]; kernel_rfl)
    have o2 := Lib.hid (show (hcel Z6).size = (twoC s x.1).size by rw [hx2, hcel_size, HZ6.out])
    have RN := Row.new W (hcel Z6) 50 _ rfl
    have NN := (Nx.refl W).alloc (.cells (hcel Z6) 50)
    unfold encL
    gi_wp2_with (refine wpListIn_store_rw rfl 50 (.tmp 5) (.tmp 12) rfl W.heap.size (twoC s x.1) rfl rfl 50 (hcel Z6) RN i2.out o2.out (hcel_one _) ?_)
    have NS : Nx W ((W.alloc (.cells (hcel Z6) 50)).setRow W.heap.size (twoC s x.1)) := NN.setRow (g := W.heap.size) _ (Nat.le_refl _)
    exact hK _ _ ((keepsNx NS).from _) (kpl_of P4 (P4.nx NS) (HKK.out.nx (Nx.trans hB NS))) ⟨⟨v, P1.nx NS, P2.nx NS, P3.nx NS, P4.nx NS, Nat.le_trans P5 NS.size⟩, Nx.trans hB NS⟩ ⟨_, P5, RN.setRow _, rfl⟩
  case body =>
    rintro l pre x a' W hl hr ⟨⟨v, P1, P2, P3, P4, P5⟩, hB⟩ ⟨g, hg, PG, rfl⟩ hlen
    have hpl : (keyB s pre).length ≤ 1984 := by rw [keyB_length]; omega
    have hx2 : (twoC s x.1).size = 64 := by unfold twoC; rw [hcel_size, List.length_append, secL_length, secL_length]
    have i2 := Lib.hid (show (Tryd.prog.info? 50).map (·.size) = some (twoC s x.1).size by rw [hx2]; kernel_rfl)
    gi_wp2_with (refine wpListIn_load_rw rfl 50 (.tmp 5) rfl g rfl 50 (twoC s x.1) _ PG Tryd.underlying50 rfl i2.out ?_)
    gi_loopw [14] (fun i wr => ∃ j : Nat, j ≤ 2 ∧ i = .int .i64 (j : Int) ∧ (∃ v, Row wr (w.heap.size + 1 + 1) #[v] 28 ∧ Go.Proofs.YtpkopigiijiiiaaDoor.Own W0.heap.size wr v (keyB s pre ++ partK s x.1 j) ∧ Row wr (w.heap.size + 1) (hcel Z) 23 ∧ Row wr (w.heap.size + 1 + 1 + 1) (hcel s) 23 ∧ W0.heap.size ≤ wr.heap.size) ∧ Hid (Below w.heap.size w wr) ∧ Hid (KeepsOthers W wr))
      (fun i _ => 2 - (intOf i).toNat)
    case atStart => exact ⟨0, Nat.zero_le _, rfl, ⟨v, P1, by rw [show partK s x.1 0 = [] from rfl, List.append_nil]; exact P2, P3, P4, P5⟩, Lib.hid hB, Lib.hid (KeepsOthers.refl W)⟩
    case round =>
      obtain ⟨j, hj, rfl, ⟨v2, Q1, Q2, Q3, Q4, Q5⟩, HB, HO⟩ := hrel
      by_cases hlt : j < 2
      · have hlti : (j : Int) < 2 := by omega
        obtain ⟨A, hA, hrun, hnext⟩ := twoC_run s x.1 j hlt
        have HRUN := Lib.hid hrun
        have hAi := Lib.hid (hashsz A hA)
        have hAo := Lib.hid (hashsame Z A HZL.out hA)
        have hLe := Lib.hid (show (keyB s pre ++ partK s x.1 j).length ≤ 2048 by have := partK_le s x.1 j; rw [List.length_append]; omega)
        have RN := Row.new wr (hcel Z) 23 _ rfl
        clear hrun
        gi_wp2_with (first | (refine wpListI_of (some l) rfl rfl (fun _ h => by cases h) fun K hK => wp_index13 (some 16) rfl 50 (.tmp 13) (.tmp 14) rfl _ _ (.agg (hcel A)) rfl rfl (HRUN.out _) (hK _ _ ?_)) | (refine wpListIn_store_rw rfl 23 (.tmp 7) (.tmp 16) rfl wr.heap.size (hcel A) rfl rfl 23 (hcel Z) RN hAi.out hAo.out (hcel_one _) ?_))
        have NA : Nx wr ((wr.alloc (.cells (hcel Z) 23)).setRow wr.heap.size (hcel A)) := ((Nx.refl wr).alloc _).setRow (g := wr.heap.size) _ (Nat.le_refl _)
        have RA := RN.setRow (hcel A)
        have V1 := Q1.nx NA
        have V2 := Q2.nx NA
        have V3 := Q3.nx NA
        have V4 := Q4.nx NA
        have V5 := Nat.le_trans Q5 NA.size
        have VB := Lib.hid (Nx.trans HB.out NA)
        have VO := Lib.hid (HO.out.trans (keepsNx NA))
        have hS := HSUM.out _ _ A (Row.rd RA 32 hA (by decide)) (HKK.out.nx VB.out) (by rw [hA]; decide)
        have HS := Lib.hid hS
        have HQL : Hid ((shaL A).length = 32) := Lib.hid (shaL_length A)
        generalize (wr.alloc (.cells (hcel Z) 23)).setRow wr.heap.size (hcel A) = W4 at *
        clear hS RN RA NA Q1 Q2 Q3 Q4 Q5 HB HO
        generalize shaL A = SA at *
        have sAi := Lib.hid (hashsz SA HQL.out)
        have sAo := Lib.hid (hashsame Z SA HZL.out HQL.out)
        gi_wp2
        refine ⟨trivial, (CallsIn.inRound l (callsIn_wide.2 HS.out)).mono ?_⟩
        rintro e W5 ⟨rfl, n5⟩
        have RN := Row.new W5 (hcel Z) 23 _ rfl
        gi_wp2_with (refine wpListIn_store_rw rfl 23 (.tmp 8) (.tmp 18) rfl W5.heap.size (hcel SA) rfl rfl 23 (hcel Z) RN sAi.out sAo.out (hcel_one _) ?_)
        have NB : Nx W4 ((W5.alloc (.cells (hcel Z) 23)).setRow W5.heap.size (hcel SA)) := (n5.alloc _).setRow (g := W5.heap.size) _ n5.size
        have RA := RN.setRow (hcel SA)
        have U1 := V1.nx NB
        have U2 := V2.nx NB
        have U3 := V3.nx NB
        have U4 := V4.nx NB
        have U5 := Nat.le_trans V5 NB.size
        have UB := Lib.hid (Nx.trans VB.out NB)
        have UO := Lib.hid (VO.out.trans (keepsNx NB))
        have HRD := Lib.hid (Row.rd RA 32 HQL.out (by decide))
        generalize (W5.alloc (.cells (hcel Z) 23)).setRow W5.heap.size (hcel SA) = W6 at *
        generalize W5.heap.size = g8 at *
        clear n5 NB RN RA V1 V2 V3 V4 V5 VB VO HS
        have c2 := Lib.hid (U1.cell (i := 0) (v := v2) rfl)
        refine wpIn_region_cl 2 [[], [], [0, 1], [2, 2, 0, 1, 2]] [some 19, some 20] [.eq v2, .eq (.slice (some ⟨g8, 0, none⟩) 32 32)]
          (by kernel_rfl) (by kernel_rfl) (hord_of (by decide)) (by kernel_rfl) (by decide) (by decide) (htail_cl 3 (hord_of (by decide)) (by decide)) ?_ _ (by rfl) ?_
        · intro xx tm wr2 htm hx i hi hd K hK
          simp only [fillA, List.setIfInBounds_toArray, List.set_cons_zero, List.set_cons_succ] at htm
          subst htm
          have hcs : i = 0 ∨ i = 1 := by omega
          clear hi
          rcases hcs with rfl | rfl
          · exact wpOpI_of (some l) rfl (fun _ h => by cases h) rfl (wp_load_cell (some 19) rfl 28 (.tmp 3) rfl (w.heap.size + 1 + 1) 0 rfl v2 _ ((U1.nx hx).cell (i := 0) (v := v2) rfl) Tryd.underlying28 rfl (hK _ _ rfl (Nx.refl _)))
          · exact wpOpI_of (some l) rfl (fun _ h => by cases h) rfl (wp_val_of (some 20) rfl (.slice (some ⟨g8, 0, none⟩) 32 32) (by kernel_rfl) (hK _ _ rfl (Nx.refl _)))
        · intro xx tm wr2 htm hx hv
          simp only [fillA, List.setIfInBounds_toArray, List.set_cons_zero, List.set_cons_succ] at htm
          subst htm
          have e0 : xx 0 = v2 := hv 0 (by decide)
          have e1 : xx 1 = .slice (some ⟨g8, 0, none⟩) 32 32 := hv 1 (by decide)
          rw [e0, e1]
          simp only [List.drop_succ_cons, List.drop_zero]
          have hle2 : W0.heap.size ≤ wr2.heap.size := Nat.le_trans U5 hx.size
          have hlen2 : (keyB s pre ++ partK s x.1 j).length + SA.length ≤ 140737488355328 := by have := hLe.out; have := HQL.out; omega
          refine wpListI_of (some l) rfl rfl (fun _ h => by cases h) fun K hK => wp_app_of (some 21) rfl (.tmp 19) (.tmp 20) 28 rfl Tryd.underlying28 info_u8s W0.heap.size v2 _ _ SA rfl rfl (U2.nx hx) (HRD.out.nx hx) hlen2 hle2 fun v3 W7 o7 b7 _ => hK _ _ ?_
          have b8 := Own.below (B := W0.heap.size) hle2 (U2.nx hx) b7
          have P7 := row_bl (U1.nx hx) b8 (by omega)
          have Z7 := row_bl (U3.nx hx) b8 (by omega)
          have S7 := row_bl (U4.nx hx) b8 (by omega)
          have N7 : Nx w W7 := (Nx.trans UB.out hx).app (b8.mono (by omega))
          have O7 := (UO.out.trans (keepsNx hx)).trans (keepsApp (U2.nx hx) b7)
          have Y7 := Nat.le_trans hle2 b7.size
          clear K hK
          have c7 := P7.cell (i := 0) (v := v2) rfl
          have f7 := P7.frozen 0
          have P8 : Row (W7.setCell ⟨w.heap.size + 1 + 1, 0, none⟩ v3) (w.heap.size + 1 + 1) #[v3] 28 := P7.set 0 v3
          have Z8 := Z7.other (w.heap.size + 1 + 1) 0 v3 (by omega)
          have S8 := S7.other (w.heap.size + 1 + 1) 0 v3 (by omega)
          have Q8 := o7.grown (grownBy_setCell' W7 (w.heap.size + 1 + 1) v3) (fun b hb e => by cases e; have := o7.block _ hb; omega)
          have N8 : Below w.heap.size w (W7.setCell ⟨w.heap.size + 1 + 1, 0, none⟩ v3) := Nx.setAt N7 (i := 0) _ (by omega)
          have O8 := O7.trans (KeepsOthers.setCell W7 ⟨w.heap.size + 1 + 1, 0, none⟩ v3)
          have Y8 : W0.heap.size ≤ (W7.setCell ⟨w.heap.size + 1 + 1, 0, none⟩ v3).heap.size := by simpa [World.setCell] using Y7
          obtain ⟨A3, m3, c3, rfl⟩ := o7.rd.sl
          rw [List.append_assoc, ← hnext] at Q8
          clear o7 b7 b8 Z7 S7 N7 O7 Y7 U1 U2 U3 U4 U5 UB UO
          gi_wp2
          go_roundw
          case rel => exact ⟨j + 1, by omega, by go_num, ⟨_, P8, Q8, Z8, S8, Y8⟩, Lib.hid N8, Lib.hid O8⟩
          case measure => simp [intOf]; omega
      · obtain rfl : j = 2 := by omega
        gi_wp2
        exact ⟨HO.out.from _, kpl_of P4 Q4 (HKK.out.nx HB.out), ⟨v2, Q1, by rw [keyB_snoc]; exact Q2, Q3, Q4, Q5⟩, HB.out⟩
  case done =>
    rintro D ys W hD rfl ⟨⟨v, P1, P2, P3, P4, P5⟩, hB⟩ hK
    have c2 := P1.cell (i := 0) (v := v) rfl
    have hrd := Lib.hid P2.rd
    have hk32 := keyB_all s 32 (by decide)
    rw [hk32] at hrd
    have hS := HSUM.out W v _ hrd.out (HKK.out.nx hB) (by rw [flt_length _ (twoL_length s) 32]; decide)
    rw [← HKE.out] at hS
    have HS := Lib.hid hS
    obtain ⟨A2, m2, c3, rfl⟩ := P2.rd.sl
    gi_wp2
    refine ⟨trivial, (callsIn_wide.2 HS.out).mono ?_⟩
    rintro e W3 ⟨rfl, n3⟩
    have Q3 := P3.nx n3
    have N3 : Below w.heap.size w W3 := Nx.trans hB n3
    have hK3 : W3.heap[D]? = some (.deferred (some [])) := (n3.block D (Array.getElem?_eq_some_iff.1 hK).1).trans hK
    gi_wp2_with (refine wpListIn_store_rw rfl 23 (.tmp 2) (.tmp 24) rfl (w.heap.size + 1) (hcel H) rfl rfl 23 (hcel Z) Q3 h2.out h4.out (hcel_one _) ?_)
    have hB4 : Below w.heap.size w (W3.setRow (w.heap.size + 1) (hcel H)) := Nx.setRow N3 (g := w.heap.size + 1) _ (Nat.le_succ _)
    have hKR := (keepsRow Q3 (hcel H)).same D _ hK3 rfl
    refine ⟨by simp, .inl ⟨_, _, rfl, run_takeDeferred hKR, ?_⟩⟩
    have X3 := row_kept (Q3.setRow (hcel H)) (grownBy_putObj' _ D (.deferred none)) (fun r e => by cases e; exact ⟨_, hKR, rfl⟩)
    refine ⟨_, results_cell_row Tryd.results12 _ _ (w.heap.size + 1) 23 (hcel H) (0, 0) _ rfl X3 Tryd.underlying23 rfl h2.out, rfl, ?_⟩
    exact Below.trans hB4 (belowK_b (w := w) (Nat.le_refl _) _ D _ _ (by omega) hKR rfl rfl)
  case stop =>
    intro D c pre W _ _ h
    exact h.elim
end Go.Proofs.YtpkopigiijiiiaaDoor
