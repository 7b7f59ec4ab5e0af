/- CONTRACTS OF LAYER 2: Begin, Round. -/
import Derived.Test.YtpgdfboogjapeaaDoorSha2
import Derived.Lib.QuietBelow
namespace Go.Proofs.YtpgdfboogjapeaaDoor
open Go.RowKit
set_option linter.unusedVariables false
set_option linter.unusedSimpArgs false

/-- A load of a whole row, within a region that reads alone, in every world of a class. -/
theorem quiet_load {P : Program} {o : Oper} {a : Act} {C : World → Prop} {next : Act → Prop} (ty : TypeId) (x : Operand) (ho : o.op = .load ty x) (g : Nat) (hx : a.eval x = .pointer (some ⟨g, 0, none⟩))
    (t : TypeId) (cs : Array Value) (fr : Nat × Nat) (d : TypeDesc) (hC : ∀ w, C w → w.heap[g]? = some (.cells cs t fr)) (hu : P.underlying ty = some d) (hd : (match d with | .struct _ | .array _ _ => true | _ => false) = true)
    (hi : (P.info? ty).map (·.size) = some cs.size) (h : next (a.put o.dst (.agg cs))) : o.quiet P a C next := by
  refine ⟨.agg cs, fun w hw => ?_, h⟩
  unfold Oper.quietAt execOp
  simp only [ho, hx, Instr.loadAt, Instr.sureAddr, Sem.run_bind, Sem.run_pure, Result.andThen_ok, run_loadVar_row w g t ty cs fr d (hC w hw) hu hd hi]
  exact ⟨rfl, rfl⟩

theorem info_w8 : (Tryd.prog.info? 34).map (fun i => (i.zero, i.size)) = some (some (.agg (ints .u32 [0, 0, 0, 0, 0, 0, 0, 0])), 8) := by kernel_rfl

set_option maxHeartbeats 400000 in
theorem begin_any (w : World) :
    Calls Tryd.prog 23 #[] w fun e w' => e = .returned (.agg (ints .u32 beginS.list)) ∧ Nx w w' := by
  go_enter Tryd.func23, Tryd.ntmps23
  go_wp2
  exact bodyPost_ret (v := .agg (ints .u32 beginS.list)) (by simp [results, Tryd.results23, go_sem]; rfl) rfl
    ⟨rfl, by repeat (first | exact Nx.refl _ | with_reducible apply Nx.drew | with_reducible apply Nx.alloc | with_reducible refine Nx.setAt ?_ _ (by omega))⟩

set_option maxRecDepth 100000 in
set_option maxHeartbeats 1000000 in
theorem round_any (s : St) (B : List UInt8) (w : World) (hs : s.ok) (hB : B.length = 64) (hk : KIs w) :
    Calls Tryd.prog 21 #[.agg (ints .u32 s.list), .agg (hcel B)] w fun e w' => e = .returned (.agg (ints .u32 (s.round B).list)) ∧ Nx w w' := by
  have HSP := Lib.hid (fun w => spread_any B w hB)
  have HWL := Lib.hid (show (wordsL B).length = 64 from schedL_length B 48)
  have hsb : (Tryd.prog.info? 35).map (·.size) = some (hcel B).size := by rw [hcel_size, hB]; kernel_rfl
  have hsw : (Tryd.prog.info? 34).map (·.size) = some (ints .u32 s.list).size := by rw [ints_size]; kernel_rfl
  replace hsb := Lib.hid hsb
  replace hsw := Lib.hid hsw
  clear hB
  have HK := Lib.hid hk
  clear hk
  obtain ⟨hz, hzs⟩ := zero_of_info info_w8
  go_enter Tryd.func21, Tryd.ntmps21
  go_wp2_with fail
  replace hz := Lib.hid hz
  replace hzs := Lib.hid hzs
  have RS := ((Row.new w (ints .u32 s.list) 34 _ rfl).alloc (.cells (hcel B) 35)).alloc (.cells (ints .u32 [0, 0, 0, 0, 0, 0, 0, 0]) 34)
  have RB := (Row.new2 w (.cells (ints .u32 s.list) 34) (hcel B) 35).alloc (.cells (ints .u32 [0, 0, 0, 0, 0, 0, 0, 0]) 34)
  have RZ := Row.new3 w (.cells (ints .u32 s.list) 34) (.cells (hcel B) 35) (ints .u32 [0, 0, 0, 0, 0, 0, 0, 0]) 34
  have N1 := Lib.hid ((((Nx.refl w).alloc (.cells (ints .u32 s.list) 34)).alloc (.cells (hcel B) 35)).alloc (.cells (ints .u32 [0, 0, 0, 0, 0, 0, 0, 0]) 34))
  generalize (((w.alloc (.cells (ints .u32 s.list) 34)).alloc (.cells (hcel B) 35)).alloc (.cells (ints .u32 [0, 0, 0, 0, 0, 0, 0, 0]) 34)) = W at *
  have KW := Lib.hid (fun d os => (HK.out.nx N1.out).nx (below_regrown W d os))
  have HM := Lib.hid (fun d os => mixed_any s (wordsL B) (Sort.grow (redrawn W d) os) hs HWL.out (KW.out d os))
  have qs := Lib.hid (fun (w' : World) (hw : ∃ p : Regrown, w' = Sort.grow (redrawn W p.d) p.os) => show Row w' w.heap.size (ints .u32 s.list) 34 by obtain ⟨p, rfl⟩ := hw; exact Row.nx RS (below_regrown W p.d p.os))
  have qb := Lib.hid (fun (w' : World) (hw : ∃ p : Regrown, w' = Sort.grow (redrawn W p.d) p.os) => show Row w' (w.heap.size + 1) (hcel B) 35 by obtain ⟨p, rfl⟩ := hw; exact Row.nx RB (below_regrown W p.d p.os))
  clear HK
  refine wp_region_quiet_below (by kernel_rfl) (by kernel_rfl) ?_
  repeat (first
    | (refine wpQuiet_step (fun K hK => ?_); rw [if_pos (by rfl)]; refine quiet_load 34 (.tmp 2) rfl w.heap.size rfl 34 (ints .u32 s.list) (0, 0) _ qs.out Tryd.underlying34 rfl hsw.out ?_; refine hK _ ?_; clear hK K)
    | (refine wpQuiet_step (fun K hK => ?_); rw [if_pos (by rfl)]; refine quiet_load 35 (.tmp 3) rfl (w.heap.size + 1) rfl 35 (hcel B) (0, 0) _ qb.out Tryd.underlying35 rfl hsb.out ?_; refine hK _ ?_; clear hK K)
    | quiet_step ((first
      | (go_at_call 35; with_reducible exact Calls.regrown_of (HSP.out _))
      | (go_at_call 34; with_reducible exact Calls.regrown_of (HM.out _ _)))))
  refine wpQuiet_nil ?_
  intro _ hw'
  obtain ⟨⟨dq, osq⟩, hw''⟩ := hw'
  subst hw''
  have N2 := Lib.hid (N1.out.trans (below_regrown W dq osq))
  have RS2 := RS.nx (below_regrown W dq osq)
  have RZ2 := RZ.nx (below_regrown W dq osq)
  clear qs qb HM KW N1 RS RZ RB HSP hsb HWL
  change Exit.then _ (Exit.then _ _) Exit.normal _ (Sort.grow (redrawn W dq) osq)
  generalize Sort.grow (redrawn W dq) osq = W1 at *
  clear W dq osq
  have HD : Hid ((s.round B).list = (s.add (s.go kL (wordsL B) 64)).list) := Lib.hid rfl
  generalize s.go kL (wordsL B) 64 = m at *
  have HSUM : Hid (sumL s.list m.list 8 = (s.add m).list) := Lib.hid (sumL_all s m)
  have HML : Hid (m.list.length = 8) := Lib.hid rfl
  have HSL0 : Hid (s.list.length = 8) := Lib.hid rfl
  have HZL : Hid ((s.add m).list.length = 8) := Lib.hid rfl
  generalize (s.add m).list = SM at *
  generalize m.list = M at *
  generalize s.list = S at *
  have HX := Lib.hid (fun i (hi : i < M.length) w => run_index_ints (P := Tryd.prog) .u32 34 33 8 Tryd.underlying34 Tryd.isAgg33 Tryd.sizeOf33 M HML.out i hi w)
  have HSL := Lib.hid (fun n => show (sumL S M n).length = 8 by rw [sumL_length, HSL0.out])
  go_wp2_with fail
  go_loopw [11] (fun i wr => ∃ k : Nat, k ≤ 8 ∧ i = .int .i64 k ∧ Hid (Nx w wr) ∧ Row wr w.heap.size (ints .u32 (sumL S M k)) 34 ∧ Row wr (w.heap.size + 1 + 1) (ints .u32 [0, 0, 0, 0, 0, 0, 0, 0]) 34) (fun i _ => 8 - (intOf i).toNat)
  case atStart => exact ⟨0, by omega, rfl, N2, RS2, RZ2⟩
  case round =>
    clear RS2 RZ2 N2
    obtain ⟨k, hk, rfl, HN, RS, RZ⟩ := hrel
    by_cases hlt : k < 8
    · have hml : k < M.length := by rw [HML.out]; exact hlt
      have hidx := HX.out k hml
      have hsl : k < (sumL S M k).length := by rw [HSL.out]; exact hlt
      have c1 : wr.cell? ⟨w.heap.size, k, none⟩ = some (.int .u32 (S.getD k 0)) := by
        rw [RS.cell (ints_get .u32 _ k hsl), ← sumL_get S M k k (Nat.le_refl _), List.getD_eq_getElem?_getD, List.getElem?_eq_getElem hsl]; rfl
      have f1 := RS.frozen
      have HE : Hid (sumL S M (k + 1) = (sumL S M k).set k ((S.getD k 0 + M[k]) % 4294967296)) := Lib.hid (by
        rw [sumL, show M.getD k 0 = M[k] by rw [List.getD_eq_getElem?_getD, List.getElem?_eq_getElem hml]; rfl])
      clear HX HSL hsl
      generalize S.getD k 0 = x at *
      generalize M[k] = y at *
      go_wp2
      go_roundw
      case rel =>
        refine ⟨k + 1, by omega, by go_num, HN.out.setAt _ (by omega), ?_, RZ.other _ _ _ (by omega)⟩
        rw [HE.out, ← ints_set]
        exact RS.set k _
      case measure => simp [intOf]; omega
    · obtain rfl : k = 8 := by omega
      rw [HSUM.out] at RS
      have hz1 : (Tryd.prog.info? 34).map (·.size) = some (ints .u32 SM).size := by rw [ints_size, HZL.out]; exact hzs.out
      replace hz1 := Lib.hid hz1
      have ho : (ints .u32 [0, 0, 0, 0, 0, 0, 0, 0]).size = (ints .u32 SM).size := by rw [ints_size, ints_size, HZL.out]; rfl
      replace ho := Lib.hid ho
      have hl : w.heap.size ≤ w.heap.size + 1 + 1 := by omega
      clear HX HSL
      go_wp2_with (first | (refine wpList_load_row rfl 34 (.tmp 2) rfl w.heap.size rfl 34 (ints .u32 SM) (0, 0) _ RS Tryd.underlying34 rfl hz1.out ?_) | (refine wpList_store_row rfl 34 (.tmp 4) (.tmp 22) rfl (w.heap.size + 1 + 1) (ints .u32 SM) rfl rfl 34 (ints .u32 [0, 0, 0, 0, 0, 0, 0, 0]) RZ hz1.out ho.out (ints_one _ _) ?_))
      exact bodyPost_ret (results_cell_row Tryd.results21 _ _ (w.heap.size + 1 + 1) 34 (ints .u32 SM) (0, 0) _ rfl (RZ.setRow _) Tryd.underlying34 rfl hz1.out) rfl ⟨by rw [HD.out], HN.out.setRow _ hl⟩
end Go.Proofs.YtpgdfboogjapeaaDoor
