/- LAYER 13: Sign, the program's. -/
import Derived.Test.YtpkopigiijiiiaaDoorLm4
namespace Go.Proofs.YtpkopigiijiiiaaDoor
open Go Go.RowKit Go.Shelf
set_option linter.unusedVariables false
set_option linter.unusedSimpArgs false
set_option linter.unusedVariables false
set_option linter.unusedSimpArgs false
attribute [local go_sem] Oper.semAt_some

theorem wp_ixp13 {P : Program} {o : Oper} {a : Act} {w : World} {K : Act → World → Prop} {Q : Exit → Act → World → Prop} (dst : Option Tmp) (hd : o.dst = dst) (ty : TypeId) (x ix : Operand) (ho : o.op = .indexAddr ty x ix) (X I v : Value) (hx : a.eval x = X) (hi : a.eval ix = I)
    (hrun : (Instr.indexAt ty X I).run P w = .ok v w) (h : K (a.put dst v) w) : o.wp P a w K Q := by
  refine wp_val_of dst hd v ?_ h
  unfold execOp
  simp only [ho, hx, hi]
  simp only [Sem.run_bind, hrun, Result.andThen_ok, Sem.run_pure]
theorem run_ixp0 (g : Nat) (w : World) : (Instr.indexAt 50 (.pointer (some ⟨g, 0, none⟩)) (.int .u8 0)).run Tryd.prog w = .ok (.pointer (some ⟨g, 0, none⟩)) w := by kernel_rfl
theorem run_ixp1 (g : Nat) (w : World) : (Instr.indexAt 50 (.pointer (some ⟨g, 0, none⟩)) (.int .u8 1)).run Tryd.prog w = .ok (.pointer (some ⟨g, 32, none⟩)) w := by kernel_rfl
theorem run_ixp (g b : Nat) (hb : b < 2) (w : World) : (Instr.indexAt 50 (.pointer (some ⟨g, 0, none⟩)) (.int .u8 (b : Int))).run Tryd.prog w = .ok (.pointer (some ⟨g, b * 32, none⟩)) w := by
  have h : b = 0 ∨ b = 1 := by omega
  rcases h with h | h
  · rw [h]; exact run_ixp0 g w
  · rw [h]; exact run_ixp1 g w
/-- The cells of both. -/
theorem twoC_cells (s : Bs) (k b : Nat) (hb : b < 2) {w : World} {g : Nat} {t : TypeId} (h : Row w g (twoC s k) t) : ∀ j v, (hcel (secL s k b))[j]? = some v → w.cell? ⟨g, b * 32 + j, none⟩ = some v := by
  intro j v hv
  refine h.cell ?_
  have hj : j < 32 := by
    have := (Array.getElem?_eq_some_iff.1 hv).1
    rwa [hcel_size, secL_length] at this
  unfold twoC
  have e0 : ∀ (l : Bs) i, (hcel l)[i]? = (l[i]?).map bv := fun l i => by rw [hcel, bvs, List.getElem?_toArray, List.getElem?_map]
  rw [e0] at hv ⊢
  match b, hb with
  | 0, _ =>
    rw [Nat.zero_mul, Nat.zero_add, List.getElem?_append_left (by rw [secL_length]; omega)]; exact hv
  | 1, _ =>
    rw [List.getElem?_append_right (by rw [secL_length]; omega), secL_length, show 1 * 32 + j - 32 = j by omega]; exact hv
def sgB (s d : Bs) (pre : List N5) : Bs := pre.flatMap fun x => sgK s d x.1
theorem sgB_length (s d : Bs) : ∀ pre, (sgB s d pre).length = 64 * pre.length
  | [] => rfl
  | x :: pre => by
    have := sgB_length s d pre
    unfold sgB at this ⊢
    rw [List.flatMap_cons, List.length_append, this, sgK_length, List.length_cons]; omega
theorem sgB_snoc (s d : Bs) (pre : List N5) (x : N5) : sgB s d (pre ++ [x]) = sgB s d pre ++ sgK s d x.1 := by simp [sgB]
theorem sgB_all (s d : Bs) : ∀ k, k ≤ 32 → sgB s d (upto5 k) = flt (sgK s d) k
  | 0, _ => rfl
  | k + 1, h => by rw [upto5_succ, sgB_snoc, sgB_all s d k (by omega), nth5_val k (by omega), flt_succ]

set_option maxRecDepth 100000 in
set_option maxHeartbeats 4000000 in
theorem sign_any (s d : Bs) (hs : s.length = 32) (hd : d.length = 32) (w : World) (hK : KIs w) :
    Calls Tryd.prog 15 #[.agg (hcel s), .agg (hcel d)] w fun e w' => ∃ v, e = .returned v ∧ Go.Proofs.YtpkopigiijiiiaaDoor.Own w.heap.size w' v (sigL s d) ∧ Nx w w' := by
  have HSUM := Lib.hid (fun W y (l : Bs) (hr : Rd W y l) (hk : KIs W) (hn : l.length ≤ 140737488355000) => sum_any y l W hk hr hn)
  have HBIT := Lib.hid (fun k (hk : k < 256) W => bit_any d hd k hk W)
  have HZL : Hid ((List.replicate 32 (0 : UInt8)).length = 32) := Lib.hid List.length_replicate
  have HSG : Hid (sigL s d = flt (sgK s d) 32) := Lib.hid rfl
  obtain ⟨hz, hzs⟩ := zero_of_info info_hash'
  obtain ⟨hz5, hzs5⟩ := zero_of_info info_two
  have HZ6 : Hid ((List.replicate 64 (0 : UInt8)).length = 64) := Lib.hid List.length_replicate
  have hsz := Lib.hid (hashsz s hs)
  have hdz := Lib.hid (hashsz d hd)
  generalize List.replicate 32 (0 : UInt8) = Z at *
  generalize List.replicate 64 (0 : UInt8) = Z6 at *
  have HKK := Lib.hid hK
  have HL := Lib.hid hs
  clear hK hs hd
  have R0 := ((Row.new w (hcel s) 23 _ rfl).alloc (.cells (hcel d) 23)).alloc (.cells #[.slice none 0 0] 28)
  have R1 := (Row.new2 w (.cells (hcel s) 23) (hcel d) 23).alloc (.cells #[.slice none 0 0] 28)
  have R2 := Row.new3 w (.cells (hcel s) 23) (.cells (hcel d) 23) #[.slice none 0 0] 28
  have N0 := Lib.hid ((((Nx.refl w).alloc (.cells (hcel s) 23)).alloc (.cells (hcel d) 23)).alloc (.cells #[.slice none 0 0] 28))
  refine (callsIn_wide (n := 5)).1 ?_
  refine callsIn_of_wp_marks Tryd.func15 rfl trivial ?_ rfl
  simp only [Tryd.ntmps15, List.size_toArray, List.length_cons, List.length_nil, Nat.reduceAdd, Nat.reduceSub, Array.replicate_succ, Array.replicate_zero, List.push_toArray, List.append_toArray, List.nil_append, List.cons_append]
  have h4' : 1 ≤ 4 := by decide
  gi_wp2_with (refine wpListIn_load_rw rfl 23 (.tmp 2) rfl w.heap.size rfl 23 (hcel s) _ R0 Tryd.underlying23 rfl hsz.out ?_)
  refine ⟨trivial, (all_in 4 s _).mono ?_⟩
  rintro e w2 ⟨rfl, rfl⟩
  have hsz3 : (((w.alloc (.cells (hcel s) 23)).alloc (.cells (hcel d) 23)).alloc (.cells #[.slice none 0 0] 28)).heap.size = w.heap.size + 1 + 1 + 1 := by rw [alloc_size, alloc_size, alloc_size]
  have R3 := Row.new (((w.alloc (.cells (hcel s) 23)).alloc (.cells (hcel d) 23)).alloc (.cells #[.slice none 0 0] 28)) (hcel s) 23 _ rfl
  have T1 := R1.alloc (.cells (hcel s) 23)
  have T2 := R2.alloc (.cells (hcel s) 23)
  have N1 := Lib.hid (N0.out.alloc (.cells (hcel s) 23))
  have hsz4 := alloc_size (((w.alloc (.cells (hcel s) 23)).alloc (.cells (hcel d) 23)).alloc (.cells #[.slice none 0 0] 28)) (.cells (hcel s) 23)
  rw [hsz3] at hsz4 R3
  rw [hsz3]
  generalize (((w.alloc (.cells (hcel s) 23)).alloc (.cells (hcel d) 23)).alloc (.cells #[.slice none 0 0] 28)).alloc (.cells (hcel s) 23) = W0 at *
  have HW0 := Lib.hid (HKK.out.nx N1.out)
  clear R0 R1 R2 N0 hsz3
  gi_wp2
  have hI0 : w.heap.size + 1 + 1 + 1 < W0.heap.size := by omega
  refine wpIn_rangeFunc_ownH rfl (by decide) (gf := 39) (lb := #[.pointer (some ⟨w.heap.size + 1 + 1 + 1, 0, none⟩)]) rfl trivial (enters_of Tryd.func39 (by kernel_rfl) rfl)
    (all_stops 4 (by decide) s HL.out (w.heap.size + 1 + 1 + 1) W0 hI0 R3 HW0.out) KpL.trans
    (fun W l o o' hl h hc _ => KpL.putObj o' h hc (by omega))
    (Below.refl _ _) (fun _ => rfl)
    (fun pre W => (∃ v, Row W (w.heap.size + 1 + 1) #[v] 28 ∧ Go.Proofs.YtpkopigiijiiiaaDoor.Own W0.heap.size W v (sgB s d pre) ∧ Row W (w.heap.size + 1) (hcel d) 23 ∧ Row W (w.heap.size + 1 + 1 + 1) (hcel s) 23 ∧ W0.heap.size ≤ W.heap.size) ∧ Below w.heap.size w W)
    (fun c pre W => False)
    (OwnFrom.and (Own.from (fun s A B row hs hg hr => by obtain ⟨v, h1, h2, h3, h4, h5⟩ := hs; exact ⟨v, row_kept h1 hg hr, own_kept h2 hg hr, row_kept h3 hg hr, row_kept h4 hg hr, Nat.le_trans h5 hg.size⟩) _) (ownFrom_below (Nat.le_refl _) (by omega)))
    (fun c s A B row hs _ _ => hs.elim)
    ⟨⟨_, T2, .inl ⟨rfl, rfl⟩, T1, R3, Nat.le_refl _⟩, N1.out⟩
    (fun x a' W => ∃ g, W0.heap.size ≤ g ∧ Row W g (twoC s x.1) 50 ∧ a' = ⟨#[.agg (hcel s), .agg (hcel d), .pointer (some ⟨w.heap.size, 0, none⟩), .pointer (some ⟨w.heap.size + 1, 0, none⟩), .slice none 0 0, .pointer (some ⟨w.heap.size + 1 + 1, 0, none⟩), .int .u8 (x.1 : Int), .pointer (some ⟨g, 0, none⟩), undef, undef, undef, undef, .agg (hcel s), .func (.func 39) #[] #[.pointer (some ⟨w.heap.size + 1 + 1 + 1, 0, none⟩)], .int .u8 (x.1 : Int), .agg (twoC s x.1), undef, undef, undef, undef, undef, undef, undef, undef, undef, undef, undef, undef, undef, undef, undef, undef, undef, undef], []⟩)
    (fun x a' s A B row hs hg hr => by obtain ⟨g, h1, h2, h3⟩ := hs; exact ⟨g, h1, row_kept h2 hg (fun r e => (hr r e).2), h3⟩) ?assign ?body ?done ?stop
  case assign =>
    rintro l pre x W K ⟨⟨v, P1, P2, P3, P4, P5⟩, hB⟩ hK
    have hx2 : (twoC s x.1).size = 64 := by unfold twoC; rw [hcel_size, List.length_append, secL_length, secL_length]
    have i2 := Lib.hid (show (Tryd.prog.info? 50).map (·.size) = some (twoC s x.1).size by rw [hx2]; kernel_rfl)
    have o2 := Lib.hid (show (hcel Z6).size = (twoC s x.1).size by rw [hx2, hcel_size, HZ6.out])
    have RN := Row.new W (hcel Z6) 50 _ rfl
    have NN := (Nx.refl W).alloc (.cells (hcel Z6) 50)
    unfold encL
    gi_wp2_with (refine wpListIn_store_rw rfl 50 (.tmp 7) (.tmp 15) rfl W.heap.size (twoC s x.1) rfl rfl 50 (hcel Z6) RN i2.out o2.out (hcel_one _) ?_)
    have NS : Nx W ((W.alloc (.cells (hcel Z6) 50)).setRow W.heap.size (twoC s x.1)) := NN.setRow (g := W.heap.size) _ (Nat.le_refl _)
    exact hK _ _ ((keepsNx NS).from _) (kpl_of P4 (P4.nx NS) (HKK.out.nx (Nx.trans hB NS))) ⟨⟨v, P1.nx NS, P2.nx NS, P3.nx NS, P4.nx NS, Nat.le_trans P5 NS.size⟩, Nx.trans hB NS⟩ ⟨_, P5, RN.setRow _, rfl⟩
  case body =>
    rintro l pre q a' W hl hr ⟨⟨v, P1, P2, P3, P4, P5⟩, hB⟩ ⟨gp, hg, PG, rfl⟩ hlen
    have hpl : (sgB s d pre).length ≤ 1984 := by rw [sgB_length]; omega
    have HB5 := Lib.hid (HBIT.out q.1 (by have := q.2; omega))
    obtain ⟨bb, hbb⟩ : ∃ bb, bitN d q.1 = bb := ⟨_, rfl⟩
    obtain ⟨bo, hbo⟩ : ∃ bo, 1 - bitN d q.1 = bo := ⟨_, rfl⟩
    have HBO : Hid ((bb = 0 ∧ bo = 1) ∨ (bb = 1 ∧ bo = 0)) := Lib.hid (by have := bitN_cases d q.1; omega)
    have HSK : Hid (sgK s d q.1 = secL s q.1 bb ++ shaL (secL s q.1 bo)) := Lib.hid (by rw [← hbo, ← hbb]; rfl)
    have hb2 : bb < 2 := by have := HBO.out; omega
    have ho2 : bo < 2 := by have := HBO.out; omega
    rw [hbb] at HB5
    gi_wp2_with (refine wpListIn_load_rw rfl 23 (.tmp 3) rfl (w.heap.size + 1) rfl 23 (hcel d) _ P3 Tryd.underlying23 rfl hdz.out ?_)
    refine ⟨trivial, (CallsIn.inRound l (callsIn_wide.2 (HB5.out _))).mono ?_⟩
    rintro e W1 ⟨rfl, n1⟩
    have U1 := P1.nx n1
    have U2 := P2.nx n1
    have U3 := P3.nx n1
    have U4 := P4.nx n1
    have U5 := Nat.le_trans P5 n1.size
    have UB := Lib.hid (Nx.trans hB n1)
    have UO := Lib.hid (keepsNx n1)
    have UG := PG.nx n1
    have HP4 := Lib.hid P4
    have HIB := Lib.hid (run_ixp gp bb hb2)
    have HIO := Lib.hid (run_ixp gp bo ho2)
    have HCB := Lib.hid (fun wr (h : Nx W1 wr) => twoC_cells s q.1 bb hb2 (UG.nx h))
    have HCO := Lib.hid (fun wr (h : Nx W1 wr) => twoC_cells s q.1 bo ho2 (UG.nx h))
    have hAbl := secL_length s q.1 bb
    have hAol := secL_length s q.1 bo
    generalize hAbE : secL s q.1 bb = Ab at *
    generalize hAoE : secL s q.1 bo = Ao at *
    have hAb := Lib.hid (hashsz Ab hAbl)
    have hAo := Lib.hid (hashsz Ao hAol)
    have hAbz := Lib.hid (hashsame Z Ab HZL.out hAbl)
    have hAoz := Lib.hid (hashsame Z Ao HZL.out hAol)
    clear n1 P1 P2 P3 P4 P5 PG HB5 hbb hbo hAbE hAoE
    gi_wp2
    refine wpIn_region_bk 11 [[], [0], [1], [], [3], [4], [5], [], [], [7, 2, 0, 1, 2, 7, 8], [8, 6, 9, 0, 1, 2, 3, 4, 5, 6, 7, 8, 9]] [some 19, some 20, some 21, some 22, some 23, some 24, some 25, some 9, some 10, none, none]
      [.int .u8 (bb : Int), .pointer (some ⟨gp, bb * 32, none⟩), .agg (hcel Ab), .int .u8 (bb : Int), .int .u8 (bo : Int), .pointer (some ⟨gp, bo * 32, none⟩), .agg (hcel Ao), undef, undef, undef, undef]
      [⟨7, 9, hcel Z, hcel Ab, 23⟩, ⟨8, 10, hcel Z, hcel Ao, 23⟩] [] [7, 8, 9, 10] [(7, 9), (8, 10)] rfl rfl
      (by kernel_rfl) (by kernel_rfl) (hord_of (by decide)) (by kernel_rfl) rfl (by decide) (by decide) (by decide) (by decide) (fun _ h => by cases h) (by decide) ?_ ?_ ?_ ?_ ?_
    · intro x tm wr htm hx i hi hs hd ho K hK
      simp only [fillA, List.setIfInBounds_toArray, List.set_cons_zero, List.set_cons_succ] at htm
      subst htm
      have hcs : i = 0 ∨ i = 1 ∨ i = 2 ∨ i = 3 ∨ i = 4 ∨ i = 5 ∨ i = 6 ∨ i = 7 ∨ i = 8 ∨ i = 9 ∨ i = 10 := by omega
      clear hi
      rcases hcs with rfl | rfl | rfl | rfl | rfl | rfl | rfl | rfl | rfl | rfl | rfl
      · exact wpOpI_of (some l) rfl (fun _ h => by cases h) rfl (wp_val_of (some 19) rfl (.int .u8 (bb : Int)) (by kernel_rfl) (hK _ (Nx.refl _)))
      · have e0 : x 0 = .int .u8 (bb : Int) := hd 0 (by decide) (by decide)
        generalize x 0 = y0 at e0 hK ⊢
        subst e0
        exact wpOpI_of (some l) rfl (fun _ h => by cases h) rfl (wp_ixp13 (some 20) rfl 50 (.tmp 7) (.tmp 19) rfl _ _ (.pointer (some ⟨gp, bb * 32, none⟩)) rfl rfl (HIB.out wr) (hK _ (Nx.refl _)))
      · have e1 : x 1 = .pointer (some ⟨gp, bb * 32, none⟩) := hd 1 (by decide) (by decide)
        generalize x 1 = y1 at e1 hK ⊢
        subst e1
        exact wpOpI_of (some l) rfl (fun _ h => by cases h) rfl (wp_load_at (some 21) rfl 23 (.tmp 20) rfl gp (bb * 32) rfl (hcel Ab) _ (HCB.out wr hx.free) Tryd.underlying23 rfl hAb.out (hK _ (Nx.refl _)))
      · exact wpOpI_of (some l) rfl (fun _ h => by cases h) rfl (wp_val_of (some 22) rfl (.int .u8 (bb : Int)) (by kernel_rfl) (hK _ (Nx.refl _)))
      · have e3 : x 3 = .int .u8 (bb : Int) := hd 3 (by decide) (by decide)
        generalize x 3 = y3 at e3 hK ⊢
        subst e3
        exact wpOpI_of (some l) rfl (fun _ h => by cases h) rfl (wp_val_of (some 23) rfl (.int .u8 (bo : Int)) (by rcases HBO.out with ⟨h1, h2⟩ | ⟨h1, h2⟩ <;> (subst h1 h2; kernel_rfl)) (hK _ (Nx.refl _)))
      · have e4 : x 4 = .int .u8 (bo : Int) := hd 4 (by decide) (by decide)
        generalize x 4 = y4 at e4 hK ⊢
        subst e4
        exact wpOpI_of (some l) rfl (fun _ h => by cases h) rfl (wp_ixp13 (some 24) rfl 50 (.tmp 7) (.tmp 23) rfl _ _ (.pointer (some ⟨gp, bo * 32, none⟩)) rfl rfl (HIO.out wr) (hK _ (Nx.refl _)))
      · have e5 : x 5 = .pointer (some ⟨gp, bo * 32, none⟩) := hd 5 (by decide) (by decide)
        generalize x 5 = y5 at e5 hK ⊢
        subst e5
        exact wpOpI_of (some l) rfl (fun _ h => by cases h) rfl (wp_load_at (some 25) rfl 23 (.tmp 24) rfl gp (bo * 32) rfl (hcel Ao) _ (HCO.out wr hx.free) Tryd.underlying23 rfl hAo.out (hK _ (Nx.refl _)))
      · exact absurd (by decide) hs
      · exact absurd (by decide) hs
      · exact absurd (by decide) hs
      · exact absurd (by decide) hs
    · intro e he
      simp only [List.mem_cons, List.not_mem_nil, or_false] at he
      rcases he with rfl | rfl
      · intro tm wr K hK
        exact wpOpI_of (some l) rfl (fun _ h => by cases h) rfl (wp_alloc_of (some 9) rfl 23 rfl (hcel Z) hz hK)
      · intro tm wr K hK
        exact wpOpI_of (some l) rfl (fun _ h => by cases h) rfl (wp_alloc_of (some 10) rfl 23 rfl (hcel Z) hz hK)
    · intro e he
      simp only [List.mem_cons, List.not_mem_nil, or_false] at he
      rcases he with rfl | rfl
      · intro x tm wr g htm hd hp hr K hK
        dsimp only at hd
        simp only [fillA, List.setIfInBounds_toArray, List.set_cons_zero, List.set_cons_succ] at htm
        subst htm
        replace hp : x 7 = .pointer (some ⟨g, 0, none⟩) := hp
        generalize x 7 = y7 at hp hK ⊢
        subst hp
        have e2 : x 2 = .agg (hcel Ab) := hd 2 (by decide) (by decide)
        generalize x 2 = y2 at e2 hK ⊢
        subst e2
        have e0 : x 0 = .int .u8 (bb : Int) := hd 0 (by decide) (by decide)
        generalize x 0 = y0 at e0 hK ⊢
        subst e0
        have e1 : x 1 = .pointer (some ⟨gp, bb * 32, none⟩) := hd 1 (by decide) (by decide)
        generalize x 1 = y1 at e1 hK ⊢
        subst e1
        exact wpOpI_of (some l) rfl (fun _ h => by cases h) rfl (wp_store_row 23 (.tmp 9) (.tmp 21) rfl g (hcel Ab) rfl rfl 23 (hcel Z) hr hAb.out hAbz.out (hcel_one _) hK)
      · intro x tm wr g htm hd hp hr K hK
        dsimp only at hd
        simp only [fillA, List.setIfInBounds_toArray, List.set_cons_zero, List.set_cons_succ] at htm
        subst htm
        replace hp : x 8 = .pointer (some ⟨g, 0, none⟩) := hp
        generalize x 8 = y8 at hp hK ⊢
        subst hp
        have e6 : x 6 = .agg (hcel Ao) := hd 6 (by decide) (by decide)
        generalize x 6 = y6 at e6 hK ⊢
        subst e6
        have e0 : x 0 = .int .u8 (bb : Int) := hd 0 (by decide) (by decide)
        generalize x 0 = y0 at e0 hK ⊢
        subst e0
        have e1 : x 1 = .pointer (some ⟨gp, bb * 32, none⟩) := hd 1 (by decide) (by decide)
        generalize x 1 = y1 at e1 hK ⊢
        subst e1
        have e2 : x 2 = .agg (hcel Ab) := hd 2 (by decide) (by decide)
        generalize x 2 = y2 at e2 hK ⊢
        subst e2
        have e3 : x 3 = .int .u8 (bb : Int) := hd 3 (by decide) (by decide)
        generalize x 3 = y3 at e3 hK ⊢
        subst e3
        have e4 : x 4 = .int .u8 (bo : Int) := hd 4 (by decide) (by decide)
        generalize x 4 = y4 at e4 hK ⊢
        subst e4
        have e5 : x 5 = .pointer (some ⟨gp, bo * 32, none⟩) := hd 5 (by decide) (by decide)
        generalize x 5 = y5 at e5 hK ⊢
        subst e5
        exact wpOpI_of (some l) rfl (fun _ h => by cases h) rfl (wp_store_row 23 (.tmp 10) (.tmp 25) rfl g (hcel Ao) rfl rfl 23 (hcel Z) hr hAo.out hAoz.out (hcel_one _) hK)
    · intro e he
      cases he
    · intro x tm wr htm hx hv hn hdis ho
      simp only [fillA, List.setIfInBounds_toArray, List.set_cons_zero, List.set_cons_succ] at htm
      subst htm
      obtain ⟨gn0, p0, q0, r0⟩ := hn ⟨7, 9, hcel Z, hcel Ab, 23⟩ (.head _)
      obtain ⟨gn1, p1, q1, r1⟩ := hn ⟨8, 10, hcel Z, hcel Ao, 23⟩ (.tail _ (.head _))
      have hne01 : gn0 ≠ gn1 := fun h => hdis ⟨7, 9, hcel Z, hcel Ab, 23⟩ (.head _) ⟨8, 10, hcel Z, hcel Ao, 23⟩ (.tail _ (.head _)) (show ((7 : Nat) ≠ 8) by decide) (p0.trans (by rw [h]; exact p1.symm))
      replace p0 : x 7 = .pointer (some ⟨gn0, 0, none⟩) := p0
      rw [p0]
      replace p1 : x 8 = .pointer (some ⟨gn1, 0, none⟩) := p1
      rw [p1]
      have hx1 := hx.free
      have N2 := hx1
      have V1 := U1.nx N2
      have V2 := U2.nx N2
      have V3 := U3.nx N2
      have V4 := U4.nx N2
      have V5 := Nat.le_trans U5 N2.size
      have VB := Lib.hid (Nx.trans UB.out N2)
      have VO := Lib.hid (UO.out.trans (keepsNx N2))
      have hS := HSUM.out _ _ Ao (Row.rd r1 32 hAol (by decide)) (HKK.out.nx VB.out) (by rw [hAol]; decide)
      have HS := Lib.hid hS
      have HRB := Lib.hid (Row.rd r0 32 hAbl (by decide))
      have HQL : Hid ((shaL Ao).length = 32) := Lib.hid (shaL_length Ao)
      clear hS U1 U2 U3 U4 U5 UB UO UG hx hx1 N2 r0 r1 q0 q1 hne01 hv hn hdis ho p0 p1 HIB HIO HCB HCO
      generalize shaL Ao = SA at *
      have sAi := Lib.hid (hashsz SA HQL.out)
      have sAo := Lib.hid (hashsame Z SA HZL.out HQL.out)
      generalize x 0 = y0 at *
      generalize x (0 + 1) = y1 at *
      generalize x (0 + 1 + 1) = y2 at *
      generalize x (0 + 1 + 1 + 1) = y3 at *
      generalize x (0 + 1 + 1 + 1 + 1) = y4 at *
      generalize x (0 + 1 + 1 + 1 + 1 + 1) = y5 at *
      generalize x (0 + 1 + 1 + 1 + 1 + 1 + 1) = y6 at *
      gi_wp2
      refine ⟨trivial, (CallsIn.inRound l (callsIn_wide.2 HS.out)).mono ?_⟩
      rintro e W5 ⟨rfl, n5⟩
      have RN := Row.new W5 (hcel Z) 23 _ rfl
      gi_wp2_with (refine wpListIn_store_rw rfl 23 (.tmp 11) (.tmp 27) rfl W5.heap.size (hcel SA) rfl rfl 23 (hcel Z) RN sAi.out sAo.out (hcel_one _) ?_)
      have NB : Nx wr ((W5.alloc (.cells (hcel Z) 23)).setRow W5.heap.size (hcel SA)) := (n5.alloc _).setRow (g := W5.heap.size) _ n5.size
      have RA := RN.setRow (hcel SA)
      have U1 := V1.nx NB
      have U2 := V2.nx NB
      have U3 := V3.nx NB
      have U4 := V4.nx NB
      have U5 := Nat.le_trans V5 NB.size
      have UB := Lib.hid (Nx.trans VB.out NB)
      have UO := Lib.hid (VO.out.trans (keepsNx NB))
      have HRD := Lib.hid (Row.rd RA 32 HQL.out (by decide))
      replace HRB := Lib.hid (HRB.out.nx NB)
      generalize (W5.alloc (.cells (hcel Z) 23)).setRow W5.heap.size (hcel SA) = W6 at *
      generalize W5.heap.size = g8 at *
      clear n5 NB RN RA V1 V2 V3 V4 V5 VB VO HS
      have hAb32 := HRB.out.sl
      refine wpIn_region_cl 3 [[], [], [], [0, 1, 2], [3], [4, 4, 0, 1, 2, 3, 4]] [some 28, some 29, some 30] [.eq v, .eq (.slice (some ⟨gn0, 0, none⟩) 32 32), .eq (.slice (some ⟨g8, 0, none⟩) 32 32)]
        (by kernel_rfl) (by kernel_rfl) (hord_of (by decide)) (by kernel_rfl) (by decide) (by decide) (htail_cl 4 (hord_of (by decide)) (by decide)) ?_ _ (by rfl) ?_
      · intro xx tm wr2 htm hx i hi hd K hK
        simp only [fillA, List.setIfInBounds_toArray, List.set_cons_zero, List.set_cons_succ] at htm
        subst htm
        have hcs : i = 0 ∨ i = 1 ∨ i = 2 := by omega
        clear hi
        rcases hcs with rfl | rfl | rfl
        · exact wpOpI_of (some l) rfl (fun _ h => by cases h) rfl (wp_load_cell (some 28) rfl 28 (.tmp 5) rfl (w.heap.size + 1 + 1) 0 rfl v _ ((U1.nx hx).cell (i := 0) (v := v) rfl) Tryd.underlying28 rfl (hK _ _ rfl (Nx.refl _)))
        · exact wpOpI_of (some l) rfl (fun _ h => by cases h) rfl (wp_val_of (some 29) rfl (.slice (some ⟨gn0, 0, none⟩) 32 32) (by kernel_rfl) (hK _ _ rfl (Nx.refl _)))
        · exact wpOpI_of (some l) rfl (fun _ h => by cases h) rfl (wp_val_of (some 30) rfl (.slice (some ⟨g8, 0, none⟩) 32 32) (by kernel_rfl) (hK _ _ rfl (Nx.refl _)))
      · intro xx tm wr2 htm hx hv
        simp only [fillA, List.setIfInBounds_toArray, List.set_cons_zero, List.set_cons_succ] at htm
        subst htm
        have e0 : xx 0 = v := hv 0 (by decide)
        have e1 : xx 1 = .slice (some ⟨gn0, 0, none⟩) 32 32 := hv 1 (by decide)
        have e2 : xx 2 = .slice (some ⟨g8, 0, none⟩) 32 32 := hv 2 (by decide)
        rw [e0, e1, e2]
        simp only [List.drop_succ_cons, List.drop_zero]
        have HCA := Lib.hid (catAt3 (U2.nx hx).rd (HRB.out.nx hx) (HRD.out.nx hx))
        have hCC := concat_at _ HCA.out (by simp) (by simp only [List.flatten_cons, List.flatten_nil, List.append_nil, List.length_append]; have := HQL.out; omega) _ (Nat.le_refl _)
        simp only [List.flatten_cons, List.flatten_nil, List.append_nil] at hCC
        have HCC := Lib.hid hCC
        clear hCC HCA
        obtain ⟨A0, m0, c0, rfl⟩ := (U2.nx hx).rd.sl
        gi_wp2
        refine ⟨trivial, (CallsIn.inRound l (callsIn_wide.2 HCC.out)).mono ?_⟩
        rintro e W7 ⟨v3, rfl, o7, n7⟩
        have NC : Nx W6 W7 := (hx.alloc _).trans n7
        have P7 := U1.nx NC
        have D7 := U3.nx NC
        have S7 := U4.nx NC
        have N7 : Nx w W7 := Nx.trans UB.out NC
        have O7 := UO.out.trans (keepsNx NC)
        have Y7 := Nat.le_trans U5 NC.size
        have Q7 := o7.mono (B' := W0.heap.size) (by simp only [alloc_size]; have := Nat.le_trans U5 hx.size; omega)
        rw [← HSK.out] at Q7
        have c7 := P7.cell (i := 0) (v := .slice A0 m0 c0) rfl
        have f7 := P7.frozen 0
        have P8 : Row (W7.setCell ⟨w.heap.size + 1 + 1, 0, none⟩ v3) (w.heap.size + 1 + 1) #[v3] 28 := P7.set 0 v3
        have D8 := D7.other (w.heap.size + 1 + 1) 0 v3 (by omega)
        have S8 := S7.other (w.heap.size + 1 + 1) 0 v3 (by omega)
        have Q8 := Q7.grown (grownBy_setCell' W7 (w.heap.size + 1 + 1) v3) (fun b hb e => by cases e; have := Q7.block _ hb; omega)
        have N8 : Below w.heap.size w (W7.setCell ⟨w.heap.size + 1 + 1, 0, none⟩ v3) := Nx.setAt N7 (i := 0) _ (by omega)
        have O8 := O7.trans (KeepsOthers.setCell W7 ⟨w.heap.size + 1 + 1, 0, none⟩ v3)
        have Y8 : W0.heap.size ≤ (W7.setCell ⟨w.heap.size + 1 + 1, 0, none⟩ v3).heap.size := by simpa [World.setCell] using Y7
        obtain ⟨A3, m3, c3, rfl⟩ := o7.rd.sl
        clear o7 Q7 NC D7 S7 N7 O7 Y7 U1 U2 U3 U4 U5 UB UO n7 HCC
        gi_wp2
        exact ⟨O8.from _, kpl_of HP4.out S8 (HKK.out.nx N8), ⟨_, P8, by rw [sgB_snoc]; exact Q8, D8, S8, Y8⟩, N8⟩
  case done =>
    rintro D ys W hD rfl ⟨⟨v, P1, P2, P3, P4, P5⟩, hB⟩ hK
    have c2 := P1.cell (i := 0) (v := v) rfl
    have hk32 := sgB_all s d 32 (by decide)
    rw [hk32, ← HSG.out] at P2
    have HO := Lib.hid P2
    obtain ⟨A2, m2, c3, rfl⟩ := P2.rd.sl
    gi_wp2
    refine ⟨by simp, .inl ⟨_, _, rfl, run_takeDeferred hK, ?_⟩⟩
    have HO2 := own_kept HO.out (grownBy_putObj' _ D (.deferred none)) (fun r e => by cases e; exact ⟨_, hK, rfl⟩)
    refine ⟨_, results_tmp Tryd.results15 _ _ _, _, rfl, HO2.mono (by omega), ?_⟩
    exact Below.trans hB (belowK_b (w := w) (Nat.le_refl _) _ D _ _ (by omega) hK rfl rfl)
  case stop =>
    intro D c pre W _ _ h
    exact h.elim
end Go.Proofs.YtpkopigiijiiiaaDoor
