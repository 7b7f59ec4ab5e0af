/- LAYER 8: Mine where the bits may be. -/
import Derived.Test.YtjbeemoobmagnaaDoorHead9
namespace Go.Proofs.YtjbeemoobmagnaaDoor
open Go Go.RowKit Go.Shelf
set_option linter.unusedVariables false
set_option linter.unusedSimpArgs false
set_option linter.unusedVariables false
set_option linter.unusedSimpArgs false
attribute [local go_sem] Oper.semAt_some

theorem wpListIn_load_rw {F : Fence} {n : Nat} {P : Program} {ops : Array Oper} {rest : List Oper} {o : Oper} {a : Act} {w : World} {Q : Exit → Act → World → Prop} (hgd : o.guard = none) (ty : TypeId) (x : Operand) (ho : o.op = .load ty x)
    (g : Nat) (hx : a.eval x = .pointer (some ⟨g, 0, none⟩)) (t : TypeId) (vs : Array Value) (d : TypeDesc) (hr : Row w g vs t)
    (hu : P.underlying ty = some d) (hd : (match d with | .struct _ | .array _ _ => true | _ => false) = true) (hi : (P.info? ty).map (·.size) = some vs.size)
    (h : wpListIn F n P ops Q rest (a.put o.dst (.agg vs)) w) : wpListIn F n P ops Q (o :: rest) a w := by
  refine wpListIn_plain hgd fun K hK' => ?_
  have e : (execOp a.eval o).run P w = .ok (.value (.agg vs)) w := by
    unfold execOp
    simp only [ho, hx, Instr.loadAt, Instr.sureAddr, Sem.run_bind, Sem.run_pure, Result.andThen_ok, run_loadVar_at w g 0 ty vs d (fun j v hv => by rw [Nat.zero_add]; exact hr.cell hv) hu hd hi]
  unfold Oper.wpIn
  refine ⟨?_, ?_⟩
  · simp [Oper.about, ho]
  · rw [Oper.semAt_plain F _ _ (by rw [ho]; intro c hc'; cases hc'), e]
    exact hK' _ _ h
theorem wpListIn_store_rw {F : Fence} {n : Nat} {P : Program} {ops : Array Oper} {rest : List Oper} {o : Oper} {a : Act} {w : World} {Q : Exit → Act → World → Prop} (hgd : o.guard = none) (ty : TypeId) (x y : Operand) (ho : o.op = .store ty x y)
    (g : Nat) (cells : Array Value) (hx : a.eval x = .pointer (some ⟨g, 0, none⟩)) (hy : a.eval y = .agg cells) (t : TypeId) (old : Array Value) (hg : Row w g old t) (hi : (P.info? ty).map (·.size) = some cells.size)
    (hold : old.size = cells.size) (h1 : cells.all (·.oneCell') = true)
    (h : wpListIn F n P ops Q rest (a.put o.dst undef) (w.setRow g cells)) : wpListIn F n P ops Q (o :: rest) a w := by
  refine wpListIn_plain hgd fun K hK' => ?_
  have e : (execOp a.eval o).run P w = .ok .skip (w.setRow g cells) := by
    unfold execOp
    simp only [ho, hx, hy, Instr.storeAt, Instr.sureAddr, Sem.run_bind, Sem.run_pure, Result.andThen_ok, run_storeVar_row w g t ty old cells hg hi hold h1]
  unfold Oper.wpIn
  refine ⟨?_, ?_⟩
  · simp [Oper.about, ho]
  · rw [Oper.semAt_plain F _ _ (by rw [ho]; intro c hc'; cases hc'), e]
    exact hK' _ _ h
theorem row_kept {W W' : World} {row : Option Nat} {g : Nat} {cs : Array Value} {t : TypeId} (h : Row W g cs t) (hg : W.grownBy W' row) (hr : ∀ r, row = some r → ∃ o : Obj, W.heap[r]? = some o ∧ o.isCells = false) : Row W' g cs t := by
  unfold Row at *
  rw [grownBy_keeps_cells hg hr h rfl]; exact h
theorem keepsNx {W W' : World} (h : Nx W W') : KeepsOthers W W' := ⟨h.size, fun k o hk _ => (h.block k (Array.getElem?_eq_some_iff.1 hk).1).trans hk⟩
theorem KpB.nx {a b : Nat} {W W' : World} (h : Nx W W') (ha : a < W.heap.size) (hb : b < W.heap.size) : KpB a b W W' := ⟨h.cell (p := ⟨a, 0, none⟩) ha, h.cell (p := ⟨b, 0, none⟩) hb⟩
theorem hd_setn (p r : List UInt8) (t b n x : Nat) (hp : p.length = 32) (hr : r.length = 32) : (hdc p r t b n).setIfInBounds 66 (.int .u32 (x : Int)) = hdc p r t b x := by
  apply Array.ext'
  simp [hdc, hdl, bvs, hp, hr, List.set_append]
/-- The first of so many numbers that works. -/
def mineK (p r : List UInt8) (t b n m : Nat) : Option Nat := (List.range m).find? fun k => meN (hI p r t b (nth32 n k).1) b
/-- What Mine answers where the bits may be. -/
def mineR (p r : List UInt8) (t b n m : Nat) : Value := match mineK p r t b n m with | some k => .tuple #[.agg (hdc p r t b (nth32 n k).1), .int .i64 0] | none => .tuple #[.agg (hdc Z32 Z32 0 0 0), .int .i64 6]
theorem keepsRow {W : World} {g : Nat} {cs : Array Value} {t : TypeId} (h : Row W g cs t) (new : Array Value) : KeepsOthers W (W.setRow g new) := ⟨by rw [size_setRow]; exact Nat.le_refl _, fun k o hk hc => by
  by_cases e : k = g
  · subst e
    unfold Row at h
    rw [h] at hk
    obtain rfl := Option.some.inj hk
    cases hc
  · rw [Go.setRow_other _ _ _ _ e]; exact hk⟩
theorem wpListIn_bd {F : Fence} {n : Nat} {P : Program} {ops : Array Oper} {rest : List Oper} {o : Oper} {a : Act} {w : World} {Q : Exit → Act → World → Prop} (hgd : o.guard = none) (ty : TypeId) (parts : Array (Nat × Operand)) (ho : o.op = .build ty parts) (v : Value)
    (hrun : ∀ w, (execOp a.eval o).run P w = .ok (.value v) w) (h : wpListIn F n P ops Q rest (a.put o.dst v) w) : wpListIn F n P ops Q (o :: rest) a w := by
  refine wpListIn_plain hgd fun K hK' => ?_
  unfold Oper.wpIn
  refine ⟨?_, ?_⟩
  · simp [Oper.about, ho]
  · rw [Oper.semAt_plain F _ _ (by rw [ho]; intro c hc'; cases hc'), hrun w]
    exact hK' _ _ h
set_option maxRecDepth 100000 in
set_option maxHeartbeats 4000000 in
theorem hmine_ok (p r : List UInt8) (t b n m : Nat) (H : HOk p r t b n) (hE : ofE b = 0) (hm : m < 4294967296) (w : World) (hk : KIs w) :
    Calls Tryd.prog 29 #[.agg (hdc p r t b n), .int .u32 (m : Int)] w fun e w' => e = .returned (mineR p r t b n m) ∧ Nx w w' := by
  obtain ⟨MR, hMR⟩ : ∃ MR, mineR p r t b n m = MR := ⟨_, rfl⟩
  rw [hMR]
  replace hMR := Lib.hid hMR
  have HO := Lib.hid (fun w => tof_any b w (by have := H.b; omega))
  obtain ⟨hz2, hzs2⟩ := zero_of_info info_head
  have cz := Lib.hid (headsz Z32 Z32 0 0 0 Z32_length Z32_length)
  have HCB := hd_b p r t b n H.p H.r
  have HCN := hd_n p r t b n H.p H.r
  have HH := Lib.hid H
  have R2 := ((Row.new w (hdc p r t b n) 32 _ rfl).alloc (.cells (hdc Z32 Z32 0 0 0) 32)).alloc (.cells #[.int .i64 0] 38)
  have RB := R2.cell HCB
  have R4 := (Row.new2 w (.cells (hdc p r t b n) 32) (hdc Z32 Z32 0 0 0) 32).alloc (.cells #[.int .i64 0] 38)
  have R5 := Row.new3 w (.cells (hdc p r t b n) 32) (.cells (hdc Z32 Z32 0 0 0) 32) #[.int .i64 0] 38
  have N0 := Lib.hid ((((Nx.refl w).alloc (.cells (hdc p r t b n) 32)).alloc (.cells (hdc Z32 Z32 0 0 0) 32)).alloc (.cells #[.int .i64 0] 38))
  have dE : (ofE b != 0) = false := by rw [hE]; rfl
  rw [hE] at HO
  generalize ofT b = x at *
  clear H HCB
  have HK := Lib.hid hk
  clear hk
  refine (callsIn_wide (n := 5)).1 ?_
  refine callsIn_of_wp_marks Tryd.func29 rfl trivial ?_ rfl
  simp only [Tryd.ntmps29, List.size_toArray, List.length_cons, List.length_nil, Nat.reduceAdd, Nat.reduceSub, Array.replicate_succ, Array.replicate_zero, List.push_toArray, List.append_toArray, List.nil_append, List.cons_append]
  have h4 : 1 ≤ 4 := by decide
  gi_wp2
  refine ⟨trivial, (callsIn_wide.2 (HO.out _)).mono ?_⟩
  rintro e w1 ⟨rfl, n1⟩
  have S2 := (R2.nx n1).alloc (.cells #[.int .u64 (lim x 0 : Int), .int .u64 (lim x 1 : Int), .int .u64 (lim x 2 : Int), .int .u64 (lim x 3 : Int)] 81)
  have S4 := (R4.nx n1).alloc (.cells #[.int .u64 (lim x 0 : Int), .int .u64 (lim x 1 : Int), .int .u64 (lim x 2 : Int), .int .u64 (lim x 3 : Int)] 81)
  have S5 := (R5.nx n1).alloc (.cells #[.int .u64 (lim x 0 : Int), .int .u64 (lim x 1 : Int), .int .u64 (lim x 2 : Int), .int .u64 (lim x 3 : Int)] 81)
  have c66 := S2.cell HCN
  have N1 := Lib.hid ((N0.out.trans n1).alloc (.cells #[.int .u64 (lim x 0 : Int), .int .u64 (lim x 1 : Int), .int .u64 (lim x 2 : Int), .int .u64 (lim x 3 : Int)] 81))
  clear n1 R2 R4 R5 RB N0
  gi_wp2
  generalize hwA : w1.alloc (.cells #[.int .u64 (lim x 0 : Int), .int .u64 (lim x 1 : Int), .int .u64 (lim x 2 : Int), .int .u64 (lim x 3 : Int)] 81) = wA at *
  clear hwA
  refine ⟨trivial, (nonces_in Fence.wide 4 trivial rfl _ _ _).mono ?_⟩
  rintro e w2 ⟨rfl, rfl⟩
  have cf := ((Row.new wA #[.int .u32 (n : Int)] 22 _ rfl).alloc (.cells #[.int .u32 (m : Int)] 22)).cell (i := 0) (v := .int .u32 (n : Int)) rfl
  have cm := (Row.new2 wA (.cells #[.int .u32 (n : Int)] 22) #[.int .u32 (m : Int)] 22).cell (i := 0) (v := .int .u32 (m : Int)) rfl
  have TF := (Row.new wA #[.int .u32 (n : Int)] 22 _ rfl).alloc (.cells #[.int .u32 (m : Int)] 22)
  have TM := Row.new2 wA (.cells #[.int .u32 (n : Int)] 22) #[.int .u32 (m : Int)] 22
  have T2 := (S2.alloc (.cells #[.int .u32 (n : Int)] 22)).alloc (.cells #[.int .u32 (m : Int)] 22)
  have T4 := (S4.alloc (.cells #[.int .u32 (n : Int)] 22)).alloc (.cells #[.int .u32 (m : Int)] 22)
  have T5 := (S5.alloc (.cells #[.int .u32 (n : Int)] 22)).alloc (.cells #[.int .u32 (m : Int)] 22)
  have N2 := Lib.hid ((N1.out.alloc (.cells #[.int .u32 (n : Int)] 22)).alloc (.cells #[.int .u32 (m : Int)] 22))
  have hsz : ((wA.alloc (.cells #[.int .u32 (n : Int)] 22)).alloc (.cells #[.int .u32 (m : Int)] 22)).heap.size = wA.heap.size + 1 + 1 := by rw [alloc_size, alloc_size]
  generalize (wA.alloc (.cells #[.int .u32 (n : Int)] 22)).alloc (.cells #[.int .u32 (m : Int)] 22) = W0 at *
  have l4 := T4.lt
  have l5 := T5.lt
  clear S2 S4 S5 c66 N1
  gi_wp2
  refine wpIn_rangeFunc_ownF rfl (by decide) (gf := 93) (lb := #[.pointer (some ⟨wA.heap.size + 1, 0, none⟩), .pointer (some ⟨wA.heap.size, 0, none⟩)]) rfl trivial (enters_of Tryd.func93 (by kernel_rfl) rfl)
    (nonces_stops Fence.wide 4 trivial rfl (by decide) (wA.heap.size + 1) wA.heap.size n m HH.out.n hm _ (by omega) (by omega) cm cf) KpB.trans
    (fun W l o o' hl h _ _ => by
      have hlt := (Array.getElem?_eq_some_iff.1 h).1
      exact ⟨World.cell?_of_block ((grownBy_putObj' W l o').block _ (by show wA.heap.size + 1 < _; omega) (by intro e; injection e with e; dsimp only at e; omega)), World.cell?_of_block ((grownBy_putObj' W l o').block _ (by show wA.heap.size < _; omega) (by intro e; injection e with e; dsimp only at e; omega))⟩)
    (Below.refl _ _) (fun _ => rfl)
    (fun pre W => (∃ n' : Nat, n' < 4294967296 ∧ Row W w.heap.size (hdc p r t b n') 32 ∧ Row W (w.heap.size + 1) (hdc Z32 Z32 0 0 0) 32 ∧ Row W (w.heap.size + 1 + 1) #[.int .i64 0] 38 ∧ Row W wA.heap.size #[.int .u32 (n : Int)] 22 ∧ Row W (wA.heap.size + 1) #[.int .u32 (m : Int)] 22 ∧ ∀ y ∈ pre, meN (hI p r t b y.1) b = false) ∧ Below w.heap.size w W)
    (fun c pre W => (c = .ret ∧ ∃ (pre' : List N32) (y : N32), pre = pre' ++ [y] ∧ (∀ z ∈ pre', meN (hI p r t b z.1) b = false) ∧ meN (hI p r t b y.1) b = true ∧ Row W (w.heap.size + 1) (hdc p r t b y.1) 32 ∧ Row W (w.heap.size + 1 + 1) #[.int .i64 0] 38) ∧ Below w.heap.size w W)
    (OwnFrom.and (Own.from (fun s A B row hs hg hr => by obtain ⟨n', h0, h1, h2, h3, h5, h6, h4⟩ := hs; exact ⟨n', h0, row_kept h1 hg hr, row_kept h2 hg hr, row_kept h3 hg hr, row_kept h5 hg hr, row_kept h6 hg hr, h4⟩) _) (ownFrom_below (Nat.le_refl _) (by omega)))
    (fun c => OwnFrom.and (Own.from (fun s A B row hs hg hr => by obtain ⟨h0, p', y, h1, h2, h3, h4, h5⟩ := hs; exact ⟨h0, p', y, h1, h2, h3, row_kept h4 hg hr, row_kept h5 hg hr⟩) _) (ownFrom_below (Nat.le_refl _) (by omega)))
    ⟨⟨n, HH.out.n, T2, T4, T5, TF, TM, fun y hy => by cases hy⟩, N2.out⟩
    (fun y => { tmps := #[.agg (hdc p r t b n), .int .u32 (m : Int), .pointer (some ⟨w.heap.size, 0, none⟩), undef, .pointer (some ⟨w.heap.size + 1, 0, none⟩), .pointer (some ⟨w.heap.size + 1 + 1, 0, none⟩), .pointer (some ⟨w1.heap.size, 0, none⟩), .int .i64 0, .int .u32 (y.1 : Int), .tuple #[.agg #[.int .u64 (lim x 0 : Int), .int .u64 (lim x 1 : Int), .int .u64 (lim x 2 : Int), .int .u64 (lim x 3 : Int)], .int .i64 0], .pointer (some ⟨w.heap.size, 65, none⟩), .int .u32 (b : Int), .tuple #[.agg #[.int .u64 (lim x 0 : Int), .int .u64 (lim x 1 : Int), .int .u64 (lim x 2 : Int), .int .u64 (lim x 3 : Int)], .int .i64 0], .agg #[.int .u64 (lim x 0 : Int), .int .u64 (lim x 1 : Int), .int .u64 (lim x 2 : Int), .int .u64 (lim x 3 : Int)], .int .i64 0, .int .i64 0, .bool false, undef, .pointer (some ⟨w.heap.size, 66, none⟩), .int .u32 (n : Int), .int .u32 (m : Int), .func (.func 93) #[] #[.pointer (some ⟨wA.heap.size + 1, 0, none⟩), .pointer (some ⟨wA.heap.size, 0, none⟩)], .int .u32 (y.1 : Int), undef, undef, undef, undef, undef, undef], defers := [] }) ?assign ?body ?done ?stop
  case assign =>
    intro l x W K hK
    gi_wp2
    exact hK
  case body =>
    rintro l pre ⟨y, hy⟩ W ⟨⟨n', hn', P2, P4, P5, PF, PM, hpre⟩, hB⟩ hlen
    have c66 := P2.cell (hd_n p r t b n' HH.out.p HH.out.r)
    have f66 := P2.frozen 66
    have U2 := P2.set 66 (.int .u32 (y : Int))
    rw [hd_setn p r t b n' y HH.out.p HH.out.r] at U2
    have U4 := P4.other w.heap.size 66 (.int .u32 (y : Int)) (by omega)
    have U5 := P5.other w.heap.size 66 (.int .u32 (y : Int)) (by omega)
    have hyz := Lib.hid (headsz p r t b y HH.out.p HH.out.r)
    have hB1 : Nx w (W.setCell ⟨w.heap.size, 66, none⟩ (.int .u32 (y : Int))) := Nx.setAt hB (i := 66) _ (Nat.le_refl _)
    have HY : HOk p r t b y := ⟨HH.out.p, HH.out.r, HH.out.t, HH.out.b, hy⟩
    have HW := Lib.hid (hworks_any p r t b y HY _ (HK.out.nx hB1))
    clear P2
    gi_wp2_with (refine wpListIn_load_rw rfl 32 (.tmp 2) rfl w.heap.size rfl 32 (hdc p r t b y) _ U2 Tryd.underlying32 rfl hyz.out ?_)
    refine ⟨trivial, (CallsIn.inRound l (callsIn_wide.2 HW.out)).mono ?_⟩
    rintro e W3 ⟨rfl, n3⟩
    have QF := (PF.other w.heap.size 66 (.int .u32 (y : Int)) (by omega)).nx n3
    have QM := (PM.other w.heap.size 66 (.int .u32 (y : Int)) (by omega)).nx n3
    have Q2 := U2.nx n3
    have Q4 := U4.nx n3
    have Q5 := U5.nx n3
    have hB3 : Below w.heap.size w W3 := Nx.trans hB1 n3
    have hKO : KeepsOthers W W3 := (KeepsOthers.setCell W ⟨w.heap.size, 66, none⟩ (.int .u32 (y : Int))).trans (keepsNx n3)
    have hKP : KpB (wA.heap.size + 1) wA.heap.size W W3 := ⟨(QM.cell (i := 0) (v := .int .u32 (m : Int)) rfl).trans (PM.cell (i := 0) (v := .int .u32 (m : Int)) rfl).symm, (QF.cell (i := 0) (v := .int .u32 (n : Int)) rfl).trans (PF.cell (i := 0) (v := .int .u32 (n : Int)) rfl).symm⟩
    clear PF PM U2 U4 U5 n3 hB1 HW
    cases hM : meN (hI p r t b y) b
    · gi_wp2
      exact ⟨hKO, hKP, ⟨y, hy, Q2, Q4, Q5, QF, QM, fun z hz => by
        rcases List.mem_append.1 hz with h | h
        · exact hpre z h
        · obtain rfl := List.mem_singleton.1 h
          exact hM⟩, hB3⟩
    · have dz := Lib.hid (headsame Z32 Z32 p r 0 t 0 0 b 0 Z32_length Z32_length HH.out.p HH.out.r)
      have dzz : (hdc Z32 Z32 0 0 0).size = (hdc p r t b y).size := by rw [hd_size _ _ _ _ _ Z32_length Z32_length, hd_size _ _ _ _ _ HH.out.p HH.out.r]
      have DZ := Lib.hid dzz
      have Q5' := Q5.setRow_other (k := w.heap.size + 1) (hdc p r t b y) (by omega)
      have V4 := (Q4.setRow (hdc p r t b y)).other (w.heap.size + 1 + 1) 0 (.int .i64 0) (by omega)
      have V5 := Q5'.set 0 (.int .i64 0)
      have c5 := Q5'.cell (i := 0) (v := .int .i64 0) rfl
      have f5 := Q5'.frozen 0
      have hB4 : Below w.heap.size w ((W3.setRow (w.heap.size + 1) (hdc p r t b y)).setCell ⟨w.heap.size + 1 + 1, 0, none⟩ (.int .i64 0)) := Nx.setAt (Nx.setRow hB3 (g := w.heap.size + 1) (hdc p r t b y) (Nat.le_succ _)) (i := 0) _ (Nat.le_succ_of_le (Nat.le_succ _))
      have hKR := hKO.trans ((keepsRow Q4 (hdc p r t b y)).trans (KeepsOthers.setCell _ ⟨w.heap.size + 1 + 1, 0, none⟩ (.int .i64 0)))
      clear dz dzz
      gi_wp2_with (first | (refine wpListIn_load_rw rfl 32 (.tmp 2) rfl w.heap.size rfl 32 (hdc p r t b y) _ Q2 Tryd.underlying32 rfl hyz.out ?_) | (refine wpListIn_store_rw rfl 32 (.tmp 4) (.tmp 27) rfl (w.heap.size + 1) (hdc p r t b y) rfl rfl 32 (hdc Z32 Z32 0 0 0) Q4 hyz.out DZ.out (hd_one _ _ _ _ _) ?_))
      exact ⟨hKR, ⟨rfl, pre, ⟨y, hy⟩, rfl, hpre, hM, V4, V5⟩, hB4⟩
  case done =>
    rintro D ys W hD rfl ⟨⟨n', hn', P2, P4, P5, PF, PM, hpre⟩, hB⟩ hK
    have hnone : mineK p r t b n m = none := by
      unfold mineK
      rw [List.find?_range_eq_none]
      intro j hj
      rw [hpre (nth32 n j) (by unfold upto32; exact List.mem_map.2 ⟨j, List.mem_range.2 hj, rfl⟩)]; rfl
    have Q5' := P5.setRow_other (k := w.heap.size + 1) (hdc Z32 Z32 0 0 0) (by omega)
    have V4 := (P4.setRow (hdc Z32 Z32 0 0 0)).other (w.heap.size + 1 + 1) 0 (.int .i64 6) (by omega)
    have V5 := Q5'.set 0 (.int .i64 6)
    have c5 := Q5'.cell (i := 0) (v := .int .i64 0) rfl
    have f5 := Q5'.frozen 0
    have hB4 : Below w.heap.size w ((W.setRow (w.heap.size + 1) (hdc Z32 Z32 0 0 0)).setCell ⟨w.heap.size + 1 + 1, 0, none⟩ (.int .i64 6)) := Nx.setAt (Nx.setRow hB (g := w.heap.size + 1) (hdc Z32 Z32 0 0 0) (Nat.le_succ _)) (i := 0) _ (Nat.le_succ_of_le (Nat.le_succ _))
    have hKR := ((keepsRow P4 (hdc Z32 Z32 0 0 0)).trans (KeepsOthers.setCell _ ⟨w.heap.size + 1 + 1, 0, none⟩ (.int .i64 6))).same D _ hK rfl
    gi_wp2_with (first | (refine wpListIn_bd rfl 32 #[] rfl (.agg (hdc Z32 Z32 0 0 0)) (fun _ => by kernel_rfl) ?_) | (refine wpListIn_store_rw rfl 32 (.tmp 4) (.tmp 28) rfl (w.heap.size + 1) (hdc Z32 Z32 0 0 0) rfl rfl 32 (hdc Z32 Z32 0 0 0) P4 cz.out rfl (hd_one _ _ _ _ _) ?_))
    refine ⟨by simp, .inl ⟨_, _, rfl, run_takeDeferred hKR, ?_⟩⟩
    have X4 := row_kept V4 (grownBy_putObj' _ D (.deferred none)) (fun r e => by cases e; exact ⟨_, hKR, rfl⟩)
    have X5 := row_kept V5 (grownBy_putObj' _ D (.deferred none)) (fun r e => by cases e; exact ⟨_, hKR, rfl⟩)
    refine ⟨_, results_cell_cell Tryd.results29 _ _ (w.heap.size + 1) (w.heap.size + 1 + 1) 32 (hdc Z32 Z32 0 0 0) (0, 0) _ (.int .i64 6) rfl X4 Tryd.underlying32 rfl cz.out rfl (X5.cell rfl) (isAgg_err _), by rw [← hMR.out]; unfold mineR; rw [hnone], ?_⟩
    exact Below.trans hB4 (belowK_b (w := w) (Nat.le_refl _) _ D _ _ (by omega) hKR rfl rfl)
  case stop =>
    rintro D c pre W hD ⟨k, hk, hpe⟩ ⟨⟨rfl, pre', y, hpe2, hp1, hM, V4, V5⟩, hB⟩ hK
    rw [upto32_succ] at hpe
    obtain ⟨e1, e2⟩ := List.append_inj' (hpe.symm.trans hpe2) rfl
    have e3 : nth32 n k = y := by simpa using e2
    have hsome : mineK p r t b n m = some k := by
      unfold mineK
      rw [List.find?_range_eq_some]
      refine ⟨by rw [e3]; exact hM, List.mem_range.2 hk, fun j hj => ?_⟩
      rw [hp1 (nth32 n j) (by rw [← e1]; unfold upto32; exact List.mem_map.2 ⟨j, List.mem_range.2 hj, rfl⟩)]; rfl
    have hyz := Lib.hid (headsz p r t b y.1 HH.out.p HH.out.r)
    gi_wp2
    refine ⟨by simp, .inl ⟨_, _, rfl, run_takeDeferred hK, ?_⟩⟩
    have X4 := row_kept V4 (grownBy_putObj' _ D (.deferred none)) (fun r e => by cases e; exact ⟨_, hK, rfl⟩)
    have X5 := row_kept V5 (grownBy_putObj' _ D (.deferred none)) (fun r e => by cases e; exact ⟨_, hK, rfl⟩)
    refine ⟨_, results_cell_cell Tryd.results29 _ _ (w.heap.size + 1) (w.heap.size + 1 + 1) 32 (hdc p r t b y.1) (0, 0) _ (.int .i64 0) rfl X4 Tryd.underlying32 rfl hyz.out rfl (X5.cell rfl) (isAgg_err _), by rw [← hMR.out]; unfold mineR; rw [hsome, ← e3], ?_⟩
    exact Below.trans hB (belowK_b (w := w) (Nat.le_refl _) _ D _ _ (by omega) hK rfl rfl)
end Go.Proofs.YtjbeemoobmagnaaDoor
