/- TEXTS OF OUR OWN, IN ONE FILE. -/
import Derived.Test.YtpijehaciomkhaaDoorBkR6
import Derived.Test.YtpijehaciomkhaaDoorBh
section
namespace Go.Proofs.YtpijehaciomkhaaDoor
open Go Go.RowKit
set_option linter.unusedVariables false
set_option linter.unusedSimpArgs false
set_option linter.unusedVariables false
set_option linter.unusedSimpArgs false

theorem wp_made_of {P : Program} {o : Oper} {a : Act} {w : World} {K : Act → World → Prop} {Q : Exit → Act → World → Prop} (dst : Option Tmp) (hd : o.dst = dst) (ty : TypeId) (x y : Operand) (ho : o.op = .makeSlice ty x y) (vx vy : Value) (hx : a.eval x = vx) (hy : a.eval y = vy) (v : Value) (w' : World)
    (hrun : (Instr.makeSlice ty vx vy).run P w = .ok v w') (h : K (a.put dst v) w') : o.wp P a w K Q := by
  subst hd
  subst hx
  subst hy
  unfold Oper.wp execOp
  simp only [ho]
  simp only [Sem.run_bind, hrun, Result.andThen_ok, Sem.run_pure, Oper.upon_value]
  exact h
theorem wp_bld_of {P : Program} {o : Oper} {a : Act} {w : World} {K : Act → World → Prop} {Q : Exit → Act → World → Prop} (dst : Option Tmp) (hd : o.dst = dst) (ty : TypeId) (parts : Array (Nat × Operand)) (ho : o.op = .build ty parts) (vals : Array (Nat × Value)) (hv : (parts.map fun (i, x) => (i, a.eval x)) = vals) (v : Value)
    (hrun : (Instr.build ty vals).run P w = .ok v w) (h : K (a.put dst v) w) : o.wp P a w K Q :=
  wp_val_of dst hd v (by
    subst hv
    unfold execOp
    simp only [ho]
    simp only [Sem.run_bind, hrun, Result.andThen_ok, Sem.run_pure]) h
/-- The first region's values: two new blocks, of numbers ga and gb. -/
def FV4 (g n : Nat) (hc : Array Value) (tv : Value) (BC : Value → Array Value) (ga gb : Nat) : Nat → Value
  | 0 => .pointer (some ⟨g, 0, none⟩)
  | 1 => .agg hc
  | 2 => .pointer (some ⟨g, 67, none⟩)
  | 3 => tv
  | 4 => .int .i64 (n : Int)
  | 5 => .slice (some ⟨ga, 0, none⟩) n n
  | 6 => .agg (BC (.slice (some ⟨ga, 0, none⟩) n n))
  | 7 => .pointer (some ⟨gb, 0, none⟩)
  | _ => undef
def J4 (W : World) (g n : Nat) (hc : Array Value) (tv : Value) (BC : Value → Array Value) (TZ ZB : Array Value) (L : Nat → Bool) (x : Nat → Value) (wr : World) : Prop :=
  ∃ ga gb, (∀ j, j ≠ 8 → L j = true → x j = FV4 g n hc tv BC ga gb j) ∧ Nx W wr ∧ (L 5 = true → W.heap.size ≤ ga ∧ Row wr ga TZ 39) ∧
    (L 7 = true → W.heap.size ≤ gb ∧ Row wr gb (bif L 8 then BC (.slice (some ⟨ga, 0, none⟩) n n) else ZB) 29) ∧ (L 5 = true → L 7 = true → ga ≠ gb)
section
variable {W wr : World} {g n ga gb : Nat} {hc TZ ZB : Array Value} {tv : Value} {BC : Value → Array Value} {L : Nat → Bool} {x : Nat → Value}
theorem j4_pure (i : Nat) (i5 : i ≠ 5) (i7 : i ≠ 7) (i8 : i ≠ 8) (h1 : ∀ j, j ≠ 8 → L j = true → x j = FV4 g n hc tv BC ga gb j) (h2 : Nx W wr) (h3 : L 5 = true → W.heap.size ≤ ga ∧ Row wr ga TZ 39)
    (h4 : L 7 = true → W.heap.size ≤ gb ∧ Row wr gb (bif L 8 then BC (.slice (some ⟨ga, 0, none⟩) n n) else ZB) 29) (h5 : L 5 = true → L 7 = true → ga ≠ gb) :
    J4 W g n hc tv BC TZ ZB (fun j => j == i || L j) (upd x i (FV4 g n hc tv BC ga gb i)) wr := by
  refine ⟨ga, gb, fun j hj hl => ?_, h2, fun h => ?_, fun h => ?_, fun h h' => ?_⟩ <;> dsimp only at *
  · by_cases hji : j = i
    · subst hji; rw [upd_eq]
    · rw [upd_ne _ _ hji]; exact h1 j hj (by rwa [or_ne hji] at hl)
  · rw [or_ne (Ne.symm i5)] at h; exact h3 h
  · rw [or_ne (Ne.symm i7)] at h; rw [or_ne (Ne.symm i8)]; exact h4 h
  · rw [or_ne (Ne.symm i5)] at h; rw [or_ne (Ne.symm i7)] at h'; exact h5 h h'
theorem j4_make (l5 : L 5 = false) (l6 : L 6 = false) (l8 : L 8 = false) (h1 : ∀ j, j ≠ 8 → L j = true → x j = FV4 g n hc tv BC ga gb j) (h2 : Nx W wr)
    (h4 : L 7 = true → W.heap.size ≤ gb ∧ Row wr gb (bif L 8 then BC (.slice (some ⟨ga, 0, none⟩) n n) else ZB) 29) :
    J4 W g n hc tv BC TZ ZB (fun j => j == 5 || L j) (upd x 5 (.slice (some ⟨wr.heap.size, 0, none⟩) n n)) (wr.alloc (.cells TZ 39)) := by
  refine ⟨wr.heap.size, gb, fun j hj hl => ?_, h2.alloc _, fun h => ?_, fun h => ?_, fun h h' => ?_⟩ <;> dsimp only at *
  · by_cases hji : j = 5
    · subst hji; rw [upd_eq]; rfl
    · rw [upd_ne _ _ hji]
      have hlj : L j = true := by rwa [or_ne hji] at hl
      have h6 : j ≠ 6 := fun e => by subst e; rw [l6] at hlj; cases hlj
      rw [h1 j hj hlj]
      unfold FV4
      split <;> first | rfl | contradiction
  · exact ⟨h2.size, Row.new wr TZ 39 _ rfl⟩
  · rw [or_ne (by decide)] at h
    rw [or_ne (by decide), l8]
    have := h4 h
    rw [l8] at this
    exact ⟨this.1, this.2.alloc _⟩
  · rw [or_ne (by decide)] at h'
    have := (h4 h').2.lt
    omega
theorem j4_alloc (l7 : L 7 = false) (l8 : L 8 = false) (h1 : ∀ j, j ≠ 8 → L j = true → x j = FV4 g n hc tv BC ga gb j) (h2 : Nx W wr) (h3 : L 5 = true → W.heap.size ≤ ga ∧ Row wr ga TZ 39) :
    J4 W g n hc tv BC TZ ZB (fun j => j == 7 || L j) (upd x 7 (.pointer (some ⟨wr.heap.size, 0, none⟩))) (wr.alloc (.cells ZB 29)) := by
  refine ⟨ga, wr.heap.size, fun j hj hl => ?_, h2.alloc _, fun h => ?_, fun h => ?_, fun h h' => ?_⟩ <;> dsimp only at *
  · by_cases hji : j = 7
    · subst hji; rw [upd_eq]; rfl
    · rw [upd_ne _ _ hji]
      have hlj : L j = true := by rwa [or_ne hji] at hl
      rw [h1 j hj hlj]
      unfold FV4
      split <;> first | rfl | contradiction
  · rw [or_ne (by decide)] at h
    exact ⟨(h3 h).1, (h3 h).2.alloc _⟩
  · rw [or_ne (by decide), l8]
    exact ⟨h2.size, Row.new wr ZB 29 _ rfl⟩
  · rw [or_ne (by decide)] at h
    have := (h3 h).2.lt
    omega
theorem j4_store (h1 : ∀ j, j ≠ 8 → L j = true → x j = FV4 g n hc tv BC ga gb j) (h2 : Nx W wr) (h3 : W.heap.size ≤ ga ∧ Row wr ga TZ 39) (h4 : W.heap.size ≤ gb ∧ Row wr gb ZB 29) (h5 : ga ≠ gb) (v : Value) :
    J4 W g n hc tv BC TZ ZB (fun j => j == 8 || L j) (upd x 8 v) (wr.setRow gb (BC (.slice (some ⟨ga, 0, none⟩) n n))) := by
  refine ⟨ga, gb, fun j hj hl => ?_, h2.setRow _ h4.1, fun h => ?_, fun h => ?_, fun h h' => h5⟩ <;> dsimp only at *
  · rw [upd_ne _ _ hj]; exact h1 j hj (by rwa [or_ne hj] at hl)
  · exact ⟨h3.1, h3.2.setRow_other _ h5⟩
  · exact ⟨h4.1, h4.2.setRow _⟩
end
end Go.Proofs.YtpijehaciomkhaaDoor
end

section
namespace Go.Proofs.YtpijehaciomkhaaDoor
open Go Go.RowKit
set_option linter.unusedVariables false
set_option linter.unusedSimpArgs false
set_option linter.unusedVariables false
set_option linter.unusedSimpArgs false

/-- New transactions in a row. -/
def NewL (B : Nat) (w : World) (fs : List Value) (es : List Txn) : Prop := fs.length = es.length * 3 ∧ ∀ j (h : j < es.length), ∃ iv ov, (txE noF).cut fs j = tcl iv ov es[j].after ∧ TxNew B w iv ov es[j]
theorem NewL.nil (B : Nat) (w : World) : NewL B w [] [] := ⟨rfl, fun j h => by simp at h⟩
theorem NewL.nx {B : Nat} {w w' : World} {fs : List Value} {es : List Txn} (h : NewL B w fs es) (k : Nx w w') : NewL B w' fs es := ⟨h.1, fun j hj => by obtain ⟨iv, ov, a, b⟩ := h.2 j hj; exact ⟨iv, ov, a, b.nx k⟩⟩
theorem NewL.setRow {B g : Nat} {w : World} {fs : List Value} {es : List Txn} (h : NewL B w fs es) (cs : Array Value) (hg : g < B) : NewL B (w.setRow g cs) fs es := ⟨h.1, fun j hj => by obtain ⟨iv, ov, a, b⟩ := h.2 j hj; exact ⟨iv, ov, a, b.gr (gr_setRow2 w g cs) hg⟩⟩
theorem NewL.free {B : Nat} {w : World} {fs : List Value} {es : List Txn} (h : NewL B w fs es) : FreeL B w fs es := ⟨h.1, fun j hj => by obtain ⟨iv, ov, a, b⟩ := h.2 j hj; exact ⟨iv, ov, a, TxFree.of_new b⟩⟩
theorem NewL.snoc {B : Nat} {w : World} {fs : List Value} {es : List Txn} {x : Txn} {iv ov : Value} (h : NewL B w fs es) (hx : TxNew B w iv ov x) : NewL B w (fs ++ tcl iv ov x.after) (es ++ [x]) := by
  refine ⟨by rw [List.length_append, List.length_append, h.1, Nat.add_mul]; rfl, fun j hj => ?_⟩
  by_cases hlt : j < es.length
  · obtain ⟨u, v, a, b⟩ := h.2 j hlt
    refine ⟨u, v, ?_, ?_⟩
    · rw [El.cut_left (L := txE noF) h.1 hlt, List.getElem_append_left hlt]; exact a
    · rw [List.getElem_append_left hlt]; exact b
  · have hj2 : j = es.length := by simp at hj; omega
    subst hj2
    have e : (es ++ [x])[es.length]'hj = x := by simp
    rw [e]
    refine ⟨iv, ov, ?_, hx⟩
    have := El.cut_right (L := txE noF) (fs := fs) (us := tcl iv ov x.after) (n := es.length) (j := 0) h.1
    rw [Nat.add_zero] at this
    rw [this]
    rfl
/-- A list of new transactions. -/
def NewT (B : Nat) (w : World) (v : Value) (es : List Txn) : Prop := (es = [] ∧ v = .slice none 0 0) ∨ ∃ g fs, v = .slice (some ⟨g, 0, none⟩) es.length es.length ∧ B ≤ g ∧ es.length ≤ 16 ∧ Row w g (fs : List Value).toArray 39 ∧ NewL (g + 1) w fs es
theorem NewT.setRow {B g : Nat} {w : World} {v : Value} {es : List Txn} (h : NewT B w v es) (cs : Array Value) (hg : g < B) : NewT B (w.setRow g cs) v es := by
  rcases h with h | ⟨a, fs, e, hb, hl, hr, hn⟩
  · exact .inl h
  · exact .inr ⟨a, fs, e, hb, hl, hr.setRow_other _ (by omega), hn.setRow _ (by omega)⟩
theorem NewT.mono {B B' : Nat} {w : World} {v : Value} {es : List Txn} (h : NewT B w v es) (k : B' ≤ B) : NewT B' w v es := by
  rcases h with h | ⟨a, fs, e, hb, r⟩
  · exact .inl h
  · exact .inr ⟨a, fs, e, by omega, r⟩
theorem NewT.rd {B : Nat} {w : World} {v : Value} {es : List Txn} (h : NewT B w v es) : RdE (txE noF) w v es := by
  rcases h with ⟨rfl, rfl⟩ | ⟨g, fs, rfl, hb, hl, hr, hn⟩
  · exact RdE.nil _
  · exact rdE_row (L := txE noF) (es := es) (c := es.length) hr (by rw [List.take_of_length_le (by rw [hn.1]; exact Nat.le_refl _)]; exact hn.free.all) (by rw [hn.1]; exact Nat.le_refl _) (Nat.le_refl _) (by unfold maxLen; omega)

/-- The second region's values. -/
def FV10 (ga gb n j : Nat) (bv iv ov : Value) (t : Txn) : Nat → Value
  | 0 => .pointer (some ⟨gb, 67, none⟩)
  | 1 => .slice (some ⟨ga, 0, none⟩) n n
  | 2 => .int .i64 (j : Int)
  | 3 => bv
  | 4 => .tuple #[.agg (tcel iv ov t.after), .int .i64 0]
  | 5 => .tuple #[.agg (tcel iv ov t.after), .int .i64 0]
  | 6 => .agg (tcel iv ov t.after)
  | 7 => .int .i64 0
  | 8 => .pointer (some ⟨ga, j * 3, none⟩)
  | _ => undef
def nfs (fs : List Value) (j : Nat) (iv ov : Value) (t : Txn) : List Value := fs.take (j * 3) ++ tcl iv ov t.after ++ fs.drop (j * 3 + 3)
def J10 (W : World) (ga gb n j : Nat) (bv : Value) (t : Txn) (fs : List Value) (L : Nat → Bool) (x : Nat → Value) (wr : World) : Prop :=
  ∃ iv ov wr0, (∀ i, i ≠ 9 → L i = true → x i = FV10 ga gb n j bv iv ov t i) ∧ Nx W wr0 ∧ (L 4 = true → TxNew W.heap.size wr0 iv ov t) ∧ wr = bif L 9 then wr0.setRow ga (nfs fs j iv ov t).toArray else wr0
section
variable {W wr wr0 w' : World} {ga gb n j : Nat} {bv iv ov iv' ov' : Value} {t : Txn} {fs : List Value} {L : Nat → Bool} {x : Nat → Value}
theorem j10_pure (i : Nat) (i4 : i ≠ 4) (i9 : i ≠ 9) (h1 : ∀ j', j' ≠ 9 → L j' = true → x j' = FV10 ga gb n j bv iv ov t j') (h2 : Nx W wr0) (h3 : L 4 = true → TxNew W.heap.size wr0 iv ov t)
    (h4 : wr = bif L 9 then wr0.setRow ga (nfs fs j iv ov t).toArray else wr0) : J10 W ga gb n j bv t fs (fun k => k == i || L k) (upd x i (FV10 ga gb n j bv iv ov t i)) wr := by
  refine ⟨iv, ov, wr0, fun k hk hl => ?_, h2, fun h => ?_, ?_⟩ <;> dsimp only at *
  · by_cases hji : k = i
    · subst hji; rw [upd_eq]
    · rw [upd_ne _ _ hji]; exact h1 k hk (by rwa [or_ne hji] at hl)
  · rw [or_ne (Ne.symm i4)] at h; exact h3 h
  · rw [or_ne (Ne.symm i9)]; exact h4
theorem j10_call (l5 : L 5 = false) (l6 : L 6 = false) (l9 : L 9 = false) (h1 : ∀ j', j' ≠ 9 → L j' = true → x j' = FV10 ga gb n j bv iv ov t j') (h2 : Nx W wr0)
    (hn : Nx wr0 w') (ht : TxNew W.heap.size w' iv' ov' t) (l4 : L 4 = false) : J10 W ga gb n j bv t fs (fun k => k == 4 || L k) (upd x 4 (FV10 ga gb n j bv iv' ov' t 4)) w' := by
  refine ⟨iv', ov', w', fun k hk hl => ?_, h2.trans hn, fun _ => ht, ?_⟩ <;> dsimp only at *
  · by_cases hji : k = 4
    · subst hji; rw [upd_eq]
    · rw [upd_ne _ _ hji]
      have hlj : L k = true := by rwa [or_ne hji] at hl
      have h5 : k ≠ 5 := fun e => by subst e; rw [l5] at hlj; cases hlj
      have h6 : k ≠ 6 := fun e => by subst e; rw [l6] at hlj; cases hlj
      rw [h1 k hk hlj]
      unfold FV10
      split <;> first | rfl | contradiction
  · rw [or_ne (by decide), l9]; rfl
theorem j10_store (l9 : L 9 = false) (h1 : ∀ j', j' ≠ 9 → L j' = true → x j' = FV10 ga gb n j bv iv ov t j') (h2 : Nx W wr0) (h3 : TxNew W.heap.size wr0 iv ov t) (v : Value) :
    J10 W ga gb n j bv t fs (fun k => k == 9 || L k) (upd x 9 v) (wr0.setRow ga (nfs fs j iv ov t).toArray) := by
  refine ⟨iv, ov, wr0, fun k hk hl => ?_, h2, fun _ => h3, ?_⟩ <;> dsimp only at *
  · rw [upd_ne _ _ hk]; exact h1 k hk (by rwa [or_ne hk] at hl)
  · rfl
end
theorem rd_txB {t : Txn} (hm : mayT t = true) (hi : ∀ i ∈ t.ins, InOk i) (ha : t.after < 4294967296) : rdX (txB t) = (t, 0) := by
  have h := tx_back t [] [] hm hi ha
  simp only [List.nil_append, List.append_nil, List.length_nil, Int.natCast_zero, Int.zero_add] at h
  unfold rdX
  rw [h]
  simp
theorem nfs_take {fs : List Value} {j n : Nat} {iv ov : Value} {t : Txn} (hl : fs.length = n * 3) (hj : j < n) : (nfs fs j iv ov t).take ((j + 1) * 3) = fs.take (j * 3) ++ tcl iv ov t.after := by
  unfold nfs
  have e : (fs.take (j * 3) ++ tcl iv ov t.after).length = (j + 1) * 3 := by
    rw [List.length_append, List.length_take]
    simp only [tcl, List.length_cons, List.length_nil]
    omega
  rw [← e]
  exact List.take_left
theorem nfs_len {fs : List Value} {j n : Nat} {iv ov : Value} {t : Txn} (hl : fs.length = n * 3) (hj : j < n) : (nfs fs j iv ov t).length = n * 3 := by
  unfold nfs
  rw [List.length_append, List.length_append, List.length_take, List.length_drop]
  simp only [tcl, List.length_cons, List.length_nil]
  omega
end Go.Proofs.YtpijehaciomkhaaDoor
end
