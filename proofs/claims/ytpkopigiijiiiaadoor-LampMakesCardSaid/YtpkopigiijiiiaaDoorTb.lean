/- TEXTS OF OUR OWN, IN ONE FILE. -/
import Derived.RegionTactic
import Derived.Test.YtpkopigiijiiiaaDoorTa
import Derived.Test.YtpkopigiijiiiaaDoorRows
import Derived.LoopTactic
import Derived.Outline
import Derived.Lib.QuietBelow
section
namespace Go.Proofs.YtpkopigiijiiiaaDoor
open Go

section
variable {P : Program} {ops : Array Oper} {Q : Exit → Act → World → Prop} {md : Region.Mode}

/-- What each operation waits for. -/
def needsOf (md : Region.Mode) (ops : Array Oper) : List (List Nat) := ops.toList.map fun o => (o.after.toList.filter fun e => Region.binds md e).map (·.on)

theorem ready_needs {listed : Array Bool} {i : Nat} (h : i ∈ Region.ready md ops listed) : i < ops.size ∧ listed.getD i true = false ∧ ∀ d ∈ (needsOf md ops).getD i [], listed.getD d false = true := by
  unfold Region.ready at h
  rw [List.mem_filter, List.mem_range] at h
  obtain ⟨hi, hb⟩ := h
  rw [Bool.and_eq_true, Bool.not_eq_true'] at hb
  obtain ⟨h1, h2⟩ := hb
  refine ⟨hi, h1, ?_⟩
  have ho : ops[i]? = some ops[i] := by simp [hi]
  rw [ho] at h2
  simp only [Option.map_some, Option.getD_some] at h2
  intro d hd
  have hn : (needsOf md ops).getD i [] = (ops[i].after.toList.filter fun e => Region.binds md e).map (·.on) := by
    unfold needsOf
    rw [List.getD_eq_getElem?_getD, List.getElem?_map, Array.getElem?_toList, ho]
    rfl
  rw [hn, List.mem_map] at hd
  obtain ⟨e, he, rfl⟩ := hd
  rw [List.mem_filter] at he
  rw [Array.all_eq_true'] at h2
  have := h2 e (by simpa using he.1)
  rw [Bool.or_eq_true, Bool.not_eq_true'] at this
  rcases this with h | h
  · rw [he.2] at h; cases h
  · exact h

theorem ready_nil {listed : Array Bool} (hl : listed.size = ops.size) (hord : ∀ i, ∀ d ∈ (needsOf md ops).getD i [], d < i) (h : Region.ready md ops listed = []) : ∀ i, i < ops.size → listed.getD i false = true := by
  intro i
  induction i using Nat.strongRecOn with
  | _ i ih =>
    intro hi
    by_cases hc : listed.getD i false = true
    · exact hc
    · exfalso
      have hf : listed.getD i true = false := by
        rw [Array.getD_eq_getD_getElem?] at hc ⊢
        have : listed[i]? = some listed[i] := by simp [hl, hi]
        rw [this] at hc ⊢
        simpa using hc
      have ho : ops[i]? = some ops[i] := by simp [hi]
      have hm : i ∈ Region.ready md ops listed := by
        unfold Region.ready
        rw [List.mem_filter, List.mem_range]
        refine ⟨hi, ?_⟩
        rw [hf, ho]
        simp only [Bool.not_false, Bool.true_and, Option.map_some, Option.getD_some]
        rw [Array.all_eq_true']
        intro e he
        by_cases hb : Region.binds md e = true
        · have hd : e.on ∈ (needsOf md ops).getD i [] := by
            unfold needsOf
            rw [List.getD_eq_getElem?_getD, List.getElem?_map, Array.getElem?_toList, ho]
            simp only [Option.map_some, Option.getD_some, List.mem_map, List.mem_filter]
            exact ⟨e, ⟨by simpa using he, hb⟩, rfl⟩
          have hlt := hord i _ hd
          rw [ih _ hlt (by omega), Bool.or_true]
        · simp only [Bool.not_eq_true] at hb
          rw [hb]; rfl
      rw [h] at hm
      cases hm

/-- How many are not carried out yet. -/
def left (listed : Array Bool) : Nat := listed.toList.count false
theorem left_set {listed : Array Bool} {i : Nat} (h : listed.getD i true = false) : left (listed.setIfInBounds i true) + 1 = left listed := by
  have hi : i < listed.size := by
    rw [Array.getD_eq_getD_getElem?] at h
    by_cases hi : i < listed.size
    · exact hi
    · rw [Array.getElem?_eq_none (by omega)] at h; cases h
  have hv : listed.toList[i]'(by simpa using hi) = false := by
    rw [Array.getD_eq_getD_getElem?] at h
    simpa [hi] using h
  unfold left
  rw [Array.toList_setIfInBounds, List.count_set (by simpa using hi), hv]
  have hp : 0 < listed.toList.count false := List.count_pos_iff.2 (hv ▸ List.getElem_mem _)
  have e1 : (false == false) = true := rfl
  have e2 : (true == false) = false := rfl
  rw [e1, e2]
  simp only [if_true, Bool.false_eq_true, if_false]
  omega
theorem getD_set {listed : Array Bool} {i : Nat} (hi : i < listed.size) (j : Nat) : (listed.setIfInBounds i true).getD j false = (j == i || listed.getD j false) := by
  rw [Array.getD_eq_getD_getElem?, Array.getD_eq_getD_getElem?, Array.getElem?_setIfInBounds]
  by_cases h : i = j
  · subst h; simp [hi]
  · rw [if_neg h]
    have : (j == i) = false := by rw [beq_eq_false_iff_ne]; exact fun e => h e.symm
    rw [this, Bool.false_or]

theorem wpAny_inv {needs : List (List Nat)} (hn : needsOf md ops = needs) (hord : ∀ i, ∀ d ∈ needs.getD i [], d < i) (I : (Nat → Bool) → Act → World → Prop)
    (hstep : ∀ L a w, I L a w → ∀ i, i < ops.size → L i = false → (∀ d ∈ needs.getD i [], L d = true) → ∀ K : Act → World → Prop, (∀ a w, I (fun j => j == i || L j) a w → K a w) → wpOp P ops Q i K a w)
    (hend : ∀ L a w, I L a w → (∀ i, i < ops.size → L i = true) → Q .normal a w) :
    ∀ fuel (listed : Array Bool) a w, listed.size = ops.size → left listed ≤ fuel → I (fun j => listed.getD j false) a w → wpAny P md ops Q fuel listed a w := by
  subst hn
  intro fuel
  induction fuel with
  | zero =>
    intro listed a w hl hf hI
    have hr : Region.ready md ops listed = [] := by
      cases h : Region.ready md ops listed with
      | nil => rfl
      | cons x xs =>
        have hx := (ready_needs (h ▸ List.mem_cons_self : x ∈ Region.ready md ops listed)).2.1
        have := left_set hx
        omega
    exact ⟨hr, hend _ _ _ hI (ready_nil hl hord hr)⟩
  | succ fuel ih =>
    intro listed a w hl hf hI
    refine ⟨fun hr => hend _ _ _ hI (ready_nil hl hord hr), fun i hi => ?_⟩
    obtain ⟨h1, h2, h3⟩ := ready_needs hi
    have hs := left_set h2
    refine hstep _ a w hI i h1 ?_ h3 _ fun a' w' hI' => ih _ a' w' (by simp [hl]) (by omega) ?_
    · rw [Array.getD_eq_getD_getElem?] at h2 ⊢
      have : listed[i]? = some listed[i] := by simp [hl, h1]
      rw [this] at h2 ⊢
      exact h2
    · have e : (fun j => (listed.setIfInBounds i true).getD j false) = fun j => j == i || listed.getD j false := funext fun j => getD_set (by omega) j
      rw [e]; exact hI'

theorem hord_of {needs : List (List Nat)} (h : ((List.range needs.length).all fun i => (needs.getD i []).all fun d => decide (d < i)) = true) : ∀ i, ∀ d ∈ needs.getD i [], d < i := by
  intro i d hd
  by_cases hi : i < needs.length
  · rw [List.all_eq_true] at h
    have h1 := h i (List.mem_range.2 hi)
    rw [List.all_eq_true] at h1
    exact of_decide_eq_true (h1 d hd)
  · rw [List.getD_eq_getElem?_getD, List.getElem?_eq_none (by omega)] at hd
    cases hd

/-- The region, by what holds. -/
theorem wp_region_inv {id : Nat} {a : Act} {w : World} (needs : List (List Nat)) (I : (Nat → Bool) → Act → World → Prop) (hm : P.follows .mixedOrders = true) (hn : needsOf .any ops = needs) (hord : ∀ i, ∀ d ∈ needs.getD i [], d < i)
    (h0 : I (fun _ => false) a w.drew)
    (hstep : ∀ L a w, I L a w → ∀ i, i < ops.size → L i = false → (∀ d ∈ needs.getD i [], L d = true) → ∀ K : Act → World → Prop, (∀ a w, I (fun j => j == i || L j) a w → K a w) → wpOp P ops Q i K a w)
    (hend : ∀ L a w, I L a w → (∀ i, i < ops.size → L i = true) → Q .normal a w) : (Code.region id ops true).wp P Q a w := by
  refine wp_region_any hm (wpAny_inv hn hord I hstep hend _ _ _ _ (by simp) ?_ ?_)
  · unfold left
    rw [Array.toList_replicate]
    exact Nat.le_trans (List.count_le_length) (by simp)
  · have e : (fun j => (Array.replicate ops.size false).getD j false) = fun _ => false := by
      funext j
      rw [Array.getD_eq_getD_getElem?, Array.getElem?_replicate]
      split <;> rfl
    rw [e]; exact h0
end
end Go.Proofs.YtpkopigiijiiiaaDoor
end

section
namespace Go.Proofs.YtpkopigiijiiiaaDoor
open Go Go.RowKit

section
variable {P : Program} {ops : Array Oper} {Q : Exit → Act → World → Prop}

theorem wpOp_of {i : Nat} {o : Oper} {K : Act → World → Prop} {a : Act} {w : World} (ho : ops[i]? = some o) (hg : o.guard = none) (h : o.wp P a w K Q) : wpOp P ops Q i K a w := by
  unfold wpOp
  rw [ho]
  show if Region.wanted o (yielded ops a.tmps) = true then _ else _
  rw [if_pos (by simp [Region.wanted, hg])]
  exact .inl h

theorem wp_call_of {o : Oper} {a : Act} {w : World} {K : Act → World → Prop} (dst : Option Tmp) (hd : o.dst = dst) (f : FuncId) (args : Array Value) (hrun : (execOp a.eval o).run P w = .ok (.enter f args) w)
    (V : Value) (hc : Calls P f args w fun e w' => e = .returned V ∧ Nx w w') (h : ∀ w', Nx w w' → K (a.put dst V) w') : o.wp P a w K Q := by
  subst hd
  unfold Oper.wp
  rw [hrun, Oper.upon_enter]
  refine hc.mono fun e w' hh => ?_
  obtain ⟨rfl, hn⟩ := hh
  exact h _ hn

theorem wp_val_of {o : Oper} {a : Act} {w : World} {K : Act → World → Prop} (dst : Option Tmp) (hd : o.dst = dst) (v : Value) (hrun : (execOp a.eval o).run P w = .ok (.value v) w) (h : K (a.put dst v) w) : o.wp P a w K Q := by
  subst hd
  unfold Oper.wp
  rw [hrun, Oper.upon_value]
  exact h
theorem ptr_ne {g h : Nat} (k : h ≠ g) : Value.pointer (some ⟨g, 0, none⟩) ≠ Value.pointer (some ⟨h, 0, none⟩) := fun e => by
  injection e with e
  injection e with e
  injection e with e
  exact k e.symm
theorem wp_region_inv2 {id : Nat} {a : Act} {w : World} (needs : List (List Nat)) (I : Act → (Nat → Bool) → Act → World → Prop) (hm : P.follows .mixedOrders = true) (hn : needsOf .any ops = needs) (hord : ∀ i, ∀ d ∈ needs.getD i [], d < i)
    (h0 : I a (fun _ => false) a w.drew)
    (hstep : ∀ L ac wr, I a L ac wr → ∀ i, i < ops.size → L i = false → (∀ d ∈ needs.getD i [], L d = true) → ∀ K : Act → World → Prop, (∀ ac wr, I a (fun j => j == i || L j) ac wr → K ac wr) → wpOp P ops Q i K ac wr)
    (hend : ∀ L ac wr, I a L ac wr → (∀ i, i < ops.size → L i = true) → Q .normal ac wr) : (Code.region id ops true).wp P Q a w :=
  wp_region_inv needs (I a) hm hn hord h0 hstep hend

theorem wp_alloc_of {o : Oper} {a : Act} {w : World} {K : Act → World → Prop} (dst : Option Tmp) (hd : o.dst = dst) (ty : TypeId) (ho : o.op = .alloc ty) (cs : Array Value) (hz : ∀ w, (zeroValue ty).run P w = .ok (.agg cs) w)
    (h : K (a.put dst (.pointer (some ⟨w.heap.size, 0, none⟩))) (w.alloc (.cells cs ty))) : o.wp P a w K Q := by
  subst hd
  unfold Oper.wp execOp
  simp only [ho]
  simp only [Instr.alloc, newVar, Sem.run_bind, hz, Result.andThen_ok, Sem.run_pure, Value.cells, go_sem]
  exact h
end
end Go.Proofs.YtpkopigiijiiiaaDoor
end

section
namespace Go.Proofs.YtpkopigiijiiiaaDoor
open Go Go.RowKit
set_option linter.unusedVariables false
set_option linter.unusedSimpArgs false

/-- What holds of a value, and goes on to hold. -/
structure PP where
  p : Value → World → Prop
  nx : ∀ v w w', p v w → Nx w w' → p v w'
def PP.any : PP := ⟨fun _ _ => True, fun _ _ _ _ _ => trivial⟩
def PP.eq (V : Value) : PP := ⟨fun v _ => v = V, fun _ _ _ h _ => h⟩
def PP.rd (l : List UInt8) : PP := ⟨fun v w => Rd w v l, fun _ _ _ h k => h.nx k⟩
def PP.own (B : Nat) (l : List UInt8) : PP := ⟨fun v w => Own B w v l, fun _ _ _ h k => h.nx k⟩
def PP.row (B : Nat) (cs : Array Value) (t : TypeId) : PP := ⟨fun v w => ∃ g, v = .pointer (some ⟨g, 0, none⟩) ∧ B ≤ g ∧ Row w g cs t, fun _ _ _ ⟨g, h1, h2, h3⟩ k => ⟨g, h1, h2, h3.nx k⟩⟩

/-- The slots of the operations, filled. -/
def fillA (t0 : Array Value) : List (Option Tmp) → Nat → (Nat → Value) → Array Value
  | [], _, _ => t0
  | none :: ds, i, x => fillA t0 ds (i + 1) x
  | some d :: ds, i, x => (fillA t0 ds (i + 1) x).setIfInBounds d (x i)
def upd (x : Nat → Value) (i : Nat) (v : Value) : Nat → Value := fun j => if j = i then v else x j
theorem fillA_same (t0 : Array Value) (x y : Nat → Value) : ∀ (dl : List (Option Tmp)) (n : Nat), (∀ j, n ≤ j → x j = y j) → fillA t0 dl n x = fillA t0 dl n y
  | [], _, _ => rfl
  | none :: ds, n, h => fillA_same t0 x y ds (n + 1) fun j hj => h j (by omega)
  | some d :: ds, n, h => by
    show (fillA t0 ds (n + 1) x).setIfInBounds d (x n) = (fillA t0 ds (n + 1) y).setIfInBounds d (y n)
    rw [fillA_same t0 x y ds (n + 1) fun j hj => h j (by omega), h n (Nat.le_refl _)]
theorem fillA_self (t0 : Array Value) (x : Nat → Value) : ∀ (dl : List (Option Tmp)) (n : Nat), (∀ i d, dl[i]? = some (some d) → x (n + i) = t0.getD d undef) → fillA t0 dl n x = t0
  | [], _, _ => rfl
  | none :: ds, n, h => fillA_self t0 x ds (n + 1) fun i d hd => by
    have := h (i + 1) d (by simpa using hd)
    rwa [show n + (i + 1) = n + 1 + i by omega] at this
  | some d :: ds, n, h => by
    have h0 := h 0 d rfl
    show (fillA t0 ds (n + 1) x).setIfInBounds d (x n) = t0
    rw [fillA_self t0 x ds (n + 1) fun i d hd => by
      have := h (i + 1) d (by simpa using hd)
      rwa [show n + (i + 1) = n + 1 + i by omega] at this]
    rw [Nat.add_zero] at h0
    rw [h0]
    apply Array.ext
    · simp
    · intro i h1 h2
      rw [Array.getElem_setIfInBounds (by simpa using h2)]
      split
      · rename_i e; subst e; simp [Array.getD, h2]
      · rfl
theorem fillA_put (t0 : Array Value) (x : Nat → Value) (v : Value) (d : Tmp) : ∀ (dl : List (Option Tmp)) (n i : Nat), (dl.filterMap id).Nodup → dl[i]? = some (some d) → (fillA t0 dl n x).setIfInBounds d v = fillA t0 dl n (upd x (n + i) v)
  | [], _, _, _, h => by simp at h
  | none :: ds, n, 0, _, h => by simp at h
  | none :: ds, n, i + 1, hn, h => by
    have := fillA_put t0 x v d ds (n + 1) i (by simpa using hn) (by simpa using h)
    rwa [show n + 1 + i = n + (i + 1) by omega] at this
  | some d' :: ds, n, 0, _, h => by
    obtain rfl : d' = d := by simpa using h
    show ((fillA t0 ds (n + 1) x).setIfInBounds d' (x n)).setIfInBounds d' v = (fillA t0 ds (n + 1) (upd x (n + 0) v)).setIfInBounds d' (upd x (n + 0) v n)
    rw [set_twice, fillA_same t0 (upd x (n + 0) v) x ds (n + 1) fun j hj => by unfold upd; rw [if_neg (by omega)]]
    unfold upd
    rw [if_pos (by omega)]
  | some d' :: ds, n, i + 1, hn, h => by
    have hn2 : (d' :: ds.filterMap id).Nodup := by simpa using hn
    rw [List.nodup_cons] at hn2
    have hi : ds[i]? = some (some d) := by simpa using h
    have hne : d' ≠ d := fun e => hn2.1 (by
      rw [List.mem_filterMap]
      exact ⟨some d, List.mem_of_getElem? hi, by rw [e]; rfl⟩)
    show ((fillA t0 ds (n + 1) x).setIfInBounds d' (x n)).setIfInBounds d v = (fillA t0 ds (n + 1) (upd x (n + (i + 1)) v)).setIfInBounds d' (upd x (n + (i + 1)) v n)
    rw [Array.setIfInBounds_comm _ _ hne, fillA_put t0 x v d ds (n + 1) i hn2.2 hi, show n + 1 + i = n + (i + 1) by omega]
    unfold upd
    rw [if_neg (show ¬ n = n + (i + 1) by omega)]
theorem fillA_skip (t0 : Array Value) (x : Nat → Value) (v : Value) : ∀ (dl : List (Option Tmp)) (n i : Nat), (dl[i]? = some none ∨ dl[i]? = none) → fillA t0 dl n x = fillA t0 dl n (upd x (n + i) v)
  | [], _, _, _ => rfl
  | none :: ds, n, 0, _ => fillA_same t0 _ _ ds (n + 1) fun j hj => by unfold upd; rw [if_neg (by omega)]
  | some d :: ds, n, 0, h => by simp at h
  | none :: ds, n, i + 1, h => by
    have := fillA_skip t0 x v ds (n + 1) i (by simpa using h)
    rwa [show n + 1 + i = n + (i + 1) by omega] at this
  | some d :: ds, n, i + 1, h => by
    have := fillA_skip t0 x v ds (n + 1) i (by simpa using h)
    rw [show n + 1 + i = n + (i + 1) by omega] at this
    show (fillA t0 ds (n + 1) x).setIfInBounds d (x n) = (fillA t0 ds (n + 1) (upd x (n + (i + 1)) v)).setIfInBounds d (upd x (n + (i + 1)) v n)
    rw [← this]
    unfold upd
    rw [if_neg (show ¬ n = n + (i + 1) by omega)]

section
variable {P : Program} {ops : Array Oper} {Q : Exit → Act → World → Prop}
theorem wpOp_list {i : Nat} (h : i < ops.size) (rest : List Oper) (hr : rest = ops.toList.drop (i + 1)) {a : Act} {w : World} (hw : wpList P ops Q (ops.toList.drop i) a w) : wpOp P ops Q i (wpList P ops Q rest) a w := by
  subst hr
  have ho : ops[i]? = some ops[i] := by simp [h]
  rw [List.drop_eq_getElem_cons (by simpa using h)] at hw
  unfold wpOp
  rw [ho]
  exact hw

/-- The region: what holds of each operation's value; the tail in its order. -/
theorem wp_region_nx {id : Nat} {t0 : Array Value} {df : List Deferred} {w : World} (k : Nat) (needs : List (List Nat)) (dl : List (Option Tmp)) (PV : List PP)
    (hm : P.follows .mixedOrders = true) (hn : needsOf .any ops = needs) (hord : ∀ i, ∀ d ∈ needs.getD i [], d < i)
    (hdl : (ops.toList.take k).map (·.dst) = dl) (hks : k ≤ ops.size) (hnd : (dl.filterMap _root_.id).Nodup)
    (htail : ∀ j, k ≤ j → j < ops.size → ∀ i, i < j → i ∈ needs.getD j [])
    (hstep : ∀ x tm wr, fillA t0 dl 0 x = tm → Nx w wr → ∀ i, i < k → (∀ d ∈ needs.getD i [], (PV.getD d PP.any).p (x d) wr) → ∀ K : Act → World → Prop,
      (∀ v w', (PV.getD i PP.any).p v w' → Nx wr w' → K ((⟨tm, df⟩ : Act).put (dl.getD i none) v) w') → wpOp P ops Q i K ⟨tm, df⟩ wr)
    (tail : List Oper) (htl : ops.toList.drop k = tail)
    (hend : ∀ x tm wr, fillA t0 dl 0 x = tm → Nx w wr → (∀ i, i < k → (PV.getD i PP.any).p (x i) wr) → wpList P ops Q tail ⟨tm, df⟩ wr) :
    (Code.region id ops true).wp P Q ⟨t0, df⟩ w := by
  subst htl
  have hdk : dl.length = k := by rw [← hdl, List.length_map, List.length_take]; simp; omega
  refine wp_region_inv needs (fun L a w' =>
    ((∀ j, k ≤ j → j < ops.size → L j = false) ∧ ∃ x, a = ⟨fillA t0 dl 0 x, df⟩ ∧ Nx w w' ∧ ∀ i, i < k → L i = true → (PV.getD i PP.any).p (x i) w') ∨
    (∃ m, k < m ∧ m ≤ ops.size ∧ (∀ j, j < ops.size → (L j = true ↔ j < m)) ∧ wpList P ops Q (ops.toList.drop m) a w')) hm hn hord ?_ ?_ ?_
  · refine .inl ⟨fun _ _ _ => rfl, fun i => match dl[i]? with | some (some d) => t0.getD d undef | _ => undef, ?_, (Nx.refl w).drew, fun _ _ h => by cases h⟩
    rw [fillA_self]
    intro i d hd
    rw [Nat.zero_add]
    simp only [hd]
  · rintro L a wr hI i hi hL hd K hK
    rcases hI with ⟨hf, x, rfl, hx, hp⟩ | ⟨m, hm1, hm2, hm3, hwl⟩
    · by_cases hik : i < k
      · refine hstep x _ wr rfl hx i hik (fun d hdd => hp d (by have := hord i d hdd; omega) (hd d hdd)) K fun v w' hv hnx => hK _ _ (.inl ⟨fun j hj hjs => ?_, upd x i v, ?_, hx.trans hnx, fun j hj hLj => ?_⟩)
        · have := hf j hj hjs
          have hne : (j == i) = false := by rw [beq_eq_false_iff_ne]; omega
          show (j == i || L j) = false
          rw [hne, this]; rfl
        · have hdi : dl[i]? = some (dl.getD i none) := by
            rw [List.getD_eq_getElem?_getD, List.getElem?_eq_getElem (by omega)]; rfl
          cases hg : dl.getD i none with
          | none =>
            rw [hg] at hdi
            have := fillA_skip t0 x v dl 0 i (.inl hdi)
            rw [Nat.zero_add] at this
            show (⟨fillA t0 dl 0 x, df⟩ : Act) = _
            rw [← this]
          | some d =>
            rw [hg] at hdi
            have := fillA_put t0 x v d dl 0 i hnd hdi
            rw [Nat.zero_add] at this
            show (⟨(fillA t0 dl 0 x).setIfInBounds d v, df⟩ : Act) = _
            rw [this]
        · by_cases hji : j = i
          · subst hji
            unfold upd
            rw [if_pos rfl]
            exact hv
          · have hne : (j == i) = false := by rw [beq_eq_false_iff_ne]; exact hji
            replace hLj : (j == i || L j) = true := hLj
            rw [hne, Bool.false_or] at hLj
            unfold upd
            rw [if_neg hji]
            exact (PV.getD j PP.any).nx _ _ _ (hp j hj hLj) hnx
      · have hall : ∀ j, j < i → L j = true := fun j hj => hd j (htail i (by omega) hi j hj)
        have hik2 : i = k := by
          by_cases h : k < i
          · have := hall k h
            rw [hf k (Nat.le_refl _) (by omega)] at this
            cases this
          · omega
        subst hik2
        have hw := hend x _ wr rfl hx fun j hj => hp j hj (hall j hj)
        refine wpOp_mono (fun a w' h => hK _ _ (.inr ⟨i + 1, by omega, by omega, fun j hj => ?_, h⟩)) (wpOp_list hi _ rfl hw)
        show (j == i || L j) = true ↔ j < i + 1
        by_cases hji : j = i
        · subst hji; simp
        · have hne : (j == i) = false := by rw [beq_eq_false_iff_ne]; exact hji
          rw [hne, Bool.false_or]
          constructor
          · intro h
            by_cases hlt : j < i
            · omega
            · rw [hf j (by omega) hj] at h; cases h
          · intro h; exact hall j (by omega)
    · have him : m ≤ i := by
        by_cases h : i < m
        · rw [(hm3 i hi).2 h] at hL; cases hL
        · omega
      have hall : ∀ j, j < i → L j = true := fun j hj => hd j (htail i (by omega) hi j hj)
      have him2 : i = m := by
        by_cases h : m < i
        · have := (hm3 m (by omega)).1 (hall m h); omega
        · omega
      subst him2
      refine wpOp_mono (fun a w' h => hK _ _ (.inr ⟨i + 1, by omega, by omega, fun j hj => ?_, h⟩)) (wpOp_list hi _ rfl hwl)
      show (j == i || L j) = true ↔ j < i + 1
      by_cases hji : j = i
      · subst hji; simp
      · have hne : (j == i) = false := by rw [beq_eq_false_iff_ne]; exact hji
        rw [hne, Bool.false_or, hm3 j hj]
        omega
  · rintro L a wr hI hall
    rcases hI with ⟨hf, x, rfl, hx, hp⟩ | ⟨m, hm1, hm2, hm3, hwl⟩
    · have hks2 : k = ops.size := by
        by_cases h : k < ops.size
        · have := hall k h
          rw [hf k (Nat.le_refl _) h] at this
          cases this
        · omega
      have hw := hend x _ wr rfl hx fun j hj => hp j hj (hall j (by omega))
      rw [List.drop_of_length_le (by simp; omega)] at hw
      exact hw
    · have : ops.size ≤ m := by
        by_cases h : m < ops.size
        · have := (hm3 m h).1 (hall m h); omega
        · omega
      rw [List.drop_of_length_le (by simp; omega)] at hwl
      exact hwl
theorem htail_of {needs : List (List Nat)} {k n : Nat} (h : ((List.range n).all fun j => decide (j < k) || (List.range j).all fun i => (needs.getD j []).contains i) = true) : ∀ j, k ≤ j → j < n → ∀ i, i < j → i ∈ needs.getD j [] := by
  intro j hj hn i hi
  rw [List.all_eq_true] at h
  have h1 := h j (List.mem_range.2 hn)
  rw [Bool.or_eq_true] at h1
  rcases h1 with h1 | h1
  · have := of_decide_eq_true h1; omega
  · rw [List.all_eq_true] at h1
    have := h1 i (List.mem_range.2 hi)
    simpa using this
end
end Go.Proofs.YtpkopigiijiiiaaDoor
end

section
namespace Go.Proofs.YtpkopigiijiiiaaDoor
open Go Go.RowKit
set_option linter.unusedVariables false
set_option linter.unusedSimpArgs false

theorem Own.lt {B : Nat} {w : World} {v : Value} {l : List UInt8} (h : Own B w v l) : ∀ b, v.ownBlock = some b → b < w.heap.size := by
  rintro b hb
  rcases h with ⟨rfl, _⟩ | ⟨g, full, rfl, _, hg, _⟩
  · cases hb
  · obtain rfl : g = b := by simpa [Value.ownBlock] using hb
    exact (Array.getElem?_eq_some_iff.1 hg).1
theorem Own.grown {B : Nat} {w w' : World} {v : Value} {l : List UInt8} {row : Option Nat} (h : Own B w v l) (hg : w.grownBy w' row) (hr : ∀ b, v.ownBlock = some b → row ≠ some b) : Own B w' v l := by
  have hlt := h.lt
  rcases h with ⟨rfl, hl⟩ | ⟨g, full, rfl, hb, hh, hc, hm, ht⟩
  · exact .inl ⟨rfl, hl⟩
  · have h1 := hlt g rfl
    refine .inr ⟨g, full, rfl, hb, ?_, hc, hm, ht⟩
    rw [← hh]
    exact hg.block g h1 (fun e => hr g rfl e.symm)

/-- What is known of an operation's value: kind 0: it is V; 1: p holds of it, in whatever world that is alike below B; 2: bytes of the call's own; 3: V, bytes of the call's own from the beginning on. -/
structure SP where
  V : Value := undef
  l : List UInt8 := []
  p : Value → World → Prop := fun _ _ => True
/-- What an operation finds of a value that it waited for. -/
def Fct (B : Nat) (kind : Nat) (s : SP) (c : Option Nat) (i : Nat) (v : Value) (w : World) : Prop :=
  match kind with
  | 0 => v = s.V
  | 1 => s.p v w
  | 3 => v = s.V ∧ (c = none ∨ c = some i → Own B w v s.l)
  | _ => (c = none ∨ c = some i → Own B w v s.l)
/-- What an operation leaves. -/
def Eff (B : Nat) (kind : Nat) (s : SP) (src : Option Nat) (x : Nat → Value) (v : Value) (w w' : World) : Prop :=
  match kind with
  | 0 => v = s.V ∧ Nx w w'
  | 1 => s.p v w' ∧ Nx w w'
  | 3 => v = s.V ∧ Nx w w'
  | _ => match src with
    | none => Own w.heap.size w' v s.l ∧ Nx w w'
    | some d => Own B w' v s.l ∧ w.grownBy w' (x d).ownBlock ∧ (v.ownBlock = (x d).ownBlock ∨ v.ownBlock = some w.heap.size)
/-- What is known behind all. -/
def Fin (B : Nat) (kind : Nat) (s : SP) (c : Option Nat) (k : Nat) (v : Value) (w : World) : Prop :=
  match kind with
  | 0 => v = s.V
  | 1 => s.p v w
  | 3 => v = s.V ∧ ((∀ j, c = some j → k ≤ j) → Own B w v s.l)
  | _ => ((∀ j, c = some j → k ≤ j) → Own B w v s.l)

def valOf (kind : Nat) (s : SP) (v : Value) : Value := match kind with | 3 => s.V | _ => v
/-- Bytes of the call's own that are there. -/
def Here (kind : Nat) (c : Option Nat) (L : Nat → Bool) (i : Nat) : Prop := 2 ≤ kind ∧ (kind = 3 ∨ L i = true) ∧ ∀ j, c = some j → L j = false
structure Good (B k : Nat) (kinds : List Nat) (cons : List (Option Nat)) (PV : List SP) (L : Nat → Bool) (x : Nat → Value) (w : World) : Prop where
  eq : ∀ i, i < k → L i = true → (kinds.getD i 0 = 0 ∨ kinds.getD i 0 = 3) → x i = (PV.getD i {}).V
  old : ∀ i, i < k → L i = true → kinds.getD i 0 = 1 → (PV.getD i {}).p (x i) w
  own : ∀ i, i < k → Here (kinds.getD i 0) (cons.getD i none) L i → Own B w (valOf (kinds.getD i 0) (PV.getD i {}) (x i)) (PV.getD i {}).l
  sep : ∀ i j, i < k → j < k → i ≠ j → Here (kinds.getD i 0) (cons.getD i none) L i → Here (kinds.getD j 0) (cons.getD j none) L j → ∀ b, (valOf (kinds.getD i 0) (PV.getD i {}) (x i)).ownBlock = some b → (valOf (kinds.getD j 0) (PV.getD j {}) (x j)).ownBlock ≠ some b
theorem Good.fct {B k : Nat} {kinds : List Nat} {cons : List (Option Nat)} {PV : List SP} {L : Nat → Bool} {x : Nat → Value} {w : World} (h : Good B k kinds cons PV L x w) {d i : Nat} (hd : d < k) (hL : L d = true) (hi : L i = false) :
    Fct B (kinds.getD d 0) (PV.getD d {}) (cons.getD d none) i (x d) w := by
  have he := h.eq d hd hL
  have ho := h.old d hd hL
  have hw := h.own d hd
  unfold Fct
  generalize kinds.getD d 0 = q at *
  split
  · exact he (.inl rfl)
  · exact ho rfl
  · have hx := he (.inr rfl)
    refine ⟨hx, fun hc => ?_⟩
    have := hw ⟨by omega, .inl rfl, fun j hj => by
      rcases hc with hc | hc
      · rw [hc] at hj; cases hj
      · rw [hc] at hj; injection hj with hj; subst hj; exact hi⟩
    rw [hx]
    exact this
  · rename_i h0 h1 h3
    intro hc
    have := hw ⟨by rcases q with _ | _ | q <;> simp_all, .inr hL, fun j hj => by
      rcases hc with hc | hc
      · rw [hc] at hj; cases hj
      · rw [hc] at hj; injection hj with hj; subst hj; exact hi⟩
    unfold valOf at this
    split at this
    · exact absurd rfl h3
    · exact this
theorem Good.fin {B k : Nat} {kinds : List Nat} {cons : List (Option Nat)} {PV : List SP} {L : Nat → Bool} {x : Nat → Value} {w : World} (h : Good B k kinds cons PV L x w) {d : Nat} (hd : d < k) (hL : L d = true) (hf : ∀ j, k ≤ j → L j = false) :
    Fin B (kinds.getD d 0) (PV.getD d {}) (cons.getD d none) k (x d) w := by
  have he := h.eq d hd hL
  have ho := h.old d hd hL
  have hw := h.own d hd
  unfold Fin
  generalize kinds.getD d 0 = q at *
  split
  · exact he (.inl rfl)
  · exact ho rfl
  · have hx := he (.inr rfl)
    refine ⟨hx, fun hc => ?_⟩
    have := hw ⟨by omega, .inl rfl, fun j hj => hf j (hc j hj)⟩
    rw [hx]
    exact this
  · rename_i h0 h1 h3
    intro hc
    have := hw ⟨by rcases q with _ | _ | q <;> simp_all, .inr hL, fun j hj => hf j (hc j hj)⟩
    unfold valOf at this
    split at this
    · exact absurd rfl h3
    · exact this
theorem valOf_upd (kind : Nat) (s : SP) (x : Nat → Value) (i j : Nat) (v : Value) (h : j ≠ i) : valOf kind s (upd x i v j) = valOf kind s (x j) := by
  unfold upd; rw [if_neg h]
theorem here_old {kind : Nat} {c : Option Nat} {L : Nat → Bool} {i j : Nat} (hji : j ≠ i) (h : Here kind c (fun q => q == i || L q) j) : Here kind c L j := by
  obtain ⟨h1, h2, h3⟩ := h
  refine ⟨h1, ?_, fun q hq => ?_⟩
  · rcases h2 with h2 | h2
    · exact .inl h2
    · have : (j == i) = false := by rw [beq_eq_false_iff_ne]; exact hji
      replace h2 : (j == i || L j) = true := h2
      rw [this, Bool.false_or] at h2
      exact .inr h2
  · have := h3 q hq
    rw [Bool.or_eq_false_iff] at this
    exact this.2
/-- One operation carried out. -/
theorem Good.step {B k : Nat} {kinds : List Nat} {cons src : List (Option Nat)} {PV : List SP} {L : Nat → Bool} {x : Nat → Value} {w w' : World} (h : Good B k kinds cons PV L x w) {i : Nat} (hi : i < k) (hLi : L i = false) (hB : B ≤ w.heap.size)
    (hold : ∀ j, j < k → kinds.getD j 0 = 1 → ∀ v w w', (PV.getD j {}).p v w → Below B w w' → (PV.getD j {}).p v w')
    (hsrc : ∀ d, src.getD i none = some d → kinds.getD i 0 = 2 → d < k ∧ d ≠ i ∧ L d = true ∧ cons.getD d none = some i ∧ 2 ≤ kinds.getD d 0) (hk4 : kinds.getD i 0 ≤ 3)
    {v : Value} (he : Eff B (kinds.getD i 0) (PV.getD i {}) (src.getD i none) x v w w') : Below B w w' ∧ Good B k kinds cons PV (fun j => j == i || L j) (upd x i v) w' := by
  have hxi : upd x i v i = v := by unfold upd; rw [if_pos rfl]
  have hxj : ∀ j, j ≠ i → upd x i v j = x j := fun j hj => by unfold upd; rw [if_neg hj]
  have hLj : ∀ j, j ≠ i → (j == i || L j) = true → L j = true := fun j hj hl => by
    have : (j == i) = false := by rw [beq_eq_false_iff_ne]; exact hj
    rwa [this, Bool.false_or] at hl
  -- the quiet kinds
  have quiet : kinds.getD i 0 ≠ 2 → Nx w w' → ((kinds.getD i 0 = 0 ∨ kinds.getD i 0 = 3) → v = (PV.getD i {}).V) → (kinds.getD i 0 = 1 → (PV.getD i {}).p v w') → Below B w w' ∧ Good B k kinds cons PV (fun j => j == i || L j) (upd x i v) w' := by
    intro hk hn hv hp
    have hb : Below B w w' := hn.mono hB
    have hval : ∀ j, Here (kinds.getD j 0) (cons.getD j none) (fun q => q == i || L q) j → Here (kinds.getD j 0) (cons.getD j none) L j ∧ valOf (kinds.getD j 0) (PV.getD j {}) (upd x i v j) = valOf (kinds.getD j 0) (PV.getD j {}) (x j) := by
      intro j hj
      by_cases hji : j = i
      · subst hji
        obtain ⟨h1, h2, h3⟩ := hj
        have h4 : kinds.getD j 0 = 3 := by omega
        refine ⟨⟨h1, .inl h4, fun q hq => ?_⟩, by rw [h4]; rfl⟩
        have := h3 q hq
        rw [Bool.or_eq_false_iff] at this
        exact this.2
      · exact ⟨here_old hji hj, valOf_upd _ _ _ _ _ _ hji⟩
    refine ⟨hb, fun j hj hl hq => ?_, fun j hj hl hq => ?_, fun j hj hh => ?_, fun a b ha hb' hab h1 h2 => ?_⟩
    · by_cases hji : j = i
      · subst hji; rw [hxi]; exact hv hq
      · rw [hxj j hji]; exact h.eq j hj (hLj j hji hl) hq
    · by_cases hji : j = i
      · subst hji; rw [hxi]; exact hp hq
      · rw [hxj j hji]; exact hold j hj hq _ _ _ (h.old j hj (hLj j hji hl) hq) hb
    · obtain ⟨h1, h2⟩ := hval j hh
      rw [h2]
      exact (h.own j hj h1).nx hn
    · obtain ⟨a1, a2⟩ := hval a h1
      obtain ⟨b1, b2⟩ := hval b h2
      rw [a2, b2]
      exact h.sep a b ha hb' hab a1 b1
  have k4 : kinds.getD i 0 = 0 ∨ kinds.getD i 0 = 1 ∨ kinds.getD i 0 = 2 ∨ kinds.getD i 0 = 3 := by omega
  rcases k4 with hk | hk | hk | hk
  · rw [hk] at he; obtain ⟨hv, hn⟩ := he; exact quiet (by omega) hn (fun _ => hv) (fun e => by omega)
  · rw [hk] at he; obtain ⟨hv, hn⟩ := he; exact quiet (by omega) hn (fun e => by omega) (fun _ => hv)
  · -- bytes of the call's own
    have hmine : ∀ (hnew : Own B w' v (PV.getD i {}).l) (hb : Below B w w')
        (hothers : ∀ j, j < k → j ≠ i → Here (kinds.getD j 0) (cons.getD j none) (fun q => q == i || L q) j → Own B w' (valOf (kinds.getD j 0) (PV.getD j {}) (x j)) (PV.getD j {}).l ∧ ∀ b, v.ownBlock = some b → (valOf (kinds.getD j 0) (PV.getD j {}) (x j)).ownBlock ≠ some b),
        Below B w w' ∧ Good B k kinds cons PV (fun j => j == i || L j) (upd x i v) w' := by
      intro hnew hb hoth
      have vi : valOf (kinds.getD i 0) (PV.getD i {}) (upd x i v i) = v := by rw [hk, hxi]; rfl
      refine ⟨hb, fun j hj hl hq => ?_, fun j hj hl hq => ?_, fun j hj hh => ?_, fun a b ha hb' hab h1 h2 => ?_⟩
      · by_cases hji : j = i
        · subst hji; omega
        · rw [hxj j hji]; exact h.eq j hj (hLj j hji hl) hq
      · by_cases hji : j = i
        · subst hji; omega
        · rw [hxj j hji]; exact hold j hj hq _ _ _ (h.old j hj (hLj j hji hl) hq) hb
      · by_cases hji : j = i
        · subst hji; rw [vi]; exact hnew
        · rw [valOf_upd _ _ _ _ _ _ hji]; exact (hoth j hj hji hh).1
      · by_cases hai : a = i
        · subst hai
          rw [vi, valOf_upd _ _ _ _ _ _ (fun e => hab e.symm)]
          exact (hoth b hb' (fun e => hab e.symm) h2).2
        · by_cases hbi : b = i
          · subst hbi
            rw [vi, valOf_upd _ _ _ _ _ _ hai]
            intro q hq e
            exact (hoth a ha hai h1).2 q e hq
          · rw [valOf_upd _ _ _ _ _ _ hai, valOf_upd _ _ _ _ _ _ hbi]
            exact h.sep a b ha hb' hab (here_old hai h1) (here_old hbi h2)
    rw [hk] at he
    unfold Eff at he
    simp only at he
    cases hs : src.getD i none with
    | none =>
      rw [hs] at he
      obtain ⟨ho, hn⟩ := he
      refine hmine (ho.mono hB) (hn.mono hB) fun j hj hji hh => ?_
      have hoj := h.own j hj (here_old hji hh)
      refine ⟨hoj.nx hn, fun b hb e => ?_⟩
      have := hoj.lt b e
      have := ho.block b hb
      omega
    | some d =>
      rw [hs] at he
      obtain ⟨ho, hg, hblk⟩ := he
      obtain ⟨hd, hdi, hLd, hcd, hkd⟩ := hsrc d hs hk
      have hhd : Here (kinds.getD d 0) (cons.getD d none) L d := ⟨hkd, .inr hLd, fun j hj => by rw [hcd] at hj; injection hj with hj; subst hj; exact hLi⟩
      have vd : valOf (kinds.getD d 0) (PV.getD d {}) (x d) = x d := by
        have he3 := h.eq d hd hLd
        generalize kinds.getD d 0 = q at *
        unfold valOf
        split
        · exact (he3 (.inr rfl)).symm
        · rfl
      have hod := h.own d hd hhd
      rw [vd] at hod
      have hb : Below B w w' := Own.below hB hod hg
      refine hmine ho hb fun j hj hji hh => ?_
      have hjd : j ≠ d := fun e => by
        subst e
        have := hh.2.2 i hcd
        simp at this
      have hoj := h.own j hj (here_old hji hh)
      have hsep := h.sep j d hj hd hjd (here_old hji hh) hhd
      rw [vd] at hsep
      refine ⟨hoj.grown hg fun b hb e => hsep b hb e, fun b hb e => ?_⟩
      rcases hblk with hq | hq
      · rw [hq] at hb
        exact hsep b e hb
      · rw [hq] at hb
        injection hb with hb
        have := hoj.lt b e
        omega
  · rw [hk] at he; obtain ⟨hv, hn⟩ := he; exact quiet (by omega) hn (fun _ => hv) (fun e => by omega)

section
variable {P : Program} {ops : Array Oper} {Q : Exit → Act → World → Prop}
/-- The region. -/
theorem wp_region_sep {id : Nat} {t0 : Array Value} {df : List Deferred} {w : World} (B k : Nat) (needs : List (List Nat)) (dl : List (Option Tmp)) (kinds : List Nat) (cons src : List (Option Nat)) (PV : List SP) (hB : B ≤ w.heap.size)
    (hm : P.follows .mixedOrders = true) (hn : needsOf .any ops = needs) (hord : ∀ i, ∀ d ∈ needs.getD i [], d < i)
    (hdl : (ops.toList.take k).map (·.dst) = dl) (hks : k ≤ ops.size) (hnd : (dl.filterMap _root_.id).Nodup)
    (htail : ∀ j, k ≤ j → j < ops.size → ∀ i, i < j → i ∈ needs.getD j [])
    (hk4 : ∀ i, i < k → kinds.getD i 0 ≤ 3)
    (hsrc : ∀ i, i < k → ∀ d, src.getD i none = some d → kinds.getD i 0 = 2 → d ∈ needs.getD i [] ∧ cons.getD d none = some i ∧ 2 ≤ kinds.getD d 0)
    (hold : ∀ j, j < k → kinds.getD j 0 = 1 → ∀ v w w', (PV.getD j {}).p v w → Below B w w' → (PV.getD j {}).p v w')
    (hpre : ∀ j, j < k → kinds.getD j 0 = 3 → Own B w (PV.getD j {}).V (PV.getD j {}).l)
    (hpsep : ∀ i j, i < k → j < k → i ≠ j → kinds.getD i 0 = 3 → kinds.getD j 0 = 3 → ∀ b, (PV.getD i {}).V.ownBlock = some b → (PV.getD j {}).V.ownBlock ≠ some b)
    (hstep : ∀ x tm wr, fillA t0 dl 0 x = tm → Below B w wr → B ≤ wr.heap.size → ∀ i, i < k → (∀ d ∈ needs.getD i [], Fct B (kinds.getD d 0) (PV.getD d {}) (cons.getD d none) i (x d) wr) → ∀ K : Act → World → Prop,
      (∀ v w', Eff B (kinds.getD i 0) (PV.getD i {}) (src.getD i none) x v wr w' → K ((⟨tm, df⟩ : Act).put (dl.getD i none) v) w') → wpOp P ops Q i K ⟨tm, df⟩ wr)
    (tail : List Oper) (htl : ops.toList.drop k = tail)
    (hend : ∀ x tm wr, fillA t0 dl 0 x = tm → Below B w wr → (∀ i, i < k → Fin B (kinds.getD i 0) (PV.getD i {}) (cons.getD i none) k (x i) wr) → wpList P ops Q tail ⟨tm, df⟩ wr) :
    (Code.region id ops true).wp P Q ⟨t0, df⟩ w := by
  subst htl
  have hdk : dl.length = k := by rw [← hdl, List.length_map, List.length_take]; simp; omega
  refine wp_region_inv needs (fun L a w' =>
    ((∀ j, k ≤ j → L j = false) ∧ ∃ x, a = ⟨fillA t0 dl 0 x, df⟩ ∧ Below B w w' ∧ Good B k kinds cons PV L x w') ∨
    (∃ m, k < m ∧ m ≤ ops.size ∧ (∀ j, j < ops.size → (L j = true ↔ j < m)) ∧ wpList P ops Q (ops.toList.drop m) a w')) hm hn hord ?_ ?_ ?_
  · refine .inl ⟨fun _ _ => rfl, fun i => match dl[i]? with | some (some d) => t0.getD d undef | _ => undef, ?_, (Below.refl _ _).drew, ⟨fun _ _ h => (by cases h), fun _ _ h => (by cases h), fun i hi hh => ?_, fun i j hi hj hij h1 h2 => ?_⟩⟩
    · rw [fillA_self]
      intro i d hd
      rw [Nat.zero_add]
      simp only [hd]
    · have h3 : kinds.getD i 0 = 3 := by
        rcases hh.2.1 with h | h
        · exact h
        · cases h
      rw [h3]
      exact (hpre i hi h3).drew
    · have h3 : kinds.getD i 0 = 3 := by
        rcases h1.2.1 with h | h
        · exact h
        · cases h
      have h4 : kinds.getD j 0 = 3 := by
        rcases h2.2.1 with h | h
        · exact h
        · cases h
      rw [h3, h4]
      exact hpsep i j hi hj hij h3 h4
  · rintro L a wr hI i hi hL hd K hK
    rcases hI with ⟨hf, x, rfl, hx, hg⟩ | ⟨m, hm1, hm2, hm3, hwl⟩
    · by_cases hik : i < k
      · have hBr : B ≤ wr.heap.size := Nat.le_trans hB hx.size
        refine hstep x _ wr rfl hx hBr i hik (fun d hdd => hg.fct (by have := hord i d hdd; omega) (hd d hdd) hL) K fun v w' hv => ?_
        obtain ⟨hb2, hg2⟩ := hg.step (src := src) hik hL hBr hold (fun d hs h2 => by
          obtain ⟨h3, h4, h5⟩ := hsrc i hik d hs h2
          have := hord i d h3
          exact ⟨by omega, by omega, hd d h3, h4, h5⟩) (hk4 i hik) hv
        refine hK _ _ (.inl ⟨fun j hj => ?_, upd x i v, ?_, hx.trans hb2, hg2⟩)
        · have := hf j hj
          have hne : (j == i) = false := by rw [beq_eq_false_iff_ne]; omega
          show (j == i || L j) = false
          rw [hne, this]; rfl
        · have hdi : dl[i]? = some (dl.getD i none) := by
            rw [List.getD_eq_getElem?_getD, List.getElem?_eq_getElem (by omega)]; rfl
          cases hg : dl.getD i none with
          | none =>
            rw [hg] at hdi
            have := fillA_skip t0 x v dl 0 i (.inl hdi)
            rw [Nat.zero_add] at this
            show (⟨fillA t0 dl 0 x, df⟩ : Act) = _
            rw [← this]
          | some d =>
            rw [hg] at hdi
            have := fillA_put t0 x v d dl 0 i hnd hdi
            rw [Nat.zero_add] at this
            show (⟨(fillA t0 dl 0 x).setIfInBounds d v, df⟩ : Act) = _
            rw [this]
      · have hall : ∀ j, j < i → L j = true := fun j hj => hd j (htail i (by omega) hi j hj)
        have hik2 : i = k := by
          by_cases h : k < i
          · have := hall k h
            rw [hf k (Nat.le_refl _)] at this
            cases this
          · omega
        subst hik2
        have hw := hend x _ wr rfl hx fun j hj => hg.fin hj (hall j hj) hf
        refine wpOp_mono (fun a w' h => hK _ _ (.inr ⟨i + 1, by omega, by omega, fun j hj => ?_, h⟩)) (wpOp_list hi _ rfl hw)
        show (j == i || L j) = true ↔ j < i + 1
        by_cases hji : j = i
        · subst hji; simp
        · have hne : (j == i) = false := by rw [beq_eq_false_iff_ne]; exact hji
          rw [hne, Bool.false_or]
          constructor
          · intro h
            by_cases hlt : j < i
            · omega
            · rw [hf j (by omega)] at h; cases h
          · intro h; exact hall j (by omega)
    · have him : m ≤ i := by
        by_cases h : i < m
        · rw [(hm3 i hi).2 h] at hL; cases hL
        · omega
      have hall : ∀ j, j < i → L j = true := fun j hj => hd j (htail i (by omega) hi j hj)
      have him2 : i = m := by
        by_cases h : m < i
        · have := (hm3 m (by omega)).1 (hall m h); omega
        · omega
      subst him2
      refine wpOp_mono (fun a w' h => hK _ _ (.inr ⟨i + 1, by omega, by omega, fun j hj => ?_, h⟩)) (wpOp_list hi _ rfl hwl)
      show (j == i || L j) = true ↔ j < i + 1
      by_cases hji : j = i
      · subst hji; simp
      · have hne : (j == i) = false := by rw [beq_eq_false_iff_ne]; exact hji
        rw [hne, Bool.false_or, hm3 j hj]
        omega
  · rintro L a wr hI hall
    rcases hI with ⟨hf, x, rfl, hx, hp⟩ | ⟨m, hm1, hm2, hm3, hwl⟩
    · have hks2 : k = ops.size := by
        by_cases h : k < ops.size
        · have := hall k h
          rw [hf k (Nat.le_refl _)] at this
          cases this
        · omega
      have hw := hend x _ wr rfl hx fun j hj => hp.fin hj (hall j (by omega)) hf
      rw [List.drop_of_length_le (by simp; omega)] at hw
      exact hw
    · have : ops.size ≤ m := by
        by_cases h : m < ops.size
        · have := (hm3 m h).1 (hall m h); omega
        · omega
      rw [List.drop_of_length_le (by simp; omega)] at hwl
      exact hwl

/-- An append as an operation of a region. -/
theorem wp_app_of {o : Oper} {a : Act} {w : World} {K : Act → World → Prop} (dst : Option Tmp) (hd : o.dst = dst) (s x : Operand) (t : TypeId)
    (ho : o.op = .call { callee := .builtin .append, args := #[s, x], argTypes := #[t, t] })
    (ht : P.underlying t = some (.slice 5)) (hi : (P.info? 5).map (fun i => (i.zero, i.size, i.bytes)) = some (some (.int .u8 0), 1, 1))
    (B : Nat) (v vx : Value) (l m : List UInt8) (hs : a.eval s = v) (hx : a.eval x = vx) (hown : Own B w v l) (hr : Rd w vx m) (hlen : l.length + m.length ≤ 140737488355328) (hB : B ≤ w.heap.size)
    (h : ∀ v' w', Own B w' v' (l ++ m) → w.grownBy w' v.ownBlock → (v'.ownBlock = v.ownBlock ∨ v'.ownBlock = some w.heap.size) → K (a.put dst v') w') : o.wp P a w K Q := by
  subst hd
  obtain ⟨i, hi0, hz, hsz, hby⟩ := info_parts hi
  obtain ⟨v', w', hr, h2, h3, h5⟩ := app_run (P := P) w t o.type i ht hi0 hz hsz hby B v vx l m hown hr hlen hB
  unfold Oper.wp execOp
  simp only [ho, resolve, invoke, builtin, Sem.run_bind, Sem.run_pure, Result.andThen_ok, List.map_toArray, List.map_cons, List.map_nil, hs, hx, hr]
  exact h _ _ h2 h3 h5
/-- What stays of the static facts, asked once. -/
def statB (k : Nat) (needs : List (List Nat)) (kinds : List Nat) (cons src : List (Option Nat)) : Bool :=
  ((List.range k).all fun i => decide (kinds.getD i 0 ≤ 3)) && (List.range k).all fun i => match src.getD i none with
    | none => true
    | some d => (needs.getD i []).contains d && decide (cons.getD d none = some i) && decide (2 ≤ kinds.getD d 0)
theorem stat4 {k : Nat} {needs : List (List Nat)} {kinds : List Nat} {cons src : List (Option Nat)} (h : statB k needs kinds cons src = true) : ∀ i, i < k → kinds.getD i 0 ≤ 3 := by
  unfold statB at h
  rw [Bool.and_eq_true, List.all_eq_true] at h
  exact fun i hi => of_decide_eq_true (h.1 i (List.mem_range.2 hi))
theorem statS {k : Nat} {needs : List (List Nat)} {kinds : List Nat} {cons src : List (Option Nat)} (h : statB k needs kinds cons src = true) : ∀ i, i < k → ∀ d, src.getD i none = some d → kinds.getD i 0 = 2 → d ∈ needs.getD i [] ∧ cons.getD d none = some i ∧ 2 ≤ kinds.getD d 0 := by
  unfold statB at h
  rw [Bool.and_eq_true, List.all_eq_true, List.all_eq_true] at h
  intro i hi d hd _
  have := h.2 i (List.mem_range.2 hi)
  simp only [hd, Bool.and_eq_true] at this
  obtain ⟨⟨h1, h2⟩, h3⟩ := this
  exact ⟨by simpa using h1, of_decide_eq_true h2, of_decide_eq_true h3⟩
end
end Go.Proofs.YtpkopigiijiiiaaDoor
end

section
namespace Go.Proofs.YtpkopigiijiiiaaDoor
open Go Go.RowKit
set_option linter.unusedVariables false
set_option linter.unusedSimpArgs false
section
variable {P : Program} {ops : Array Oper} {Q : Exit → Act → World → Prop}
theorem wpOp_g {i : Nat} {o : Oper} {K : Act → World → Prop} {a : Act} {w : World} (ho : ops[i]? = some o) (hg : Region.wanted o (yielded ops a.tmps) = true) (h : o.wp P a w K Q) : wpOp P ops Q i K a w := by
  unfold wpOp
  rw [ho]
  show if Region.wanted o (yielded ops a.tmps) = true then _ else _
  rw [if_pos hg]
  exact .inl h
theorem wp_eql_of {o : Oper} {a : Act} {w : World} {K : Act → World → Prop} (dst : Option Tmp) (hd : o.dst = dst) (T : TypeId) (x y : Operand) (T' : TypeId) (ho : o.op = .binOp .eql T x y T') (X Y : Array Value)
    (hx : a.eval x = .agg X) (hy : a.eval y = .agg Y) (hgt : P.eqGuardType P.depth T = false) (b : Bool) (heq : (Op.equalIn 10000 T (.agg X) (.agg Y)).run P w = .ok b w) (h : K (a.put dst (.bool b)) w) : o.wp P a w K Q := by
  refine wp_val_of dst hd (.bool b) ?_ h
  unfold execOp
  simp only [ho]
  have e1 : (eqGuard .eql T x y (a.eval x) (a.eval y)).run P w = .ok () w := by
    rw [hx, hy]
    simp [eqGuard, hgt, Sem.run_bind, Sem.run_pure, run_program]
  have e2 : (binOp .eql T (a.eval x) (a.eval y)).run P w = .ok (.bool b) w := by
    rw [hx, hy]
    show (do pure (Value.bool (← Op.equal T (.agg X) (.agg Y)))).run P w = _
    have : (Op.equal T (.agg X) (.agg Y)).run P w = .ok b w := heq
    simp [Sem.run_bind, this]
  simp only [Sem.run_bind, e1, e2, Result.andThen_ok, Sem.run_pure]
end
end Go.Proofs.YtpkopigiijiiiaaDoor
end

section
namespace Go.Proofs.YtpkopigiijiiiaaDoor
open Go.RowKit
set_option linter.unusedVariables false
set_option linter.unusedSimpArgs false

theorem info_u8c : (Tryd.prog.info? 5).map (fun i => (i.zero, i.size, i.bytes)) = some (some (.int .u8 0), 1, 1) := by kernel_rfl
section
variable {P : Program}
/-- Nothing, and room for n bytes behind it. -/
theorem run_grow_nil (w : World) (t ti ty : TypeId) (i : TypeInfo) (ht : P.underlying t = some (.slice 5)) (hti : P.underlying ti = some (.int .i64)) (hi : P.info? 5 = some i) (hz : i.zero = some (.int .u8 0)) (hsz : i.size = 1) (hby : i.bytes = 1)
    (n : Nat) (h0 : 0 < n) (hn : n ≤ 140737488355328) :
    (Builtin.append_ #[t, ti] ty #[.slice none 0 0, .int .i64 (n : Int)]).run P w =
      .ok (.slice (some ⟨w.heap.size, 0, none⟩) n (grownCap w n 0 5)) (w.drew.alloc (.cells (bvs (List.replicate (grownCap w n 0 5) 0)).toArray 5)) := by
  have hge := grownCap_ge w n 0 5
  have hw : IntKind.i64.wrap (n : Int) = (n : Int) := IntWalk.i64_in _ (by omega)
  have h1 : ¬ ((n : Int) < 0) := by omega
  have h2 : ¬ (281474976710656 < (n : Int)) := by omega
  have h3 : ¬ n = 0 := by omega
  have h4 : ¬ (9223372036854775807 < (n : Int)) := by omega
  have h5 : Builtin.nextslicecap n 0 = n := by unfold Builtin.nextslicecap; rw [if_pos (by omega)]
  have h6 : ¬ (281474976710656 < n) := by omega
  have hfit : ¬ (281474976710656 < Builtin.nextslicecap n 0 * i.bytes) := by rw [h5, hby]; omega
  simp [Builtin.append_, run_underlying ht, run_underlying hti, sizeOf, typeInfo, zeroValue, hi, hz, hsz, hby, asInt, asIntOf, hw, h1, h2, h3, h4, h5, h6, Question.forced, newRow, grownCap, Builtin.firstCells]
  show w.drew.alloc (.cells (Builtin.zeroCells (Value.int .u8 0).cells n ++ Builtin.zeroCells (Value.int .u8 0).cells (grownCap w n 0 5 - n)) 5) = w.drew.alloc (.cells (bvs (List.replicate (grownCap w n 0 5) 0)).toArray 5)
  have e : List.replicate (grownCap w n 0 5) (0 : UInt8) = List.replicate n 0 ++ List.replicate (grownCap w n 0 5 - n) 0 := by
    rw [List.replicate_append_replicate]
    congr 1
    omega
  rw [zeroCells_bvs, zeroCells_bvs, e, bvs_append]
  simp
theorem wpList_grow_nil {w : World} {ops : Array Oper} {rest : List Oper} {o : Oper} {a : Act} {Q : Exit → Act → World → Prop} (hgd : o.guard = none) (s x : Operand) (t ti : TypeId)
    (ho : o.op = .call { callee := .builtin .append, args := #[s, x], argTypes := #[t, ti] })
    (ht : P.underlying t = some (.slice 5)) (hti : P.underlying ti = some (.int .i64)) (hi : (P.info? 5).map (fun i => (i.zero, i.size, i.bytes)) = some (some (.int .u8 0), 1, 1))
    (n : Nat) (hs : a.eval s = .slice none 0 0) (hx : a.eval x = .int .i64 (n : Int)) (h0 : 0 < n) (hn : n ≤ 140737488355328)
    (h : ∀ c, n ≤ c → c ≤ maxLen → wpList P ops Q rest (a.put o.dst (.slice (some ⟨w.heap.size, 0, none⟩) n c)) (w.drew.alloc (.cells (bvs (List.replicate c 0)).toArray 5))) : wpList P ops Q (o :: rest) a w := by
  refine wpList_plain hgd fun K hK => ?_
  obtain ⟨i, hi0, hz, hsz, hby⟩ := info_parts hi
  have hr := run_grow_nil (P := P) w t ti o.type i ht hti hi0 hz hsz hby n h0 hn
  unfold Oper.wp execOp
  simp only [ho, resolve, invoke, builtin, Sem.run_bind, Sem.run_pure, Result.andThen_ok, List.map_toArray, List.map_cons, List.map_nil, hs, hx, hr]
  exact hK _ _ (h _ (grownCap_ge w n 0 5) (grownCap_le_maxLen w n 0 5 (by simp only [maxLen]; omega)))
end

set_option maxHeartbeats 400000 in
theorem grow_any (n : Nat) (w : World) (hn : n ≤ 140737488355328) :
    Calls Tryd.prog 38 #[.slice none 0 0, .int .i64 (n : Int)] w fun e w' => ∃ v, e = .returned v ∧ Own w.heap.size w' v [] ∧ Nx w w' := by
  have hn0 : (0 : Int) ≤ (n : Int) := by omega
  by_cases h0 : n = 0
  · subst h0
    go_enter Tryd.func38, Tryd.ntmps38
    go_wp2
    go_ret
    exact ⟨_, rfl, Own.nil _ _, Nx.refl _⟩
  · have h1 : (0 : Int) < (n : Int) := by omega
    have hp : 0 < n := by omega
    have hni : (n : Int) ≤ 140737488355328 := by omega
    go_enter Tryd.func38, Tryd.ntmps38
    go_wp2_with (refine wpList_grow_nil rfl (.tmp 20) (.tmp 21) _ _ rfl Tryd.underlying28 Tryd.underlying3 info_u8c n rfl rfl hp hn ?_)
    intro c hc hm
    go_wp2
    go_ret
    refine ⟨_, rfl, .inr ⟨w.heap.size, List.replicate c 0, by simp, Nat.le_refl _, heap_alloc_new w.drew _, by simp, by simpa using hm, by simp⟩, (Nx.refl w).drew.alloc _⟩

/-- The slice values vs read as the rows ls. -/
def Vs (w : World) (vs : List Value) (ls : List (List UInt8)) : Prop := vs.length = ls.length ∧ ∀ i (h : i < ls.length), ∃ v, vs[i]? = some v ∧ Rd w v ls[i]
theorem Vs.nx {w w' : World} {vs : List Value} {ls : List (List UInt8)} (h : Vs w vs ls) (k : Nx w w') : Vs w' vs ls := ⟨h.1, fun i hi => by obtain ⟨v, h1, h2⟩ := h.2 i hi; exact ⟨v, h1, h2.nx k⟩⟩
theorem Vs.nil (w : World) : Vs w [] [] := ⟨rfl, fun _ h => absurd h (by simp)⟩
theorem Vs.cons {w : World} {v : Value} {l : List UInt8} {vs : List Value} {ls : List (List UInt8)} (h : Rd w v l) (k : Vs w vs ls) : Vs w (v :: vs) (l :: ls) := by
  refine ⟨by simp [k.1], fun i hi => ?_⟩
  cases i with
  | zero => exact ⟨v, rfl, h⟩
  | succ i => obtain ⟨u, h1, h2⟩ := k.2 i (by simpa using hi); exact ⟨u, by simpa using h1, by simpa using h2⟩
theorem flat_snoc (ls : List (List UInt8)) (k : Nat) (h : k < ls.length) : (ls.take (k + 1)).flatten = (ls.take k).flatten ++ ls[k] := by
  rw [List.take_succ_eq_append_getElem h, List.flatten_append]
  simp only [List.flatten_cons, List.flatten_nil, List.append_nil]
theorem flat_le (ls : List (List UInt8)) (k : Nat) : (ls.take k).flatten.length ≤ ls.flatten.length := by
  have : ls.flatten = (ls.take k).flatten ++ (ls.drop k).flatten := by rw [← List.flatten_append, List.take_append_drop]
  rw [this, List.length_append]
  omega

set_option maxHeartbeats 300000 in
theorem concat_any (gs : Nat) (vs : List Value) (ls : List (List UInt8)) (w : World) (hg : w.heap[gs]? = some (.cells vs.toArray 28 (0, 0))) (hv : Vs w vs ls) (hn : ls.length ≤ 1000) (htot : ls.flatten.length ≤ 140737488355328) :
    Calls Tryd.prog 27 #[.slice (some ⟨gs, 0, none⟩) ls.length ls.length] w fun e w' => ∃ v, e = .returned v ∧ Own w.heap.size w' v ls.flatten ∧ Nx w w' := by
  have hni : (ls.length : Int) ≤ 1000 := by omega
  go_enter Tryd.func27, Tryd.ntmps27
  go_wp2
  go_loop [3, 11] (fun s i => ∃ k : Nat, k ≤ ls.length ∧ i = .int .i64 k ∧ s = .int .i64 ((ls.take k).flatten.length : Int)) (fun _ i => ls.length - (intOf i).toNat)
  case atStart => exact ⟨0, by omega, rfl, rfl⟩
  case round =>
    obtain ⟨k, hk, rfl, rfl⟩ := hrel
    by_cases hlt : k < ls.length
    · obtain ⟨v, h1, A, c, rfl, h2, h3, h4⟩ := hv.2 k hlt
      have ck : w.cell? ⟨gs, k, none⟩ = some (.slice A ls[k].length c) := by
        rw [cell_of_row w gs k _ _ (0, 0) hg]
        simpa using h1
      have hlt' : (k : Int) < (ls.length : Int) := by omega
      have hs := flat_snoc ls k hlt
      have hle := flat_le ls (k + 1)
      rw [hs, List.length_append] at hle
      have HS : Hid ((ls.take (k + 1)).flatten.length = (ls.take k).flatten.length + ls[k].length) := Lib.hid (by rw [hs, List.length_append])
      clear hs h1 h2 h3 h4
      generalize ls[k].length = m at *
      generalize (ls.take k).flatten.length = t at *
      have hti : (t : Int) + (m : Int) ≤ 140737488355328 := by omega
      have hti0 : (0 : Int) ≤ (t : Int) + (m : Int) := by omega
      go_wp2
      go_round
      case rel => exact ⟨k + 1, by omega, by go_num, by rw [HS.out]; rfl⟩
      case measure => simp [intOf]; omega
    · obtain rfl : k = ls.length := by omega
      have ht : (ls.take ls.length).flatten.length = ls.flatten.length := by rw [List.take_of_length_le (Nat.le_refl _)]
      rw [ht]
      have htot' := htot
      generalize ls.flatten.length = T at htot' ⊢
      go_wp2_with fail
      refine (grow_any T w htot').mono ?_
      rintro e w1 ⟨v1, rfl, hown1, hn1⟩
      go_wp2
      go_loopw [6, 27] (fun u i wr => ∃ k : Nat, k ≤ ls.length ∧ i = .int .i64 k ∧ Own w.heap.size wr u (ls.take k).flatten ∧ Nx w wr) (fun _ i _ => ls.length - (intOf i).toNat)
      case atStart => exact ⟨0, by omega, rfl, hown1, hn1⟩
      case round =>
        obtain ⟨k, hk, rfl, hown, hb⟩ := hrel
        by_cases hlt : k < ls.length
        · obtain ⟨v, h1, hrd⟩ := (hv.nx hb).2 k hlt
          have hg2 := Nx.blk hb hg
          have ck : wr.cell? ⟨gs, k, none⟩ = some v := by
            rw [cell_of_row wr gs k _ _ (0, 0) hg2]
            simpa using h1
          have hlt' : (k : Int) < (ls.length : Int) := by omega
          have HS := Lib.hid (flat_snoc ls k hlt)
          have HL : Hid ((ls.take k).flatten.length + ls[k].length ≤ 140737488355328) := Lib.hid (by
            have hle := flat_le ls (k + 1)
            rw [HS.out, List.length_append] at hle
            omega)
          have HSZ := Lib.hid hb.size
          go_wp2_with (at_builtin; refine wpList_app rfl (.tmp 31) (.tmp 32) _ rfl Tryd.underlying28 info_u8c w.heap.size _ v _ ls[k] rfl rfl hown hrd HL.out HSZ.out ?_)
          intro v' w' hown' hb' _
          go_wp2
          go_roundw
          case rel => exact ⟨k + 1, by omega, by go_num, by rw [HS.out]; exact hown', Nx.app hb hb'⟩
          case measure => simp [intOf]; omega
        · obtain rfl : k = ls.length := by omega
          rw [List.take_of_length_le (Nat.le_refl _)] at hown
          go_wp2
          go_ret
          exact ⟨_, rfl, hown, hb⟩
end Go.Proofs.YtpkopigiijiiiaaDoor
end

section
namespace Go.Proofs.YtpkopigiijiiiaaDoor
open Go Go.RowKit
set_option linter.unusedVariables false
set_option linter.unusedSimpArgs false

section
variable {P : Program} {ops : Array Oper} {Q : Exit → Act → World → Prop}
theorem wp_callp_of {o : Oper} {a : Act} {w : World} {K : Act → World → Prop} (dst : Option Tmp) (hd : o.dst = dst) (f : FuncId) (args : Array Value) (hrun : (execOp a.eval o).run P w = .ok (.enter f args) w)
    (PV : Value → World → Prop) (hc : Calls P f args w fun e w' => ∃ v, e = .returned v ∧ PV v w' ∧ Nx w w') (h : ∀ v w', PV v w' → Nx w w' → K (a.put dst v) w') : o.wp P a w K Q := by
  subst hd
  unfold Oper.wp
  rw [hrun, Oper.upon_enter]
  refine hc.mono fun e w' hh => ?_
  obtain ⟨v, rfl, hp, hn⟩ := hh
  exact h _ _ hp hn
theorem wp_slice_of {o : Oper} {a : Act} {w : World} {K : Act → World → Prop} (dst : Option Tmp) (hd : o.dst = dst) (ty : TypeId) (x : Operand) (lo hi mx : Option Operand) (ho : o.op = .slice ty x lo hi mx) (v : Value)
    (hrun : (Instr.sliceAt ty (a.eval x) (lo.map a.eval) (hi.map a.eval) (mx.map a.eval)).run P w = .ok v w) (h : K (a.put dst v) w) : o.wp P a w K Q := by
  refine wp_val_of dst hd v ?_ h
  unfold execOp
  simp only [ho]
  simp only [Sem.run_bind, hrun, Result.andThen_ok, Sem.run_pure]
theorem wp_mk_of {o : Oper} {a : Act} {w : World} {K : Act → World → Prop} (dst : Option Tmp) (hd : o.dst = dst) (ty : TypeId) (n : Nat) (parts : Array (Nat × Operand)) (ho : o.op = .buildSlice ty n parts) (vals : Array (Nat × Value)) (hv : (parts.map fun (i, x) => (i, a.eval x)) = vals) (v : Value) (w' : World)
    (hrun : (Instr.buildSlice ty n vals).run P w = .ok v w') (h : K (a.put dst v) w') : o.wp P a w K Q := by
  subst hd
  subst hv
  unfold Oper.wp execOp
  simp only [ho]
  simp only [Sem.run_bind, hrun, Result.andThen_ok, Sem.run_pure, Oper.upon_value]
  exact h
end

/-- A slice value. -/
def Sl (v : Value) : Prop := ∃ A n c, v = .slice A n c
theorem Rd.sl {w : World} {v : Value} {l : List UInt8} (h : Rd w v l) : Sl v := by
  obtain ⟨A, c, rfl, _⟩ := h; exact ⟨_, _, _, rfl⟩

/-- A row of rows of bytes: what a literal of slices lays. -/
def CatAt (x : Value) (ls : List (List UInt8)) (w : World) : Prop :=
  ∃ g vs, x = .slice (some ⟨g, 0, none⟩) ls.length ls.length ∧ w.heap[g]? = some (.cells (vs : List Value).toArray 28 (0, 0)) ∧ Vs w vs ls
theorem CatAt.nx {x : Value} {ls : List (List UInt8)} {w w' : World} (h : CatAt x ls w) (k : Nx w w') : CatAt x ls w' := by
  obtain ⟨g, vs, rfl, hg, hv⟩ := h
  exact ⟨g, vs, rfl, k.blk hg, hv.nx k⟩
theorem concat_at {x : Value} {ls : List (List UInt8)} (w : World) (h : CatAt x ls w) (hn : ls.length ≤ 1000) (ht : ls.flatten.length ≤ 140737488355328) (B : Nat) (hB : B ≤ w.heap.size) :
    Calls Tryd.prog 27 #[x] w fun e w' => ∃ v, e = .returned v ∧ Own B w' v ls.flatten ∧ Nx w w' := by
  obtain ⟨g, vs, rfl, hg, hv⟩ := h
  exact (concat_any g vs ls w hg hv hn ht).mono fun e w' ⟨v, he, ho, hn⟩ => ⟨v, he, ho.mono hB, hn⟩
theorem run_mk2 {v1 v2 : Value} (h1 : Sl v1) (h2 : Sl v2) (w : World) :
    (Instr.buildSlice 60 2 #[(0, v1), (1, v2)]).run Tryd.prog w = .ok (.slice (some ⟨w.heap.size, 0, none⟩) 2 2) (w.alloc (.cells #[v1, v2] 28)) := by
  obtain ⟨A, n, c, rfl⟩ := h1
  obtain ⟨A', n', c', rfl⟩ := h2
  kernel_rfl
theorem run_mk3 {v1 v2 v3 : Value} (h1 : Sl v1) (h2 : Sl v2) (h3 : Sl v3) (w : World) :
    (Instr.buildSlice 60 3 #[(0, v1), (1, v2), (2, v3)]).run Tryd.prog w = .ok (.slice (some ⟨w.heap.size, 0, none⟩) 3 3) (w.alloc (.cells #[v1, v2, v3] 28)) := by
  obtain ⟨A, n, c, rfl⟩ := h1
  obtain ⟨A', n', c', rfl⟩ := h2
  obtain ⟨A'', n'', c'', rfl⟩ := h3
  kernel_rfl
theorem catAt2 {v1 v2 : Value} {l1 l2 : List UInt8} {w : World} (h1 : Rd w v1 l1) (h2 : Rd w v2 l2) : CatAt (.slice (some ⟨w.heap.size, 0, none⟩) 2 2) [l1, l2] (w.alloc (.cells #[v1, v2] 28)) :=
  ⟨w.heap.size, [v1, v2], rfl, heap_alloc_new w _, (Vs.cons (h1.alloc _) (Vs.cons (h2.alloc _) (Vs.nil _)))⟩
theorem catAt3 {v1 v2 v3 : Value} {l1 l2 l3 : List UInt8} {w : World} (h1 : Rd w v1 l1) (h2 : Rd w v2 l2) (h3 : Rd w v3 l3) : CatAt (.slice (some ⟨w.heap.size, 0, none⟩) 3 3) [l1, l2, l3] (w.alloc (.cells #[v1, v2, v3] 28)) :=
  ⟨w.heap.size, [v1, v2, v3], rfl, heap_alloc_new w _, (Vs.cons (h1.alloc _) (Vs.cons (h2.alloc _) (Vs.cons (h3.alloc _) (Vs.nil _))))⟩
end Go.Proofs.YtpkopigiijiiiaaDoor
end

section
namespace Go.Proofs.YtpkopigiijiiiaaDoor
open Go.RowKit
set_option linter.unusedVariables false
set_option linter.unusedSimpArgs false
section
variable {P : Program}
/-- A cut of an array that stands in a block. -/
theorem slice_arr (t e : TypeId) (n : Nat) (ht : P.underlying t = some (.array n e)) (hsz : ∀ w, (sizeOf e).run P w = .ok 1 w) (g lo hi : Nat) (zl zh : Int) (hl : zl = lo) (hh : zh = hi) (h1 : lo ≤ hi) (h2 : hi ≤ n) (h3 : lo < n) (w : World) :
    (Instr.sliceAt t (.pointer (some ⟨g, 0, none⟩)) (some (.int .i64 zl)) (some (.int .i64 zh)) none).run P w = .ok (.slice (some ⟨g, lo, none⟩) (hi - lo) (n - lo)) w := by
  subst hl hh
  have e1 : ¬ (n = lo) := by omega
  simp [Instr.sliceAt, Instr.sureAddr, run_underlying ht, Instr.sliceBounds, run_sliceBound, hsz, e1, h1, h2, addr_add, (by omega : (lo : Int) ≤ (hi : Int)), (by omega : (hi : Int) ≤ (n : Int))]
theorem slice_arr_all (t e : TypeId) (n : Nat) (ht : P.underlying t = some (.array n e)) (hsz : ∀ w, (sizeOf e).run P w = .ok 1 w) (g : Nat) (h3 : 0 < n) (w : World) :
    (Instr.sliceAt t (.pointer (some ⟨g, 0, none⟩)) none none none).run P w = .ok (.slice (some ⟨g, 0, none⟩) n n) w := by
  have e1 : ¬ (n = 0) := by omega
  simp [Instr.sliceAt, Instr.sureAddr, run_underlying ht, Instr.sliceBounds, run_sliceBound, hsz, e1, addr_add]
/-- A slice up to a place. -/
theorem slice_to (t e : TypeId) (ht : P.underlying t = some (.slice e)) (hsz : ∀ w, (sizeOf e).run P w = .ok 1 w) (A : Option Addr) (n c hi : Nat) (zh : Int) (hh : zh = hi) (h1 : hi ≤ c) (w : World) :
    (Instr.sliceAt t (.slice A n c) none (some (.int .i64 zh)) none).run P w = .ok (.slice A hi c) w := by
  subst hh
  have e2 : (hi : Int) ≤ (c : Int) := by omega
  rcases A with _ | ⟨b, o, p⟩
  · simp [Instr.sliceAt, Instr.slice, Instr.sureAddr, run_underlying ht, Instr.sliceBounds, run_sliceBound, hsz, e2, h1]
  · simp [Instr.sliceAt, Instr.slice, Instr.sureAddr, run_underlying ht, Instr.sliceBounds, run_sliceBound, hsz, e2, h1]
    intro _
    unfold Addr.add
    simp
/-- What a slice is from a place on. -/
def fromV (A : Option Addr) (n c lo : Nat) : Value := .slice (if c = lo then A else A.map (·.add lo)) (n - lo) (c - lo)
theorem slice_fromV (t e : TypeId) (ht : P.underlying t = some (.slice e)) (hsz : ∀ w, (sizeOf e).run P w = .ok 1 w) (A : Option Addr) (n c lo : Nat) (zl : Int) (hl : zl = lo) (h1 : lo ≤ n) (h2 : n ≤ c) (w : World) :
    (Instr.sliceAt t (.slice A n c) (some (.int .i64 zl)) none none).run P w = .ok (fromV A n c lo) w := by
  subst hl
  have e2 : (lo : Int) ≤ (n : Int) := by omega
  unfold fromV
  simp [Instr.sliceAt, Instr.slice, Instr.sureAddr, run_underlying ht, Instr.sliceBounds, run_sliceBound, hsz, e2, h1]
theorem fromV_rd {w : World} {A : Option Addr} {c : Nat} {l : List UInt8} (ha : At w A l) (hc : l.length ≤ c) (hm : c ≤ maxLen) (lo : Nat) (h1 : lo ≤ l.length) : Rd w (fromV A l.length c lo) (l.drop lo) := by
  unfold fromV
  split
  · have e : l.drop lo = [] := List.drop_of_length_le (by omega)
    rw [e, show l.length - lo = 0 by omega]
    exact Rd.none0 w _ _ (by omega)
  · have := Rd.cut (c := c - lo) ha (i := lo) (m := l.length - lo) (by omega) (by omega) (by omega)
    rwa [List.take_of_length_le (by rw [List.length_drop]; omega)] at this
end
end Go.Proofs.YtpkopigiijiiiaaDoor
end

section
namespace Go.Proofs.YtpkopigiijiiiaaDoor
open Go Go.RowKit
set_option linter.unusedVariables false
set_option linter.unusedSimpArgs false
section
variable {P : Program}
theorem run_loadVar_at (w : World) (g o : Nat) (ty : TypeId) (vs : Array Value) (d : TypeDesc) (hc : ∀ j v, vs[j]? = some v → w.cell? ⟨g, o + j, none⟩ = some v)
    (hu : P.underlying ty = some d) (hd : (match d with | .struct _ | .array _ _ => true | _ => false) = true) (hi : (P.info? ty).map (·.size) = some vs.size) :
    (loadVar ty ⟨g, o, none⟩).run P w = .ok (.agg vs) w := by
  have hl : (loadCells ⟨g, o, none⟩ vs.toList.length).run P w = .ok vs.toList.toArray w :=
    run_loadCells_list (P := P) w ⟨g, o, none⟩ vs.toList (fun j v hv => by
      rw [addr_add]
      exact hc j v (by simpa using hv))
  cases hq : P.info? ty with
  | none => simp [hq] at hi
  | some i =>
    have hs : i.size = vs.size := by simpa [hq] using hi
    have hagg : (isAgg ty).run P w = .ok true w := by
      unfold isAgg
      rw [Sem.run_bind, run_underlying hu w]
      cases d <;> simp_all
    simp only [Array.length_toList, Array.toArray_toList] at hl
    simp [loadVar, Sem.run_bind, hagg, sizeOf, typeInfo, hq, hs, hl]
theorem wp_load_at {o : Oper} {a : Act} {w : World} {K : Act → World → Prop} {Q : Exit → Act → World → Prop} (dst : Option Tmp) (hdst : o.dst = dst) (ty : TypeId) (x : Operand) (ho : o.op = .load ty x)
    (g k : Nat) (hx : a.eval x = .pointer (some ⟨g, k, none⟩)) (vs : Array Value) (d : TypeDesc) (hc : ∀ j v, vs[j]? = some v → w.cell? ⟨g, k + j, none⟩ = some v)
    (hu : P.underlying ty = some d) (hd : (match d with | .struct _ | .array _ _ => true | _ => false) = true) (hi : (P.info? ty).map (·.size) = some vs.size)
    (h : K (a.put dst (.agg vs)) w) : o.wp P a w K Q := by
  subst hdst
  unfold Oper.wp execOp
  simp only [ho, hx, Instr.loadAt, Instr.sureAddr, Sem.run_bind, Sem.run_pure, Result.andThen_ok, run_loadVar_at w g k ty vs d hc hu hd hi]
  exact h
theorem wpList_load_at {ops : Array Oper} {rest : List Oper} {o : Oper} {a : Act} {w : World} {Q : Exit → Act → World → Prop} (hgd : o.guard = none) (ty : TypeId) (x : Operand) (ho : o.op = .load ty x)
    (g k : Nat) (hx : a.eval x = .pointer (some ⟨g, k, none⟩)) (vs : Array Value) (d : TypeDesc) (hc : ∀ j v, vs[j]? = some v → w.cell? ⟨g, k + j, none⟩ = some v)
    (hu : P.underlying ty = some d) (hd : (match d with | .struct _ | .array _ _ => true | _ => false) = true) (hi : (P.info? ty).map (·.size) = some vs.size)
    (h : wpList P ops Q rest (a.put o.dst (.agg vs)) w) : wpList P ops Q (o :: rest) a w :=
  wpList_plain hgd fun _ hK => wp_load_at _ rfl ty x ho g k hx vs d hc hu hd hi (hK _ _ h)
theorem wp_load_row_of {o : Oper} {a : Act} {w : World} {K : Act → World → Prop} {Q : Exit → Act → World → Prop} (dst : Option Tmp) (hdst : o.dst = dst) (ty : TypeId) (x : Operand) (ho : o.op = .load ty x)
    (g : Nat) (hx : a.eval x = .pointer (some ⟨g, 0, none⟩)) (t : TypeId) (vs : Array Value) (d : TypeDesc) (hr : Row w g vs t)
    (hu : P.underlying ty = some d) (hd : (match d with | .struct _ | .array _ _ => true | _ => false) = true) (hi : (P.info? ty).map (·.size) = some vs.size)
    (h : K (a.put dst (.agg vs)) w) : o.wp P a w K Q :=
  wp_load_at dst hdst ty x ho g 0 hx vs d (fun j v hv => by rw [Nat.zero_add]; exact hr.cell hv) hu hd hi h
theorem wpList_val {ops : Array Oper} {rest : List Oper} {o : Oper} {a : Act} {w : World} {Q : Exit → Act → World → Prop} (dst : Option Tmp) (hds : o.dst = dst) (hgd : o.guard = none) (v : Value)
    (hrun : (execOp a.eval o).run P w = .ok (.value v) w) (h : wpList P ops Q rest (a.put dst v) w) : wpList P ops Q (o :: rest) a w :=
  wpList_plain hgd fun _ hK => by
    subst hds
    unfold Oper.wp
    rw [hrun, Oper.upon_value]
    exact hK _ _ h
theorem wpList_valw {ops : Array Oper} {rest : List Oper} {o : Oper} {a : Act} {w : World} {Q : Exit → Act → World → Prop} (dst : Option Tmp) (hds : o.dst = dst) (hgd : o.guard = none) (v : Value) (w' : World)
    (hrun : (execOp a.eval o).run P w = .ok (.value v) w') (h : wpList P ops Q rest (a.put dst v) w') : wpList P ops Q (o :: rest) a w :=
  wpList_plain hgd fun _ hK => by
    subst hds
    unfold Oper.wp
    rw [hrun, Oper.upon_value]
    exact hK _ _ h
end
end Go.Proofs.YtpkopigiijiiiaaDoor
end
