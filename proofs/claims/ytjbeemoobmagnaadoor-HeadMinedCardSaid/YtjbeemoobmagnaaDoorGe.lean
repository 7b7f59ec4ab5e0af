/- TEXTS OF OUR OWN, IN ONE FILE. -/
import Derived.Test.YtjbeemoobmagnaaDoorGb
import Derived.Lib.QuietBelow
import Derived.Test.YtjbeemoobmagnaaDoorGc
section
namespace Go.Proofs.YtjbeemoobmagnaaDoor
open Go Go.RowKit
set_option linter.unusedVariables false
set_option linter.unusedSimpArgs false

/-- What holds of a value, and goes on to hold. -/
structure PP where
  p : Value → World → Prop
  nx : ∀ v w w', p v w → Nx w w' → p v w'
def PP.any : PP := ⟨fun _ _ => True, fun _ _ _ _ _ => trivial⟩
def PP.eq (V : Value) : PP := ⟨fun v _ => v = V, fun _ _ _ h _ => h⟩
def PP.rd (l : List UInt8) : PP := ⟨fun v w => Rd w v l, fun _ _ _ h k => h.nx k⟩
def PP.own (B : Nat) (l : List UInt8) : PP := ⟨fun v w => Own B w v l, fun _ _ _ h k => h.nx k⟩
def PP.row (B : Nat) (cs : Array Value) (t : TypeId) : PP := ⟨fun v w => ∃ g, v = .pointer (some ⟨g, 0, none⟩) ∧ B ≤ g ∧ Row w g cs t, fun _ _ _ ⟨g, h1, h2, h3⟩ k => ⟨g, h1, h2, h3.nx k⟩⟩

/-- The slots of the operations, filled. -/
def fillA (t0 : Array Value) : List (Option Tmp) → Nat → (Nat → Value) → Array Value
  | [], _, _ => t0
  | none :: ds, i, x => fillA t0 ds (i + 1) x
  | some d :: ds, i, x => (fillA t0 ds (i + 1) x).setIfInBounds d (x i)
def upd (x : Nat → Value) (i : Nat) (v : Value) : Nat → Value := fun j => if j = i then v else x j
theorem fillA_same (t0 : Array Value) (x y : Nat → Value) : ∀ (dl : List (Option Tmp)) (n : Nat), (∀ j, n ≤ j → x j = y j) → fillA t0 dl n x = fillA t0 dl n y
  | [], _, _ => rfl
  | none :: ds, n, h => fillA_same t0 x y ds (n + 1) fun j hj => h j (by omega)
  | some d :: ds, n, h => by
    show (fillA t0 ds (n + 1) x).setIfInBounds d (x n) = (fillA t0 ds (n + 1) y).setIfInBounds d (y n)
    rw [fillA_same t0 x y ds (n + 1) fun j hj => h j (by omega), h n (Nat.le_refl _)]
theorem fillA_self (t0 : Array Value) (x : Nat → Value) : ∀ (dl : List (Option Tmp)) (n : Nat), (∀ i d, dl[i]? = some (some d) → x (n + i) = t0.getD d undef) → fillA t0 dl n x = t0
  | [], _, _ => rfl
  | none :: ds, n, h => fillA_self t0 x ds (n + 1) fun i d hd => by
    have := h (i + 1) d (by simpa using hd)
    rwa [show n + (i + 1) = n + 1 + i by omega] at this
  | some d :: ds, n, h => by
    have h0 := h 0 d rfl
    show (fillA t0 ds (n + 1) x).setIfInBounds d (x n) = t0
    rw [fillA_self t0 x ds (n + 1) fun i d hd => by
      have := h (i + 1) d (by simpa using hd)
      rwa [show n + (i + 1) = n + 1 + i by omega] at this]
    rw [Nat.add_zero] at h0
    rw [h0]
    apply Array.ext
    · simp
    · intro i h1 h2
      rw [Array.getElem_setIfInBounds (by simpa using h2)]
      split
      · rename_i e; subst e; simp [Array.getD, h2]
      · rfl
theorem fillA_put (t0 : Array Value) (x : Nat → Value) (v : Value) (d : Tmp) : ∀ (dl : List (Option Tmp)) (n i : Nat), (dl.filterMap id).Nodup → dl[i]? = some (some d) → (fillA t0 dl n x).setIfInBounds d v = fillA t0 dl n (upd x (n + i) v)
  | [], _, _, _, h => by simp at h
  | none :: ds, n, 0, _, h => by simp at h
  | none :: ds, n, i + 1, hn, h => by
    have := fillA_put t0 x v d ds (n + 1) i (by simpa using hn) (by simpa using h)
    rwa [show n + 1 + i = n + (i + 1) by omega] at this
  | some d' :: ds, n, 0, _, h => by
    obtain rfl : d' = d := by simpa using h
    show ((fillA t0 ds (n + 1) x).setIfInBounds d' (x n)).setIfInBounds d' v = (fillA t0 ds (n + 1) (upd x (n + 0) v)).setIfInBounds d' (upd x (n + 0) v n)
    rw [set_twice, fillA_same t0 (upd x (n + 0) v) x ds (n + 1) fun j hj => by unfold upd; rw [if_neg (by omega)]]
    unfold upd
    rw [if_pos (by omega)]
  | some d' :: ds, n, i + 1, hn, h => by
    have hn2 : (d' :: ds.filterMap id).Nodup := by simpa using hn
    rw [List.nodup_cons] at hn2
    have hi : ds[i]? = some (some d) := by simpa using h
    have hne : d' ≠ d := fun e => hn2.1 (by
      rw [List.mem_filterMap]
      exact ⟨some d, List.mem_of_getElem? hi, by rw [e]; rfl⟩)
    show ((fillA t0 ds (n + 1) x).setIfInBounds d' (x n)).setIfInBounds d v = (fillA t0 ds (n + 1) (upd x (n + (i + 1)) v)).setIfInBounds d' (upd x (n + (i + 1)) v n)
    rw [Array.setIfInBounds_comm _ _ hne, fillA_put t0 x v d ds (n + 1) i hn2.2 hi, show n + 1 + i = n + (i + 1) by omega]
    unfold upd
    rw [if_neg (show ¬ n = n + (i + 1) by omega)]
theorem fillA_skip (t0 : Array Value) (x : Nat → Value) (v : Value) : ∀ (dl : List (Option Tmp)) (n i : Nat), (dl[i]? = some none ∨ dl[i]? = none) → fillA t0 dl n x = fillA t0 dl n (upd x (n + i) v)
  | [], _, _, _ => rfl
  | none :: ds, n, 0, _ => fillA_same t0 _ _ ds (n + 1) fun j hj => by unfold upd; rw [if_neg (by omega)]
  | some d :: ds, n, 0, h => by simp at h
  | none :: ds, n, i + 1, h => by
    have := fillA_skip t0 x v ds (n + 1) i (by simpa using h)
    rwa [show n + 1 + i = n + (i + 1) by omega] at this
  | some d :: ds, n, i + 1, h => by
    have := fillA_skip t0 x v ds (n + 1) i (by simpa using h)
    rw [show n + 1 + i = n + (i + 1) by omega] at this
    show (fillA t0 ds (n + 1) x).setIfInBounds d (x n) = (fillA t0 ds (n + 1) (upd x (n + (i + 1)) v)).setIfInBounds d (upd x (n + (i + 1)) v n)
    rw [← this]
    unfold upd
    rw [if_neg (show ¬ n = n + (i + 1) by omega)]

section
variable {P : Program} {ops : Array Oper} {Q : Exit → Act → World → Prop}
theorem wpOp_list {i : Nat} (h : i < ops.size) (rest : List Oper) (hr : rest = ops.toList.drop (i + 1)) {a : Act} {w : World} (hw : wpList P ops Q (ops.toList.drop i) a w) : wpOp P ops Q i (wpList P ops Q rest) a w := by
  subst hr
  have ho : ops[i]? = some ops[i] := by simp [h]
  rw [List.drop_eq_getElem_cons (by simpa using h)] at hw
  unfold wpOp
  rw [ho]
  exact hw

/-- The region: what holds of each operation's value; the tail in its order. -/
theorem wp_region_nx {id : Nat} {t0 : Array Value} {df : List Deferred} {w : World} (k : Nat) (needs : List (List Nat)) (dl : List (Option Tmp)) (PV : List PP)
    (hm : P.follows .mixedOrders = true) (hn : needsOf .any ops = needs) (hord : ∀ i, ∀ d ∈ needs.getD i [], d < i)
    (hdl : (ops.toList.take k).map (·.dst) = dl) (hks : k ≤ ops.size) (hnd : (dl.filterMap _root_.id).Nodup)
    (htail : ∀ j, k ≤ j → j < ops.size → ∀ i, i < j → i ∈ needs.getD j [])
    (hstep : ∀ x tm wr, fillA t0 dl 0 x = tm → Nx w wr → ∀ i, i < k → (∀ d ∈ needs.getD i [], (PV.getD d PP.any).p (x d) wr) → ∀ K : Act → World → Prop,
      (∀ v w', (PV.getD i PP.any).p v w' → Nx wr w' → K ((⟨tm, df⟩ : Act).put (dl.getD i none) v) w') → wpOp P ops Q i K ⟨tm, df⟩ wr)
    (tail : List Oper) (htl : ops.toList.drop k = tail)
    (hend : ∀ x tm wr, fillA t0 dl 0 x = tm → Nx w wr → (∀ i, i < k → (PV.getD i PP.any).p (x i) wr) → wpList P ops Q tail ⟨tm, df⟩ wr) :
    (Code.region id ops true).wp P Q ⟨t0, df⟩ w := by
  subst htl
  have hdk : dl.length = k := by rw [← hdl, List.length_map, List.length_take]; simp; omega
  refine wp_region_inv needs (fun L a w' =>
    ((∀ j, k ≤ j → j < ops.size → L j = false) ∧ ∃ x, a = ⟨fillA t0 dl 0 x, df⟩ ∧ Nx w w' ∧ ∀ i, i < k → L i = true → (PV.getD i PP.any).p (x i) w') ∨
    (∃ m, k < m ∧ m ≤ ops.size ∧ (∀ j, j < ops.size → (L j = true ↔ j < m)) ∧ wpList P ops Q (ops.toList.drop m) a w')) hm hn hord ?_ ?_ ?_
  · refine .inl ⟨fun _ _ _ => rfl, fun i => match dl[i]? with | some (some d) => t0.getD d undef | _ => undef, ?_, (Nx.refl w).drew, fun _ _ h => by cases h⟩
    rw [fillA_self]
    intro i d hd
    rw [Nat.zero_add]
    simp only [hd]
  · rintro L a wr hI i hi hL hd K hK
    rcases hI with ⟨hf, x, rfl, hx, hp⟩ | ⟨m, hm1, hm2, hm3, hwl⟩
    · by_cases hik : i < k
      · refine hstep x _ wr rfl hx i hik (fun d hdd => hp d (by have := hord i d hdd; omega) (hd d hdd)) K fun v w' hv hnx => hK _ _ (.inl ⟨fun j hj hjs => ?_, upd x i v, ?_, hx.trans hnx, fun j hj hLj => ?_⟩)
        · have := hf j hj hjs
          have hne : (j == i) = false := by rw [beq_eq_false_iff_ne]; omega
          show (j == i || L j) = false
          rw [hne, this]; rfl
        · have hdi : dl[i]? = some (dl.getD i none) := by
            rw [List.getD_eq_getElem?_getD, List.getElem?_eq_getElem (by omega)]; rfl
          cases hg : dl.getD i none with
          | none =>
            rw [hg] at hdi
            have := fillA_skip t0 x v dl 0 i (.inl hdi)
            rw [Nat.zero_add] at this
            show (⟨fillA t0 dl 0 x, df⟩ : Act) = _
            rw [← this]
          | some d =>
            rw [hg] at hdi
            have := fillA_put t0 x v d dl 0 i hnd hdi
            rw [Nat.zero_add] at this
            show (⟨(fillA t0 dl 0 x).setIfInBounds d v, df⟩ : Act) = _
            rw [this]
        · by_cases hji : j = i
          · subst hji
            unfold upd
            rw [if_pos rfl]
            exact hv
          · have hne : (j == i) = false := by rw [beq_eq_false_iff_ne]; exact hji
            replace hLj : (j == i || L j) = true := hLj
            rw [hne, Bool.false_or] at hLj
            unfold upd
            rw [if_neg hji]
            exact (PV.getD j PP.any).nx _ _ _ (hp j hj hLj) hnx
      · have hall : ∀ j, j < i → L j = true := fun j hj => hd j (htail i (by omega) hi j hj)
        have hik2 : i = k := by
          by_cases h : k < i
          · have := hall k h
            rw [hf k (Nat.le_refl _) (by omega)] at this
            cases this
          · omega
        subst hik2
        have hw := hend x _ wr rfl hx fun j hj => hp j hj (hall j hj)
        refine wpOp_mono (fun a w' h => hK _ _ (.inr ⟨i + 1, by omega, by omega, fun j hj => ?_, h⟩)) (wpOp_list hi _ rfl hw)
        show (j == i || L j) = true ↔ j < i + 1
        by_cases hji : j = i
        · subst hji; simp
        · have hne : (j == i) = false := by rw [beq_eq_false_iff_ne]; exact hji
          rw [hne, Bool.false_or]
          constructor
          · intro h
            by_cases hlt : j < i
            · omega
            · rw [hf j (by omega) hj] at h; cases h
          · intro h; exact hall j (by omega)
    · have him : m ≤ i := by
        by_cases h : i < m
        · rw [(hm3 i hi).2 h] at hL; cases hL
        · omega
      have hall : ∀ j, j < i → L j = true := fun j hj => hd j (htail i (by omega) hi j hj)
      have him2 : i = m := by
        by_cases h : m < i
        · have := (hm3 m (by omega)).1 (hall m h); omega
        · omega
      subst him2
      refine wpOp_mono (fun a w' h => hK _ _ (.inr ⟨i + 1, by omega, by omega, fun j hj => ?_, h⟩)) (wpOp_list hi _ rfl hwl)
      show (j == i || L j) = true ↔ j < i + 1
      by_cases hji : j = i
      · subst hji; simp
      · have hne : (j == i) = false := by rw [beq_eq_false_iff_ne]; exact hji
        rw [hne, Bool.false_or, hm3 j hj]
        omega
  · rintro L a wr hI hall
    rcases hI with ⟨hf, x, rfl, hx, hp⟩ | ⟨m, hm1, hm2, hm3, hwl⟩
    · have hks2 : k = ops.size := by
        by_cases h : k < ops.size
        · have := hall k h
          rw [hf k (Nat.le_refl _) h] at this
          cases this
        · omega
      have hw := hend x _ wr rfl hx fun j hj => hp j hj (hall j (by omega))
      rw [List.drop_of_length_le (by simp; omega)] at hw
      exact hw
    · have : ops.size ≤ m := by
        by_cases h : m < ops.size
        · have := (hm3 m h).1 (hall m h); omega
        · omega
      rw [List.drop_of_length_le (by simp; omega)] at hwl
      exact hwl
theorem htail_of {needs : List (List Nat)} {k n : Nat} (h : ((List.range n).all fun j => decide (j < k) || (List.range j).all fun i => (needs.getD j []).contains i) = true) : ∀ j, k ≤ j → j < n → ∀ i, i < j → i ∈ needs.getD j [] := by
  intro j hj hn i hi
  rw [List.all_eq_true] at h
  have h1 := h j (List.mem_range.2 hn)
  rw [Bool.or_eq_true] at h1
  rcases h1 with h1 | h1
  · have := of_decide_eq_true h1; omega
  · rw [List.all_eq_true] at h1
    have := h1 i (List.mem_range.2 hi)
    simpa using this
end
end Go.Proofs.YtjbeemoobmagnaaDoor
end

section
namespace Go.Proofs.YtjbeemoobmagnaaDoor
open Go Go.RowKit
set_option linter.unusedVariables false
set_option linter.unusedSimpArgs false
section
variable {P : Program}
theorem run_loadVar_at (w : World) (g o : Nat) (ty : TypeId) (vs : Array Value) (d : TypeDesc) (hc : ∀ j v, vs[j]? = some v → w.cell? ⟨g, o + j, none⟩ = some v)
    (hu : P.underlying ty = some d) (hd : (match d with | .struct _ | .array _ _ => true | _ => false) = true) (hi : (P.info? ty).map (·.size) = some vs.size) :
    (loadVar ty ⟨g, o, none⟩).run P w = .ok (.agg vs) w := by
  have hl : (loadCells ⟨g, o, none⟩ vs.toList.length).run P w = .ok vs.toList.toArray w :=
    run_loadCells_list (P := P) w ⟨g, o, none⟩ vs.toList (fun j v hv => by
      rw [addr_add]
      exact hc j v (by simpa using hv))
  cases hq : P.info? ty with
  | none => simp [hq] at hi
  | some i =>
    have hs : i.size = vs.size := by simpa [hq] using hi
    have hagg : (isAgg ty).run P w = .ok true w := by
      unfold isAgg
      rw [Sem.run_bind, run_underlying hu w]
      cases d <;> simp_all
    simp only [Array.length_toList, Array.toArray_toList] at hl
    simp [loadVar, Sem.run_bind, hagg, sizeOf, typeInfo, hq, hs, hl]
theorem wp_load_at {o : Oper} {a : Act} {w : World} {K : Act → World → Prop} {Q : Exit → Act → World → Prop} (dst : Option Tmp) (hdst : o.dst = dst) (ty : TypeId) (x : Operand) (ho : o.op = .load ty x)
    (g k : Nat) (hx : a.eval x = .pointer (some ⟨g, k, none⟩)) (vs : Array Value) (d : TypeDesc) (hc : ∀ j v, vs[j]? = some v → w.cell? ⟨g, k + j, none⟩ = some v)
    (hu : P.underlying ty = some d) (hd : (match d with | .struct _ | .array _ _ => true | _ => false) = true) (hi : (P.info? ty).map (·.size) = some vs.size)
    (h : K (a.put dst (.agg vs)) w) : o.wp P a w K Q := by
  subst hdst
  unfold Oper.wp execOp
  simp only [ho, hx, Instr.loadAt, Instr.sureAddr, Sem.run_bind, Sem.run_pure, Result.andThen_ok, run_loadVar_at w g k ty vs d hc hu hd hi]
  exact h
theorem wpList_load_at {ops : Array Oper} {rest : List Oper} {o : Oper} {a : Act} {w : World} {Q : Exit → Act → World → Prop} (hgd : o.guard = none) (ty : TypeId) (x : Operand) (ho : o.op = .load ty x)
    (g k : Nat) (hx : a.eval x = .pointer (some ⟨g, k, none⟩)) (vs : Array Value) (d : TypeDesc) (hc : ∀ j v, vs[j]? = some v → w.cell? ⟨g, k + j, none⟩ = some v)
    (hu : P.underlying ty = some d) (hd : (match d with | .struct _ | .array _ _ => true | _ => false) = true) (hi : (P.info? ty).map (·.size) = some vs.size)
    (h : wpList P ops Q rest (a.put o.dst (.agg vs)) w) : wpList P ops Q (o :: rest) a w :=
  wpList_plain hgd fun _ hK => wp_load_at _ rfl ty x ho g k hx vs d hc hu hd hi (hK _ _ h)
theorem wp_load_row_of {o : Oper} {a : Act} {w : World} {K : Act → World → Prop} {Q : Exit → Act → World → Prop} (dst : Option Tmp) (hdst : o.dst = dst) (ty : TypeId) (x : Operand) (ho : o.op = .load ty x)
    (g : Nat) (hx : a.eval x = .pointer (some ⟨g, 0, none⟩)) (t : TypeId) (vs : Array Value) (d : TypeDesc) (hr : Row w g vs t)
    (hu : P.underlying ty = some d) (hd : (match d with | .struct _ | .array _ _ => true | _ => false) = true) (hi : (P.info? ty).map (·.size) = some vs.size)
    (h : K (a.put dst (.agg vs)) w) : o.wp P a w K Q :=
  wp_load_at dst hdst ty x ho g 0 hx vs d (fun j v hv => by rw [Nat.zero_add]; exact hr.cell hv) hu hd hi h
theorem wpList_val {ops : Array Oper} {rest : List Oper} {o : Oper} {a : Act} {w : World} {Q : Exit → Act → World → Prop} (dst : Option Tmp) (hds : o.dst = dst) (hgd : o.guard = none) (v : Value)
    (hrun : (execOp a.eval o).run P w = .ok (.value v) w) (h : wpList P ops Q rest (a.put dst v) w) : wpList P ops Q (o :: rest) a w :=
  wpList_plain hgd fun _ hK => by
    subst hds
    unfold Oper.wp
    rw [hrun, Oper.upon_value]
    exact hK _ _ h
theorem wpList_valw {ops : Array Oper} {rest : List Oper} {o : Oper} {a : Act} {w : World} {Q : Exit → Act → World → Prop} (dst : Option Tmp) (hds : o.dst = dst) (hgd : o.guard = none) (v : Value) (w' : World)
    (hrun : (execOp a.eval o).run P w = .ok (.value v) w') (h : wpList P ops Q rest (a.put dst v) w') : wpList P ops Q (o :: rest) a w :=
  wpList_plain hgd fun _ hK => by
    subst hds
    unfold Oper.wp
    rw [hrun, Oper.upon_value]
    exact hK _ _ h
end
end Go.Proofs.YtjbeemoobmagnaaDoor
end

section
namespace Go.Proofs.YtjbeemoobmagnaaDoor
open Go Go.RowKit
set_option linter.unusedVariables false
set_option linter.unusedSimpArgs false

theorem Own.lt {B : Nat} {w : World} {v : Value} {l : List UInt8} (h : Own B w v l) : ∀ b, v.ownBlock = some b → b < w.heap.size := by
  rintro b hb
  rcases h with ⟨rfl, _⟩ | ⟨g, full, rfl, _, hg, _⟩
  · cases hb
  · obtain rfl : g = b := by simpa [Value.ownBlock] using hb
    exact (Array.getElem?_eq_some_iff.1 hg).1
theorem Own.grown {B : Nat} {w w' : World} {v : Value} {l : List UInt8} {row : Option Nat} (h : Own B w v l) (hg : w.grownBy w' row) (hr : ∀ b, v.ownBlock = some b → row ≠ some b) : Own B w' v l := by
  have hlt := h.lt
  rcases h with ⟨rfl, hl⟩ | ⟨g, full, rfl, hb, hh, hc, hm, ht⟩
  · exact .inl ⟨rfl, hl⟩
  · have h1 := hlt g rfl
    refine .inr ⟨g, full, rfl, hb, ?_, hc, hm, ht⟩
    rw [← hh]
    exact hg.block g h1 (fun e => hr g rfl e.symm)

/-- What is known of an operation's value: kind 0: it is V; 1: p holds of it, in whatever world that is alike below B; 2: bytes of the call's own; 3: V, bytes of the call's own from the beginning on. -/
structure SP where
  V : Value := undef
  l : List UInt8 := []
  p : Value → World → Prop := fun _ _ => True
/-- What an operation finds of a value that it waited for. -/
def Fct (B : Nat) (kind : Nat) (s : SP) (c : Option Nat) (i : Nat) (v : Value) (w : World) : Prop :=
  match kind with
  | 0 => v = s.V
  | 1 => s.p v w
  | 3 => v = s.V ∧ (c = none ∨ c = some i → Own B w v s.l)
  | _ => (c = none ∨ c = some i → Own B w v s.l)
/-- What an operation leaves. -/
def Eff (B : Nat) (kind : Nat) (s : SP) (src : Option Nat) (x : Nat → Value) (v : Value) (w w' : World) : Prop :=
  match kind with
  | 0 => v = s.V ∧ Nx w w'
  | 1 => s.p v w' ∧ Nx w w'
  | 3 => v = s.V ∧ Nx w w'
  | _ => match src with
    | none => Own w.heap.size w' v s.l ∧ Nx w w'
    | some d => Own B w' v s.l ∧ w.grownBy w' (x d).ownBlock ∧ (v.ownBlock = (x d).ownBlock ∨ v.ownBlock = some w.heap.size)
/-- What is known behind all. -/
def Fin (B : Nat) (kind : Nat) (s : SP) (c : Option Nat) (k : Nat) (v : Value) (w : World) : Prop :=
  match kind with
  | 0 => v = s.V
  | 1 => s.p v w
  | 3 => v = s.V ∧ ((∀ j, c = some j → k ≤ j) → Own B w v s.l)
  | _ => ((∀ j, c = some j → k ≤ j) → Own B w v s.l)

def valOf (kind : Nat) (s : SP) (v : Value) : Value := match kind with | 3 => s.V | _ => v
/-- Bytes of the call's own that are there. -/
def Here (kind : Nat) (c : Option Nat) (L : Nat → Bool) (i : Nat) : Prop := 2 ≤ kind ∧ (kind = 3 ∨ L i = true) ∧ ∀ j, c = some j → L j = false
structure Good (B k : Nat) (kinds : List Nat) (cons : List (Option Nat)) (PV : List SP) (L : Nat → Bool) (x : Nat → Value) (w : World) : Prop where
  eq : ∀ i, i < k → L i = true → (kinds.getD i 0 = 0 ∨ kinds.getD i 0 = 3) → x i = (PV.getD i {}).V
  old : ∀ i, i < k → L i = true → kinds.getD i 0 = 1 → (PV.getD i {}).p (x i) w
  own : ∀ i, i < k → Here (kinds.getD i 0) (cons.getD i none) L i → Own B w (valOf (kinds.getD i 0) (PV.getD i {}) (x i)) (PV.getD i {}).l
  sep : ∀ i j, i < k → j < k → i ≠ j → Here (kinds.getD i 0) (cons.getD i none) L i → Here (kinds.getD j 0) (cons.getD j none) L j → ∀ b, (valOf (kinds.getD i 0) (PV.getD i {}) (x i)).ownBlock = some b → (valOf (kinds.getD j 0) (PV.getD j {}) (x j)).ownBlock ≠ some b
theorem Good.fct {B k : Nat} {kinds : List Nat} {cons : List (Option Nat)} {PV : List SP} {L : Nat → Bool} {x : Nat → Value} {w : World} (h : Good B k kinds cons PV L x w) {d i : Nat} (hd : d < k) (hL : L d = true) (hi : L i = false) :
    Fct B (kinds.getD d 0) (PV.getD d {}) (cons.getD d none) i (x d) w := by
  have he := h.eq d hd hL
  have ho := h.old d hd hL
  have hw := h.own d hd
  unfold Fct
  generalize kinds.getD d 0 = q at *
  split
  · exact he (.inl rfl)
  · exact ho rfl
  · have hx := he (.inr rfl)
    refine ⟨hx, fun hc => ?_⟩
    have := hw ⟨by omega, .inl rfl, fun j hj => by
      rcases hc with hc | hc
      · rw [hc] at hj; cases hj
      · rw [hc] at hj; injection hj with hj; subst hj; exact hi⟩
    rw [hx]
    exact this
  · rename_i h0 h1 h3
    intro hc
    have := hw ⟨by rcases q with _ | _ | q <;> simp_all, .inr hL, fun j hj => by
      rcases hc with hc | hc
      · rw [hc] at hj; cases hj
      · rw [hc] at hj; injection hj with hj; subst hj; exact hi⟩
    unfold valOf at this
    split at this
    · exact absurd rfl h3
    · exact this
theorem Good.fin {B k : Nat} {kinds : List Nat} {cons : List (Option Nat)} {PV : List SP} {L : Nat → Bool} {x : Nat → Value} {w : World} (h : Good B k kinds cons PV L x w) {d : Nat} (hd : d < k) (hL : L d = true) (hf : ∀ j, k ≤ j → L j = false) :
    Fin B (kinds.getD d 0) (PV.getD d {}) (cons.getD d none) k (x d) w := by
  have he := h.eq d hd hL
  have ho := h.old d hd hL
  have hw := h.own d hd
  unfold Fin
  generalize kinds.getD d 0 = q at *
  split
  · exact he (.inl rfl)
  · exact ho rfl
  · have hx := he (.inr rfl)
    refine ⟨hx, fun hc => ?_⟩
    have := hw ⟨by omega, .inl rfl, fun j hj => hf j (hc j hj)⟩
    rw [hx]
    exact this
  · rename_i h0 h1 h3
    intro hc
    have := hw ⟨by rcases q with _ | _ | q <;> simp_all, .inr hL, fun j hj => hf j (hc j hj)⟩
    unfold valOf at this
    split at this
    · exact absurd rfl h3
    · exact this
theorem valOf_upd (kind : Nat) (s : SP) (x : Nat → Value) (i j : Nat) (v : Value) (h : j ≠ i) : valOf kind s (upd x i v j) = valOf kind s (x j) := by
  unfold upd; rw [if_neg h]
theorem here_old {kind : Nat} {c : Option Nat} {L : Nat → Bool} {i j : Nat} (hji : j ≠ i) (h : Here kind c (fun q => q == i || L q) j) : Here kind c L j := by
  obtain ⟨h1, h2, h3⟩ := h
  refine ⟨h1, ?_, fun q hq => ?_⟩
  · rcases h2 with h2 | h2
    · exact .inl h2
    · have : (j == i) = false := by rw [beq_eq_false_iff_ne]; exact hji
      replace h2 : (j == i || L j) = true := h2
      rw [this, Bool.false_or] at h2
      exact .inr h2
  · have := h3 q hq
    rw [Bool.or_eq_false_iff] at this
    exact this.2
/-- One operation carried out. -/
theorem Good.step {B k : Nat} {kinds : List Nat} {cons src : List (Option Nat)} {PV : List SP} {L : Nat → Bool} {x : Nat → Value} {w w' : World} (h : Good B k kinds cons PV L x w) {i : Nat} (hi : i < k) (hLi : L i = false) (hB : B ≤ w.heap.size)
    (hold : ∀ j, j < k → kinds.getD j 0 = 1 → ∀ v w w', (PV.getD j {}).p v w → Below B w w' → (PV.getD j {}).p v w')
    (hsrc : ∀ d, src.getD i none = some d → kinds.getD i 0 = 2 → d < k ∧ d ≠ i ∧ L d = true ∧ cons.getD d none = some i ∧ 2 ≤ kinds.getD d 0) (hk4 : kinds.getD i 0 ≤ 3)
    {v : Value} (he : Eff B (kinds.getD i 0) (PV.getD i {}) (src.getD i none) x v w w') : Below B w w' ∧ Good B k kinds cons PV (fun j => j == i || L j) (upd x i v) w' := by
  have hxi : upd x i v i = v := by unfold upd; rw [if_pos rfl]
  have hxj : ∀ j, j ≠ i → upd x i v j = x j := fun j hj => by unfold upd; rw [if_neg hj]
  have hLj : ∀ j, j ≠ i → (j == i || L j) = true → L j = true := fun j hj hl => by
    have : (j == i) = false := by rw [beq_eq_false_iff_ne]; exact hj
    rwa [this, Bool.false_or] at hl
  -- the quiet kinds
  have quiet : kinds.getD i 0 ≠ 2 → Nx w w' → ((kinds.getD i 0 = 0 ∨ kinds.getD i 0 = 3) → v = (PV.getD i {}).V) → (kinds.getD i 0 = 1 → (PV.getD i {}).p v w') → Below B w w' ∧ Good B k kinds cons PV (fun j => j == i || L j) (upd x i v) w' := by
    intro hk hn hv hp
    have hb : Below B w w' := hn.mono hB
    have hval : ∀ j, Here (kinds.getD j 0) (cons.getD j none) (fun q => q == i || L q) j → Here (kinds.getD j 0) (cons.getD j none) L j ∧ valOf (kinds.getD j 0) (PV.getD j {}) (upd x i v j) = valOf (kinds.getD j 0) (PV.getD j {}) (x j) := by
      intro j hj
      by_cases hji : j = i
      · subst hji
        obtain ⟨h1, h2, h3⟩ := hj
        have h4 : kinds.getD j 0 = 3 := by omega
        refine ⟨⟨h1, .inl h4, fun q hq => ?_⟩, by rw [h4]; rfl⟩
        have := h3 q hq
        rw [Bool.or_eq_false_iff] at this
        exact this.2
      · exact ⟨here_old hji hj, valOf_upd _ _ _ _ _ _ hji⟩
    refine ⟨hb, fun j hj hl hq => ?_, fun j hj hl hq => ?_, fun j hj hh => ?_, fun a b ha hb' hab h1 h2 => ?_⟩
    · by_cases hji : j = i
      · subst hji; rw [hxi]; exact hv hq
      · rw [hxj j hji]; exact h.eq j hj (hLj j hji hl) hq
    · by_cases hji : j = i
      · subst hji; rw [hxi]; exact hp hq
      · rw [hxj j hji]; exact hold j hj hq _ _ _ (h.old j hj (hLj j hji hl) hq) hb
    · obtain ⟨h1, h2⟩ := hval j hh
      rw [h2]
      exact (h.own j hj h1).nx hn
    · obtain ⟨a1, a2⟩ := hval a h1
      obtain ⟨b1, b2⟩ := hval b h2
      rw [a2, b2]
      exact h.sep a b ha hb' hab a1 b1
  have k4 : kinds.getD i 0 = 0 ∨ kinds.getD i 0 = 1 ∨ kinds.getD i 0 = 2 ∨ kinds.getD i 0 = 3 := by omega
  rcases k4 with hk | hk | hk | hk
  · rw [hk] at he; obtain ⟨hv, hn⟩ := he; exact quiet (by omega) hn (fun _ => hv) (fun e => by omega)
  · rw [hk] at he; obtain ⟨hv, hn⟩ := he; exact quiet (by omega) hn (fun e => by omega) (fun _ => hv)
  · -- bytes of the call's own
    have hmine : ∀ (hnew : Own B w' v (PV.getD i {}).l) (hb : Below B w w')
        (hothers : ∀ j, j < k → j ≠ i → Here (kinds.getD j 0) (cons.getD j none) (fun q => q == i || L q) j → Own B w' (valOf (kinds.getD j 0) (PV.getD j {}) (x j)) (PV.getD j {}).l ∧ ∀ b, v.ownBlock = some b → (valOf (kinds.getD j 0) (PV.getD j {}) (x j)).ownBlock ≠ some b),
        Below B w w' ∧ Good B k kinds cons PV (fun j => j == i || L j) (upd x i v) w' := by
      intro hnew hb hoth
      have vi : valOf (kinds.getD i 0) (PV.getD i {}) (upd x i v i) = v := by rw [hk, hxi]; rfl
      refine ⟨hb, fun j hj hl hq => ?_, fun j hj hl hq => ?_, fun j hj hh => ?_, fun a b ha hb' hab h1 h2 => ?_⟩
      · by_cases hji : j = i
        · subst hji; omega
        · rw [hxj j hji]; exact h.eq j hj (hLj j hji hl) hq
      · by_cases hji : j = i
        · subst hji; omega
        · rw [hxj j hji]; exact hold j hj hq _ _ _ (h.old j hj (hLj j hji hl) hq) hb
      · by_cases hji : j = i
        · subst hji; rw [vi]; exact hnew
        · rw [valOf_upd _ _ _ _ _ _ hji]; exact (hoth j hj hji hh).1
      · by_cases hai : a = i
        · subst hai
          rw [vi, valOf_upd _ _ _ _ _ _ (fun e => hab e.symm)]
          exact (hoth b hb' (fun e => hab e.symm) h2).2
        · by_cases hbi : b = i
          · subst hbi
            rw [vi, valOf_upd _ _ _ _ _ _ hai]
            intro q hq e
            exact (hoth a ha hai h1).2 q e hq
          · rw [valOf_upd _ _ _ _ _ _ hai, valOf_upd _ _ _ _ _ _ hbi]
            exact h.sep a b ha hb' hab (here_old hai h1) (here_old hbi h2)
    rw [hk] at he
    unfold Eff at he
    simp only at he
    cases hs : src.getD i none with
    | none =>
      rw [hs] at he
      obtain ⟨ho, hn⟩ := he
      refine hmine (ho.mono hB) (hn.mono hB) fun j hj hji hh => ?_
      have hoj := h.own j hj (here_old hji hh)
      refine ⟨hoj.nx hn, fun b hb e => ?_⟩
      have := hoj.lt b e
      have := ho.block b hb
      omega
    | some d =>
      rw [hs] at he
      obtain ⟨ho, hg, hblk⟩ := he
      obtain ⟨hd, hdi, hLd, hcd, hkd⟩ := hsrc d hs hk
      have hhd : Here (kinds.getD d 0) (cons.getD d none) L d := ⟨hkd, .inr hLd, fun j hj => by rw [hcd] at hj; injection hj with hj; subst hj; exact hLi⟩
      have vd : valOf (kinds.getD d 0) (PV.getD d {}) (x d) = x d := by
        have he3 := h.eq d hd hLd
        generalize kinds.getD d 0 = q at *
        unfold valOf
        split
        · exact (he3 (.inr rfl)).symm
        · rfl
      have hod := h.own d hd hhd
      rw [vd] at hod
      have hb : Below B w w' := Own.below hB hod hg
      refine hmine ho hb fun j hj hji hh => ?_
      have hjd : j ≠ d := fun e => by
        subst e
        have := hh.2.2 i hcd
        simp at this
      have hoj := h.own j hj (here_old hji hh)
      have hsep := h.sep j d hj hd hjd (here_old hji hh) hhd
      rw [vd] at hsep
      refine ⟨hoj.grown hg fun b hb e => hsep b hb e, fun b hb e => ?_⟩
      rcases hblk with hq | hq
      · rw [hq] at hb
        exact hsep b e hb
      · rw [hq] at hb
        injection hb with hb
        have := hoj.lt b e
        omega
  · rw [hk] at he; obtain ⟨hv, hn⟩ := he; exact quiet (by omega) hn (fun _ => hv) (fun e => by omega)

section
variable {P : Program} {ops : Array Oper} {Q : Exit → Act → World → Prop}
/-- The region. -/
theorem wp_region_sep {id : Nat} {t0 : Array Value} {df : List Deferred} {w : World} (B k : Nat) (needs : List (List Nat)) (dl : List (Option Tmp)) (kinds : List Nat) (cons src : List (Option Nat)) (PV : List SP) (hB : B ≤ w.heap.size)
    (hm : P.follows .mixedOrders = true) (hn : needsOf .any ops = needs) (hord : ∀ i, ∀ d ∈ needs.getD i [], d < i)
    (hdl : (ops.toList.take k).map (·.dst) = dl) (hks : k ≤ ops.size) (hnd : (dl.filterMap _root_.id).Nodup)
    (htail : ∀ j, k ≤ j → j < ops.size → ∀ i, i < j → i ∈ needs.getD j [])
    (hk4 : ∀ i, i < k → kinds.getD i 0 ≤ 3)
    (hsrc : ∀ i, i < k → ∀ d, src.getD i none = some d → kinds.getD i 0 = 2 → d ∈ needs.getD i [] ∧ cons.getD d none = some i ∧ 2 ≤ kinds.getD d 0)
    (hold : ∀ j, j < k → kinds.getD j 0 = 1 → ∀ v w w', (PV.getD j {}).p v w → Below B w w' → (PV.getD j {}).p v w')
    (hpre : ∀ j, j < k → kinds.getD j 0 = 3 → Own B w (PV.getD j {}).V (PV.getD j {}).l)
    (hpsep : ∀ i j, i < k → j < k → i ≠ j → kinds.getD i 0 = 3 → kinds.getD j 0 = 3 → ∀ b, (PV.getD i {}).V.ownBlock = some b → (PV.getD j {}).V.ownBlock ≠ some b)
    (hstep : ∀ x tm wr, fillA t0 dl 0 x = tm → Below B w wr → B ≤ wr.heap.size → ∀ i, i < k → (∀ d ∈ needs.getD i [], Fct B (kinds.getD d 0) (PV.getD d {}) (cons.getD d none) i (x d) wr) → ∀ K : Act → World → Prop,
      (∀ v w', Eff B (kinds.getD i 0) (PV.getD i {}) (src.getD i none) x v wr w' → K ((⟨tm, df⟩ : Act).put (dl.getD i none) v) w') → wpOp P ops Q i K ⟨tm, df⟩ wr)
    (tail : List Oper) (htl : ops.toList.drop k = tail)
    (hend : ∀ x tm wr, fillA t0 dl 0 x = tm → Below B w wr → (∀ i, i < k → Fin B (kinds.getD i 0) (PV.getD i {}) (cons.getD i none) k (x i) wr) → wpList P ops Q tail ⟨tm, df⟩ wr) :
    (Code.region id ops true).wp P Q ⟨t0, df⟩ w := by
  subst htl
  have hdk : dl.length = k := by rw [← hdl, List.length_map, List.length_take]; simp; omega
  refine wp_region_inv needs (fun L a w' =>
    ((∀ j, k ≤ j → L j = false) ∧ ∃ x, a = ⟨fillA t0 dl 0 x, df⟩ ∧ Below B w w' ∧ Good B k kinds cons PV L x w') ∨
    (∃ m, k < m ∧ m ≤ ops.size ∧ (∀ j, j < ops.size → (L j = true ↔ j < m)) ∧ wpList P ops Q (ops.toList.drop m) a w')) hm hn hord ?_ ?_ ?_
  · refine .inl ⟨fun _ _ => rfl, fun i => match dl[i]? with | some (some d) => t0.getD d undef | _ => undef, ?_, (Below.refl _ _).drew, ⟨fun _ _ h => (by cases h), fun _ _ h => (by cases h), fun i hi hh => ?_, fun i j hi hj hij h1 h2 => ?_⟩⟩
    · rw [fillA_self]
      intro i d hd
      rw [Nat.zero_add]
      simp only [hd]
    · have h3 : kinds.getD i 0 = 3 := by
        rcases hh.2.1 with h | h
        · exact h
        · cases h
      rw [h3]
      exact (hpre i hi h3).drew
    · have h3 : kinds.getD i 0 = 3 := by
        rcases h1.2.1 with h | h
        · exact h
        · cases h
      have h4 : kinds.getD j 0 = 3 := by
        rcases h2.2.1 with h | h
        · exact h
        · cases h
      rw [h3, h4]
      exact hpsep i j hi hj hij h3 h4
  · rintro L a wr hI i hi hL hd K hK
    rcases hI with ⟨hf, x, rfl, hx, hg⟩ | ⟨m, hm1, hm2, hm3, hwl⟩
    · by_cases hik : i < k
      · have hBr : B ≤ wr.heap.size := Nat.le_trans hB hx.size
        refine hstep x _ wr rfl hx hBr i hik (fun d hdd => hg.fct (by have := hord i d hdd; omega) (hd d hdd) hL) K fun v w' hv => ?_
        obtain ⟨hb2, hg2⟩ := hg.step (src := src) hik hL hBr hold (fun d hs h2 => by
          obtain ⟨h3, h4, h5⟩ := hsrc i hik d hs h2
          have := hord i d h3
          exact ⟨by omega, by omega, hd d h3, h4, h5⟩) (hk4 i hik) hv
        refine hK _ _ (.inl ⟨fun j hj => ?_, upd x i v, ?_, hx.trans hb2, hg2⟩)
        · have := hf j hj
          have hne : (j == i) = false := by rw [beq_eq_false_iff_ne]; omega
          show (j == i || L j) = false
          rw [hne, this]; rfl
        · have hdi : dl[i]? = some (dl.getD i none) := by
            rw [List.getD_eq_getElem?_getD, List.getElem?_eq_getElem (by omega)]; rfl
          cases hg : dl.getD i none with
          | none =>
            rw [hg] at hdi
            have := fillA_skip t0 x v dl 0 i (.inl hdi)
            rw [Nat.zero_add] at this
            show (⟨fillA t0 dl 0 x, df⟩ : Act) = _
            rw [← this]
          | some d =>
            rw [hg] at hdi
            have := fillA_put t0 x v d dl 0 i hnd hdi
            rw [Nat.zero_add] at this
            show (⟨(fillA t0 dl 0 x).setIfInBounds d v, df⟩ : Act) = _
            rw [this]
      · have hall : ∀ j, j < i → L j = true := fun j hj => hd j (htail i (by omega) hi j hj)
        have hik2 : i = k := by
          by_cases h : k < i
          · have := hall k h
            rw [hf k (Nat.le_refl _)] at this
            cases this
          · omega
        subst hik2
        have hw := hend x _ wr rfl hx fun j hj => hg.fin hj (hall j hj) hf
        refine wpOp_mono (fun a w' h => hK _ _ (.inr ⟨i + 1, by omega, by omega, fun j hj => ?_, h⟩)) (wpOp_list hi _ rfl hw)
        show (j == i || L j) = true ↔ j < i + 1
        by_cases hji : j = i
        · subst hji; simp
        · have hne : (j == i) = false := by rw [beq_eq_false_iff_ne]; exact hji
          rw [hne, Bool.false_or]
          constructor
          · intro h
            by_cases hlt : j < i
            · omega
            · rw [hf j (by omega)] at h; cases h
          · intro h; exact hall j (by omega)
    · have him : m ≤ i := by
        by_cases h : i < m
        · rw [(hm3 i hi).2 h] at hL; cases hL
        · omega
      have hall : ∀ j, j < i → L j = true := fun j hj => hd j (htail i (by omega) hi j hj)
      have him2 : i = m := by
        by_cases h : m < i
        · have := (hm3 m (by omega)).1 (hall m h); omega
        · omega
      subst him2
      refine wpOp_mono (fun a w' h => hK _ _ (.inr ⟨i + 1, by omega, by omega, fun j hj => ?_, h⟩)) (wpOp_list hi _ rfl hwl)
      show (j == i || L j) = true ↔ j < i + 1
      by_cases hji : j = i
      · subst hji; simp
      · have hne : (j == i) = false := by rw [beq_eq_false_iff_ne]; exact hji
        rw [hne, Bool.false_or, hm3 j hj]
        omega
  · rintro L a wr hI hall
    rcases hI with ⟨hf, x, rfl, hx, hp⟩ | ⟨m, hm1, hm2, hm3, hwl⟩
    · have hks2 : k = ops.size := by
        by_cases h : k < ops.size
        · have := hall k h
          rw [hf k (Nat.le_refl _)] at this
          cases this
        · omega
      have hw := hend x _ wr rfl hx fun j hj => hp.fin hj (hall j (by omega)) hf
      rw [List.drop_of_length_le (by simp; omega)] at hw
      exact hw
    · have : ops.size ≤ m := by
        by_cases h : m < ops.size
        · have := (hm3 m h).1 (hall m h); omega
        · omega
      rw [List.drop_of_length_le (by simp; omega)] at hwl
      exact hwl

/-- An append as an operation of a region. -/
theorem wp_app_of {o : Oper} {a : Act} {w : World} {K : Act → World → Prop} (dst : Option Tmp) (hd : o.dst = dst) (s x : Operand) (t : TypeId)
    (ho : o.op = .call { callee := .builtin .append, args := #[s, x], argTypes := #[t, t] })
    (ht : P.underlying t = some (.slice 5)) (hi : (P.info? 5).map (fun i => (i.zero, i.size, i.bytes)) = some (some (.int .u8 0), 1, 1))
    (B : Nat) (v vx : Value) (l m : List UInt8) (hs : a.eval s = v) (hx : a.eval x = vx) (hown : Own B w v l) (hr : Rd w vx m) (hlen : l.length + m.length ≤ 140737488355328) (hB : B ≤ w.heap.size)
    (h : ∀ v' w', Own B w' v' (l ++ m) → w.grownBy w' v.ownBlock → (v'.ownBlock = v.ownBlock ∨ v'.ownBlock = some w.heap.size) → K (a.put dst v') w') : o.wp P a w K Q := by
  subst hd
  obtain ⟨i, hi0, hz, hsz, hby⟩ := info_parts hi
  obtain ⟨v', w', hr, h2, h3, h5⟩ := app_run (P := P) w t o.type i ht hi0 hz hsz hby B v vx l m hown hr hlen hB
  unfold Oper.wp execOp
  simp only [ho, resolve, invoke, builtin, Sem.run_bind, Sem.run_pure, Result.andThen_ok, List.map_toArray, List.map_cons, List.map_nil, hs, hx, hr]
  exact h _ _ h2 h3 h5
/-- What stays of the static facts, asked once. -/
def statB (k : Nat) (needs : List (List Nat)) (kinds : List Nat) (cons src : List (Option Nat)) : Bool :=
  ((List.range k).all fun i => decide (kinds.getD i 0 ≤ 3)) && (List.range k).all fun i => match src.getD i none with
    | none => true
    | some d => (needs.getD i []).contains d && decide (cons.getD d none = some i) && decide (2 ≤ kinds.getD d 0)
theorem stat4 {k : Nat} {needs : List (List Nat)} {kinds : List Nat} {cons src : List (Option Nat)} (h : statB k needs kinds cons src = true) : ∀ i, i < k → kinds.getD i 0 ≤ 3 := by
  unfold statB at h
  rw [Bool.and_eq_true, List.all_eq_true] at h
  exact fun i hi => of_decide_eq_true (h.1 i (List.mem_range.2 hi))
theorem statS {k : Nat} {needs : List (List Nat)} {kinds : List Nat} {cons src : List (Option Nat)} (h : statB k needs kinds cons src = true) : ∀ i, i < k → ∀ d, src.getD i none = some d → kinds.getD i 0 = 2 → d ∈ needs.getD i [] ∧ cons.getD d none = some i ∧ 2 ≤ kinds.getD d 0 := by
  unfold statB at h
  rw [Bool.and_eq_true, List.all_eq_true, List.all_eq_true] at h
  intro i hi d hd _
  have := h.2 i (List.mem_range.2 hi)
  simp only [hd, Bool.and_eq_true] at this
  obtain ⟨⟨h1, h2⟩, h3⟩ := this
  exact ⟨by simpa using h1, of_decide_eq_true h2, of_decide_eq_true h3⟩
end
end Go.Proofs.YtjbeemoobmagnaaDoor
end

section
namespace Go.Proofs.YtjbeemoobmagnaaDoor
open Go Go.RowKit
set_option linter.unusedVariables false
set_option linter.unusedSimpArgs false
set_option linter.unusedVariables false
set_option linter.unusedSimpArgs false

theorem putL_four (n : Nat) (h : n < 4294967296) : putL n 4 = low n 4 := by
  rcases part_of_put n 4 with ⟨h1, -, -⟩ | ⟨k, hk, h1, -, ⟨-, -, h3⟩ | ⟨h2, -, -⟩⟩
  · exact absurd h1 (by decide)
  · obtain rfl : k = 4 := by omega
    exact h3
  · obtain rfl : k = 4 := by omega
    exact absurd h (by have : (256 : Nat) ^ 4 = 4294967296 := by decide
                       omega)
theorem wp_load_cell {P : Program} {o : Oper} {a : Act} {w : World} {K : Act → World → Prop} {Q : Exit → Act → World → Prop} (dst : Option Tmp) (hdst : o.dst = dst) (ty : TypeId) (x : Operand) (ho : o.op = .load ty x)
    (g k : Nat) (hx : a.eval x = .pointer (some ⟨g, k, none⟩)) (v : Value) (d : TypeDesc) (hc : w.cell? ⟨g, k, none⟩ = some v)
    (hu : P.underlying ty = some d) (hd : (match d with | .struct _ | .array _ _ => true | _ => false) = false)
    (h : K (a.put dst v) w) : o.wp P a w K Q := by
  subst hdst
  have hagg : (isAgg ty).run P w = .ok false w := by
    unfold isAgg
    rw [Sem.run_bind, run_underlying hu w]
    cases d <;> simp_all
  have hl : (loadVar ty ⟨g, k, none⟩).run P w = .ok v w := by
    simp [loadVar, Sem.run_bind, hagg, hc]
  unfold Oper.wp execOp
  simp only [ho, hx, Instr.loadAt, Instr.sureAddr, Sem.run_bind, Sem.run_pure, Result.andThen_ok, hl]
  exact h
/-- A head's bytes. -/
def hdB (p r : List UInt8) (t b n : Nat) : List UInt8 := p ++ (r ++ (low t 4 ++ (low b 4 ++ low n 4)))
theorem hdB_length (p r : List UInt8) (t b n : Nat) (hp : p.length = 32) (hr : r.length = 32) : (hdB p r t b n).length = 76 := by simp [hdB, hp, hr]
theorem hnum_any (n : Nat) (h : n < 4294967296) (w : World) : Calls Tryd.prog 49 #[.int .u32 (n : Int)] w fun e w' => ∃ v', e = .returned v' ∧ Own w.heap.size w' v' (low n 4) ∧ Nx w w' := by
  have H := Lib.hid (put_any n 4 w)
  rw [putL_four n h] at H
  have hw : IntKind.u64.wrap (n : Int) = (n : Int) := by rw [IntKind.wrap_u64, Int.emod_eq_of_lt (by omega) (by omega)]
  generalize low n 4 = l at *
  generalize putE n 4 = E at *
  clear h
  go_enter Tryd.func49, Tryd.ntmps49
  go_wp2_with fail
  refine H.out.mono ?_
  rintro e w1 ⟨v, rfl, o1, n1⟩
  have O1 := Lib.hid o1
  have N1 := Lib.hid n1
  clear o1 n1
  go_wp2_with fail
  go_ret
  exact ⟨_, rfl, O1.out, N1.out⟩
theorem run_mk5 {v1 v2 v3 v4 v5 : Value} (h1 : Sl v1) (h2 : Sl v2) (h3 : Sl v3) (h4 : Sl v4) (h5 : Sl v5) (w : World) :
    (Instr.buildSlice 103 5 #[(0, v1), (1, v2), (2, v3), (3, v4), (4, v5)]).run Tryd.prog w = .ok (.slice (some ⟨w.heap.size, 0, none⟩) 5 5) (w.alloc (.cells #[v1, v2, v3, v4, v5] 34)) := by
  obtain ⟨A, n, c, rfl⟩ := h1
  obtain ⟨A', n', c', rfl⟩ := h2
  obtain ⟨A'', n'', c'', rfl⟩ := h3
  obtain ⟨A3, n3, c3, rfl⟩ := h4
  obtain ⟨A4, n4, c4, rfl⟩ := h5
  kernel_rfl
theorem catAt5 {v1 v2 v3 v4 v5 : Value} {l1 l2 l3 l4 l5 : List UInt8} {w : World} (h1 : Rd w v1 l1) (h2 : Rd w v2 l2) (h3 : Rd w v3 l3) (h4 : Rd w v4 l4) (h5 : Rd w v5 l5) : CatAt (.slice (some ⟨w.heap.size, 0, none⟩) 5 5) [l1, l2, l3, l4, l5] (w.alloc (.cells #[v1, v2, v3, v4, v5] 34)) :=
  ⟨w.heap.size, [v1, v2, v3, v4, v5], rfl, heap_alloc_new w _, (Vs.cons (h1.alloc _) (Vs.cons (h2.alloc _) (Vs.cons (h3.alloc _) (Vs.cons (h4.alloc _) (Vs.cons (h5.alloc _) (Vs.nil _))))))⟩
set_option maxRecDepth 100000 in
set_option maxHeartbeats 4000000 in
theorem hput_any (p r : List UInt8) (t b n : Nat) (hp : p.length = 32) (hr : r.length = 32) (ht : t < 4294967296) (hb : b < 4294967296) (hn : n < 4294967296) (w : World) :
    Calls Tryd.prog 18 #[.agg (hdc p r t b n)] w fun e w' => ∃ v, e = .returned v ∧ Own w.heap.size w' v (hdB p r t b n) ∧ Nx w w' := by
  have HN1 := Lib.hid (fun w => hnum_any t ht w)
  have HN2 := Lib.hid (fun w => hnum_any b hb w)
  have HN3 := Lib.hid (fun w => hnum_any n hn w)
  have HL1 := Lib.hid (low_length t 4)
  have HL2 := Lib.hid (low_length b 4)
  have HL3 := Lib.hid (low_length n 4)
  unfold hdB
  generalize low t 4 = B1 at *
  generalize low b 4 = B2 at *
  generalize low n 4 = B3 at *
  have HT := Lib.hid hp
  have HU := Lib.hid hr
  have HCT := Lib.hid (hd_t p r t b n hp hr)
  have HCB := Lib.hid (hd_b p r t b n hp hr)
  have HCN := Lib.hid (hd_n p r t b n hp hr)
  have HSL := Lib.hid (fun w' => slice_arr_at (P := Tryd.prog) 30 5 32 Tryd.underlying30 Tryd.sizeOf5 w.heap.size 0 (by omega) w')
  have HSM := Lib.hid (fun w' => slice_arr_at (P := Tryd.prog) 30 5 32 Tryd.underlying30 Tryd.sizeOf5 w.heap.size 32 (by omega) w')
  have HCC : Hid (∀ (wr : World) (x : Value), CatAt x [p, r, B1, B2, B3] wr → w.heap.size ≤ wr.heap.size → Calls Tryd.prog 48 #[x] wr fun e w' => ∃ v, e = .returned v ∧ Own w.heap.size w' v (p ++ (r ++ (B1 ++ (B2 ++ B3)))) ∧ Nx wr w') := Lib.hid fun wr x h hB => by
    have := concat_at wr h (by simp) (by have := HL1.out; have := HL2.out; have := HL3.out; have := HT.out; have := HU.out; simp only [List.flatten_cons, List.flatten_nil, List.append_nil, List.length_append]; omega) _ hB
    simpa only [List.flatten_cons, List.flatten_nil, List.append_nil] using this
  have RP0 := Row.new w (hdc p r t b n) 32 _ rfl
  have NW := Lib.hid ((Nx.refl w).alloc (.cells (hdc p r t b n) 32))
  generalize p ++ (r ++ (B1 ++ (B2 ++ B3))) = L at *
  clear hp hr ht hb hn
  go_enter Tryd.func18, Tryd.ntmps18
  go_wp2_with fail
  have RT := Lib.hid (hd_rdp RP0 HT.out)
  have RU := Lib.hid (hd_rdr RP0 HT.out HU.out)
  have HWS := NW.out.size
  generalize w.alloc (.cells (hdc p r t b n) 32) = W at *
  refine wp_region_nx 16 [[], [0], [], [2], [], [4], [5], [], [7], [8, 6], [], [10], [11, 9], [1, 3, 6, 9, 12], [13, 12], [14, 14, 0, 1, 2, 3, 4, 5, 6, 7, 8, 9, 10, 11, 12, 13, 14]] [some 3, some 4, some 5, some 6, some 7, some 8, some 9, some 10, some 11, some 12, some 13, some 14, some 15, some 16, some 17, some 2]
    [.eq (.pointer (some ⟨w.heap.size, 0, none⟩)), .eq (.slice (some ⟨w.heap.size, 0, none⟩) 32 32), .eq (.pointer (some ⟨w.heap.size, 32, none⟩)), .eq (.slice (some ⟨w.heap.size, 32, none⟩) 32 32), .eq (.pointer (some ⟨w.heap.size, 64, none⟩)), .eq (.int .u32 (t : Int)), .rd (B1), .eq (.pointer (some ⟨w.heap.size, 65, none⟩)), .eq (.int .u32 (b : Int)), .rd (B2), .eq (.pointer (some ⟨w.heap.size, 66, none⟩)), .eq (.int .u32 (n : Int)), .rd (B3), ⟨fun v w => CatAt v [p, r, B1, B2, B3] w, fun _ _ _ h k => h.nx k⟩, .own w.heap.size L, .own w.heap.size L]
    (by kernel_rfl) (by kernel_rfl) (hord_of (by decide)) (by kernel_rfl) (by decide) (by decide) (htail_of (by decide)) ?_ _ (by rfl) ?_
  · intro x tm wr htm hx i hi hd K hK
    simp only [fillA, List.setIfInBounds_toArray, List.set_cons_zero, List.set_cons_succ] at htm
    subst htm
    have hcs : i = 0 ∨ i = 1 ∨ i = 2 ∨ i = 3 ∨ i = 4 ∨ i = 5 ∨ i = 6 ∨ i = 7 ∨ i = 8 ∨ i = 9 ∨ i = 10 ∨ i = 11 ∨ i = 12 ∨ i = 13 ∨ i = 14 ∨ i = 15 := by omega
    clear hi
    rcases hcs with rfl | rfl | rfl | rfl | rfl | rfl | rfl | rfl | rfl | rfl | rfl | rfl | rfl | rfl | rfl | rfl
    · exact wpOp_of rfl rfl (wp_val_of (some 3) rfl (.pointer (some ⟨w.heap.size, 0, none⟩)) (by kernel_rfl) (hK _ _ rfl (Nx.refl _)))
    · have e0 : x 0 = .pointer (some ⟨w.heap.size, 0, none⟩) := hd 0 (by decide)
      generalize x 0 = y0 at e0 hK ⊢
      subst e0
      exact wpOp_of rfl rfl (wp_slice_of (some 4) rfl 30 (.tmp 3) none none none rfl (.slice (some ⟨w.heap.size, 0, none⟩) 32 32) (HSL.out wr) (hK _ _ rfl (Nx.refl _)))
    · exact wpOp_of rfl rfl (wp_val_of (some 5) rfl (.pointer (some ⟨w.heap.size, 32, none⟩)) (by kernel_rfl) (hK _ _ rfl (Nx.refl _)))
    · have e2 : x 2 = .pointer (some ⟨w.heap.size, 32, none⟩) := hd 2 (by decide)
      generalize x 2 = y2 at e2 hK ⊢
      subst e2
      exact wpOp_of rfl rfl (wp_slice_of (some 6) rfl 30 (.tmp 5) none none none rfl (.slice (some ⟨w.heap.size, 32, none⟩) 32 32) (HSM.out wr) (hK _ _ rfl (Nx.refl _)))
    · exact wpOp_of rfl rfl (wp_val_of (some 7) rfl (.pointer (some ⟨w.heap.size, 64, none⟩)) (by kernel_rfl) (hK _ _ rfl (Nx.refl _)))
    · have e4 : x 4 = .pointer (some ⟨w.heap.size, 64, none⟩) := hd 4 (by decide)
      generalize x 4 = y4 at e4 hK ⊢
      subst e4
      exact wpOp_of rfl rfl (wp_load_cell (some 8) rfl 22 (.tmp 7) rfl (w.heap.size) 64 rfl (.int .u32 (t : Int)) _ ((RP0.nx hx).cell HCT.out) Tryd.underlying22 rfl (hK _ _ rfl (Nx.refl _)))
    · have e5 : x 5 = .int .u32 (t : Int) := hd 5 (by decide)
      generalize x 5 = y5 at e5 hK ⊢
      subst e5
      refine wpOp_of rfl rfl (wp_callp_of (some 9) rfl 49 #[(.int .u32 (t : Int))] (by kernel_rfl) (fun v w' => Rd w' v (B1)) ?_ hK)
      exact (HN1.out wr).mono fun _ _ ⟨v, h1, h2, h3⟩ => ⟨v, h1, h2.rd, h3⟩
    · exact wpOp_of rfl rfl (wp_val_of (some 10) rfl (.pointer (some ⟨w.heap.size, 65, none⟩)) (by kernel_rfl) (hK _ _ rfl (Nx.refl _)))
    · have e7 : x 7 = .pointer (some ⟨w.heap.size, 65, none⟩) := hd 7 (by decide)
      generalize x 7 = y7 at e7 hK ⊢
      subst e7
      exact wpOp_of rfl rfl (wp_load_cell (some 11) rfl 22 (.tmp 10) rfl (w.heap.size) 65 rfl (.int .u32 (b : Int)) _ ((RP0.nx hx).cell HCB.out) Tryd.underlying22 rfl (hK _ _ rfl (Nx.refl _)))
    · have e8 : x 8 = .int .u32 (b : Int) := hd 8 (by decide)
      have r6 : Rd wr (x 6) (B1) := hd 6 (by decide)
      generalize x 8 = y8 at e8 hK ⊢
      subst e8
      refine wpOp_of rfl rfl (wp_callp_of (some 12) rfl 49 #[(.int .u32 (b : Int))] (by kernel_rfl) (fun v w' => Rd w' v (B2)) ?_ hK)
      exact (HN2.out wr).mono fun _ _ ⟨v, h1, h2, h3⟩ => ⟨v, h1, h2.rd, h3⟩
    · exact wpOp_of rfl rfl (wp_val_of (some 13) rfl (.pointer (some ⟨w.heap.size, 66, none⟩)) (by kernel_rfl) (hK _ _ rfl (Nx.refl _)))
    · have e10 : x 10 = .pointer (some ⟨w.heap.size, 66, none⟩) := hd 10 (by decide)
      generalize x 10 = y10 at e10 hK ⊢
      subst e10
      exact wpOp_of rfl rfl (wp_load_cell (some 14) rfl 22 (.tmp 13) rfl (w.heap.size) 66 rfl (.int .u32 (n : Int)) _ ((RP0.nx hx).cell HCN.out) Tryd.underlying22 rfl (hK _ _ rfl (Nx.refl _)))
    · have e11 : x 11 = .int .u32 (n : Int) := hd 11 (by decide)
      have r9 : Rd wr (x 9) (B2) := hd 9 (by decide)
      generalize x 11 = y11 at e11 hK ⊢
      subst e11
      refine wpOp_of rfl rfl (wp_callp_of (some 15) rfl 49 #[(.int .u32 (n : Int))] (by kernel_rfl) (fun v w' => Rd w' v (B3)) ?_ hK)
      exact (HN3.out wr).mono fun _ _ ⟨v, h1, h2, h3⟩ => ⟨v, h1, h2.rd, h3⟩
    · have e1 : x 1 = .slice (some ⟨w.heap.size, 0, none⟩) 32 32 := hd 1 (by decide)
      have e3 : x 3 = .slice (some ⟨w.heap.size, 32, none⟩) 32 32 := hd 3 (by decide)
      have r6 : Rd wr (x 6) (B1) := hd 6 (by decide)
      have r9 : Rd wr (x 9) (B2) := hd 9 (by decide)
      have r12 : Rd wr (x 12) (B3) := hd 12 (by decide)
      generalize x 1 = y1 at e1 hK ⊢
      subst e1
      generalize x 3 = y3 at e3 hK ⊢
      subst e3
      have RA := (RT.out.nx hx)
      have RB := (RU.out.nx hx)
      refine wpOp_of rfl rfl (wp_mk_of (some 16) rfl 103 5 _ rfl (#[(0, .slice (some ⟨w.heap.size, 0, none⟩) 32 32), (1, .slice (some ⟨w.heap.size, 32, none⟩) 32 32), (2, x 6), (3, x 9), (4, x 12)]) (by kernel_rfl) _ _ (run_mk5 RA.sl RB.sl r6.sl r9.sl r12.sl wr) (hK _ _ ?_ ((Nx.refl wr).alloc _)))
      exact catAt5 RA RB r6 r9 r12
    · have r13 := hd 13 (by decide)
      have r12 : Rd wr (x 12) (B3) := hd 12 (by decide)
      refine wpOp_of rfl rfl (wp_callp_of (some 17) rfl 48 #[x 13] (by kernel_rfl) (fun v w1 => Own w.heap.size w1 v L) (HCC.out wr _ r13 (Nat.le_trans HWS hx.size)) hK)
    · have r14 := hd 14 (by decide)
      exact wpOp_of rfl rfl (wp_val_of (some 2) rfl (x 14) (by kernel_rfl) (hK _ _ r14 (Nx.refl _)))
  · intro x tm wr htm hx hv
    simp only [fillA, List.setIfInBounds_toArray, List.set_cons_zero, List.set_cons_succ] at htm
    subst htm
    have r15 := hv 15 (by decide)
    go_wp2_with fail
    go_ret
    exact ⟨_, rfl, r15, NW.out.trans hx⟩
end Go.Proofs.YtjbeemoobmagnaaDoor
end
