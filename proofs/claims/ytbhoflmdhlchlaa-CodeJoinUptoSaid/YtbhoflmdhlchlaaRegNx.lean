/- A REGION THAT DRAWS ITS ORDER: operations that read, call and make memory, in whatever order, and behind them, in their order, what waits for all of them; of our own. -/
import Derived.Test.YtbhoflmdhlchlaaRegLaws
namespace Go.Proofs.Ytbhoflmdhlchlaa
open Go Go.RowKit
set_option linter.unusedVariables false
set_option linter.unusedSimpArgs false

/-- What holds of a value, and goes on to hold. -/
structure PP where
  p : Value → World → Prop
  nx : ∀ v w w', p v w → Nx w w' → p v w'
def PP.any : PP := ⟨fun _ _ => True, fun _ _ _ _ _ => trivial⟩
def PP.eq (V : Value) : PP := ⟨fun v _ => v = V, fun _ _ _ h _ => h⟩
def PP.rd (l : List UInt8) : PP := ⟨fun v w => Rd w v l, fun _ _ _ h k => h.nx k⟩
def PP.own (B : Nat) (l : List UInt8) : PP := ⟨fun v w => Own B w v l, fun _ _ _ h k => h.nx k⟩
def PP.row (B : Nat) (cs : Array Value) (t : TypeId) : PP := ⟨fun v w => ∃ g, v = .pointer (some ⟨g, 0, none⟩) ∧ B ≤ g ∧ Row w g cs t, fun _ _ _ ⟨g, h1, h2, h3⟩ k => ⟨g, h1, h2, h3.nx k⟩⟩

/-- The slots of the operations, filled. -/
def fillA (t0 : Array Value) : List (Option Tmp) → Nat → (Nat → Value) → Array Value
  | [], _, _ => t0
  | none :: ds, i, x => fillA t0 ds (i + 1) x
  | some d :: ds, i, x => (fillA t0 ds (i + 1) x).setIfInBounds d (x i)
def upd (x : Nat → Value) (i : Nat) (v : Value) : Nat → Value := fun j => if j = i then v else x j
theorem fillA_same (t0 : Array Value) (x y : Nat → Value) : ∀ (dl : List (Option Tmp)) (n : Nat), (∀ j, n ≤ j → x j = y j) → fillA t0 dl n x = fillA t0 dl n y
  | [], _, _ => rfl
  | none :: ds, n, h => fillA_same t0 x y ds (n + 1) fun j hj => h j (by omega)
  | some d :: ds, n, h => by
    show (fillA t0 ds (n + 1) x).setIfInBounds d (x n) = (fillA t0 ds (n + 1) y).setIfInBounds d (y n)
    rw [fillA_same t0 x y ds (n + 1) fun j hj => h j (by omega), h n (Nat.le_refl _)]
theorem fillA_self (t0 : Array Value) (x : Nat → Value) : ∀ (dl : List (Option Tmp)) (n : Nat), (∀ i d, dl[i]? = some (some d) → x (n + i) = t0.getD d undef) → fillA t0 dl n x = t0
  | [], _, _ => rfl
  | none :: ds, n, h => fillA_self t0 x ds (n + 1) fun i d hd => by
    have := h (i + 1) d (by simpa using hd)
    rwa [show n + (i + 1) = n + 1 + i by omega] at this
  | some d :: ds, n, h => by
    have h0 := h 0 d rfl
    show (fillA t0 ds (n + 1) x).setIfInBounds d (x n) = t0
    rw [fillA_self t0 x ds (n + 1) fun i d hd => by
      have := h (i + 1) d (by simpa using hd)
      rwa [show n + (i + 1) = n + 1 + i by omega] at this]
    rw [Nat.add_zero] at h0
    rw [h0]
    apply Array.ext
    · simp
    · intro i h1 h2
      rw [Array.getElem_setIfInBounds (by simpa using h2)]
      split
      · rename_i e; subst e; simp [Array.getD, h2]
      · rfl
theorem fillA_put (t0 : Array Value) (x : Nat → Value) (v : Value) (d : Tmp) : ∀ (dl : List (Option Tmp)) (n i : Nat), (dl.filterMap id).Nodup → dl[i]? = some (some d) → (fillA t0 dl n x).setIfInBounds d v = fillA t0 dl n (upd x (n + i) v)
  | [], _, _, _, h => by simp at h
  | none :: ds, n, 0, _, h => by simp at h
  | none :: ds, n, i + 1, hn, h => by
    have := fillA_put t0 x v d ds (n + 1) i (by simpa using hn) (by simpa using h)
    rwa [show n + 1 + i = n + (i + 1) by omega] at this
  | some d' :: ds, n, 0, _, h => by
    obtain rfl : d' = d := by simpa using h
    show ((fillA t0 ds (n + 1) x).setIfInBounds d' (x n)).setIfInBounds d' v = (fillA t0 ds (n + 1) (upd x (n + 0) v)).setIfInBounds d' (upd x (n + 0) v n)
    rw [set_twice, fillA_same t0 (upd x (n + 0) v) x ds (n + 1) fun j hj => by unfold upd; rw [if_neg (by omega)]]
    unfold upd
    rw [if_pos (by omega)]
  | some d' :: ds, n, i + 1, hn, h => by
    have hn2 : (d' :: ds.filterMap id).Nodup := by simpa using hn
    rw [List.nodup_cons] at hn2
    have hi : ds[i]? = some (some d) := by simpa using h
    have hne : d' ≠ d := fun e => hn2.1 (by
      rw [List.mem_filterMap]
      exact ⟨some d, List.mem_of_getElem? hi, by rw [e]; rfl⟩)
    show ((fillA t0 ds (n + 1) x).setIfInBounds d' (x n)).setIfInBounds d v = (fillA t0 ds (n + 1) (upd x (n + (i + 1)) v)).setIfInBounds d' (upd x (n + (i + 1)) v n)
    rw [Array.setIfInBounds_comm _ _ hne, fillA_put t0 x v d ds (n + 1) i hn2.2 hi, show n + 1 + i = n + (i + 1) by omega]
    unfold upd
    rw [if_neg (show ¬ n = n + (i + 1) by omega)]
theorem fillA_skip (t0 : Array Value) (x : Nat → Value) (v : Value) : ∀ (dl : List (Option Tmp)) (n i : Nat), (dl[i]? = some none ∨ dl[i]? = none) → fillA t0 dl n x = fillA t0 dl n (upd x (n + i) v)
  | [], _, _, _ => rfl
  | none :: ds, n, 0, _ => fillA_same t0 _ _ ds (n + 1) fun j hj => by unfold upd; rw [if_neg (by omega)]
  | some d :: ds, n, 0, h => by simp at h
  | none :: ds, n, i + 1, h => by
    have := fillA_skip t0 x v ds (n + 1) i (by simpa using h)
    rwa [show n + 1 + i = n + (i + 1) by omega] at this
  | some d :: ds, n, i + 1, h => by
    have := fillA_skip t0 x v ds (n + 1) i (by simpa using h)
    rw [show n + 1 + i = n + (i + 1) by omega] at this
    show (fillA t0 ds (n + 1) x).setIfInBounds d (x n) = (fillA t0 ds (n + 1) (upd x (n + (i + 1)) v)).setIfInBounds d (upd x (n + (i + 1)) v n)
    rw [← this]
    unfold upd
    rw [if_neg (show ¬ n = n + (i + 1) by omega)]

section
variable {P : Program} {ops : Array Oper} {Q : Exit → Act → World → Prop}
theorem wpOp_list {i : Nat} (h : i < ops.size) (rest : List Oper) (hr : rest = ops.toList.drop (i + 1)) {a : Act} {w : World} (hw : wpList P ops Q (ops.toList.drop i) a w) : wpOp P ops Q i (wpList P ops Q rest) a w := by
  subst hr
  have ho : ops[i]? = some ops[i] := by simp [h]
  rw [List.drop_eq_getElem_cons (by simpa using h)] at hw
  unfold wpOp
  rw [ho]
  exact hw

/-- The region: what holds of each operation's value; the tail in its order. -/
theorem wp_region_nx {id : Nat} {t0 : Array Value} {df : List Deferred} {w : World} (k : Nat) (needs : List (List Nat)) (dl : List (Option Tmp)) (PV : List PP)
    (hm : P.follows .mixedOrders = true) (hn : needsOf .any ops = needs) (hord : ∀ i, ∀ d ∈ needs.getD i [], d < i)
    (hdl : (ops.toList.take k).map (·.dst) = dl) (hks : k ≤ ops.size) (hnd : (dl.filterMap _root_.id).Nodup)
    (htail : ∀ j, k ≤ j → j < ops.size → ∀ i, i < j → i ∈ needs.getD j [])
    (hstep : ∀ x tm wr, fillA t0 dl 0 x = tm → Nx w wr → ∀ i, i < k → (∀ d ∈ needs.getD i [], (PV.getD d PP.any).p (x d) wr) → ∀ K : Act → World → Prop,
      (∀ v w', (PV.getD i PP.any).p v w' → Nx wr w' → K ((⟨tm, df⟩ : Act).put (dl.getD i none) v) w') → wpOp P ops Q i K ⟨tm, df⟩ wr)
    (tail : List Oper) (htl : ops.toList.drop k = tail)
    (hend : ∀ x tm wr, fillA t0 dl 0 x = tm → Nx w wr → (∀ i, i < k → (PV.getD i PP.any).p (x i) wr) → wpList P ops Q tail ⟨tm, df⟩ wr) :
    (Code.region id ops true).wp P Q ⟨t0, df⟩ w := by
  subst htl
  have hdk : dl.length = k := by rw [← hdl, List.length_map, List.length_take]; simp; omega
  refine wp_region_inv needs (fun L a w' =>
    ((∀ j, k ≤ j → j < ops.size → L j = false) ∧ ∃ x, a = ⟨fillA t0 dl 0 x, df⟩ ∧ Nx w w' ∧ ∀ i, i < k → L i = true → (PV.getD i PP.any).p (x i) w') ∨
    (∃ m, k < m ∧ m ≤ ops.size ∧ (∀ j, j < ops.size → (L j = true ↔ j < m)) ∧ wpList P ops Q (ops.toList.drop m) a w')) hm hn hord ?_ ?_ ?_
  · refine .inl ⟨fun _ _ _ => rfl, fun i => match dl[i]? with | some (some d) => t0.getD d undef | _ => undef, ?_, (Nx.refl w).drew, fun _ _ h => by cases h⟩
    rw [fillA_self]
    intro i d hd
    rw [Nat.zero_add]
    simp only [hd]
  · rintro L a wr hI i hi hL hd K hK
    rcases hI with ⟨hf, x, rfl, hx, hp⟩ | ⟨m, hm1, hm2, hm3, hwl⟩
    · by_cases hik : i < k
      · refine hstep x _ wr rfl hx i hik (fun d hdd => hp d (by have := hord i d hdd; omega) (hd d hdd)) K fun v w' hv hnx => hK _ _ (.inl ⟨fun j hj hjs => ?_, upd x i v, ?_, hx.trans hnx, fun j hj hLj => ?_⟩)
        · have := hf j hj hjs
          have hne : (j == i) = false := by rw [beq_eq_false_iff_ne]; omega
          show (j == i || L j) = false
          rw [hne, this]; rfl
        · have hdi : dl[i]? = some (dl.getD i none) := by
            rw [List.getD_eq_getElem?_getD, List.getElem?_eq_getElem (by omega)]; rfl
          cases hg : dl.getD i none with
          | none =>
            rw [hg] at hdi
            have := fillA_skip t0 x v dl 0 i (.inl hdi)
            rw [Nat.zero_add] at this
            show (⟨fillA t0 dl 0 x, df⟩ : Act) = _
            rw [← this]
          | some d =>
            rw [hg] at hdi
            have := fillA_put t0 x v d dl 0 i hnd hdi
            rw [Nat.zero_add] at this
            show (⟨(fillA t0 dl 0 x).setIfInBounds d v, df⟩ : Act) = _
            rw [this]
        · by_cases hji : j = i
          · subst hji
            unfold upd
            rw [if_pos rfl]
            exact hv
          · have hne : (j == i) = false := by rw [beq_eq_false_iff_ne]; exact hji
            replace hLj : (j == i || L j) = true := hLj
            rw [hne, Bool.false_or] at hLj
            unfold upd
            rw [if_neg hji]
            exact (PV.getD j PP.any).nx _ _ _ (hp j hj hLj) hnx
      · have hall : ∀ j, j < i → L j = true := fun j hj => hd j (htail i (by omega) hi j hj)
        have hik2 : i = k := by
          by_cases h : k < i
          · have := hall k h
            rw [hf k (Nat.le_refl _) (by omega)] at this
            cases this
          · omega
        subst hik2
        have hw := hend x _ wr rfl hx fun j hj => hp j hj (hall j hj)
        refine wpOp_mono (fun a w' h => hK _ _ (.inr ⟨i + 1, by omega, by omega, fun j hj => ?_, h⟩)) (wpOp_list hi _ rfl hw)
        show (j == i || L j) = true ↔ j < i + 1
        by_cases hji : j = i
        · subst hji; simp
        · have hne : (j == i) = false := by rw [beq_eq_false_iff_ne]; exact hji
          rw [hne, Bool.false_or]
          constructor
          · intro h
            by_cases hlt : j < i
            · omega
            · rw [hf j (by omega) hj] at h; cases h
          · intro h; exact hall j (by omega)
    · have him : m ≤ i := by
        by_cases h : i < m
        · rw [(hm3 i hi).2 h] at hL; cases hL
        · omega
      have hall : ∀ j, j < i → L j = true := fun j hj => hd j (htail i (by omega) hi j hj)
      have him2 : i = m := by
        by_cases h : m < i
        · have := (hm3 m (by omega)).1 (hall m h); omega
        · omega
      subst him2
      refine wpOp_mono (fun a w' h => hK _ _ (.inr ⟨i + 1, by omega, by omega, fun j hj => ?_, h⟩)) (wpOp_list hi _ rfl hwl)
      show (j == i || L j) = true ↔ j < i + 1
      by_cases hji : j = i
      · subst hji; simp
      · have hne : (j == i) = false := by rw [beq_eq_false_iff_ne]; exact hji
        rw [hne, Bool.false_or, hm3 j hj]
        omega
  · rintro L a wr hI hall
    rcases hI with ⟨hf, x, rfl, hx, hp⟩ | ⟨m, hm1, hm2, hm3, hwl⟩
    · have hks2 : k = ops.size := by
        by_cases h : k < ops.size
        · have := hall k h
          rw [hf k (Nat.le_refl _) h] at this
          cases this
        · omega
      have hw := hend x _ wr rfl hx fun j hj => hp j hj (hall j (by omega))
      rw [List.drop_of_length_le (by simp; omega)] at hw
      exact hw
    · have : ops.size ≤ m := by
        by_cases h : m < ops.size
        · have := (hm3 m h).1 (hall m h); omega
        · omega
      rw [List.drop_of_length_le (by simp; omega)] at hwl
      exact hwl
theorem htail_of {needs : List (List Nat)} {k n : Nat} (h : ((List.range n).all fun j => decide (j < k) || (List.range j).all fun i => (needs.getD j []).contains i) = true) : ∀ j, k ≤ j → j < n → ∀ i, i < j → i ∈ needs.getD j [] := by
  intro j hj hn i hi
  rw [List.all_eq_true] at h
  have h1 := h j (List.mem_range.2 hn)
  rw [Bool.or_eq_true] at h1
  rcases h1 with h1 | h1
  · have := of_decide_eq_true h1; omega
  · rw [List.all_eq_true] at h1
    have := h1 i (List.mem_range.2 hi)
    simpa using this
end
end Go.Proofs.Ytbhoflmdhlchlaa
