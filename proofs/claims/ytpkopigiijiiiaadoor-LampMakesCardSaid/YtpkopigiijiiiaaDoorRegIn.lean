/- OUR LAWS OF REGIONS THAT DRAW THEIR ORDER, INSIDE A FENCE: in the body of a range over a function too. -/
import Derived.RangeFuncNested
import Derived.RangeFuncBound
import Derived.RangeFuncCalls
import Derived.RangeFuncLeaves
import Derived.RangeFuncFrom
import Derived.OrdersIn
import Derived.TacticsIn
import Derived.Test.YtpkopigiijiiiaaDoorRegB
import Derived.Test.YtpkopigiijiiiaaDoorTb
namespace Go.Proofs.YtpkopigiijiiiaaDoor
open Go Go.RowKit
set_option linter.unusedVariables false
set_option linter.unusedSimpArgs false
set_option linter.unusedVariables false
set_option linter.unusedSimpArgs false

/-- A wide fence, in a round or in none. -/
def wideR (ro : Option Nat) : Fence := { Fence.wide with round := ro }
theorem Oper.wpIn_of_wp {nf : Nat} {P : Program} {o : Oper} {a : Act} {w : World} {K : Act → World → Prop} {Q : Exit → Act → World → Prop} (ro : Option Nat) (hd : ∀ c, o.op ≠ .defer c) (h : o.wp P a w K Q) : o.wpIn (wideR ro) nf P a w K Q := by
  refine ⟨fun _ _ => trivial, ?_⟩
  show o.uponIn (wideR ro) nf P a K Q ((o.semAt ro a.eval).run P w)
  rw [Oper.semAt_eq _ _ _ hd]
  unfold Oper.wp at h
  generalize (execOp a.eval o).run P w = r at *
  have hdn : (wideR ro).depth.isSome = true → 1 ≤ nf := fun h => by cases h
  match r, h with
  | .ok (.value v) w', h => exact h
  | .ok .skip w', h => exact h
  | .ok (.defer d) w', h => exact h
  | .ok (.enter f args) w', h =>
    refine ⟨hdn, ?_⟩
    have h2 : CallsIn Fence.wide (nf - 1) P f args w' _ := callsIn_wide.2 h
    have h3 : CallsIn (wideR ro) (nf - 1) P f args w' _ := h2
    exact h3.mono fun e w h => by cases e <;> exact h
  | .ok (.row row args) w', h =>
    refine ⟨hdn, fun c cs _ => ?_⟩
    obtain ⟨v, w2, h1, h2⟩ := h c cs
    exact ⟨v, w2, h1, stepsIn_wide.2 h2⟩
  | .halt (.panic v) w', h => exact h
section
variable {P : Program} {ops : Array Oper} {Q : Exit → Act → World → Prop} {md : Region.Mode} {nf : Nat}
theorem wpOpI_of {i : Nat} {o : Oper} {K : Act → World → Prop} {a : Act} {w : World} (ro : Option Nat) (ho : ops[i]? = some o) (hd : ∀ c, o.op ≠ .defer c) (hg : o.guard = none) (h : o.wp P a w K Q) : wpOpIn (wideR ro) nf P ops Q i K a w := by
  unfold wpOpIn
  rw [ho]
  show if Region.wanted o (yielded ops a.tmps) = true then _ else _
  rw [if_pos (by unfold Region.wanted; rw [hg])]
  exact Oper.wpIn_of_wp ro hd h
variable {F : Fence}
theorem wpAnyIn_inv {needs : List (List Nat)} (hn : needsOf md ops = needs) (hord : ∀ i, ∀ d ∈ needs.getD i [], d < i) (I : (Nat → Bool) → Act → World → Prop)
    (hstep : ∀ L a w, I L a w → ∀ i, i < ops.size → L i = false → (∀ d ∈ needs.getD i [], L d = true) → ∀ K : Act → World → Prop, (∀ a w, I (fun j => j == i || L j) a w → K a w) → wpOpIn F nf P ops Q i K a w)
    (hend : ∀ L a w, I L a w → (∀ i, i < ops.size → L i = true) → Q .normal a w) :
    ∀ fuel (listed : Array Bool) a w, listed.size = ops.size → left listed ≤ fuel → I (fun j => listed.getD j false) a w → wpAnyIn F nf P md ops Q fuel listed a w := by
  subst hn
  intro fuel
  induction fuel with
  | zero =>
    intro listed a w hl hf hI
    have hr : Region.ready md ops listed = [] := by
      cases h : Region.ready md ops listed with
      | nil => rfl
      | cons x xs =>
        have hx := (ready_needs (h ▸ List.mem_cons_self : x ∈ Region.ready md ops listed)).2.1
        have := left_set hx
        omega
    exact ⟨hr, hend _ _ _ hI (ready_nil hl hord hr)⟩
  | succ fuel ih =>
    intro listed a w hl hf hI
    refine ⟨fun hr => hend _ _ _ hI (ready_nil hl hord hr), fun i hi => ?_⟩
    obtain ⟨h1, h2, h3⟩ := ready_needs hi
    have hs := left_set h2
    refine hstep _ a w hI i h1 ?_ h3 _ fun a' w' hI' => ih _ a' w' (by simp [hl]) (by omega) ?_
    · rw [Array.getD_eq_getD_getElem?] at h2 ⊢
      have : listed[i]? = some listed[i] := by simp [hl, h1]
      rw [this] at h2 ⊢
      exact h2
    · have e : (fun j => (listed.setIfInBounds i true).getD j false) = fun j => j == i || listed.getD j false := funext fun j => getD_set (by omega) j
      rw [e]; exact hI'

/-- The region, by what holds. -/
theorem wpIn_region_inv {id : Nat} {a : Act} {w : World} (needs : List (List Nat)) (I : (Nat → Bool) → Act → World → Prop) (hm : P.follows .mixedOrders = true) (hn : needsOf .any ops = needs) (hord : ∀ i, ∀ d ∈ needs.getD i [], d < i)
    (h0 : I (fun _ => false) a w.drew)
    (hstep : ∀ L a w, I L a w → ∀ i, i < ops.size → L i = false → (∀ d ∈ needs.getD i [], L d = true) → ∀ K : Act → World → Prop, (∀ a w, I (fun j => j == i || L j) a w → K a w) → wpOpIn F nf P ops Q i K a w)
    (hend : ∀ L a w, I L a w → (∀ i, i < ops.size → L i = true) → Q .normal a w) : (Code.region id ops true).wpIn F nf P Q a w := by
  refine wpIn_region_any hm (wpAnyIn_inv hn hord I hstep hend _ _ _ _ (by simp) ?_ ?_)
  · unfold left
    rw [Array.toList_replicate]
    exact Nat.le_trans (List.count_le_length) (by simp)
  · have e : (fun j => (Array.replicate ops.size false).getD j false) = fun _ => false := by
      funext j
      rw [Array.getD_eq_getD_getElem?, Array.getElem?_replicate]
      split <;> rfl
    rw [e]; exact h0
theorem wpOpIn_list {i : Nat} (h : i < ops.size) (rest : List Oper) (hr : rest = ops.toList.drop (i + 1)) {a : Act} {w : World} (hw : wpListIn F nf P ops Q (ops.toList.drop i) a w) : wpOpIn F nf P ops Q i (wpListIn F nf P ops Q rest) a w := by
  subst hr
  have ho : ops[i]? = some ops[i] := by simp [h]
  rw [List.drop_eq_getElem_cons (by simpa using h)] at hw
  unfold wpOpIn
  rw [ho]
  exact hw

/-- The region: what holds of each operation's value; the tail in its order. -/
theorem wpIn_region_nx {id : Nat} {t0 : Array Value} {df : List Deferred} {w : World} (k : Nat) (needs : List (List Nat)) (dl : List (Option Tmp)) (PV : List PP)
    (hm : P.follows .mixedOrders = true) (hn : needsOf .any ops = needs) (hord : ∀ i, ∀ d ∈ needs.getD i [], d < i)
    (hdl : (ops.toList.take k).map (·.dst) = dl) (hks : k ≤ ops.size) (hnd : (dl.filterMap _root_.id).Nodup)
    (htail : ∀ j, k ≤ j → j < ops.size → ∀ i, i < j → i ∈ needs.getD j [])
    (hstep : ∀ x tm wr, fillA t0 dl 0 x = tm → Nx w wr → ∀ i, i < k → (∀ d ∈ needs.getD i [], (PV.getD d PP.any).p (x d) wr) → ∀ K : Act → World → Prop,
      (∀ v w', (PV.getD i PP.any).p v w' → Nx wr w' → K ((⟨tm, df⟩ : Act).put (dl.getD i none) v) w') → wpOpIn F nf P ops Q i K ⟨tm, df⟩ wr)
    (tail : List Oper) (htl : ops.toList.drop k = tail)
    (hend : ∀ x tm wr, fillA t0 dl 0 x = tm → Nx w wr → (∀ i, i < k → (PV.getD i PP.any).p (x i) wr) → wpListIn F nf P ops Q tail ⟨tm, df⟩ wr) :
    (Code.region id ops true).wpIn F nf P Q ⟨t0, df⟩ w := by
  subst htl
  have hdk : dl.length = k := by rw [← hdl, List.length_map, List.length_take]; simp; omega
  refine wpIn_region_inv needs (fun L a w' =>
    ((∀ j, k ≤ j → j < ops.size → L j = false) ∧ ∃ x, a = ⟨fillA t0 dl 0 x, df⟩ ∧ Nx w w' ∧ ∀ i, i < k → L i = true → (PV.getD i PP.any).p (x i) w') ∨
    (∃ m, k < m ∧ m ≤ ops.size ∧ (∀ j, j < ops.size → (L j = true ↔ j < m)) ∧ wpListIn F nf P ops Q (ops.toList.drop m) a w')) hm hn hord ?_ ?_ ?_
  · refine .inl ⟨fun _ _ _ => rfl, fun i => match dl[i]? with | some (some d) => t0.getD d undef | _ => undef, ?_, (Nx.refl w).drew, fun _ _ h => by cases h⟩
    rw [fillA_self]
    intro i d hd
    rw [Nat.zero_add]
    simp only [hd]
  · rintro L a wr hI i hi hL hd K hK
    rcases hI with ⟨hf, x, rfl, hx, hp⟩ | ⟨m, hm1, hm2, hm3, hwl⟩
    · by_cases hik : i < k
      · refine hstep x _ wr rfl hx i hik (fun d hdd => hp d (by have := hord i d hdd; omega) (hd d hdd)) K fun v w' hv hnx => hK _ _ (.inl ⟨fun j hj hjs => ?_, upd x i v, ?_, hx.trans hnx, fun j hj hLj => ?_⟩)
        · have := hf j hj hjs
          have hne : (j == i) = false := by rw [beq_eq_false_iff_ne]; omega
          show (j == i || L j) = false
          rw [hne, this]; rfl
        · have hdi : dl[i]? = some (dl.getD i none) := by
            rw [List.getD_eq_getElem?_getD, List.getElem?_eq_getElem (by omega)]; rfl
          cases hg : dl.getD i none with
          | none =>
            rw [hg] at hdi
            have := fillA_skip t0 x v dl 0 i (.inl hdi)
            rw [Nat.zero_add] at this
            show (⟨fillA t0 dl 0 x, df⟩ : Act) = _
            rw [← this]
          | some d =>
            rw [hg] at hdi
            have := fillA_put t0 x v d dl 0 i hnd hdi
            rw [Nat.zero_add] at this
            show (⟨(fillA t0 dl 0 x).setIfInBounds d v, df⟩ : Act) = _
            rw [this]
        · by_cases hji : j = i
          · subst hji
            unfold upd
            rw [if_pos rfl]
            exact hv
          · have hne : (j == i) = false := by rw [beq_eq_false_iff_ne]; exact hji
            replace hLj : (j == i || L j) = true := hLj
            rw [hne, Bool.false_or] at hLj
            unfold upd
            rw [if_neg hji]
            exact (PV.getD j PP.any).nx _ _ _ (hp j hj hLj) hnx
      · have hall : ∀ j, j < i → L j = true := fun j hj => hd j (htail i (by omega) hi j hj)
        have hik2 : i = k := by
          by_cases h : k < i
          · have := hall k h
            rw [hf k (Nat.le_refl _) (by omega)] at this
            cases this
          · omega
        subst hik2
        have hw := hend x _ wr rfl hx fun j hj => hp j hj (hall j hj)
        refine wpOpIn_mono (fun a w' h => hK _ _ (.inr ⟨i + 1, by omega, by omega, fun j hj => ?_, h⟩)) (wpOpIn_list hi _ rfl hw)
        show (j == i || L j) = true ↔ j < i + 1
        by_cases hji : j = i
        · subst hji; simp
        · have hne : (j == i) = false := by rw [beq_eq_false_iff_ne]; exact hji
          rw [hne, Bool.false_or]
          constructor
          · intro h
            by_cases hlt : j < i
            · omega
            · rw [hf j (by omega) hj] at h; cases h
          · intro h; exact hall j (by omega)
    · have him : m ≤ i := by
        by_cases h : i < m
        · rw [(hm3 i hi).2 h] at hL; cases hL
        · omega
      have hall : ∀ j, j < i → L j = true := fun j hj => hd j (htail i (by omega) hi j hj)
      have him2 : i = m := by
        by_cases h : m < i
        · have := (hm3 m (by omega)).1 (hall m h); omega
        · omega
      subst him2
      refine wpOpIn_mono (fun a w' h => hK _ _ (.inr ⟨i + 1, by omega, by omega, fun j hj => ?_, h⟩)) (wpOpIn_list hi _ rfl hwl)
      show (j == i || L j) = true ↔ j < i + 1
      by_cases hji : j = i
      · subst hji; simp
      · have hne : (j == i) = false := by rw [beq_eq_false_iff_ne]; exact hji
        rw [hne, Bool.false_or, hm3 j hj]
        omega
  · rintro L a wr hI hall
    rcases hI with ⟨hf, x, rfl, hx, hp⟩ | ⟨m, hm1, hm2, hm3, hwl⟩
    · have hks2 : k = ops.size := by
        by_cases h : k < ops.size
        · have := hall k h
          rw [hf k (Nat.le_refl _) h] at this
          cases this
        · omega
      have hw := hend x _ wr rfl hx fun j hj => hp j hj (hall j (by omega))
      rw [List.drop_of_length_le (by simp; omega)] at hw
      exact hw
    · have : ops.size ≤ m := by
        by_cases h : m < ops.size
        · have := (hm3 m h).1 (hall m h); omega
        · omega
      rw [List.drop_of_length_le (by simp; omega)] at hwl
      exact hwl
theorem wpIn_region_blk {id : Nat} {t0 : Array Value} {df : List Deferred} {w : World} (n : Nat) (needs : List (List Nat)) (dl : List (Option Tmp)) (V : List Value) (nb : List NB) (ob : List OB)
    (hm : P.follows .mixedOrders = true) (hn : needsOf .any ops = needs) (hord : ∀ i, ∀ d ∈ needs.getD i [], d < i)
    (hsz : ops.size = n) (hdl : dl.length = n) (hnd : (dl.filterMap _root_.id).Nodup)
    (hsp : (spec nb ob).Nodup) (has : ∀ q ∈ nb.map (fun e => (e.a, e.s)), q.1 ∈ needs.getD q.2 [])
    (hspn : ∀ i ∈ spec nb ob, i < n) (hob : ∀ e ∈ ob, Row w e.g e.z e.T) (hog : (ob.map (·.g)).Nodup)
    (hstep : ∀ x tm wr, fillA t0 dl 0 x = tm → Kp (ob.map (·.g)) w wr → ∀ i, i < n → i ∉ spec nb ob → (∀ d ∈ needs.getD i [], d ∉ spec nb ob → x d = V.getD d undef) → (∀ e ∈ ob, i ∈ needs.getD e.s [] → Row wr e.g e.z e.T) →
      ∀ K : Act → World → Prop, (∀ w', Nx wr w' → K ((⟨tm, df⟩ : Act).put (dl.getD i none) (V.getD i undef)) w') → wpOpIn F nf P ops Q i K ⟨tm, df⟩ wr)
    (halloc : ∀ e ∈ nb, ∀ tm wr, ∀ K : Act → World → Prop, K ((⟨tm, df⟩ : Act).put (dl.getD e.a none) (.pointer (some ⟨wr.heap.size, 0, none⟩))) (wr.alloc (.cells e.z e.T)) → wpOpIn F nf P ops Q e.a K ⟨tm, df⟩ wr)
    (hstore : ∀ e ∈ nb, ∀ x tm wr g, fillA t0 dl 0 x = tm → (∀ d ∈ needs.getD e.s [], d ∉ spec nb ob → x d = V.getD d undef) → x e.a = .pointer (some ⟨g, 0, none⟩) → Row wr g e.z e.T →
      ∀ K : Act → World → Prop, K ((⟨tm, df⟩ : Act).put (dl.getD e.s none) undef) (wr.setRow g e.n) → wpOpIn F nf P ops Q e.s K ⟨tm, df⟩ wr)
    (hstoreo : ∀ e ∈ ob, ∀ x tm wr, fillA t0 dl 0 x = tm → (∀ d ∈ needs.getD e.s [], d ∉ spec nb ob → x d = V.getD d undef) → Row wr e.g e.z e.T →
      ∀ K : Act → World → Prop, K ((⟨tm, df⟩ : Act).put (dl.getD e.s none) undef) (wr.setRow e.g e.n) → wpOpIn F nf P ops Q e.s K ⟨tm, df⟩ wr)
    (hend : ∀ x tm wr, fillA t0 dl 0 x = tm → Kp (ob.map (·.g)) w wr → (∀ i, i < n → i ∉ spec nb ob → x i = V.getD i undef) → (∀ e ∈ nb, ∃ g, x e.a = .pointer (some ⟨g, 0, none⟩) ∧ w.heap.size ≤ g ∧ Row wr g e.n e.T) →
      (∀ e ∈ nb, ∀ e' ∈ nb, e.a ≠ e'.a → x e.a ≠ x e'.a) → (∀ e ∈ ob, Row wr e.g e.n e.T) → Q .normal ⟨tm, df⟩ wr) :
    (Code.region id ops true).wpIn F nf P Q ⟨t0, df⟩ w := by
  subst hsz
  have inja : ∀ e ∈ nb, ∀ e' ∈ nb, e.a = e'.a → e = e' := inj_of_nodup _ nb (List.nodup_append.1 (List.nodup_append.1 hsp).1).1
  have injs : ∀ e ∈ nb, ∀ e' ∈ nb, e.s = e'.s → e = e' := inj_of_nodup _ nb (List.nodup_append.1 (List.nodup_append.1 hsp).1).2.1
  have injo : ∀ e ∈ ob, ∀ e' ∈ ob, e.s = e'.s → e = e' := inj_of_nodup _ ob (List.nodup_append.1 hsp).2.1
  have injg : ∀ e ∈ ob, ∀ e' ∈ ob, e.g = e'.g → e = e' := inj_of_nodup _ ob hog
  have nas : ∀ e ∈ nb, ∀ e' ∈ nb, e.a ≠ e'.s := fun e he e' he' h => (List.nodup_append.1 (List.nodup_append.1 hsp).1).2.2 _ (List.mem_map.2 ⟨e, he, rfl⟩) _ (List.mem_map.2 ⟨e', he', rfl⟩) h
  have nao : ∀ e ∈ nb, ∀ e' ∈ ob, e.a ≠ e'.s := fun e he e' he' h => (List.nodup_append.1 hsp).2.2 _ (List.mem_append_left _ (List.mem_map.2 ⟨e, he, rfl⟩)) _ (List.mem_map.2 ⟨e', he', rfl⟩) h
  have nso : ∀ e ∈ nb, ∀ e' ∈ ob, e.s ≠ e'.s := fun e he e' he' h => (List.nodup_append.1 hsp).2.2 _ (List.mem_append_right _ (List.mem_map.2 ⟨e, he, rfl⟩)) _ (List.mem_map.2 ⟨e', he', rfl⟩) h
  have has' : ∀ e ∈ nb, e.a ∈ needs.getD e.s [] := fun e he => has (e.a, e.s) (List.mem_map.2 ⟨e, he, rfl⟩)
  refine wpIn_region_inv needs (fun L a w' => ∃ x : Nat → Value, a = ⟨fillA t0 dl 0 x, df⟩ ∧ Kp (ob.map (·.g)) w w' ∧ (∀ j, L j = true → ∀ d ∈ needs.getD j [], L d = true) ∧ (∀ i, i < ops.size → i ∉ spec nb ob → L i = true → x i = V.getD i undef) ∧
    (∀ e ∈ nb, L e.a = true → ∃ g, x e.a = .pointer (some ⟨g, 0, none⟩) ∧ w.heap.size ≤ g ∧ Row w' g (cond (L e.s) e.n e.z) e.T) ∧ (∀ e ∈ nb, ∀ e' ∈ nb, e.a ≠ e'.a → L e.a = true → L e'.a = true → x e.a ≠ x e'.a) ∧ (∀ e ∈ ob, Row w' e.g (cond (L e.s) e.n e.z) e.T)) hm hn hord ?_ ?_ ?_
  · refine ⟨fun i => match dl[i]? with | some (some d) => t0.getD d undef | _ => undef, ?_, .of_nx (Nx.refl w).drew, (fun _ h => by cases h), (fun _ _ _ h => by cases h), (fun _ _ h => by cases h), (fun _ _ _ _ _ h => by cases h), fun e he => ?_⟩
    · rw [fillA_self]
      intro i d hd
      rw [Nat.zero_add]
      simp only [hd]
    · exact (hob e he).drew
  · rintro L a wr ⟨x, rfl, hx, hcl, hnr, hnew, hdis, hold⟩ i hi hL hd K hK
    have hil : i < dl.length := by omega
    have hpin : ∀ {j : Nat}, (j == i || L j) = true → j ≠ i → L j = true := fun h hne => by rwa [or_ne hne] at h
    have hcl2 : ∀ j, (j == i || L j) = true → ∀ d ∈ needs.getD j [], (d == i || L d) = true := fun j hj d hdd => by
      by_cases hji : j = i
      · subst hji; rw [hd d hdd, Bool.or_true]
      · rw [hcl j (hpin hj hji) d hdd, Bool.or_true]
    have hdn : ∀ d ∈ needs.getD i [], d ∉ spec nb ob → x d = V.getD d undef := fun d hdd hs => hnr d (by have := hord i d hdd; omega) hs (hd d hdd)
    have hlate : ∀ s, i ∈ needs.getD s [] → L s = false := fun s hs => by
      rcases h : L s with _ | _
      · rfl
      · rw [hcl s h i hs] at hL; cases hL
    by_cases hisp : i ∈ spec nb ob
    · rcases List.mem_append.1 hisp with h1 | h1
      · rcases List.mem_append.1 h1 with h2 | h2
        · obtain ⟨e, he, rfl⟩ := List.mem_map.1 h2
          refine halloc e he _ wr K ?_
          rw [fillA_upd t0 x _ df dl _ hil hnd]
          refine hK _ _ ⟨_, rfl, hx.nx ((Nx.refl wr).alloc _), hcl2, ?_, ?_, ?_, ?_⟩
          · intro j hj hjs hLj
            have hne : j ≠ e.a := fun h => hjs (by rw [h]; exact spec_a he)
            rw [upd_ne _ _ hne]
            exact hnr j hj hjs (hpin hLj hne)
          · intro e' he' hLe
            by_cases hee : e'.a = e.a
            · obtain rfl := inja e' he' e he hee
              refine ⟨wr.heap.size, upd_eq _ _ _, hx.size, ?_⟩
              dsimp only
              rw [or_ne (nas _ he' _ he').symm, hlate _ (has' _ he'), cond_false]
              exact Row.new _ _ _ _ rfl
            · obtain ⟨g, h1, h2, h3⟩ := hnew e' he' (hpin hLe hee)
              refine ⟨g, by rw [upd_ne _ _ hee]; exact h1, h2, ?_⟩
              dsimp only
              rw [or_ne (nas _ he _ he').symm]
              exact h3.alloc _
          · intro e1 he1 e2 he2 hne hL1 hL2
            by_cases h1 : e1.a = e.a
            · have h2 : e2.a ≠ e.a := fun h => hne (h1.trans h.symm)
              obtain ⟨g, q1, _, q3⟩ := hnew e2 he2 (hpin hL2 h2)
              rw [h1, upd_eq, upd_ne _ _ h2, q1]
              intro h
              have hlt := q3.lt
              injection h with h; injection h with h; injection h with h
              omega
            · by_cases h2 : e2.a = e.a
              · obtain ⟨g, q1, _, q3⟩ := hnew e1 he1 (hpin hL1 h1)
                rw [h2, upd_eq, upd_ne _ _ h1, q1]
                intro h
                have hlt := q3.lt
                injection h with h; injection h with h; injection h with h
                omega
              · rw [upd_ne _ _ h1, upd_ne _ _ h2]
                exact hdis e1 he1 e2 he2 hne (hpin hL1 h1) (hpin hL2 h2)
          · intro e' he'
            dsimp only
            rw [or_ne (nao _ he _ he').symm]
            exact (hold e' he').alloc _
        · obtain ⟨e, he, rfl⟩ := List.mem_map.1 h2
          clear h1 h2
          obtain ⟨g, h1, h2, h3⟩ := hnew e he (hd _ (has' e he))
          rw [hL, cond_false] at h3
          refine hstore e he x _ wr g rfl hdn h1 h3 K ?_
          rw [fillA_upd t0 x _ df dl _ hil hnd]
          refine hK _ _ ⟨_, rfl, hx.setNew _ h2, hcl2, ?_, ?_, ?_, ?_⟩
          · intro j hj hjs hLj
            have hne : j ≠ e.s := fun h => hjs (by rw [h]; exact spec_s he)
            rw [upd_ne _ _ hne]
            exact hnr j hj hjs (hpin hLj hne)
          · intro e' he' hLe
            have hna := nas e' he' e he
            have hLe' := hpin hLe hna
            by_cases hee : e' = e
            · subst hee
              refine ⟨g, by rw [upd_ne _ _ hna]; exact h1, h2, ?_⟩
              dsimp only
              rw [or_eq, cond_true]
              exact h3.setRow _
            · obtain ⟨g', q1, q2, q3⟩ := hnew e' he' hLe'
              have hne : e'.s ≠ e.s := fun h => hee (injs e' he' e he h)
              have hgg : g' ≠ g := fun h => hdis e' he' e he (fun h => hee (inja e' he' e he h)) hLe' (hd _ (has' e he)) (by rw [q1, h1, h])
              refine ⟨g', by rw [upd_ne _ _ hna]; exact q1, q2, ?_⟩
              dsimp only
              rw [or_ne hne]
              exact q3.setRow_other _ hgg
          · intro e1 he1 e2 he2 hne hL1 hL2
            rw [upd_ne _ _ (nas e1 he1 e he), upd_ne _ _ (nas e2 he2 e he)]
            exact hdis e1 he1 e2 he2 hne (hpin hL1 (nas e1 he1 e he)) (hpin hL2 (nas e2 he2 e he))
          · intro e' he'
            dsimp only
            rw [or_ne (nso _ he _ he').symm]
            refine (hold e' he').setRow_other _ ?_
            have := (hob e' he').lt
            omega
      · obtain ⟨e, he, rfl⟩ := List.mem_map.1 h1
        have h3 := hold e he
        rw [hL, cond_false] at h3
        refine hstoreo e he x _ wr rfl hdn h3 K ?_
        rw [fillA_upd t0 x _ df dl _ hil hnd]
        refine hK _ _ ⟨_, rfl, hx.setOld _ (List.mem_map.2 ⟨e, he, rfl⟩), hcl2, ?_, ?_, ?_, ?_⟩
        · intro j hj hjs hLj
          have hne : j ≠ e.s := fun h => hjs (by rw [h]; exact spec_o he)
          rw [upd_ne _ _ hne]
          exact hnr j hj hjs (hpin hLj hne)
        · intro e' he' hLe
          have hna := nao e' he' e he
          obtain ⟨g', q1, q2, q3⟩ := hnew e' he' (hpin hLe hna)
          refine ⟨g', by rw [upd_ne _ _ hna]; exact q1, q2, ?_⟩
          dsimp only
          rw [or_ne (nso e' he' e he)]
          refine q3.setRow_other _ ?_
          have := (hob e he).lt
          omega
        · intro e1 he1 e2 he2 hne hL1 hL2
          rw [upd_ne _ _ (nao e1 he1 e he), upd_ne _ _ (nao e2 he2 e he)]
          exact hdis e1 he1 e2 he2 hne (hpin hL1 (nao e1 he1 e he)) (hpin hL2 (nao e2 he2 e he))
        · intro e' he'
          by_cases hee : e' = e
          · subst hee
            dsimp only
            rw [or_eq, cond_true]
            exact h3.setRow _
          · have hne : e'.s ≠ e.s := fun h => hee (injo e' he' e he h)
            dsimp only
            rw [or_ne hne]
            exact (hold e' he').setRow_other _ (fun h => hee (injg e' he' e he h))
    · refine hstep x _ wr rfl hx i hi hisp hdn (fun e he hie => by have := hold e he; rwa [hlate _ hie, cond_false] at this) K fun w' hnx => ?_
      rw [fillA_upd t0 x _ df dl _ hil hnd]
      refine hK _ _ ⟨_, rfl, hx.nx hnx, hcl2, ?_, ?_, ?_, ?_⟩
      · intro j hj hjs hLj
        by_cases hji : j = i
        · subst hji; exact upd_eq _ _ _
        · rw [upd_ne _ _ hji]
          exact hnr j hj hjs (hpin hLj hji)
      · intro e he hLe
        have hna : e.a ≠ i := fun h => hisp (by rw [← h]; exact spec_a he)
        have hns : e.s ≠ i := fun h => hisp (by rw [← h]; exact spec_s he)
        obtain ⟨g, q1, q2, q3⟩ := hnew e he (hpin hLe hna)
        refine ⟨g, by rw [upd_ne _ _ hna]; exact q1, q2, ?_⟩
        dsimp only
        rw [or_ne hns]
        exact q3.nx hnx
      · intro e1 he1 e2 he2 hne hL1 hL2
        have h1 : e1.a ≠ i := fun h => hisp (by rw [← h]; exact spec_a he1)
        have h2 : e2.a ≠ i := fun h => hisp (by rw [← h]; exact spec_a he2)
        rw [upd_ne _ _ h1, upd_ne _ _ h2]
        exact hdis e1 he1 e2 he2 hne (hpin hL1 h1) (hpin hL2 h2)
      · intro e he
        have hns : e.s ≠ i := fun h => hisp (by rw [← h]; exact spec_o he)
        dsimp only
        rw [or_ne hns]
        exact (hold e he).nx hnx
  · rintro L a wr ⟨x, rfl, hx, hcl, hnr, hnew, hdis, hold⟩ hall
    refine hend x _ wr rfl hx (fun i hi hs => hnr i hi hs (hall i hi)) (fun e he => ?_) (fun e he e' he' hne => hdis e he e' he' hne (hall _ (hspn _ (spec_a he))) (hall _ (hspn _ (spec_a he')))) (fun e he => ?_)
    · obtain ⟨g, q1, q2, q3⟩ := hnew e he (hall _ (hspn _ (spec_a he)))
      rw [hall _ (hspn _ (spec_s he)), cond_true] at q3
      exact ⟨g, q1, q2, q3⟩
    · have := hold e he
      rwa [hall _ (hspn _ (spec_o he)), cond_true] at this
theorem wpIn_region_bk {id : Nat} {t0 : Array Value} {df : List Deferred} {w : World} (n : Nat) (needs : List (List Nat)) (dl : List (Option Tmp)) (V : List Value) (nb : List NB) (ob : List OB) (sp : List Nat) (asl : List (Nat × Nat)) (hspe : spec nb ob = sp) (hasl : nb.map (fun e => (e.a, e.s)) = asl)
    (hm : P.follows .mixedOrders = true) (hn : needsOf .any ops = needs) (hord : ∀ i, ∀ d ∈ needs.getD i [], d < i)
    (hsz : ops.size = n) (hdl : dl.length = n) (hnd : (dl.filterMap _root_.id).Nodup)
    (hsp : sp.Nodup) (has : ∀ q ∈ asl, q.1 ∈ needs.getD q.2 [])
    (hspn : ∀ i ∈ sp, i < n) (hob : ∀ e ∈ ob, Row w e.g e.z e.T) (hog : (ob.map (·.g)).Nodup)
    (hstep : ∀ x tm wr, fillA t0 dl 0 x = tm → Kp (ob.map (·.g)) w wr → ∀ i, i < n → i ∉ sp → (∀ d ∈ needs.getD i [], d ∉ sp → x d = V.getD d undef) → (∀ e ∈ ob, i ∈ needs.getD e.s [] → Row wr e.g e.z e.T) →
      ∀ K : Act → World → Prop, (∀ w', Nx wr w' → K ((⟨tm, df⟩ : Act).put (dl.getD i none) (V.getD i undef)) w') → wpOpIn F nf P ops Q i K ⟨tm, df⟩ wr)
    (halloc : ∀ e ∈ nb, ∀ tm wr, ∀ K : Act → World → Prop, K ((⟨tm, df⟩ : Act).put (dl.getD e.a none) (.pointer (some ⟨wr.heap.size, 0, none⟩))) (wr.alloc (.cells e.z e.T)) → wpOpIn F nf P ops Q e.a K ⟨tm, df⟩ wr)
    (hstore : ∀ e ∈ nb, ∀ x tm wr g, fillA t0 dl 0 x = tm → (∀ d ∈ needs.getD e.s [], d ∉ sp → x d = V.getD d undef) → x e.a = .pointer (some ⟨g, 0, none⟩) → Row wr g e.z e.T →
      ∀ K : Act → World → Prop, K ((⟨tm, df⟩ : Act).put (dl.getD e.s none) undef) (wr.setRow g e.n) → wpOpIn F nf P ops Q e.s K ⟨tm, df⟩ wr)
    (hstoreo : ∀ e ∈ ob, ∀ x tm wr, fillA t0 dl 0 x = tm → (∀ d ∈ needs.getD e.s [], d ∉ sp → x d = V.getD d undef) → Row wr e.g e.z e.T →
      ∀ K : Act → World → Prop, K ((⟨tm, df⟩ : Act).put (dl.getD e.s none) undef) (wr.setRow e.g e.n) → wpOpIn F nf P ops Q e.s K ⟨tm, df⟩ wr)
    (hend : ∀ x tm wr, fillA t0 dl 0 x = tm → Kp (ob.map (·.g)) w wr → (∀ i, i < n → i ∉ sp → x i = V.getD i undef) → (∀ e ∈ nb, ∃ g, x e.a = .pointer (some ⟨g, 0, none⟩) ∧ w.heap.size ≤ g ∧ Row wr g e.n e.T) →
      (∀ e ∈ nb, ∀ e' ∈ nb, e.a ≠ e'.a → x e.a ≠ x e'.a) → (∀ e ∈ ob, Row wr e.g e.n e.T) → Q .normal ⟨tm, df⟩ wr) :
    (Code.region id ops true).wpIn F nf P Q ⟨t0, df⟩ w := by
  subst hspe hasl
  exact wpIn_region_blk n needs dl V nb ob hm hn hord hsz hdl hnd hsp has hspn hob hog hstep halloc hstore hstoreo hend
/-- The region: what holds of each operation's value; the tail in its order. -/
theorem wpIn_region_cl {id : Nat} {t0 : Array Value} {df : List Deferred} {w : World} (k : Nat) (needs : List (List Nat)) (dl : List (Option Tmp)) (PV : List PP)
    (hm : P.follows .mixedOrders = true) (hn : needsOf .any ops = needs) (hord : ∀ i, ∀ d ∈ needs.getD i [], d < i)
    (hdl : (ops.toList.take k).map (·.dst) = dl) (hks : k ≤ ops.size) (hnd : (dl.filterMap _root_.id).Nodup)
    (htail : ∀ j, k ≤ j → j < ops.size → ∀ L : Nat → Bool, (∀ i, i < ops.size → L i = true → ∀ d ∈ needs.getD i [], L d = true) → (∀ d ∈ needs.getD j [], L d = true) → ∀ i, i < j → L i = true)
    (hstep : ∀ x tm wr, fillA t0 dl 0 x = tm → Nx w wr → ∀ i, i < k → (∀ d ∈ needs.getD i [], (PV.getD d PP.any).p (x d) wr) → ∀ K : Act → World → Prop,
      (∀ v w', (PV.getD i PP.any).p v w' → Nx wr w' → K ((⟨tm, df⟩ : Act).put (dl.getD i none) v) w') → wpOpIn F nf P ops Q i K ⟨tm, df⟩ wr)
    (tail : List Oper) (htl : ops.toList.drop k = tail)
    (hend : ∀ x tm wr, fillA t0 dl 0 x = tm → Nx w wr → (∀ i, i < k → (PV.getD i PP.any).p (x i) wr) → wpListIn F nf P ops Q tail ⟨tm, df⟩ wr) :
    (Code.region id ops true).wpIn F nf P Q ⟨t0, df⟩ w := by
  subst htl
  have hdk : dl.length = k := by rw [← hdl, List.length_map, List.length_take]; simp; omega
  refine wpIn_region_inv needs (fun L a w' =>
    ((∀ j, k ≤ j → j < ops.size → L j = false) ∧ (∀ i, i < ops.size → L i = true → ∀ d ∈ needs.getD i [], L d = true) ∧ ∃ x, a = ⟨fillA t0 dl 0 x, df⟩ ∧ Nx w w' ∧ ∀ i, i < k → L i = true → (PV.getD i PP.any).p (x i) w') ∨
    (∃ m, k < m ∧ m ≤ ops.size ∧ (∀ j, j < ops.size → (L j = true ↔ j < m)) ∧ wpListIn F nf P ops Q (ops.toList.drop m) a w')) hm hn hord ?_ ?_ ?_
  · refine .inl ⟨fun _ _ _ => rfl, (fun _ _ h => by cases h), fun i => match dl[i]? with | some (some d) => t0.getD d undef | _ => undef, ?_, (Nx.refl w).drew, fun _ _ h => by cases h⟩
    rw [fillA_self]
    intro i d hd
    rw [Nat.zero_add]
    simp only [hd]
  · rintro L a wr hI i hi hL hd K hK
    rcases hI with ⟨hf, hcl, x, rfl, hx, hp⟩ | ⟨m, hm1, hm2, hm3, hwl⟩
    · by_cases hik : i < k
      · refine hstep x _ wr rfl hx i hik (fun d hdd => hp d (by have := hord i d hdd; omega) (hd d hdd)) K fun v w' hv hnx => hK _ _ (.inl ⟨fun j hj hjs => ?_, fun j hjs hLj d hdd => ?_, upd x i v, ?_, hx.trans hnx, fun j hj hLj => ?_⟩)
        · have := hf j hj hjs
          have hne : (j == i) = false := by rw [beq_eq_false_iff_ne]; omega
          show (j == i || L j) = false
          rw [hne, this]; rfl
        · show (d == i || L d) = true
          replace hLj : (j == i || L j) = true := hLj
          rcases Bool.or_eq_true _ _ |>.mp hLj with h | h
          · rw [eq_of_beq h] at hdd
            rw [hd d hdd, Bool.or_true]
          · rw [hcl j hjs h d hdd, Bool.or_true]
        · have hdi : dl[i]? = some (dl.getD i none) := by
            rw [List.getD_eq_getElem?_getD, List.getElem?_eq_getElem (by omega)]; rfl
          cases hg : dl.getD i none with
          | none =>
            rw [hg] at hdi
            have := fillA_skip t0 x v dl 0 i (.inl hdi)
            rw [Nat.zero_add] at this
            show (⟨fillA t0 dl 0 x, df⟩ : Act) = _
            rw [← this]
          | some d =>
            rw [hg] at hdi
            have := fillA_put t0 x v d dl 0 i hnd hdi
            rw [Nat.zero_add] at this
            show (⟨(fillA t0 dl 0 x).setIfInBounds d v, df⟩ : Act) = _
            rw [this]
        · by_cases hji : j = i
          · subst hji
            unfold upd
            rw [if_pos rfl]
            exact hv
          · have hne : (j == i) = false := by rw [beq_eq_false_iff_ne]; exact hji
            replace hLj : (j == i || L j) = true := hLj
            rw [hne, Bool.false_or] at hLj
            unfold upd
            rw [if_neg hji]
            exact (PV.getD j PP.any).nx _ _ _ (hp j hj hLj) hnx
      · have hall : ∀ j, j < i → L j = true := fun j hj => htail i (by omega) hi L hcl hd j hj
        have hik2 : i = k := by
          by_cases h : k < i
          · have := hall k h
            rw [hf k (Nat.le_refl _) (by omega)] at this
            cases this
          · omega
        subst hik2
        have hw := hend x _ wr rfl hx fun j hj => hp j hj (hall j hj)
        refine wpOpIn_mono (fun a w' h => hK _ _ (.inr ⟨i + 1, by omega, by omega, fun j hj => ?_, h⟩)) (wpOpIn_list hi _ rfl hw)
        show (j == i || L j) = true ↔ j < i + 1
        by_cases hji : j = i
        · subst hji; simp
        · have hne : (j == i) = false := by rw [beq_eq_false_iff_ne]; exact hji
          rw [hne, Bool.false_or]
          constructor
          · intro h
            by_cases hlt : j < i
            · omega
            · rw [hf j (by omega) hj] at h; cases h
          · intro h; exact hall j (by omega)
    · have him : m ≤ i := by
        by_cases h : i < m
        · rw [(hm3 i hi).2 h] at hL; cases hL
        · omega
      have hcl : ∀ i, i < ops.size → L i = true → ∀ d ∈ needs.getD i [], L d = true := fun q hq hLq d hdd => by
        have h1 := (hm3 q hq).1 hLq
        have h2 := hord q d hdd
        exact (hm3 d (by omega)).2 (by omega)
      have hall : ∀ j, j < i → L j = true := fun j hj => htail i (by omega) hi L hcl hd j hj
      have him2 : i = m := by
        by_cases h : m < i
        · have := (hm3 m (by omega)).1 (hall m h); omega
        · omega
      subst him2
      refine wpOpIn_mono (fun a w' h => hK _ _ (.inr ⟨i + 1, by omega, by omega, fun j hj => ?_, h⟩)) (wpOpIn_list hi _ rfl hwl)
      show (j == i || L j) = true ↔ j < i + 1
      by_cases hji : j = i
      · subst hji; simp
      · have hne : (j == i) = false := by rw [beq_eq_false_iff_ne]; exact hji
        rw [hne, Bool.false_or, hm3 j hj]
        omega
  · rintro L a wr hI hall
    rcases hI with ⟨hf, hcl, x, rfl, hx, hp⟩ | ⟨m, hm1, hm2, hm3, hwl⟩
    · have hks2 : k = ops.size := by
        by_cases h : k < ops.size
        · have := hall k h
          rw [hf k (Nat.le_refl _) h] at this
          cases this
        · omega
      have hw := hend x _ wr rfl hx fun j hj => hp j hj (hall j (by omega))
      rw [List.drop_of_length_le (by simp; omega)] at hw
      exact hw
    · have : ops.size ≤ m := by
        by_cases h : m < ops.size
        · have := (hm3 m h).1 (hall m h); omega
        · omega
      rw [List.drop_of_length_le (by simp; omega)] at hwl
      exact hwl
/-- All that is waited for, at last. -/
def clN (needs : List (List Nat)) : Nat → List Nat → List Nat
  | 0, l => l
  | n + 1, l => clN needs n (l ++ l.flatMap fun d => needs.getD d [])
theorem clN_of (needs : List (List Nat)) (sz : Nat) (hord : ∀ i, ∀ d ∈ needs.getD i [], d < i) (L : Nat → Bool) (hcl : ∀ i, i < sz → L i = true → ∀ d ∈ needs.getD i [], L d = true) : ∀ (n : Nat) (l : List Nat), (∀ d ∈ l, d < sz ∧ L d = true) → ∀ d ∈ clN needs n l, L d = true
  | 0, l, h, d, hd => (h d hd).2
  | n + 1, l, h, d, hd => by
    refine clN_of needs sz hord L hcl n _ (fun e he => ?_) d hd
    rcases List.mem_append.1 he with he | he
    · exact h e he
    · obtain ⟨q, hq, he⟩ := List.mem_flatMap.1 he
      obtain ⟨h1, h2⟩ := h q hq
      exact ⟨by have := hord q e he; omega, hcl q h1 h2 e he⟩
theorem htail_cl {needs : List (List Nat)} {k n : Nat} (m : Nat) (hord : ∀ i, ∀ d ∈ needs.getD i [], d < i) (h : ((List.range n).all fun j => decide (j < k) || (List.range j).all fun i => (clN needs m (needs.getD j [])).contains i) = true) :
    ∀ j, k ≤ j → j < n → ∀ L : Nat → Bool, (∀ i, i < n → L i = true → ∀ d ∈ needs.getD i [], L d = true) → (∀ d ∈ needs.getD j [], L d = true) → ∀ i, i < j → L i = true := by
  intro j hj hn L hcl hd i hi
  rw [List.all_eq_true] at h
  have h1 := h j (List.mem_range.2 hn)
  rw [Bool.or_eq_true] at h1
  rcases h1 with h1 | h1
  · have := of_decide_eq_true h1; omega
  · rw [List.all_eq_true] at h1
    have := h1 i (List.mem_range.2 hi)
    exact clN_of needs n hord L hcl m _ (fun d hdd => ⟨by have := hord j d hdd; omega, hd d hdd⟩) i (by simpa using this)
end
end Go.Proofs.YtpkopigiijiiiaaDoor
