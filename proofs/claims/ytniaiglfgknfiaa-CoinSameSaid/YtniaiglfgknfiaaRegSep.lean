/- A REGION THAT DRAWS ITS ORDER, with appends to bytes of the call's own: each owned value lies in a block of its own; an append uses its target up; of our own. -/
import Derived.Test.YtniaiglfgknfiaaRegNx
namespace Go.Proofs.Ytniaiglfgknfiaa
open Go Go.RowKit
set_option linter.unusedVariables false
set_option linter.unusedSimpArgs false

theorem Own.lt {B : Nat} {w : World} {v : Value} {l : List UInt8} (h : Own B w v l) : ∀ b, v.ownBlock = some b → b < w.heap.size := by
  rintro b hb
  rcases h with ⟨rfl, _⟩ | ⟨g, full, rfl, _, hg, _⟩
  · cases hb
  · obtain rfl : g = b := by simpa [Value.ownBlock] using hb
    exact (Array.getElem?_eq_some_iff.1 hg).1
theorem Own.grown {B : Nat} {w w' : World} {v : Value} {l : List UInt8} {row : Option Nat} (h : Own B w v l) (hg : w.grownBy w' row) (hr : ∀ b, v.ownBlock = some b → row ≠ some b) : Own B w' v l := by
  have hlt := h.lt
  rcases h with ⟨rfl, hl⟩ | ⟨g, full, rfl, hb, hh, hc, hm, ht⟩
  · exact .inl ⟨rfl, hl⟩
  · have h1 := hlt g rfl
    refine .inr ⟨g, full, rfl, hb, ?_, hc, hm, ht⟩
    rw [← hh]
    exact hg.block g h1 (fun e => hr g rfl e.symm)

/-- What is known of an operation's value: kind 0: it is V; 1: p holds of it, in whatever world that is alike below B; 2: bytes of the call's own; 3: V, bytes of the call's own from the beginning on. -/
structure SP where
  V : Value := undef
  l : List UInt8 := []
  p : Value → World → Prop := fun _ _ => True
/-- What an operation finds of a value that it waited for. -/
def Fct (B : Nat) (kind : Nat) (s : SP) (c : Option Nat) (i : Nat) (v : Value) (w : World) : Prop :=
  match kind with
  | 0 => v = s.V
  | 1 => s.p v w
  | 3 => v = s.V ∧ (c = none ∨ c = some i → Own B w v s.l)
  | _ => (c = none ∨ c = some i → Own B w v s.l)
/-- What an operation leaves. -/
def Eff (B : Nat) (kind : Nat) (s : SP) (src : Option Nat) (x : Nat → Value) (v : Value) (w w' : World) : Prop :=
  match kind with
  | 0 => v = s.V ∧ Nx w w'
  | 1 => s.p v w' ∧ Nx w w'
  | 3 => v = s.V ∧ Nx w w'
  | _ => match src with
    | none => Own w.heap.size w' v s.l ∧ Nx w w'
    | some d => Own B w' v s.l ∧ w.grownBy w' (x d).ownBlock ∧ (v.ownBlock = (x d).ownBlock ∨ v.ownBlock = some w.heap.size)
/-- What is known behind all. -/
def Fin (B : Nat) (kind : Nat) (s : SP) (c : Option Nat) (k : Nat) (v : Value) (w : World) : Prop :=
  match kind with
  | 0 => v = s.V
  | 1 => s.p v w
  | 3 => v = s.V ∧ ((∀ j, c = some j → k ≤ j) → Own B w v s.l)
  | _ => ((∀ j, c = some j → k ≤ j) → Own B w v s.l)

def valOf (kind : Nat) (s : SP) (v : Value) : Value := match kind with | 3 => s.V | _ => v
/-- Bytes of the call's own that are there. -/
def Here (kind : Nat) (c : Option Nat) (L : Nat → Bool) (i : Nat) : Prop := 2 ≤ kind ∧ (kind = 3 ∨ L i = true) ∧ ∀ j, c = some j → L j = false
structure Good (B k : Nat) (kinds : List Nat) (cons : List (Option Nat)) (PV : List SP) (L : Nat → Bool) (x : Nat → Value) (w : World) : Prop where
  eq : ∀ i, i < k → L i = true → (kinds.getD i 0 = 0 ∨ kinds.getD i 0 = 3) → x i = (PV.getD i {}).V
  old : ∀ i, i < k → L i = true → kinds.getD i 0 = 1 → (PV.getD i {}).p (x i) w
  own : ∀ i, i < k → Here (kinds.getD i 0) (cons.getD i none) L i → Own B w (valOf (kinds.getD i 0) (PV.getD i {}) (x i)) (PV.getD i {}).l
  sep : ∀ i j, i < k → j < k → i ≠ j → Here (kinds.getD i 0) (cons.getD i none) L i → Here (kinds.getD j 0) (cons.getD j none) L j → ∀ b, (valOf (kinds.getD i 0) (PV.getD i {}) (x i)).ownBlock = some b → (valOf (kinds.getD j 0) (PV.getD j {}) (x j)).ownBlock ≠ some b
theorem Good.fct {B k : Nat} {kinds : List Nat} {cons : List (Option Nat)} {PV : List SP} {L : Nat → Bool} {x : Nat → Value} {w : World} (h : Good B k kinds cons PV L x w) {d i : Nat} (hd : d < k) (hL : L d = true) (hi : L i = false) :
    Fct B (kinds.getD d 0) (PV.getD d {}) (cons.getD d none) i (x d) w := by
  have he := h.eq d hd hL
  have ho := h.old d hd hL
  have hw := h.own d hd
  unfold Fct
  generalize kinds.getD d 0 = q at *
  split
  · exact he (.inl rfl)
  · exact ho rfl
  · have hx := he (.inr rfl)
    refine ⟨hx, fun hc => ?_⟩
    have := hw ⟨by omega, .inl rfl, fun j hj => by
      rcases hc with hc | hc
      · rw [hc] at hj; cases hj
      · rw [hc] at hj; injection hj with hj; subst hj; exact hi⟩
    rw [hx]
    exact this
  · rename_i h0 h1 h3
    intro hc
    have := hw ⟨by rcases q with _ | _ | q <;> simp_all, .inr hL, fun j hj => by
      rcases hc with hc | hc
      · rw [hc] at hj; cases hj
      · rw [hc] at hj; injection hj with hj; subst hj; exact hi⟩
    unfold valOf at this
    split at this
    · exact absurd rfl h3
    · exact this
theorem Good.fin {B k : Nat} {kinds : List Nat} {cons : List (Option Nat)} {PV : List SP} {L : Nat → Bool} {x : Nat → Value} {w : World} (h : Good B k kinds cons PV L x w) {d : Nat} (hd : d < k) (hL : L d = true) (hf : ∀ j, k ≤ j → L j = false) :
    Fin B (kinds.getD d 0) (PV.getD d {}) (cons.getD d none) k (x d) w := by
  have he := h.eq d hd hL
  have ho := h.old d hd hL
  have hw := h.own d hd
  unfold Fin
  generalize kinds.getD d 0 = q at *
  split
  · exact he (.inl rfl)
  · exact ho rfl
  · have hx := he (.inr rfl)
    refine ⟨hx, fun hc => ?_⟩
    have := hw ⟨by omega, .inl rfl, fun j hj => hf j (hc j hj)⟩
    rw [hx]
    exact this
  · rename_i h0 h1 h3
    intro hc
    have := hw ⟨by rcases q with _ | _ | q <;> simp_all, .inr hL, fun j hj => hf j (hc j hj)⟩
    unfold valOf at this
    split at this
    · exact absurd rfl h3
    · exact this
theorem valOf_upd (kind : Nat) (s : SP) (x : Nat → Value) (i j : Nat) (v : Value) (h : j ≠ i) : valOf kind s (upd x i v j) = valOf kind s (x j) := by
  unfold upd; rw [if_neg h]
theorem here_old {kind : Nat} {c : Option Nat} {L : Nat → Bool} {i j : Nat} (hji : j ≠ i) (h : Here kind c (fun q => q == i || L q) j) : Here kind c L j := by
  obtain ⟨h1, h2, h3⟩ := h
  refine ⟨h1, ?_, fun q hq => ?_⟩
  · rcases h2 with h2 | h2
    · exact .inl h2
    · have : (j == i) = false := by rw [beq_eq_false_iff_ne]; exact hji
      replace h2 : (j == i || L j) = true := h2
      rw [this, Bool.false_or] at h2
      exact .inr h2
  · have := h3 q hq
    rw [Bool.or_eq_false_iff] at this
    exact this.2
/-- One operation carried out. -/
theorem Good.step {B k : Nat} {kinds : List Nat} {cons src : List (Option Nat)} {PV : List SP} {L : Nat → Bool} {x : Nat → Value} {w w' : World} (h : Good B k kinds cons PV L x w) {i : Nat} (hi : i < k) (hLi : L i = false) (hB : B ≤ w.heap.size)
    (hold : ∀ j, j < k → kinds.getD j 0 = 1 → ∀ v w w', (PV.getD j {}).p v w → Below B w w' → (PV.getD j {}).p v w')
    (hsrc : ∀ d, src.getD i none = some d → kinds.getD i 0 = 2 → d < k ∧ d ≠ i ∧ L d = true ∧ cons.getD d none = some i ∧ 2 ≤ kinds.getD d 0) (hk4 : kinds.getD i 0 ≤ 3)
    {v : Value} (he : Eff B (kinds.getD i 0) (PV.getD i {}) (src.getD i none) x v w w') : Below B w w' ∧ Good B k kinds cons PV (fun j => j == i || L j) (upd x i v) w' := by
  have hxi : upd x i v i = v := by unfold upd; rw [if_pos rfl]
  have hxj : ∀ j, j ≠ i → upd x i v j = x j := fun j hj => by unfold upd; rw [if_neg hj]
  have hLj : ∀ j, j ≠ i → (j == i || L j) = true → L j = true := fun j hj hl => by
    have : (j == i) = false := by rw [beq_eq_false_iff_ne]; exact hj
    rwa [this, Bool.false_or] at hl
  -- the quiet kinds
  have quiet : kinds.getD i 0 ≠ 2 → Nx w w' → ((kinds.getD i 0 = 0 ∨ kinds.getD i 0 = 3) → v = (PV.getD i {}).V) → (kinds.getD i 0 = 1 → (PV.getD i {}).p v w') → Below B w w' ∧ Good B k kinds cons PV (fun j => j == i || L j) (upd x i v) w' := by
    intro hk hn hv hp
    have hb : Below B w w' := hn.mono hB
    have hval : ∀ j, Here (kinds.getD j 0) (cons.getD j none) (fun q => q == i || L q) j → Here (kinds.getD j 0) (cons.getD j none) L j ∧ valOf (kinds.getD j 0) (PV.getD j {}) (upd x i v j) = valOf (kinds.getD j 0) (PV.getD j {}) (x j) := by
      intro j hj
      by_cases hji : j = i
      · subst hji
        obtain ⟨h1, h2, h3⟩ := hj
        have h4 : kinds.getD j 0 = 3 := by omega
        refine ⟨⟨h1, .inl h4, fun q hq => ?_⟩, by rw [h4]; rfl⟩
        have := h3 q hq
        rw [Bool.or_eq_false_iff] at this
        exact this.2
      · exact ⟨here_old hji hj, valOf_upd _ _ _ _ _ _ hji⟩
    refine ⟨hb, fun j hj hl hq => ?_, fun j hj hl hq => ?_, fun j hj hh => ?_, fun a b ha hb' hab h1 h2 => ?_⟩
    · by_cases hji : j = i
      · subst hji; rw [hxi]; exact hv hq
      · rw [hxj j hji]; exact h.eq j hj (hLj j hji hl) hq
    · by_cases hji : j = i
      · subst hji; rw [hxi]; exact hp hq
      · rw [hxj j hji]; exact hold j hj hq _ _ _ (h.old j hj (hLj j hji hl) hq) hb
    · obtain ⟨h1, h2⟩ := hval j hh
      rw [h2]
      exact (h.own j hj h1).nx hn
    · obtain ⟨a1, a2⟩ := hval a h1
      obtain ⟨b1, b2⟩ := hval b h2
      rw [a2, b2]
      exact h.sep a b ha hb' hab a1 b1
  have k4 : kinds.getD i 0 = 0 ∨ kinds.getD i 0 = 1 ∨ kinds.getD i 0 = 2 ∨ kinds.getD i 0 = 3 := by omega
  rcases k4 with hk | hk | hk | hk
  · rw [hk] at he; obtain ⟨hv, hn⟩ := he; exact quiet (by omega) hn (fun _ => hv) (fun e => by omega)
  · rw [hk] at he; obtain ⟨hv, hn⟩ := he; exact quiet (by omega) hn (fun e => by omega) (fun _ => hv)
  · -- bytes of the call's own
    have hmine : ∀ (hnew : Own B w' v (PV.getD i {}).l) (hb : Below B w w')
        (hothers : ∀ j, j < k → j ≠ i → Here (kinds.getD j 0) (cons.getD j none) (fun q => q == i || L q) j → Own B w' (valOf (kinds.getD j 0) (PV.getD j {}) (x j)) (PV.getD j {}).l ∧ ∀ b, v.ownBlock = some b → (valOf (kinds.getD j 0) (PV.getD j {}) (x j)).ownBlock ≠ some b),
        Below B w w' ∧ Good B k kinds cons PV (fun j => j == i || L j) (upd x i v) w' := by
      intro hnew hb hoth
      have vi : valOf (kinds.getD i 0) (PV.getD i {}) (upd x i v i) = v := by rw [hk, hxi]; rfl
      refine ⟨hb, fun j hj hl hq => ?_, fun j hj hl hq => ?_, fun j hj hh => ?_, fun a b ha hb' hab h1 h2 => ?_⟩
      · by_cases hji : j = i
        · subst hji; omega
        · rw [hxj j hji]; exact h.eq j hj (hLj j hji hl) hq
      · by_cases hji : j = i
        · subst hji; omega
        · rw [hxj j hji]; exact hold j hj hq _ _ _ (h.old j hj (hLj j hji hl) hq) hb
      · by_cases hji : j = i
        · subst hji; rw [vi]; exact hnew
        · rw [valOf_upd _ _ _ _ _ _ hji]; exact (hoth j hj hji hh).1
      · by_cases hai : a = i
        · subst hai
          rw [vi, valOf_upd _ _ _ _ _ _ (fun e => hab e.symm)]
          exact (hoth b hb' (fun e => hab e.symm) h2).2
        · by_cases hbi : b = i
          · subst hbi
            rw [vi, valOf_upd _ _ _ _ _ _ hai]
            intro q hq e
            exact (hoth a ha hai h1).2 q e hq
          · rw [valOf_upd _ _ _ _ _ _ hai, valOf_upd _ _ _ _ _ _ hbi]
            exact h.sep a b ha hb' hab (here_old hai h1) (here_old hbi h2)
    rw [hk] at he
    unfold Eff at he
    simp only at he
    cases hs : src.getD i none with
    | none =>
      rw [hs] at he
      obtain ⟨ho, hn⟩ := he
      refine hmine (ho.mono hB) (hn.mono hB) fun j hj hji hh => ?_
      have hoj := h.own j hj (here_old hji hh)
      refine ⟨hoj.nx hn, fun b hb e => ?_⟩
      have := hoj.lt b e
      have := ho.block b hb
      omega
    | some d =>
      rw [hs] at he
      obtain ⟨ho, hg, hblk⟩ := he
      obtain ⟨hd, hdi, hLd, hcd, hkd⟩ := hsrc d hs hk
      have hhd : Here (kinds.getD d 0) (cons.getD d none) L d := ⟨hkd, .inr hLd, fun j hj => by rw [hcd] at hj; injection hj with hj; subst hj; exact hLi⟩
      have vd : valOf (kinds.getD d 0) (PV.getD d {}) (x d) = x d := by
        have he3 := h.eq d hd hLd
        generalize kinds.getD d 0 = q at *
        unfold valOf
        split
        · exact (he3 (.inr rfl)).symm
        · rfl
      have hod := h.own d hd hhd
      rw [vd] at hod
      have hb : Below B w w' := Own.below hB hod hg
      refine hmine ho hb fun j hj hji hh => ?_
      have hjd : j ≠ d := fun e => by
        subst e
        have := hh.2.2 i hcd
        simp at this
      have hoj := h.own j hj (here_old hji hh)
      have hsep := h.sep j d hj hd hjd (here_old hji hh) hhd
      rw [vd] at hsep
      refine ⟨hoj.grown hg fun b hb e => hsep b hb e, fun b hb e => ?_⟩
      rcases hblk with hq | hq
      · rw [hq] at hb
        exact hsep b e hb
      · rw [hq] at hb
        injection hb with hb
        have := hoj.lt b e
        omega
  · rw [hk] at he; obtain ⟨hv, hn⟩ := he; exact quiet (by omega) hn (fun _ => hv) (fun e => by omega)

section
variable {P : Program} {ops : Array Oper} {Q : Exit → Act → World → Prop}
/-- The region. -/
theorem wp_region_sep {id : Nat} {t0 : Array Value} {df : List Deferred} {w : World} (B k : Nat) (needs : List (List Nat)) (dl : List (Option Tmp)) (kinds : List Nat) (cons src : List (Option Nat)) (PV : List SP) (hB : B ≤ w.heap.size)
    (hm : P.follows .mixedOrders = true) (hn : needsOf .any ops = needs) (hord : ∀ i, ∀ d ∈ needs.getD i [], d < i)
    (hdl : (ops.toList.take k).map (·.dst) = dl) (hks : k ≤ ops.size) (hnd : (dl.filterMap _root_.id).Nodup)
    (htail : ∀ j, k ≤ j → j < ops.size → ∀ i, i < j → i ∈ needs.getD j [])
    (hk4 : ∀ i, i < k → kinds.getD i 0 ≤ 3)
    (hsrc : ∀ i, i < k → ∀ d, src.getD i none = some d → kinds.getD i 0 = 2 → d ∈ needs.getD i [] ∧ cons.getD d none = some i ∧ 2 ≤ kinds.getD d 0)
    (hold : ∀ j, j < k → kinds.getD j 0 = 1 → ∀ v w w', (PV.getD j {}).p v w → Below B w w' → (PV.getD j {}).p v w')
    (hpre : ∀ j, j < k → kinds.getD j 0 = 3 → Own B w (PV.getD j {}).V (PV.getD j {}).l)
    (hpsep : ∀ i j, i < k → j < k → i ≠ j → kinds.getD i 0 = 3 → kinds.getD j 0 = 3 → ∀ b, (PV.getD i {}).V.ownBlock = some b → (PV.getD j {}).V.ownBlock ≠ some b)
    (hstep : ∀ x tm wr, fillA t0 dl 0 x = tm → Below B w wr → B ≤ wr.heap.size → ∀ i, i < k → (∀ d ∈ needs.getD i [], Fct B (kinds.getD d 0) (PV.getD d {}) (cons.getD d none) i (x d) wr) → ∀ K : Act → World → Prop,
      (∀ v w', Eff B (kinds.getD i 0) (PV.getD i {}) (src.getD i none) x v wr w' → K ((⟨tm, df⟩ : Act).put (dl.getD i none) v) w') → wpOp P ops Q i K ⟨tm, df⟩ wr)
    (tail : List Oper) (htl : ops.toList.drop k = tail)
    (hend : ∀ x tm wr, fillA t0 dl 0 x = tm → Below B w wr → (∀ i, i < k → Fin B (kinds.getD i 0) (PV.getD i {}) (cons.getD i none) k (x i) wr) → wpList P ops Q tail ⟨tm, df⟩ wr) :
    (Code.region id ops true).wp P Q ⟨t0, df⟩ w := by
  subst htl
  have hdk : dl.length = k := by rw [← hdl, List.length_map, List.length_take]; simp; omega
  refine wp_region_inv needs (fun L a w' =>
    ((∀ j, k ≤ j → L j = false) ∧ ∃ x, a = ⟨fillA t0 dl 0 x, df⟩ ∧ Below B w w' ∧ Good B k kinds cons PV L x w') ∨
    (∃ m, k < m ∧ m ≤ ops.size ∧ (∀ j, j < ops.size → (L j = true ↔ j < m)) ∧ wpList P ops Q (ops.toList.drop m) a w')) hm hn hord ?_ ?_ ?_
  · refine .inl ⟨fun _ _ => rfl, fun i => match dl[i]? with | some (some d) => t0.getD d undef | _ => undef, ?_, (Below.refl _ _).drew, ⟨fun _ _ h => (by cases h), fun _ _ h => (by cases h), fun i hi hh => ?_, fun i j hi hj hij h1 h2 => ?_⟩⟩
    · rw [fillA_self]
      intro i d hd
      rw [Nat.zero_add]
      simp only [hd]
    · have h3 : kinds.getD i 0 = 3 := by
        rcases hh.2.1 with h | h
        · exact h
        · cases h
      rw [h3]
      exact (hpre i hi h3).drew
    · have h3 : kinds.getD i 0 = 3 := by
        rcases h1.2.1 with h | h
        · exact h
        · cases h
      have h4 : kinds.getD j 0 = 3 := by
        rcases h2.2.1 with h | h
        · exact h
        · cases h
      rw [h3, h4]
      exact hpsep i j hi hj hij h3 h4
  · rintro L a wr hI i hi hL hd K hK
    rcases hI with ⟨hf, x, rfl, hx, hg⟩ | ⟨m, hm1, hm2, hm3, hwl⟩
    · by_cases hik : i < k
      · have hBr : B ≤ wr.heap.size := Nat.le_trans hB hx.size
        refine hstep x _ wr rfl hx hBr i hik (fun d hdd => hg.fct (by have := hord i d hdd; omega) (hd d hdd) hL) K fun v w' hv => ?_
        obtain ⟨hb2, hg2⟩ := hg.step (src := src) hik hL hBr hold (fun d hs h2 => by
          obtain ⟨h3, h4, h5⟩ := hsrc i hik d hs h2
          have := hord i d h3
          exact ⟨by omega, by omega, hd d h3, h4, h5⟩) (hk4 i hik) hv
        refine hK _ _ (.inl ⟨fun j hj => ?_, upd x i v, ?_, hx.trans hb2, hg2⟩)
        · have := hf j hj
          have hne : (j == i) = false := by rw [beq_eq_false_iff_ne]; omega
          show (j == i || L j) = false
          rw [hne, this]; rfl
        · have hdi : dl[i]? = some (dl.getD i none) := by
            rw [List.getD_eq_getElem?_getD, List.getElem?_eq_getElem (by omega)]; rfl
          cases hg : dl.getD i none with
          | none =>
            rw [hg] at hdi
            have := fillA_skip t0 x v dl 0 i (.inl hdi)
            rw [Nat.zero_add] at this
            show (⟨fillA t0 dl 0 x, df⟩ : Act) = _
            rw [← this]
          | some d =>
            rw [hg] at hdi
            have := fillA_put t0 x v d dl 0 i hnd hdi
            rw [Nat.zero_add] at this
            show (⟨(fillA t0 dl 0 x).setIfInBounds d v, df⟩ : Act) = _
            rw [this]
      · have hall : ∀ j, j < i → L j = true := fun j hj => hd j (htail i (by omega) hi j hj)
        have hik2 : i = k := by
          by_cases h : k < i
          · have := hall k h
            rw [hf k (Nat.le_refl _)] at this
            cases this
          · omega
        subst hik2
        have hw := hend x _ wr rfl hx fun j hj => hg.fin hj (hall j hj) hf
        refine wpOp_mono (fun a w' h => hK _ _ (.inr ⟨i + 1, by omega, by omega, fun j hj => ?_, h⟩)) (wpOp_list hi _ rfl hw)
        show (j == i || L j) = true ↔ j < i + 1
        by_cases hji : j = i
        · subst hji; simp
        · have hne : (j == i) = false := by rw [beq_eq_false_iff_ne]; exact hji
          rw [hne, Bool.false_or]
          constructor
          · intro h
            by_cases hlt : j < i
            · omega
            · rw [hf j (by omega)] at h; cases h
          · intro h; exact hall j (by omega)
    · have him : m ≤ i := by
        by_cases h : i < m
        · rw [(hm3 i hi).2 h] at hL; cases hL
        · omega
      have hall : ∀ j, j < i → L j = true := fun j hj => hd j (htail i (by omega) hi j hj)
      have him2 : i = m := by
        by_cases h : m < i
        · have := (hm3 m (by omega)).1 (hall m h); omega
        · omega
      subst him2
      refine wpOp_mono (fun a w' h => hK _ _ (.inr ⟨i + 1, by omega, by omega, fun j hj => ?_, h⟩)) (wpOp_list hi _ rfl hwl)
      show (j == i || L j) = true ↔ j < i + 1
      by_cases hji : j = i
      · subst hji; simp
      · have hne : (j == i) = false := by rw [beq_eq_false_iff_ne]; exact hji
        rw [hne, Bool.false_or, hm3 j hj]
        omega
  · rintro L a wr hI hall
    rcases hI with ⟨hf, x, rfl, hx, hp⟩ | ⟨m, hm1, hm2, hm3, hwl⟩
    · have hks2 : k = ops.size := by
        by_cases h : k < ops.size
        · have := hall k h
          rw [hf k (Nat.le_refl _)] at this
          cases this
        · omega
      have hw := hend x _ wr rfl hx fun j hj => hp.fin hj (hall j (by omega)) hf
      rw [List.drop_of_length_le (by simp; omega)] at hw
      exact hw
    · have : ops.size ≤ m := by
        by_cases h : m < ops.size
        · have := (hm3 m h).1 (hall m h); omega
        · omega
      rw [List.drop_of_length_le (by simp; omega)] at hwl
      exact hwl

/-- An append as an operation of a region. -/
theorem wp_app_of {o : Oper} {a : Act} {w : World} {K : Act → World → Prop} (dst : Option Tmp) (hd : o.dst = dst) (s x : Operand) (t : TypeId)
    (ho : o.op = .call { callee := .builtin .append, args := #[s, x], argTypes := #[t, t] })
    (ht : P.underlying t = some (.slice 5)) (hi : (P.info? 5).map (fun i => (i.zero, i.size, i.bytes)) = some (some (.int .u8 0), 1, 1))
    (B : Nat) (v vx : Value) (l m : List UInt8) (hs : a.eval s = v) (hx : a.eval x = vx) (hown : Own B w v l) (hr : Rd w vx m) (hlen : l.length + m.length ≤ 140737488355328) (hB : B ≤ w.heap.size)
    (h : ∀ v' w', Own B w' v' (l ++ m) → w.grownBy w' v.ownBlock → (v'.ownBlock = v.ownBlock ∨ v'.ownBlock = some w.heap.size) → K (a.put dst v') w') : o.wp P a w K Q := by
  subst hd
  obtain ⟨i, hi0, hz, hsz, hby⟩ := info_parts hi
  obtain ⟨v', w', hr, h2, h3, h5⟩ := app_run (P := P) w t o.type i ht hi0 hz hsz hby B v vx l m hown hr hlen hB
  unfold Oper.wp execOp
  simp only [ho, resolve, invoke, builtin, Sem.run_bind, Sem.run_pure, Result.andThen_ok, List.map_toArray, List.map_cons, List.map_nil, hs, hx, hr]
  exact h _ _ h2 h3 h5
/-- What stays of the static facts, asked once. -/
def statB (k : Nat) (needs : List (List Nat)) (kinds : List Nat) (cons src : List (Option Nat)) : Bool :=
  ((List.range k).all fun i => decide (kinds.getD i 0 ≤ 3)) && (List.range k).all fun i => match src.getD i none with
    | none => true
    | some d => (needs.getD i []).contains d && decide (cons.getD d none = some i) && decide (2 ≤ kinds.getD d 0)
theorem stat4 {k : Nat} {needs : List (List Nat)} {kinds : List Nat} {cons src : List (Option Nat)} (h : statB k needs kinds cons src = true) : ∀ i, i < k → kinds.getD i 0 ≤ 3 := by
  unfold statB at h
  rw [Bool.and_eq_true, List.all_eq_true] at h
  exact fun i hi => of_decide_eq_true (h.1 i (List.mem_range.2 hi))
theorem statS {k : Nat} {needs : List (List Nat)} {kinds : List Nat} {cons src : List (Option Nat)} (h : statB k needs kinds cons src = true) : ∀ i, i < k → ∀ d, src.getD i none = some d → kinds.getD i 0 = 2 → d ∈ needs.getD i [] ∧ cons.getD d none = some i ∧ 2 ≤ kinds.getD d 0 := by
  unfold statB at h
  rw [Bool.and_eq_true, List.all_eq_true, List.all_eq_true] at h
  intro i hi d hd _
  have := h.2 i (List.mem_range.2 hi)
  simp only [hd, Bool.and_eq_true] at this
  obtain ⟨⟨h1, h2⟩, h3⟩ := this
  exact ⟨by simpa using h1, of_decide_eq_true h2, of_decide_eq_true h3⟩
end
end Go.Proofs.Ytniaiglfgknfiaa
