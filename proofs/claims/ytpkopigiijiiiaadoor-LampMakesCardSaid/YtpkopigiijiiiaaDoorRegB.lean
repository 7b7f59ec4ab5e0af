/- A REGION THAT DRAWS ITS ORDER: values that are known; blocks newly laid, and stored into; old blocks that are stored into; of our own. -/
import Derived.Test.YtpkopigiijiiiaaDoorTb
import Derived.Test.YtpkopigiijiiiaaDoorTa
namespace Go.Proofs.YtpkopigiijiiiaaDoor
open Go Go.RowKit
set_option linter.unusedVariables false
set_option linter.unusedSimpArgs false
set_option linter.unusedVariables false
set_option linter.unusedSimpArgs false

/-- A new block: the operations that lay it and store into it; its cells ahead and behind. -/
structure NB where
  (a s : Nat) (z n : Array Value) (T : TypeId)
/-- An old block that is stored into. -/
structure OB where
  (s g : Nat) (z n : Array Value) (T : TypeId)
/-- But for the blocks S the next world. -/
structure Kp (S : List Nat) (w w' : World) : Prop where
  os : w'.os = w.os
  tape : w'.tape = w.tape
  output : w'.output = w.output
  size : w.heap.size ≤ w'.heap.size
  block : ∀ k, k < w.heap.size → k ∉ S → w'.heap[k]? = w.heap[k]?
theorem Kp.of_nx {S : List Nat} {a b : World} (h : Nx a b) : Kp S a b := ⟨h.os, h.tape, h.output, h.size, fun k hk _ => h.block k hk⟩
theorem Kp.refl (S : List Nat) (w : World) : Kp S w w := .of_nx (Nx.refl w)
theorem Kp.nx {S : List Nat} {a b c : World} (h : Kp S a b) (k : Nx b c) : Kp S a c := ⟨k.os.trans h.os, k.tape.trans h.tape, k.output.trans h.output, Nat.le_trans h.size k.size, fun i hi hs => (k.block i (Nat.lt_of_lt_of_le hi h.size)).trans (h.block i hi hs)⟩
theorem Kp.setNew {S : List Nat} {a b : World} (h : Kp S a b) {g : Nat} (cs : Array Value) (hg : a.heap.size ≤ g) : Kp S a (b.setRow g cs) := ⟨h.os, h.tape, h.output, by rw [size_setRow]; exact h.size, fun k hk hs => by rw [setRow_other _ _ _ _ (by omega)]; exact h.block k hk hs⟩
theorem Kp.setOld {S : List Nat} {a b : World} (h : Kp S a b) {g : Nat} (cs : Array Value) (hg : g ∈ S) : Kp S a (b.setRow g cs) := ⟨h.os, h.tape, h.output, by rw [size_setRow]; exact h.size, fun k hk hs => by
  rw [setRow_other _ _ _ _ (fun e => hs (by rw [e]; exact hg))]; exact h.block k hk hs⟩
theorem Kp.to {S : List Nat} {w0 a b : World} (h : Kp S a b) (hw : Nx w0 a) (hS : ∀ g ∈ S, w0.heap.size ≤ g) : Nx w0 b := ⟨h.os.trans hw.os, h.tape.trans hw.tape, h.output.trans hw.output, Nat.le_trans hw.size h.size, fun k hk => (h.block k (Nat.lt_of_lt_of_le hk hw.size) (fun hs => by have := hS k hs; omega)).trans (hw.block k hk)⟩
theorem Kp.free {a b : World} (h : Kp [] a b) : Nx a b := h.to (Nx.refl a) (fun _ hg => by cases hg)
theorem Row.kp {S : List Nat} {a b : World} {g : Nat} {cs : Array Value} {t : TypeId} (h : Row a g cs t) (k : Kp S a b) (hS : g ∉ S) : Row b g cs t := by
  unfold Row
  rw [k.block g h.lt hS]; exact h
theorem inj_of_nodup {α : Type} (f : α → Nat) : ∀ (l : List α), (l.map f).Nodup → ∀ e ∈ l, ∀ e' ∈ l, f e = f e' → e = e'
  | [], _, e, he, _, _, _ => by cases he
  | x :: l, h, e, he, e', he', hf => by
    rw [List.map_cons, List.nodup_cons] at h
    rcases List.mem_cons.1 he with rfl | h1
    · rcases List.mem_cons.1 he' with rfl | h2
      · rfl
      · exact absurd (List.mem_map.2 ⟨e', h2, hf.symm⟩) h.1
    · rcases List.mem_cons.1 he' with rfl | h2
      · exact absurd (List.mem_map.2 ⟨e, h1, hf⟩) h.1
      · exact inj_of_nodup f l h.2 e h1 e' h2 hf
theorem fillA_upd (t0 : Array Value) (x : Nat → Value) (v : Value) (df : List Deferred) (dl : List (Option Tmp)) (i : Nat) (hi : i < dl.length) (hn : (dl.filterMap id).Nodup) :
    (⟨fillA t0 dl 0 x, df⟩ : Act).put (dl.getD i none) v = ⟨fillA t0 dl 0 (upd x i v), df⟩ := by
  have hdi : dl[i]? = some (dl.getD i none) := by
    rw [List.getD_eq_getElem?_getD, List.getElem?_eq_getElem hi]; rfl
  cases hg : dl.getD i none with
  | none =>
    rw [hg] at hdi
    have := fillA_skip t0 x v dl 0 i (.inl hdi)
    rw [Nat.zero_add] at this
    rw [← this]; rfl
  | some d =>
    rw [hg] at hdi
    have := fillA_put t0 x v d dl 0 i hn hdi
    rw [Nat.zero_add] at this
    rw [← this]; rfl

def spec (nb : List NB) (ob : List OB) : List Nat := nb.map (·.a) ++ nb.map (·.s) ++ ob.map (·.s)
theorem spec_a {nb : List NB} {ob : List OB} {e : NB} (h : e ∈ nb) : e.a ∈ spec nb ob := List.mem_append_left _ (List.mem_append_left _ (List.mem_map.2 ⟨e, h, rfl⟩))
theorem spec_s {nb : List NB} {ob : List OB} {e : NB} (h : e ∈ nb) : e.s ∈ spec nb ob := List.mem_append_left _ (List.mem_append_right _ (List.mem_map.2 ⟨e, h, rfl⟩))
theorem spec_o {nb : List NB} {ob : List OB} {e : OB} (h : e ∈ ob) : e.s ∈ spec nb ob := List.mem_append_right _ (List.mem_map.2 ⟨e, h, rfl⟩)
theorem upd_ne (x : Nat → Value) {i j : Nat} (v : Value) (h : j ≠ i) : upd x i v j = x j := by unfold upd; rw [if_neg h]
theorem upd_eq (x : Nat → Value) (i : Nat) (v : Value) : upd x i v i = v := by unfold upd; rw [if_pos rfl]
theorem or_ne {L : Nat → Bool} {i j : Nat} (h : j ≠ i) : (j == i || L j) = L j := by
  have : (j == i) = false := by rw [beq_eq_false_iff_ne]; exact h
  rw [this, Bool.false_or]
theorem or_eq {L : Nat → Bool} (i : Nat) : (i == i || L i) = true := by simp

section
variable {P : Program} {ops : Array Oper} {Q : Exit → Act → World → Prop}
theorem wp_region_blk {id : Nat} {t0 : Array Value} {df : List Deferred} {w : World} (n : Nat) (needs : List (List Nat)) (dl : List (Option Tmp)) (V : List Value) (nb : List NB) (ob : List OB)
    (hm : P.follows .mixedOrders = true) (hn : needsOf .any ops = needs) (hord : ∀ i, ∀ d ∈ needs.getD i [], d < i)
    (hsz : ops.size = n) (hdl : dl.length = n) (hnd : (dl.filterMap _root_.id).Nodup)
    (hsp : (spec nb ob).Nodup) (has : ∀ q ∈ nb.map (fun e => (e.a, e.s)), q.1 ∈ needs.getD q.2 [])
    (hspn : ∀ i ∈ spec nb ob, i < n) (hob : ∀ e ∈ ob, Row w e.g e.z e.T) (hog : (ob.map (·.g)).Nodup)
    (hstep : ∀ x tm wr, fillA t0 dl 0 x = tm → Kp (ob.map (·.g)) w wr → ∀ i, i < n → i ∉ spec nb ob → (∀ d ∈ needs.getD i [], d ∉ spec nb ob → x d = V.getD d undef) → (∀ e ∈ ob, i ∈ needs.getD e.s [] → Row wr e.g e.z e.T) →
      ∀ K : Act → World → Prop, (∀ w', Nx wr w' → K ((⟨tm, df⟩ : Act).put (dl.getD i none) (V.getD i undef)) w') → wpOp P ops Q i K ⟨tm, df⟩ wr)
    (halloc : ∀ e ∈ nb, ∀ tm wr, ∀ K : Act → World → Prop, K ((⟨tm, df⟩ : Act).put (dl.getD e.a none) (.pointer (some ⟨wr.heap.size, 0, none⟩))) (wr.alloc (.cells e.z e.T)) → wpOp P ops Q e.a K ⟨tm, df⟩ wr)
    (hstore : ∀ e ∈ nb, ∀ x tm wr g, fillA t0 dl 0 x = tm → (∀ d ∈ needs.getD e.s [], d ∉ spec nb ob → x d = V.getD d undef) → x e.a = .pointer (some ⟨g, 0, none⟩) → Row wr g e.z e.T →
      ∀ K : Act → World → Prop, K ((⟨tm, df⟩ : Act).put (dl.getD e.s none) undef) (wr.setRow g e.n) → wpOp P ops Q e.s K ⟨tm, df⟩ wr)
    (hstoreo : ∀ e ∈ ob, ∀ x tm wr, fillA t0 dl 0 x = tm → (∀ d ∈ needs.getD e.s [], d ∉ spec nb ob → x d = V.getD d undef) → Row wr e.g e.z e.T →
      ∀ K : Act → World → Prop, K ((⟨tm, df⟩ : Act).put (dl.getD e.s none) undef) (wr.setRow e.g e.n) → wpOp P ops Q e.s K ⟨tm, df⟩ wr)
    (hend : ∀ x tm wr, fillA t0 dl 0 x = tm → Kp (ob.map (·.g)) w wr → (∀ i, i < n → i ∉ spec nb ob → x i = V.getD i undef) → (∀ e ∈ nb, ∃ g, x e.a = .pointer (some ⟨g, 0, none⟩) ∧ w.heap.size ≤ g ∧ Row wr g e.n e.T) →
      (∀ e ∈ nb, ∀ e' ∈ nb, e.a ≠ e'.a → x e.a ≠ x e'.a) → (∀ e ∈ ob, Row wr e.g e.n e.T) → Q .normal ⟨tm, df⟩ wr) :
    (Code.region id ops true).wp P Q ⟨t0, df⟩ w := by
  subst hsz
  have inja : ∀ e ∈ nb, ∀ e' ∈ nb, e.a = e'.a → e = e' := inj_of_nodup _ nb (List.nodup_append.1 (List.nodup_append.1 hsp).1).1
  have injs : ∀ e ∈ nb, ∀ e' ∈ nb, e.s = e'.s → e = e' := inj_of_nodup _ nb (List.nodup_append.1 (List.nodup_append.1 hsp).1).2.1
  have injo : ∀ e ∈ ob, ∀ e' ∈ ob, e.s = e'.s → e = e' := inj_of_nodup _ ob (List.nodup_append.1 hsp).2.1
  have injg : ∀ e ∈ ob, ∀ e' ∈ ob, e.g = e'.g → e = e' := inj_of_nodup _ ob hog
  have nas : ∀ e ∈ nb, ∀ e' ∈ nb, e.a ≠ e'.s := fun e he e' he' h => (List.nodup_append.1 (List.nodup_append.1 hsp).1).2.2 _ (List.mem_map.2 ⟨e, he, rfl⟩) _ (List.mem_map.2 ⟨e', he', rfl⟩) h
  have nao : ∀ e ∈ nb, ∀ e' ∈ ob, e.a ≠ e'.s := fun e he e' he' h => (List.nodup_append.1 hsp).2.2 _ (List.mem_append_left _ (List.mem_map.2 ⟨e, he, rfl⟩)) _ (List.mem_map.2 ⟨e', he', rfl⟩) h
  have nso : ∀ e ∈ nb, ∀ e' ∈ ob, e.s ≠ e'.s := fun e he e' he' h => (List.nodup_append.1 hsp).2.2 _ (List.mem_append_right _ (List.mem_map.2 ⟨e, he, rfl⟩)) _ (List.mem_map.2 ⟨e', he', rfl⟩) h
  have has' : ∀ e ∈ nb, e.a ∈ needs.getD e.s [] := fun e he => has (e.a, e.s) (List.mem_map.2 ⟨e, he, rfl⟩)
  refine wp_region_inv needs (fun L a w' => ∃ x : Nat → Value, a = ⟨fillA t0 dl 0 x, df⟩ ∧ Kp (ob.map (·.g)) w w' ∧ (∀ j, L j = true → ∀ d ∈ needs.getD j [], L d = true) ∧ (∀ i, i < ops.size → i ∉ spec nb ob → L i = true → x i = V.getD i undef) ∧
    (∀ e ∈ nb, L e.a = true → ∃ g, x e.a = .pointer (some ⟨g, 0, none⟩) ∧ w.heap.size ≤ g ∧ Row w' g (cond (L e.s) e.n e.z) e.T) ∧ (∀ e ∈ nb, ∀ e' ∈ nb, e.a ≠ e'.a → L e.a = true → L e'.a = true → x e.a ≠ x e'.a) ∧ (∀ e ∈ ob, Row w' e.g (cond (L e.s) e.n e.z) e.T)) hm hn hord ?_ ?_ ?_
  · refine ⟨fun i => match dl[i]? with | some (some d) => t0.getD d undef | _ => undef, ?_, .of_nx (Nx.refl w).drew, (fun _ h => by cases h), (fun _ _ _ h => by cases h), (fun _ _ h => by cases h), (fun _ _ _ _ _ h => by cases h), fun e he => ?_⟩
    · rw [fillA_self]
      intro i d hd
      rw [Nat.zero_add]
      simp only [hd]
    · exact (hob e he).drew
  · rintro L a wr ⟨x, rfl, hx, hcl, hnr, hnew, hdis, hold⟩ i hi hL hd K hK
    have hil : i < dl.length := by omega
    have hpin : ∀ {j : Nat}, (j == i || L j) = true → j ≠ i → L j = true := fun h hne => by rwa [or_ne hne] at h
    have hcl2 : ∀ j, (j == i || L j) = true → ∀ d ∈ needs.getD j [], (d == i || L d) = true := fun j hj d hdd => by
      by_cases hji : j = i
      · subst hji; rw [hd d hdd, Bool.or_true]
      · rw [hcl j (hpin hj hji) d hdd, Bool.or_true]
    have hdn : ∀ d ∈ needs.getD i [], d ∉ spec nb ob → x d = V.getD d undef := fun d hdd hs => hnr d (by have := hord i d hdd; omega) hs (hd d hdd)
    have hlate : ∀ s, i ∈ needs.getD s [] → L s = false := fun s hs => by
      rcases h : L s with _ | _
      · rfl
      · rw [hcl s h i hs] at hL; cases hL
    by_cases hisp : i ∈ spec nb ob
    · rcases List.mem_append.1 hisp with h1 | h1
      · rcases List.mem_append.1 h1 with h2 | h2
        · obtain ⟨e, he, rfl⟩ := List.mem_map.1 h2
          refine halloc e he _ wr K ?_
          rw [fillA_upd t0 x _ df dl _ hil hnd]
          refine hK _ _ ⟨_, rfl, hx.nx ((Nx.refl wr).alloc _), hcl2, ?_, ?_, ?_, ?_⟩
          · intro j hj hjs hLj
            have hne : j ≠ e.a := fun h => hjs (by rw [h]; exact spec_a he)
            rw [upd_ne _ _ hne]
            exact hnr j hj hjs (hpin hLj hne)
          · intro e' he' hLe
            by_cases hee : e'.a = e.a
            · obtain rfl := inja e' he' e he hee
              refine ⟨wr.heap.size, upd_eq _ _ _, hx.size, ?_⟩
              dsimp only
              rw [or_ne (nas _ he' _ he').symm, hlate _ (has' _ he'), cond_false]
              exact Row.new _ _ _ _ rfl
            · obtain ⟨g, h1, h2, h3⟩ := hnew e' he' (hpin hLe hee)
              refine ⟨g, by rw [upd_ne _ _ hee]; exact h1, h2, ?_⟩
              dsimp only
              rw [or_ne (nas _ he _ he').symm]
              exact h3.alloc _
          · intro e1 he1 e2 he2 hne hL1 hL2
            by_cases h1 : e1.a = e.a
            · have h2 : e2.a ≠ e.a := fun h => hne (h1.trans h.symm)
              obtain ⟨g, q1, _, q3⟩ := hnew e2 he2 (hpin hL2 h2)
              rw [h1, upd_eq, upd_ne _ _ h2, q1]
              intro h
              have hlt := q3.lt
              injection h with h; injection h with h; injection h with h
              omega
            · by_cases h2 : e2.a = e.a
              · obtain ⟨g, q1, _, q3⟩ := hnew e1 he1 (hpin hL1 h1)
                rw [h2, upd_eq, upd_ne _ _ h1, q1]
                intro h
                have hlt := q3.lt
                injection h with h; injection h with h; injection h with h
                omega
              · rw [upd_ne _ _ h1, upd_ne _ _ h2]
                exact hdis e1 he1 e2 he2 hne (hpin hL1 h1) (hpin hL2 h2)
          · intro e' he'
            dsimp only
            rw [or_ne (nao _ he _ he').symm]
            exact (hold e' he').alloc _
        · obtain ⟨e, he, rfl⟩ := List.mem_map.1 h2
          clear h1 h2
          obtain ⟨g, h1, h2, h3⟩ := hnew e he (hd _ (has' e he))
          rw [hL, cond_false] at h3
          refine hstore e he x _ wr g rfl hdn h1 h3 K ?_
          rw [fillA_upd t0 x _ df dl _ hil hnd]
          refine hK _ _ ⟨_, rfl, hx.setNew _ h2, hcl2, ?_, ?_, ?_, ?_⟩
          · intro j hj hjs hLj
            have hne : j ≠ e.s := fun h => hjs (by rw [h]; exact spec_s he)
            rw [upd_ne _ _ hne]
            exact hnr j hj hjs (hpin hLj hne)
          · intro e' he' hLe
            have hna := nas e' he' e he
            have hLe' := hpin hLe hna
            by_cases hee : e' = e
            · subst hee
              refine ⟨g, by rw [upd_ne _ _ hna]; exact h1, h2, ?_⟩
              dsimp only
              rw [or_eq, cond_true]
              exact h3.setRow _
            · obtain ⟨g', q1, q2, q3⟩ := hnew e' he' hLe'
              have hne : e'.s ≠ e.s := fun h => hee (injs e' he' e he h)
              have hgg : g' ≠ g := fun h => hdis e' he' e he (fun h => hee (inja e' he' e he h)) hLe' (hd _ (has' e he)) (by rw [q1, h1, h])
              refine ⟨g', by rw [upd_ne _ _ hna]; exact q1, q2, ?_⟩
              dsimp only
              rw [or_ne hne]
              exact q3.setRow_other _ hgg
          · intro e1 he1 e2 he2 hne hL1 hL2
            rw [upd_ne _ _ (nas e1 he1 e he), upd_ne _ _ (nas e2 he2 e he)]
            exact hdis e1 he1 e2 he2 hne (hpin hL1 (nas e1 he1 e he)) (hpin hL2 (nas e2 he2 e he))
          · intro e' he'
            dsimp only
            rw [or_ne (nso _ he _ he').symm]
            refine (hold e' he').setRow_other _ ?_
            have := (hob e' he').lt
            omega
      · obtain ⟨e, he, rfl⟩ := List.mem_map.1 h1
        have h3 := hold e he
        rw [hL, cond_false] at h3
        refine hstoreo e he x _ wr rfl hdn h3 K ?_
        rw [fillA_upd t0 x _ df dl _ hil hnd]
        refine hK _ _ ⟨_, rfl, hx.setOld _ (List.mem_map.2 ⟨e, he, rfl⟩), hcl2, ?_, ?_, ?_, ?_⟩
        · intro j hj hjs hLj
          have hne : j ≠ e.s := fun h => hjs (by rw [h]; exact spec_o he)
          rw [upd_ne _ _ hne]
          exact hnr j hj hjs (hpin hLj hne)
        · intro e' he' hLe
          have hna := nao e' he' e he
          obtain ⟨g', q1, q2, q3⟩ := hnew e' he' (hpin hLe hna)
          refine ⟨g', by rw [upd_ne _ _ hna]; exact q1, q2, ?_⟩
          dsimp only
          rw [or_ne (nso e' he' e he)]
          refine q3.setRow_other _ ?_
          have := (hob e he).lt
          omega
        · intro e1 he1 e2 he2 hne hL1 hL2
          rw [upd_ne _ _ (nao e1 he1 e he), upd_ne _ _ (nao e2 he2 e he)]
          exact hdis e1 he1 e2 he2 hne (hpin hL1 (nao e1 he1 e he)) (hpin hL2 (nao e2 he2 e he))
        · intro e' he'
          by_cases hee : e' = e
          · subst hee
            dsimp only
            rw [or_eq, cond_true]
            exact h3.setRow _
          · have hne : e'.s ≠ e.s := fun h => hee (injo e' he' e he h)
            dsimp only
            rw [or_ne hne]
            exact (hold e' he').setRow_other _ (fun h => hee (injg e' he' e he h))
    · refine hstep x _ wr rfl hx i hi hisp hdn (fun e he hie => by have := hold e he; rwa [hlate _ hie, cond_false] at this) K fun w' hnx => ?_
      rw [fillA_upd t0 x _ df dl _ hil hnd]
      refine hK _ _ ⟨_, rfl, hx.nx hnx, hcl2, ?_, ?_, ?_, ?_⟩
      · intro j hj hjs hLj
        by_cases hji : j = i
        · subst hji; exact upd_eq _ _ _
        · rw [upd_ne _ _ hji]
          exact hnr j hj hjs (hpin hLj hji)
      · intro e he hLe
        have hna : e.a ≠ i := fun h => hisp (by rw [← h]; exact spec_a he)
        have hns : e.s ≠ i := fun h => hisp (by rw [← h]; exact spec_s he)
        obtain ⟨g, q1, q2, q3⟩ := hnew e he (hpin hLe hna)
        refine ⟨g, by rw [upd_ne _ _ hna]; exact q1, q2, ?_⟩
        dsimp only
        rw [or_ne hns]
        exact q3.nx hnx
      · intro e1 he1 e2 he2 hne hL1 hL2
        have h1 : e1.a ≠ i := fun h => hisp (by rw [← h]; exact spec_a he1)
        have h2 : e2.a ≠ i := fun h => hisp (by rw [← h]; exact spec_a he2)
        rw [upd_ne _ _ h1, upd_ne _ _ h2]
        exact hdis e1 he1 e2 he2 hne (hpin hL1 h1) (hpin hL2 h2)
      · intro e he
        have hns : e.s ≠ i := fun h => hisp (by rw [← h]; exact spec_o he)
        dsimp only
        rw [or_ne hns]
        exact (hold e he).nx hnx
  · rintro L a wr ⟨x, rfl, hx, hcl, hnr, hnew, hdis, hold⟩ hall
    refine hend x _ wr rfl hx (fun i hi hs => hnr i hi hs (hall i hi)) (fun e he => ?_) (fun e he e' he' hne => hdis e he e' he' hne (hall _ (hspn _ (spec_a he))) (hall _ (hspn _ (spec_a he')))) (fun e he => ?_)
    · obtain ⟨g, q1, q2, q3⟩ := hnew e he (hall _ (hspn _ (spec_a he)))
      rw [hall _ (hspn _ (spec_s he)), cond_true] at q3
      exact ⟨g, q1, q2, q3⟩
    · have := hold e he
      rwa [hall _ (hspn _ (spec_o he)), cond_true] at this
theorem wp_region_bk {id : Nat} {t0 : Array Value} {df : List Deferred} {w : World} (n : Nat) (needs : List (List Nat)) (dl : List (Option Tmp)) (V : List Value) (nb : List NB) (ob : List OB) (sp : List Nat) (asl : List (Nat × Nat)) (hspe : spec nb ob = sp) (hasl : nb.map (fun e => (e.a, e.s)) = asl)
    (hm : P.follows .mixedOrders = true) (hn : needsOf .any ops = needs) (hord : ∀ i, ∀ d ∈ needs.getD i [], d < i)
    (hsz : ops.size = n) (hdl : dl.length = n) (hnd : (dl.filterMap _root_.id).Nodup)
    (hsp : sp.Nodup) (has : ∀ q ∈ asl, q.1 ∈ needs.getD q.2 [])
    (hspn : ∀ i ∈ sp, i < n) (hob : ∀ e ∈ ob, Row w e.g e.z e.T) (hog : (ob.map (·.g)).Nodup)
    (hstep : ∀ x tm wr, fillA t0 dl 0 x = tm → Kp (ob.map (·.g)) w wr → ∀ i, i < n → i ∉ sp → (∀ d ∈ needs.getD i [], d ∉ sp → x d = V.getD d undef) → (∀ e ∈ ob, i ∈ needs.getD e.s [] → Row wr e.g e.z e.T) →
      ∀ K : Act → World → Prop, (∀ w', Nx wr w' → K ((⟨tm, df⟩ : Act).put (dl.getD i none) (V.getD i undef)) w') → wpOp P ops Q i K ⟨tm, df⟩ wr)
    (halloc : ∀ e ∈ nb, ∀ tm wr, ∀ K : Act → World → Prop, K ((⟨tm, df⟩ : Act).put (dl.getD e.a none) (.pointer (some ⟨wr.heap.size, 0, none⟩))) (wr.alloc (.cells e.z e.T)) → wpOp P ops Q e.a K ⟨tm, df⟩ wr)
    (hstore : ∀ e ∈ nb, ∀ x tm wr g, fillA t0 dl 0 x = tm → (∀ d ∈ needs.getD e.s [], d ∉ sp → x d = V.getD d undef) → x e.a = .pointer (some ⟨g, 0, none⟩) → Row wr g e.z e.T →
      ∀ K : Act → World → Prop, K ((⟨tm, df⟩ : Act).put (dl.getD e.s none) undef) (wr.setRow g e.n) → wpOp P ops Q e.s K ⟨tm, df⟩ wr)
    (hstoreo : ∀ e ∈ ob, ∀ x tm wr, fillA t0 dl 0 x = tm → (∀ d ∈ needs.getD e.s [], d ∉ sp → x d = V.getD d undef) → Row wr e.g e.z e.T →
      ∀ K : Act → World → Prop, K ((⟨tm, df⟩ : Act).put (dl.getD e.s none) undef) (wr.setRow e.g e.n) → wpOp P ops Q e.s K ⟨tm, df⟩ wr)
    (hend : ∀ x tm wr, fillA t0 dl 0 x = tm → Kp (ob.map (·.g)) w wr → (∀ i, i < n → i ∉ sp → x i = V.getD i undef) → (∀ e ∈ nb, ∃ g, x e.a = .pointer (some ⟨g, 0, none⟩) ∧ w.heap.size ≤ g ∧ Row wr g e.n e.T) →
      (∀ e ∈ nb, ∀ e' ∈ nb, e.a ≠ e'.a → x e.a ≠ x e'.a) → (∀ e ∈ ob, Row wr e.g e.n e.T) → Q .normal ⟨tm, df⟩ wr) :
    (Code.region id ops true).wp P Q ⟨t0, df⟩ w := by
  subst hspe hasl
  exact wp_region_blk n needs dl V nb ob hm hn hord hsz hdl hnd hsp has hspn hob hog hstep halloc hstore hstoreo hend
end
end Go.Proofs.YtpkopigiijiiiaaDoor
