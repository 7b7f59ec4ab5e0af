/- TEXTS OF OUR OWN, IN ONE FILE. -/
import Derived.Test.YtpkopigiijiiiaaDoorTa
import Derived.Deep.Slices
section
namespace Go.Proofs.YtpkopigiijiiiaaDoor
open Go Go.RowKit
set_option linter.unusedVariables false
set_option linter.unusedSimpArgs false
set_option linter.unusedVariables false
set_option linter.unusedSimpArgs false

/-- The slice v holds n elements, whose cells are fs. -/
def RdF (k : Nat) (w : World) (v : Value) (n : Nat) (fs : List Value) : Prop :=
  fs.length = n * k ∧ (∀ u ∈ fs, u.oneCell' = true) ∧ ∃ A c, v = .slice A n c ∧ n ≤ c ∧ c ≤ maxLen ∧ (0 < n → ∃ b o, A = some ⟨b, o, none⟩ ∧ b < w.heap.size ∧ ∀ j (h : j < fs.length), w.cell? ⟨b, o + j, none⟩ = some fs[j])
/-- A row of the call's own, of elements of type E, from block B on; or nil. -/
def OwnF (E : TypeId) (k B : Nat) (w : World) (v : Value) (n : Nat) (fs : List Value) : Prop :=
  fs.length = n * k ∧ ((v = .slice none 0 0 ∧ n = 0) ∨
  ∃ (g c : Nat) (full : List Value), v = .slice (some ⟨g, 0, none⟩) n c ∧ B ≤ g ∧ w.heap[g]? = some (.cells full.toArray E (0, 0)) ∧ full.length = c * k ∧ n ≤ c ∧ c ≤ maxLen ∧ full.take (n * k) = fs)
theorem RdF.nil (k : Nat) (w : World) : RdF k w (.slice none 0 0) 0 [] := ⟨by simp, by simp, none, 0, rfl, by simp, by simp [maxLen], by simp⟩
theorem RdF.nx {k : Nat} {w w' : World} {v : Value} {n : Nat} {fs : List Value} (h : RdF k w v n fs) (x : Nx w w') : RdF k w' v n fs := by
  obtain ⟨h0, h3, A, c, rfl, h1, h2, h4⟩ := h
  refine ⟨h0, h3, A, c, rfl, h1, h2, fun hp => ?_⟩
  obtain ⟨b, o, rfl, hb, hc⟩ := h4 hp
  exact ⟨b, o, rfl, Nat.lt_of_lt_of_le hb x.size, fun j hj => by rw [x.cell (p := ⟨b, o + j, none⟩) hb]; exact hc j hj⟩
theorem OwnF.nil (E : TypeId) (k B : Nat) (w : World) : OwnF E k B w (.slice none 0 0) 0 [] := ⟨by simp, .inl ⟨rfl, rfl⟩⟩
theorem OwnF.nx {E : TypeId} {k B : Nat} {w w' : World} {v : Value} {n : Nat} {fs : List Value} (h : OwnF E k B w v n fs) (x : Nx w w') : OwnF E k B w' v n fs := by
  obtain ⟨h0, h2 | ⟨g, c, full, rfl, hb, hg, rest⟩⟩ := h
  · exact ⟨h0, .inl h2⟩
  · exact ⟨h0, .inr ⟨g, c, full, rfl, hb, by rw [x.block g (Array.getElem?_eq_some_iff.1 hg).1]; exact hg, rest⟩⟩
theorem OwnF.mono {E : TypeId} {k B B' : Nat} {w : World} {v : Value} {n : Nat} {fs : List Value} (h : OwnF E k B w v n fs) (hB : B' ≤ B) : OwnF E k B' w v n fs := by
  obtain ⟨h0, h2 | ⟨g, c, full, rfl, hb, rest⟩⟩ := h
  · exact ⟨h0, .inl h2⟩
  · exact ⟨h0, .inr ⟨g, c, full, rfl, Nat.le_trans hB hb, rest⟩⟩
theorem OwnF.cellsAt {E : TypeId} {w : World} {g m : Nat} {full fs : List Value} (hg : w.heap[g]? = some (.cells full.toArray E (0, 0))) (ht : full.take m = fs) : ∀ j (h : j < fs.length), w.cell? ⟨g, j, none⟩ = some fs[j] := by
  intro j hj
  rw [cell_of_row w g j _ _ (0, 0) hg]
  have hm : j < m := by rw [← ht, List.length_take] at hj; omega
  have h1 : full[j]? = fs[j]? := by rw [← ht, List.getElem?_take_of_lt hm]
  simp only [List.getElem?_toArray, h1, List.getElem?_eq_getElem hj]
theorem OwnF.rd {E : TypeId} {k B : Nat} {w : World} {v : Value} {n : Nat} {fs : List Value} (h : OwnF E k B w v n fs) (h1 : ∀ u ∈ fs, u.oneCell' = true) : RdF k w v n fs := by
  obtain ⟨h0, ⟨rfl, rfl⟩ | ⟨g, c, full, rfl, hg, hh, hf, hn, hm, ht⟩⟩ := h
  · exact ⟨h0, h1, none, 0, rfl, by simp, by simp [maxLen], by simp⟩
  · exact ⟨h0, h1, some ⟨g, 0, none⟩, c, rfl, hn, hm, fun _ => ⟨g, 0, rfl, (Array.getElem?_eq_some_iff.1 hh).1, fun j hj => by rw [Nat.zero_add]; exact OwnF.cellsAt hh ht j hj⟩⟩
theorem OwnF.block {E : TypeId} {k B : Nat} {w : World} {v : Value} {n : Nat} {fs : List Value} (h : OwnF E k B w v n fs) : ∀ q, v.ownBlock = some q → B ≤ q ∧ q < w.heap.size := by
  intro q hq
  obtain ⟨h0, ⟨rfl, _⟩ | ⟨g, c, full, rfl, hb, hg, _⟩⟩ := h
  · simp [Value.ownBlock] at hq
  · obtain rfl : g = q := by simpa [Value.ownBlock] using hq
    exact ⟨hb, (Array.getElem?_eq_some_iff.1 hg).1⟩
theorem OwnF.below {E : TypeId} {k B : Nat} {w w' : World} {v : Value} {n : Nat} {fs : List Value} (hB : B ≤ w.heap.size) (hown : OwnF E k B w v n fs) (hg : w.grownBy w' v.ownBlock) : Below B w w' :=
  Below.grown (Below.refl _ _) hg hB fun q hq => (hown.block q hq).1

section
variable {P : Program}
theorem appF_run (w : World) (t ty E : TypeId) (i : TypeInfo) (z : Value) (k by' : Nat) (ht : P.underlying t = some (.slice E)) (hi : P.info? E = some i) (hz : i.zero = some z) (hzc : z.cells.size = k) (hsize : i.size = k) (hby : i.bytes = by') (hk : 0 < k)
    (B : Nat) (v vx : Value) (n m : Nat) (fs us : List Value) (hown : OwnF E k B w v n fs) (hr : RdF k w vx m us) (hlen : (n + m) * by' ≤ 140737488355328) (hmx : n + m ≤ maxLen) (hB : B ≤ w.heap.size) :
    ∃ v' w', (Builtin.append_ #[t, t] ty #[v, vx]).run P w = .ok v' w' ∧ OwnF E k B w' v' (n + m) (fs ++ us) ∧ w.grownBy w' v.ownBlock ∧ (v'.ownBlock = v.ownBlock ∨ (v'.ownBlock = some w.heap.size ∧ w.grownBy w' none)) := by
  obtain ⟨hu, h1, A, c, rfl, hc, hm, ha⟩ := hr
  subst hby
  have h63 : ((n + m : Nat) : Int) ≤ 9223372036854775807 := by simp only [maxLen] at hmx; omega
  have hfl0 : (fs ++ us).length = (n + m) * k := by rw [List.length_append, hown.1, hu, Nat.add_mul]
  rcases A with _ | ad
  · have h0 : m = 0 := by
      rcases Nat.eq_zero_or_pos m with h | h
      · exact h
      · obtain ⟨b, o, h', _⟩ := ha h; cases h'
    subst h0
    obtain rfl : us = [] := List.eq_nil_of_length_eq_zero (by simpa using hu)
    refine ⟨v, w, ?_, by simpa using hown, World.grownBy.refl w _, .inl rfl⟩
    obtain ⟨h0, ⟨rfl, rfl⟩ | ⟨g, cc, full, rfl, _, _, _, hnc, _⟩⟩ := hown
    · simp [Builtin.append_, run_underlying ht, sizeOf, typeInfo, hi, Builtin.lenOf, Builtin.firstCells]
    · simp [Builtin.append_, run_underlying ht, sizeOf, typeInfo, hi, Builtin.lenOf, Builtin.firstCells, hnc, storeCells]
  · have hnews : 0 < m → ∀ j u, us[j]? = some u → w.cell? (ad.add j) = some u := fun hp j u hu' => by
      obtain ⟨hj, rfl⟩ := List.getElem?_eq_some_iff.1 hu'
      obtain ⟨b, o, he, hb, hcell⟩ := ha hp
      obtain rfl : ad = ⟨b, o, none⟩ := by injection he
      rw [addr_add, hcell j hj]
    have hnews' : ∀ j u, us[j]? = some u → w.cell? (ad.add j) = some u := by
      rcases Nat.eq_zero_or_pos m with h | h
      · intro j u hu'
        have := (List.getElem?_eq_some_iff.1 hu').1
        rw [hu, h] at this
        omega
      · exact hnews h
    have grown : ∀ (old : Nat) (row : Option Nat), OwnF E k B (w.drew.alloc (.cells (fs.toArray ++ us.toArray ++ Builtin.zeroCells z.cells (grownCap w (n + m) old E - (n + m))) E))
        (.slice (some ⟨w.heap.size, 0, none⟩) (n + m) (grownCap w (n + m) old E)) (n + m) (fs ++ us) ∧
        w.grownBy (w.drew.alloc (.cells (fs.toArray ++ us.toArray ++ Builtin.zeroCells z.cells (grownCap w (n + m) old E - (n + m))) E)) row := by
      intro old row
      have hge := grownCap_ge w (n + m) old E
      have hcm := grownCap_le_maxLen w (n + m) old E hmx
      generalize grownCap w (n + m) old E = cp at *
      have hzl : (Builtin.zeroCells z.cells (cp - (n + m))).toList.length = (cp - (n + m)) * k := by simp [Builtin.zeroCells, hzc]
      have hfl : (fs ++ us ++ (Builtin.zeroCells z.cells (cp - (n + m))).toList).length = cp * k := by
        rw [List.length_append, hfl0, hzl, ← Nat.add_mul]
        congr 1
        omega
      refine ⟨⟨hfl0, .inr ⟨w.heap.size, cp, fs ++ us ++ (Builtin.zeroCells z.cells (cp - (n + m))).toList, rfl, hB, ?_, hfl, hge, hcm, by rw [← hfl0]; exact List.take_left⟩⟩,
        ⟨rfl, rfl, rfl, by simp, fun q hq _ => heap_alloc_old _ _ hq⟩⟩
      have e : (fs ++ us ++ (Builtin.zeroCells z.cells (cp - (n + m))).toList).toArray = fs.toArray ++ us.toArray ++ Builtin.zeroCells z.cells (cp - (n + m)) := by apply Array.ext'; simp
      rw [e]
      exact heap_alloc_new w.drew (.cells (fs.toArray ++ us.toArray ++ Builtin.zeroCells z.cells (cp - (n + m))) E)
    obtain ⟨hf0, ⟨rfl, rfl⟩ | ⟨g, cc, full, rfl, hbg, hg, hfc, hnc, hcm, htk⟩⟩ := hown
    · obtain rfl : fs = [] := List.eq_nil_of_length_eq_zero (by simpa using hf0)
      by_cases h0 : m = 0
      · subst h0
        obtain rfl : us = [] := List.eq_nil_of_length_eq_zero (by simpa using hu)
        refine ⟨.slice none 0 0, w, ?_, OwnF.nil _ _ _ _, World.grownBy.refl w _, .inl rfl⟩
        simp [Builtin.append_, run_underlying ht, sizeOf, typeInfo, hi, Builtin.lenOf, Builtin.firstCells, loadCells, loadCellsFrom]
      · have hrun := run_append_nil (P := P) w t ty E i z ht hi hz ad m c us (by rw [hsize]; exact hu) hnews' (by omega) (by simpa using h63) (by simp at hlen; omega)
        have hgr := grown 0 (Value.ownBlock (.slice none 0 0))
        have hgn := (grown 0 none).2
        simp only [Nat.zero_add, List.nil_append] at hgr hrun hgn ⊢
        simp only [show (#[] : Array Value) ++ us.toArray = us.toArray by simp] at hgr hgn
        exact ⟨_, _, hrun, hgr.1, hgr.2, .inr ⟨rfl, hgn⟩⟩
    · by_cases hroom : n + m ≤ cc
      · have hle : (n + m) * k ≤ cc * k := Nat.mul_le_mul_right _ hroom
        have hrun := run_append_room (P := P) w t ty E i ht hi g n cc full.toArray hg ad m c us (by rw [hsize]; exact hu) hnews' h1 hroom (by rw [hsize, hu, ← Nat.add_mul]; simpa [hfc] using hle)
        rw [hsize] at hrun
        have hl2 : fs ++ us ++ full.drop (n * k + us.length) = full.take (n * k) ++ us ++ full.drop (n * k + us.length) := by rw [htk]
        have hfl : (fs ++ us ++ full.drop (n * k + us.length)).length = cc * k := by
          rw [List.length_append, hfl0, List.length_drop, hfc, hu, ← Nat.add_mul]
          omega
        refine ⟨_, _, hrun, ⟨hfl0, .inr ⟨g, cc, fs ++ us ++ full.drop (n * k + us.length), rfl, hbg, ?_, hfl, hroom, hcm, by rw [← hfl0]; exact List.take_left⟩⟩,
          ⟨rfl, rfl, rfl, by simp, fun q _ hq => setRow_other w g q _ (fun e => hq (by simp [Value.ownBlock, e]))⟩, .inl rfl⟩
        have := setRow_heap w g _ (full.toArray.toList.take (n * k) ++ us ++ full.toArray.toList.drop (n * k + us.length)).toArray _ _ hg
        rw [this, hl2]
      · have holds : ∀ j u, fs[j]? = some u → w.cell? ((⟨g, 0, none⟩ : Addr).add j) = some u := fun j u hu' => by
          obtain ⟨hj, rfl⟩ := List.getElem?_eq_some_iff.1 hu'
          rw [addr_add, Nat.zero_add]
          exact OwnF.cellsAt hg htk j hj
        have hrun := run_append_grow (P := P) w t ty E i z ht hi hz ⟨g, 0, none⟩ n cc fs (by rw [hsize]; exact hf0) holds ad m c us (by rw [hsize]; exact hu) hnews' (by omega) h63 (growslice_fits (by omega) hlen)
        have hgr := grown cc (Value.ownBlock (.slice (some ⟨g, 0, none⟩) n cc))
        exact ⟨_, _, hrun, hgr.1, hgr.2, .inr ⟨rfl, (grown cc none).2⟩⟩
theorem wpList_appF {w : World} {ops : Array Oper} {rest : List Oper} {o : Oper} {a : Act} {Q : Exit → Act → World → Prop} (hgd : o.guard = none) (s x : Operand) (t : TypeId)
    (ho : o.op = .call { callee := .builtin .append, args := #[s, x], argTypes := #[t, t] })
    (E : TypeId) (z : Value) (k by' : Nat) (ht : P.underlying t = some (.slice E)) (hi : (P.info? E).map (fun i => (i.zero, i.size, i.bytes)) = some (some z, k, by')) (hzc : z.cells.size = k) (hk : 0 < k)
    (B : Nat) (v vx : Value) (n m : Nat) (fs us : List Value) (hs : a.eval s = v) (hx : a.eval x = vx) (hown : OwnF E k B w v n fs) (hr : RdF k w vx m us) (hlen : (n + m) * by' ≤ 140737488355328) (hmx : n + m ≤ maxLen) (hB : B ≤ w.heap.size)
    (h : ∀ v' w', OwnF E k B w' v' (n + m) (fs ++ us) → Below B w w' → w.grownBy w' v.ownBlock → (v'.ownBlock = v.ownBlock ∨ (v'.ownBlock = some w.heap.size ∧ w.grownBy w' none)) → wpList P ops Q rest (a.put o.dst v') w') : wpList P ops Q (o :: rest) a w := by
  refine wpList_plain hgd fun K hK => ?_
  obtain ⟨i, hi0, hz, hsz, hby⟩ : ∃ i, P.info? E = some i ∧ i.zero = some z ∧ i.size = k ∧ i.bytes = by' := by
    rcases hq : P.info? E with _ | i
    · rw [hq] at hi; cases hi
    · rw [hq] at hi
      simp only [Option.map_some, Option.some.injEq, Prod.mk.injEq] at hi
      exact ⟨i, rfl, hi.1, hi.2.1, hi.2.2⟩
  obtain ⟨v', w', hr, h2, h3, h5⟩ := appF_run (P := P) w t o.type E i z k by' ht hi0 hz hzc hsz hby hk B v vx n m fs us hown hr hlen hmx hB
  unfold Oper.wp execOp
  simp only [ho, resolve, invoke, builtin, Sem.run_bind, Sem.run_pure, Result.andThen_ok, List.map_toArray, List.map_cons, List.map_nil, hs, hx, hr]
  exact hK _ _ (h v' w' h2 (OwnF.below hB hown h3) h3 h5)
end
end Go.Proofs.YtpkopigiijiiiaaDoor
end

section
namespace Go.Proofs.YtpkopigiijiiiaaDoor
open Go Go.RowKit
set_option linter.unusedVariables false
set_option linter.unusedSimpArgs false
set_option linter.unusedVariables false
set_option linter.unusedSimpArgs false

/-- How an element of type E is read of its k cells; what it holds lies in no block that s names. -/
structure El (α : Type) where
  E : TypeId
  k : Nat
  pos : 0 < k
  rd : Option Nat → World → List Value → α → Prop
  len : ∀ {s w cs a}, rd s w cs a → cs.length = k
  one : ∀ {s w cs a}, rd s w cs a → ∀ u ∈ cs, u.oneCell' = true
  nx : ∀ {s w w' cs a}, rd s w cs a → Nx w w' → rd s w' cs a
  grown : ∀ {s w w' cs a}, rd s w cs a → w.grownBy w' s → rd s w' cs a
  free : ∀ {s w cs a}, rd s w cs a → rd none w cs a
  apart : ∀ {s w cs a}, rd none w cs a → (∀ q, s = some q → w.heap.size ≤ q) → rd s w cs a

section
variable {α : Type} (L : El α)
/-- The cells of element j. -/
def El.cut (fs : List Value) (j : Nat) : List Value := (fs.drop (j * L.k)).take L.k
def AllE (s : Option Nat) (w : World) (fs : List Value) (es : List α) : Prop := fs.length = es.length * L.k ∧ ∀ j (h : j < es.length), L.rd s w (L.cut fs j) es[j]
def RdE (w : World) (v : Value) (es : List α) : Prop := ∃ fs, RdF L.k w v es.length fs ∧ AllE L none w fs es
def OwnE (B : Nat) (w : World) (v : Value) (es : List α) : Prop := ∃ fs, OwnF L.E L.k B w v es.length fs ∧ AllE L v.ownBlock w fs es
variable {L}
theorem AllE.nil (s : Option Nat) (w : World) : AllE L s w [] [] := ⟨by simp, fun j h => by simp at h⟩
theorem AllE.nx {s : Option Nat} {w w' : World} {fs : List Value} {es : List α} (h : AllE L s w fs es) (x : Nx w w') : AllE L s w' fs es := ⟨h.1, fun j hj => L.nx (h.2 j hj) x⟩
theorem AllE.free {s : Option Nat} {w : World} {fs : List Value} {es : List α} (h : AllE L s w fs es) : AllE L none w fs es := ⟨h.1, fun j hj => L.free (h.2 j hj)⟩
theorem AllE.apart {s : Option Nat} {w : World} {fs : List Value} {es : List α} (h : AllE L none w fs es) (hs : ∀ q, s = some q → w.heap.size ≤ q) : AllE L s w fs es := ⟨h.1, fun j hj => L.apart (h.2 j hj) hs⟩
theorem AllE.to {s : Option Nat} {w w' : World} {fs : List Value} {es : List α} (h : AllE L none w fs es) (x : Nx w w') (hs : ∀ q, s = some q → w.heap.size ≤ q) : AllE L s w' fs es := (h.apart hs).nx x
theorem AllE.grown {s : Option Nat} {w w' : World} {fs : List Value} {es : List α} (h : AllE L s w fs es) (x : w.grownBy w' s) : AllE L s w' fs es := ⟨h.1, fun j hj => L.grown (h.2 j hj) x⟩
theorem AllE.one {s : Option Nat} {w : World} {fs : List Value} {es : List α} (h : AllE L s w fs es) : ∀ u ∈ fs, u.oneCell' = true := by
  intro u hu
  obtain ⟨q, hq, rfl⟩ := List.getElem_of_mem hu
  have hk := L.pos
  have hj : q / L.k < es.length := by rw [Nat.div_lt_iff_lt_mul hk, ← h.1]; exact hq
  refine L.one (h.2 _ hj) fs[q] ?_
  unfold El.cut
  have h1 := Nat.div_add_mod q L.k
  have h2 := Nat.mod_lt q hk
  rw [List.mem_iff_getElem?]
  refine ⟨q % L.k, ?_⟩
  rw [List.getElem?_take_of_lt h2, List.getElem?_drop, Nat.mul_comm, h1, List.getElem?_eq_getElem hq]
theorem El.cut_left {fs us : List Value} {n j : Nat} (h : fs.length = n * L.k) (hj : j < n) : L.cut (fs ++ us) j = L.cut fs j := by
  unfold El.cut
  have hle : (j + 1) * L.k ≤ n * L.k := Nat.mul_le_mul_right _ hj
  rw [Nat.add_mul, Nat.one_mul] at hle
  rw [List.drop_append_of_le_length (by omega), List.take_append_of_le_length (by rw [List.length_drop]; omega)]
theorem El.cut_right {fs us : List Value} {n j : Nat} (h : fs.length = n * L.k) : L.cut (fs ++ us) (n + j) = L.cut us j := by
  unfold El.cut
  rw [Nat.add_mul, ← h, List.drop_append, List.drop_of_length_le (by omega), List.nil_append]
  congr 2
  omega
theorem AllE.append {s : Option Nat} {w : World} {fs us : List Value} {es bs : List α} (h : AllE L s w fs es) (x : AllE L s w us bs) : AllE L s w (fs ++ us) (es ++ bs) := by
  refine ⟨by rw [List.length_append, List.length_append, h.1, x.1, Nat.add_mul], fun j hj => ?_⟩
  by_cases hlt : j < es.length
  · rw [El.cut_left h.1 hlt, List.getElem_append_left hlt]
    exact h.2 j hlt
  · obtain ⟨i, rfl⟩ : ∃ i, j = es.length + i := ⟨j - es.length, by omega⟩
    rw [El.cut_right h.1]
    have hi : i < bs.length := by rw [List.length_append] at hj; omega
    have := x.2 i hi
    rw [List.getElem_append_right (by omega)]
    simpa using this
theorem AllE.single {s : Option Nat} {w : World} {cs : List Value} {a : α} (h : L.rd s w cs a) : AllE L s w cs [a] := by
  have hl := L.len h
  refine ⟨by simpa using hl, fun j hj => ?_⟩
  have : j = 0 := by simpa using hj
  subst this
  unfold El.cut
  rw [Nat.zero_mul, List.drop_zero, List.take_of_length_le (by omega)]
  exact h
theorem El.cut_take {fs : List Value} {m j : Nat} (hj : j < m) : L.cut (fs.take (m * L.k)) j = L.cut fs j := by
  unfold El.cut
  have hle : (j + 1) * L.k ≤ m * L.k := Nat.mul_le_mul_right _ hj
  rw [Nat.add_mul, Nat.one_mul] at hle
  rw [List.drop_take, List.take_take]
  congr 1
  omega
theorem El.cut_drop {fs : List Value} {lo j : Nat} : L.cut (fs.drop (lo * L.k)) j = L.cut fs (lo + j) := by
  unfold El.cut
  rw [List.drop_drop, Nat.add_mul]
theorem AllE.take {s : Option Nat} {w : World} {fs : List Value} {es : List α} (h : AllE L s w fs es) (m : Nat) (hm : m ≤ es.length) : AllE L s w (fs.take (m * L.k)) (es.take m) := by
  have hle : m * L.k ≤ es.length * L.k := Nat.mul_le_mul_right _ hm
  have hl : (es.take m).length = m := by rw [List.length_take]; omega
  refine ⟨by rw [List.length_take, h.1, hl]; omega, fun j hj => ?_⟩
  rw [hl] at hj
  rw [El.cut_take hj, List.getElem_take]
  exact h.2 j (by omega)
theorem AllE.drop {s : Option Nat} {w : World} {fs : List Value} {es : List α} (h : AllE L s w fs es) (lo : Nat) : AllE L s w (fs.drop (lo * L.k)) (es.drop lo) := by
  refine ⟨by rw [List.length_drop, List.length_drop, h.1, Nat.sub_mul], fun j hj => ?_⟩
  rw [List.length_drop] at hj
  rw [El.cut_drop, List.getElem_drop]
  exact h.2 (lo + j) (by omega)
theorem RdE.nx {w w' : World} {v : Value} {es : List α} (h : RdE L w v es) (x : Nx w w') : RdE L w' v es := by
  obtain ⟨fs, h1, h2⟩ := h
  exact ⟨fs, h1.nx x, h2.nx x⟩
theorem OwnE.nx {B : Nat} {w w' : World} {v : Value} {es : List α} (h : OwnE L B w v es) (x : Nx w w') : OwnE L B w' v es := by
  obtain ⟨fs, h1, h2⟩ := h
  exact ⟨fs, h1.nx x, h2.nx x⟩
theorem OwnE.mono {B B' : Nat} {w : World} {v : Value} {es : List α} (h : OwnE L B w v es) (hB : B' ≤ B) : OwnE L B' w v es := by
  obtain ⟨fs, h1, h2⟩ := h
  exact ⟨fs, h1.mono hB, h2⟩
theorem OwnE.rd {B : Nat} {w : World} {v : Value} {es : List α} (h : OwnE L B w v es) : RdE L w v es := by
  obtain ⟨fs, h1, h2⟩ := h
  exact ⟨fs, h1.rd h2.one, h2.free⟩
theorem OwnE.blk {B : Nat} {w : World} {v : Value} {es : List α} (h : OwnE L B w v es) : ∀ q, v.ownBlock = some q → B ≤ q ∧ q < w.heap.size := by
  obtain ⟨fs, h1, h2⟩ := h
  exact h1.block
theorem RdE.nil (w : World) : RdE L w (.slice none 0 0) [] := ⟨[], RdF.nil _ w, AllE.nil _ _⟩
theorem OwnE.nil (B : Nat) (w : World) : OwnE L B w (.slice none 0 0) [] := ⟨[], OwnF.nil _ _ _ _, AllE.nil _ _⟩
/-- What is known of a list that is read. -/
theorem RdE.parts {w : World} {v : Value} {es : List α} (h : RdE L w v es) : ∃ A c fs, v = .slice A es.length c ∧ es.length ≤ c ∧ c ≤ maxLen ∧ AllE L none w fs es ∧ (0 < es.length → ∃ b o, A = some ⟨b, o, none⟩ ∧ b < w.heap.size ∧ ∀ j (h : j < fs.length), w.cell? ⟨b, o + j, none⟩ = some fs[j]) := by
  obtain ⟨fs, ⟨_, _, A, c, rfl, h1, h2, h3⟩, h4⟩ := h
  exact ⟨A, c, fs, rfl, h1, h2, h4, h3⟩
/-- The cells of element j, at their places. -/
theorem AllE.at {s : Option Nat} {w : World} {fs : List Value} {es : List α} (h : AllE L s w fs es) (j : Nat) (hj : j < es.length) : ∃ cs : List Value, cs.length = L.k ∧ L.rd s w cs es[j] ∧ ∀ i (hi : i < cs.length), ∃ hf : j * L.k + i < fs.length, fs[j * L.k + i] = cs[i] := by
  have hr := h.2 j hj
  have hl := L.len hr
  refine ⟨L.cut fs j, hl, hr, fun i hi => ?_⟩
  have hle : (j + 1) * L.k ≤ es.length * L.k := Nat.mul_le_mul_right _ hj
  rw [Nat.add_mul, Nat.one_mul, ← h.1] at hle
  have hf : j * L.k + i < fs.length := by omega
  have e : (L.cut fs j)[i]? = fs[j * L.k + i]? := by
    unfold El.cut
    rw [List.getElem?_take_of_lt (by omega), List.getElem?_drop]
  rw [List.getElem?_eq_getElem hi, List.getElem?_eq_getElem hf] at e
  exact ⟨hf, (Option.some.inj e).symm⟩
/-- An append to a list of the call's own. -/
theorem wpList_appE {P : Program} {w : World} {ops : Array Oper} {rest : List Oper} {o : Oper} {a : Act} {Q : Exit → Act → World → Prop} (L : El α) (hgd : o.guard = none) (s x : Operand) (t : TypeId)
    (ho : o.op = .call { callee := .builtin .append, args := #[s, x], argTypes := #[t, t] }) (z : Value) (by' : Nat) (ht : P.underlying t = some (.slice L.E)) (hi : (P.info? L.E).map (fun i => (i.zero, i.size, i.bytes)) = some (some z, L.k, by')) (hzc : z.cells.size = L.k)
    (B : Nat) (v vx : Value) (es bs : List α) (us : List Value) (hs : a.eval s = v) (hx : a.eval x = vx) (hown : OwnE L B w v es) (hr : RdF L.k w vx bs.length us) (hu : AllE L v.ownBlock w us bs) (hlen : (es.length + bs.length) * by' ≤ 140737488355328) (hmx : es.length + bs.length ≤ maxLen) (hB : B ≤ w.heap.size)
    (h : ∀ v' w', OwnE L B w' v' (es ++ bs) → Below B w w' → w.grownBy w' v.ownBlock → wpList P ops Q rest (a.put o.dst v') w') : wpList P ops Q (o :: rest) a w := by
  obtain ⟨fs, h1, h2⟩ := hown
  refine wpList_appF hgd s x t ho L.E z L.k by' ht hi hzc L.pos B v vx es.length bs.length fs us hs hx h1 hr hlen hmx hB fun v' w' g1 g2 g3 g4 => h v' w' ⟨fs ++ us, by rw [List.length_append]; exact g1, ?_⟩ g2 g3
  rcases g4 with g4 | g4
  · rw [g4]
    exact (h2.append hu).grown g3
  · obtain ⟨g4, g5⟩ := g4
    rw [g4]
    exact (h2.append hu).free.to (Below.grown (Below.refl _ _) g5 (Nat.le_refl _) (fun q hq => by cases hq)) (fun q hq => by
      have : w.heap.size = q := by simpa using hq
      omega)
theorem RdE.pre {w : World} {A : Option Addr} {c : Nat} {es : List α} (h : RdE L w (.slice A es.length c) es) (m c' : Nat) (hm : m ≤ es.length) (h1 : m ≤ c') (h2 : c' ≤ maxLen) : RdE L w (.slice A m c') (es.take m) := by
  obtain ⟨fs, ⟨q0, q3, A0, c0, e, q1, q2, q4⟩, hv⟩ := h
  injection e with e1 e2 e3
  subst e1
  have hle : m * L.k ≤ es.length * L.k := Nat.mul_le_mul_right _ hm
  have hl : (es.take m).length = m := by rw [List.length_take]; omega
  refine ⟨fs.take (m * L.k), ⟨by rw [hl, List.length_take, q0]; omega, fun u hu => q3 u (List.mem_of_mem_take hu), A, c', by rw [hl], by rw [hl]; exact h1, h2, fun hp => ?_⟩, hv.take m hm⟩
  rw [hl] at hp
  obtain ⟨b, o, rfl, hb, hc⟩ := q4 (by omega)
  exact ⟨b, o, rfl, hb, fun j hj => by rw [List.getElem_take]; exact hc j (by rw [List.length_take] at hj; omega)⟩
end
/-- Bytes in a cell: they are read, and lie in no block that s names. -/
def RdS (s : Option Nat) (w : World) (u : Value) (l : List UInt8) : Prop := Rd w u l ∧ (0 < l.length → ∀ q, s = some q → u.ownBlock ≠ some q)
theorem RdS.grown {s : Option Nat} {w w' : World} {u : Value} {l : List UInt8} (h : RdS s w u l) (x : w.grownBy w' s) : RdS s w' u l := by
  obtain ⟨⟨A, c, rfl, h1, h2, ha⟩, hs⟩ := h
  refine ⟨⟨A, c, rfl, h1, h2, fun hp => ?_⟩, hs⟩
  obtain ⟨b, o, rfl, hb, hc⟩ := ha hp
  have hne : some b ≠ s := fun e => hs hp b e.symm (by simp [Value.ownBlock])
  have hblk := x.block b hb hne
  refine ⟨b, o, rfl, ?_, fun j hj => ?_⟩
  · rw [Array.getElem?_eq_getElem hb] at hblk
    exact (Array.getElem?_eq_some_iff.1 hblk).1
  · rw [← hc j hj]
    unfold World.cell?
    simp only [hblk]
theorem RdS.nx {s : Option Nat} {w w' : World} {u : Value} {l : List UInt8} (h : RdS s w u l) (x : Nx w w') : RdS s w' u l := ⟨h.1.nx x, h.2⟩
theorem RdS.free {s : Option Nat} {w : World} {u : Value} {l : List UInt8} (h : RdS s w u l) : RdS none w u l := ⟨h.1, fun _ q hq => by cases hq⟩
theorem RdS.apart {s : Option Nat} {w : World} {u : Value} {l : List UInt8} (h : RdS none w u l) (hs : ∀ q, s = some q → w.heap.size ≤ q) : RdS s w u l := ⟨h.1, fun hp q hq he => by
  obtain ⟨A, c, rfl, h1, h2, ha⟩ := h.1
  obtain ⟨b, o, rfl, hb, hc⟩ := ha hp
  have : b = q := by simpa [Value.ownBlock] using he
  have := hs q hq
  omega⟩
theorem RdS.sl {s : Option Nat} {w : World} {u : Value} {l : List UInt8} (h : RdS s w u l) : ∃ A c, u = .slice A l.length c := by
  obtain ⟨⟨A, c, rfl, _⟩, _⟩ := h
  exact ⟨A, c, rfl⟩
end Go.Proofs.YtpkopigiijiiiaaDoor
end

section
namespace Go.Proofs.YtpkopigiijiiiaaDoor
open Go Go.RowKit
set_option linter.unusedVariables false
set_option linter.unusedSimpArgs false
set_option linter.unusedVariables false
set_option linter.unusedSimpArgs false

/-- The slice v holds the cells vs. -/
def RdC (w : World) (v : Value) (vs : List Value) : Prop :=
  ∃ A c, v = .slice A vs.length c ∧ vs.length ≤ c ∧ c ≤ maxLen ∧ (∀ u ∈ vs, u.oneCell' = true) ∧ (0 < vs.length → ∃ b o, A = some ⟨b, o, none⟩ ∧ b < w.heap.size ∧ ∀ j (h : j < vs.length), w.cell? ⟨b, o + j, none⟩ = some vs[j])
/-- A row of the call's own, of elements of type E, from block B on, that holds the cells vs; or nil. -/
def OwnC (E : TypeId) (B : Nat) (w : World) (v : Value) (vs : List Value) : Prop :=
  (v = .slice none 0 0 ∧ vs = []) ∨
  ∃ (g : Nat) (full : List Value), v = .slice (some ⟨g, 0, none⟩) vs.length full.length ∧ B ≤ g ∧ w.heap[g]? = some (.cells full.toArray E (0, 0)) ∧ vs.length ≤ full.length ∧ full.length ≤ maxLen ∧ full.take vs.length = vs
theorem RdC.nil (w : World) : RdC w (.slice none 0 0) [] := ⟨none, 0, rfl, by simp, by simp [maxLen], by simp, by simp⟩
theorem RdC.nx {w w' : World} {v : Value} {vs : List Value} (h : RdC w v vs) (k : Nx w w') : RdC w' v vs := by
  obtain ⟨A, c, rfl, h1, h2, h3, h4⟩ := h
  refine ⟨A, c, rfl, h1, h2, h3, fun hp => ?_⟩
  obtain ⟨b, o, rfl, hb, hc⟩ := h4 hp
  exact ⟨b, o, rfl, Nat.lt_of_lt_of_le hb k.size, fun j hj => by rw [k.cell (p := ⟨b, o + j, none⟩) hb]; exact hc j hj⟩
theorem OwnC.nil (E : TypeId) (B : Nat) (w : World) : OwnC E B w (.slice none 0 0) [] := .inl ⟨rfl, rfl⟩
theorem OwnC.nx {E : TypeId} {B : Nat} {w w' : World} {v : Value} {vs : List Value} (h : OwnC E B w v vs) (k : Nx w w') : OwnC E B w' v vs := by
  rcases h with h2 | ⟨g, full, rfl, hb, hg, rest⟩
  · exact .inl h2
  · exact .inr ⟨g, full, rfl, hb, by rw [k.block g (Array.getElem?_eq_some_iff.1 hg).1]; exact hg, rest⟩
theorem OwnC.mono {E : TypeId} {B B' : Nat} {w : World} {v : Value} {vs : List Value} (h : OwnC E B w v vs) (hB : B' ≤ B) : OwnC E B' w v vs := by
  rcases h with h2 | ⟨g, full, rfl, hb, rest⟩
  · exact .inl h2
  · exact .inr ⟨g, full, rfl, Nat.le_trans hB hb, rest⟩
theorem OwnC.cellsAt {E : TypeId} {w : World} {g : Nat} {full vs : List Value} (hg : w.heap[g]? = some (.cells full.toArray E (0, 0))) (hn : vs.length ≤ full.length) (ht : full.take vs.length = vs) : ∀ j (h : j < vs.length), w.cell? ⟨g, j, none⟩ = some vs[j] := by
  intro j hj
  rw [cell_of_row w g j _ _ (0, 0) hg]
  have h1 : full[j]? = vs[j]? := by rw [← ht, List.getElem?_take_of_lt hj]
  simp only [List.getElem?_toArray, h1, List.getElem?_eq_getElem hj]
theorem OwnC.rd {E : TypeId} {B : Nat} {w : World} {v : Value} {vs : List Value} (h : OwnC E B w v vs) (h1 : ∀ u ∈ vs, u.oneCell' = true) : RdC w v vs := by
  rcases h with ⟨rfl, rfl⟩ | ⟨g, full, rfl, hg, hh, hn, hm, ht⟩
  · exact RdC.nil w
  · exact ⟨some ⟨g, 0, none⟩, full.length, rfl, hn, hm, h1, fun _ => ⟨g, 0, rfl, (Array.getElem?_eq_some_iff.1 hh).1, fun j hj => by rw [Nat.zero_add]; exact OwnC.cellsAt hh hn ht j hj⟩⟩
theorem OwnC.block {E : TypeId} {B : Nat} {w : World} {v : Value} {vs : List Value} (h : OwnC E B w v vs) : ∀ k, v.ownBlock = some k → B ≤ k ∧ k < w.heap.size := by
  intro k hk
  rcases h with ⟨rfl, _⟩ | ⟨g, full, rfl, hb, hg, _⟩
  · simp [Value.ownBlock] at hk
  · obtain rfl : g = k := by simpa [Value.ownBlock] using hk
    exact ⟨hb, (Array.getElem?_eq_some_iff.1 hg).1⟩
theorem OwnC.below {E : TypeId} {B : Nat} {w w' : World} {v : Value} {vs : List Value} (hB : B ≤ w.heap.size) (hown : OwnC E B w v vs) (hg : w.grownBy w' v.ownBlock) : Below B w w' :=
  Below.grown (Below.refl _ _) hg hB fun k hk => (hown.block k hk).1

theorem zeroCells_one (z : Value) (hz : z.cells = #[z]) (k : Nat) : Builtin.zeroCells z.cells k = (List.replicate k z).toArray := by
  apply Array.ext
  · simp [Builtin.zeroCells, hz]
  · intro i h1 h2
    simp [Builtin.zeroCells, hz, Nat.mod_one]

section
variable {P : Program}
theorem appC_run (w : World) (t ty E : TypeId) (i : TypeInfo) (z : Value) (by' : Nat) (ht : P.underlying t = some (.slice E)) (hi : P.info? E = some i) (hz : i.zero = some z) (hzc : z.cells = #[z]) (hsize : i.size = 1) (hby : i.bytes = by')
    (B : Nat) (v vx : Value) (vs us : List Value) (hown : OwnC E B w v vs) (hr : RdC w vx us) (hlen : (vs.length + us.length) * by' ≤ 140737488355328) (hmx : vs.length + us.length ≤ maxLen) (hB : B ≤ w.heap.size) :
    ∃ v' w', (Builtin.append_ #[t, t] ty #[v, vx]).run P w = .ok v' w' ∧ OwnC E B w' v' (vs ++ us) ∧ w.grownBy w' v.ownBlock ∧ (v'.ownBlock = v.ownBlock ∨ v'.ownBlock = some w.heap.size) := by
  obtain ⟨A, c, rfl, hc, hm, h1, ha⟩ := hr
  subst hby
  have h63 : ((vs.length + us.length : Nat) : Int) ≤ 9223372036854775807 := by simp only [maxLen] at hmx; omega
  rcases A with _ | ad
  · have h0 : us.length = 0 := by
      rcases Nat.eq_zero_or_pos us.length with h | h
      · exact h
      · obtain ⟨b, o, h', _⟩ := ha h; cases h'
    obtain rfl : us = [] := List.eq_nil_of_length_eq_zero h0
    refine ⟨v, w, ?_, by simpa using hown, World.grownBy.refl w _, .inl rfl⟩
    rcases hown with ⟨rfl, rfl⟩ | ⟨g, full, rfl, _, _, hnc, _⟩
    · simp [Builtin.append_, run_underlying ht, sizeOf, typeInfo, hi, Builtin.lenOf, Builtin.firstCells]
    · simp [Builtin.append_, run_underlying ht, sizeOf, typeInfo, hi, Builtin.lenOf, Builtin.firstCells, hnc, storeCells]
  · have hnews : ∀ j u, us[j]? = some u → w.cell? (ad.add j) = some u := fun j u hu => by
      obtain ⟨hj, rfl⟩ := List.getElem?_eq_some_iff.1 hu
      obtain ⟨b, o, he, hb, hcell⟩ := ha (by omega)
      obtain rfl : ad = ⟨b, o, none⟩ := by injection he
      rw [addr_add, hcell j hj]
    have grown : ∀ (old : Nat) (row : Option Nat), OwnC E B (w.drew.alloc (.cells (vs.toArray ++ us.toArray ++ Builtin.zeroCells z.cells (grownCap w (vs.length + us.length) old E - (vs.length + us.length))) E))
        (.slice (some ⟨w.heap.size, 0, none⟩) (vs.length + us.length) (grownCap w (vs.length + us.length) old E)) (vs ++ us) ∧
        w.grownBy (w.drew.alloc (.cells (vs.toArray ++ us.toArray ++ Builtin.zeroCells z.cells (grownCap w (vs.length + us.length) old E - (vs.length + us.length))) E)) row := by
      intro old row
      have hge := grownCap_ge w (vs.length + us.length) old E
      have hcm := grownCap_le_maxLen w (vs.length + us.length) old E hmx
      generalize grownCap w (vs.length + us.length) old E = cp at *
      have hfl : (vs ++ us ++ List.replicate (cp - (vs.length + us.length)) z).length = cp := by simp; omega
      refine ⟨.inr ⟨w.heap.size, vs ++ us ++ List.replicate (cp - (vs.length + us.length)) z, by rw [hfl, List.length_append], hB, ?_, by rw [hfl, List.length_append]; exact hge, by rw [hfl]; exact hcm, List.take_left⟩,
        ⟨rfl, rfl, rfl, by simp, fun k hk _ => heap_alloc_old _ _ hk⟩⟩
      rw [zeroCells_one z hzc]
      have e : (vs ++ us ++ List.replicate (cp - (vs.length + us.length)) z).toArray = vs.toArray ++ us.toArray ++ (List.replicate (cp - (vs.length + us.length)) z).toArray := by apply Array.ext'; simp
      rw [e]
      exact heap_alloc_new w.drew (.cells (vs.toArray ++ us.toArray ++ (List.replicate (cp - (vs.length + us.length)) z).toArray) E)
    rcases hown with ⟨rfl, rfl⟩ | ⟨g, full, rfl, hbg, hg, hnc, hcm, htk⟩
    · by_cases h0 : us.length = 0
      · obtain rfl : us = [] := List.eq_nil_of_length_eq_zero h0
        refine ⟨.slice none 0 0, w, ?_, OwnC.nil _ _ _, World.grownBy.refl w _, .inl rfl⟩
        simp [Builtin.append_, run_underlying ht, sizeOf, typeInfo, hi, Builtin.lenOf, Builtin.firstCells, loadCells, loadCellsFrom]
      · have hrun := run_append_nil (P := P) w t ty E i z ht hi hz ad us.length c us (by rw [hsize]; simp) hnews (by omega) (by simpa using h63) (by simp at hlen; omega)
        have hgr := grown 0 (Value.ownBlock (.slice none 0 0))
        simp only [List.length_nil, Nat.zero_add, List.nil_append] at hgr hrun ⊢
        simp only [show (#[] : Array Value) ++ us.toArray = us.toArray by simp] at hgr
        exact ⟨_, _, hrun, hgr.1, hgr.2, .inr rfl⟩
    · by_cases hroom : vs.length + us.length ≤ full.length
      · have hrun := run_append_room (P := P) w t ty E i ht hi g vs.length full.length full.toArray hg ad us.length c us (by rw [hsize]; simp) hnews h1 hroom (by rw [hsize]; simp; omega)
        rw [hsize] at hrun
        have hl2 : vs ++ us ++ full.drop (vs.length + us.length) = full.take vs.length ++ us ++ full.drop (vs.length + us.length) := by rw [htk]
        have hfl : (vs ++ us ++ full.drop (vs.length + us.length)).length = full.length := by simp; omega
        refine ⟨_, _, hrun, .inr ⟨g, vs ++ us ++ full.drop (vs.length + us.length), by rw [hfl, List.length_append], hbg, ?_, by rw [hfl, List.length_append]; exact hroom, by rw [hfl]; exact hcm, List.take_left⟩,
          ⟨rfl, rfl, rfl, by simp, fun k _ hk => setRow_other w g k _ (fun e => hk (by simp [Value.ownBlock, e]))⟩, .inl rfl⟩
        have := setRow_heap w g _ (full.toArray.toList.take (vs.length * 1) ++ us ++ full.toArray.toList.drop (vs.length * 1 + us.length)).toArray _ _ hg
        rw [this, hl2]
        simp
      · have holds : ∀ j u, vs[j]? = some u → w.cell? ((⟨g, 0, none⟩ : Addr).add j) = some u := fun j u hu => by
          obtain ⟨hj, rfl⟩ := List.getElem?_eq_some_iff.1 hu
          rw [addr_add, Nat.zero_add]
          exact OwnC.cellsAt hg hnc htk j hj
        have hrun := run_append_grow (P := P) w t ty E i z ht hi hz ⟨g, 0, none⟩ vs.length full.length vs (by rw [hsize]; simp) holds ad us.length c us (by rw [hsize]; simp) hnews (by omega) h63 (growslice_fits (by omega) hlen)
        have hgr := grown full.length (Value.ownBlock (.slice (some ⟨g, 0, none⟩) vs.length full.length))
        exact ⟨_, _, hrun, hgr.1, hgr.2, .inr rfl⟩
theorem wpList_appC {w : World} {ops : Array Oper} {rest : List Oper} {o : Oper} {a : Act} {Q : Exit → Act → World → Prop} (hgd : o.guard = none) (s x : Operand) (t : TypeId)
    (ho : o.op = .call { callee := .builtin .append, args := #[s, x], argTypes := #[t, t] })
    (E : TypeId) (z : Value) (by' : Nat) (ht : P.underlying t = some (.slice E)) (hi : (P.info? E).map (fun i => (i.zero, i.size, i.bytes)) = some (some z, 1, by')) (hzc : z.cells = #[z])
    (B : Nat) (v vx : Value) (vs us : List Value) (hs : a.eval s = v) (hx : a.eval x = vx) (hown : OwnC E B w v vs) (hr : RdC w vx us) (hlen : (vs.length + us.length) * by' ≤ 140737488355328) (hmx : vs.length + us.length ≤ maxLen) (hB : B ≤ w.heap.size)
    (h : ∀ v' w', OwnC E B w' v' (vs ++ us) → Below B w w' → w.grownBy w' v.ownBlock → (v'.ownBlock = v.ownBlock ∨ v'.ownBlock = some w.heap.size) → wpList P ops Q rest (a.put o.dst v') w') : wpList P ops Q (o :: rest) a w := by
  refine wpList_plain hgd fun K hK => ?_
  obtain ⟨i, hi0, hz, hsz, hby⟩ : ∃ i, P.info? E = some i ∧ i.zero = some z ∧ i.size = 1 ∧ i.bytes = by' := by
    rcases hq : P.info? E with _ | i
    · rw [hq] at hi; cases hi
    · rw [hq] at hi
      simp only [Option.map_some, Option.some.injEq, Prod.mk.injEq] at hi
      exact ⟨i, rfl, hi.1, hi.2.1, hi.2.2⟩
  obtain ⟨v', w', hr, h2, h3, h5⟩ := appC_run (P := P) w t o.type E i z by' ht hi0 hz hzc hsz hby B v vx vs us hown hr hlen hmx hB
  unfold Oper.wp execOp
  simp only [ho, resolve, invoke, builtin, Sem.run_bind, Sem.run_pure, Result.andThen_ok, List.map_toArray, List.map_cons, List.map_nil, hs, hx, hr]
  exact hK _ _ (h v' w' h2 (OwnC.below hB hown h3) h3 h5)
end

/-! ### Slices of slices of bytes -/
/-- The cells vs read as the lists ls; what holds bytes lies in no block that s names. -/
def VsL (s : Option Nat) (w : World) (vs : List Value) (ls : List (List UInt8)) : Prop :=
  vs.length = ls.length ∧ ∀ (j : Nat) (u : Value) (l : List UInt8), vs[j]? = some u → ls[j]? = some l → Rd w u l ∧ (0 < l.length → ∀ k, s = some k → u.ownBlock ≠ some k)
theorem VsL.nil (s : Option Nat) (w : World) : VsL s w [] [] := ⟨rfl, fun j u l h => by simp at h⟩
theorem VsL.nx {s : Option Nat} {w w' : World} {vs : List Value} {ls : List (List UInt8)} (h : VsL s w vs ls) (k : Nx w w') : VsL s w' vs ls :=
  ⟨h.1, fun j u l h1 h2 => ⟨(h.2 j u l h1 h2).1.nx k, (h.2 j u l h1 h2).2⟩⟩
theorem VsL.free {s : Option Nat} {w : World} {vs : List Value} {ls : List (List UInt8)} (h : VsL s w vs ls) : VsL none w vs ls :=
  ⟨h.1, fun j u l h1 h2 => ⟨(h.2 j u l h1 h2).1, fun _ k hk => by cases hk⟩⟩
theorem VsL.one {s : Option Nat} {w : World} {vs : List Value} {ls : List (List UInt8)} (h : VsL s w vs ls) : ∀ u ∈ vs, u.oneCell' = true := by
  intro u hu
  obtain ⟨j, hj, rfl⟩ := List.getElem_of_mem hu
  obtain ⟨⟨A, c, e, _⟩, _⟩ := h.2 j vs[j] (ls[j]'(by rw [← h.1]; exact hj)) (List.getElem?_eq_getElem hj) (List.getElem?_eq_getElem _)
  rw [e]; rfl
theorem Rd.blk {w : World} {v : Value} {l : List UInt8} (h : Rd w v l) (hp : 0 < l.length) : ∃ k, v.ownBlock = some k ∧ k < w.heap.size := by
  obtain ⟨A, c, rfl, _, _, ha⟩ := h
  obtain ⟨b, o, rfl, hb, _⟩ := ha hp
  exact ⟨b, by simp [Value.ownBlock], hb⟩
/-- Bytes that lie in no block that grew go on to be read. -/
theorem Rd.grownBy {w w' : World} {v : Value} {l : List UInt8} {row : Option Nat} (h : Rd w v l) (hg : w.grownBy w' row) (hs : 0 < l.length → ∀ k, row = some k → v.ownBlock ≠ some k) : Rd w' v l := by
  obtain ⟨A, c, rfl, h1, h2, ha⟩ := h
  refine ⟨A, c, rfl, h1, h2, fun hp => ?_⟩
  obtain ⟨b, o, rfl, hb, hc⟩ := ha hp
  have hne : some b ≠ row := fun e => hs hp b e.symm (by simp [Value.ownBlock])
  have hblk := hg.block b hb hne
  refine ⟨b, o, rfl, ?_, fun j hj => ?_⟩
  · rw [Array.getElem?_eq_getElem hb] at hblk
    exact (Array.getElem?_eq_some_iff.1 hblk).1
  · rw [← hc j hj]
    unfold World.cell?
    simp only [hblk]
/-- A slice of slices of bytes. -/
def RdL (w : World) (v : Value) (ls : List (List UInt8)) : Prop := ∃ vs, RdC w v vs ∧ VsL none w vs ls
/-- One of the call's own. -/
def OwnL (B : Nat) (w : World) (v : Value) (ls : List (List UInt8)) : Prop := ∃ vs, OwnC 28 B w v vs ∧ VsL v.ownBlock w vs ls
theorem RdL.nx {w w' : World} {v : Value} {ls : List (List UInt8)} (h : RdL w v ls) (k : Nx w w') : RdL w' v ls := by
  obtain ⟨vs, h1, h2⟩ := h
  exact ⟨vs, h1.nx k, h2.nx k⟩
theorem OwnL.nx {B : Nat} {w w' : World} {v : Value} {ls : List (List UInt8)} (h : OwnL B w v ls) (k : Nx w w') : OwnL B w' v ls := by
  obtain ⟨vs, h1, h2⟩ := h
  exact ⟨vs, h1.nx k, h2.nx k⟩
theorem OwnL.mono {B B' : Nat} {w : World} {v : Value} {ls : List (List UInt8)} (h : OwnL B w v ls) (hB : B' ≤ B) : OwnL B' w v ls := by
  obtain ⟨vs, h1, h2⟩ := h
  exact ⟨vs, h1.mono hB, h2⟩
theorem OwnL.rd {B : Nat} {w : World} {v : Value} {ls : List (List UInt8)} (h : OwnL B w v ls) : RdL w v ls := by
  obtain ⟨vs, h1, h2⟩ := h
  exact ⟨vs, h1.rd h2.one, h2.free⟩
theorem RdL.nil (w : World) : RdL w (.slice none 0 0) [] := ⟨[], RdC.nil w, VsL.nil _ _⟩
theorem OwnL.nil (B : Nat) (w : World) : OwnL B w (.slice none 0 0) [] := ⟨[], OwnC.nil _ _ _, VsL.nil _ _⟩
theorem VsL.append {s : Option Nat} {w : World} {vs us : List Value} {ls ms : List (List UInt8)} (h : VsL s w vs ls) (k : VsL s w us ms) : VsL s w (vs ++ us) (ls ++ ms) := by
  refine ⟨by rw [List.length_append, List.length_append, h.1, k.1], fun j u l h1 h2 => ?_⟩
  by_cases hj : j < vs.length
  · rw [List.getElem?_append_left hj] at h1
    rw [List.getElem?_append_left (by rw [← h.1]; exact hj)] at h2
    exact h.2 j u l h1 h2
  · rw [List.getElem?_append_right (by omega)] at h1
    rw [List.getElem?_append_right (by rw [← h.1]; omega), ← h.1] at h2
    exact k.2 _ u l h1 h2
theorem info_bytes24 : (Tryd.prog.info? 28).map (fun i => (i.zero, i.size, i.bytes)) = some (some (.slice none 0 0), 1, 24) := by kernel_rfl
/-- An append to one of the call's own, of lists that lie elsewhere. -/
theorem wpList_appL {w : World} {ops : Array Oper} {rest : List Oper} {o : Oper} {a : Act} {Q : Exit → Act → World → Prop} (hgd : o.guard = none) (s x : Operand) (t : TypeId)
    (ho : o.op = .call { callee := .builtin .append, args := #[s, x], argTypes := #[t, t] }) (ht : Tryd.prog.underlying t = some (.slice 28))
    (B : Nat) (v vx : Value) (ls ms : List (List UInt8)) (us : List Value) (hs : a.eval s = v) (hx : a.eval x = vx) (hown : OwnL B w v ls) (hr : RdC w vx us) (hu : VsL v.ownBlock w us ms) (hlen : ls.length + ms.length ≤ 1000000000000) (hB : B ≤ w.heap.size)
    (h : ∀ v' w', OwnL B w' v' (ls ++ ms) → Below B w w' → w.grownBy w' v.ownBlock → wpList Tryd.prog ops Q rest (a.put o.dst v') w') : wpList Tryd.prog ops Q (o :: rest) a w := by
  obtain ⟨vs, h1, h2⟩ := hown
  refine wpList_appC hgd s x t ho 28 (.slice none 0 0) 24 ht info_bytes24 rfl B v vx vs us hs hx h1 hr (by rw [h2.1, hu.1]; omega) (by rw [h2.1, hu.1]; simp only [maxLen]; omega) hB fun v' w' g1 g2 g3 g4 => h v' w' ⟨vs ++ us, g1, ?_⟩ g2 g3
  have happ := h2.append hu
  refine ⟨happ.1, fun j u l e1 e2 => ?_⟩
  obtain ⟨q1, q2⟩ := happ.2 j u l e1 e2
  refine ⟨q1.grownBy g3 fun hp k hk => q2 hp k hk, fun hp k hk hc => ?_⟩
  rcases g4 with g4 | g4
  · rw [g4] at hk; exact q2 hp k hk hc
  · rw [g4] at hk
    obtain rfl : w.heap.size = k := by simpa using hk
    obtain ⟨k', hk1, hk2⟩ := q1.blk hp
    rw [hc] at hk1
    have : w.heap.size = k' := by simpa using hk1
    omega
end Go.Proofs.YtpkopigiijiiiaaDoor
end

section
namespace Go.Proofs.YtpkopigiijiiiaaDoor
open Go Go.ChangeShapes Go.WideShapes Go.ChangeAt Go.RowKit
set_option linter.unusedVariables false
set_option linter.unusedSimpArgs false
set_option linter.unusedVariables false
set_option linter.unusedSimpArgs false

theorem bytes_of_ints (zs : List Int) (hw : ∀ z ∈ zs, (Lit.int .u8 z).wf = true) : ∃ l : List UInt8, l.length = zs.length ∧ zs.map (Value.int .u8) = bvs l := by
  refine ⟨zs.map fun z => UInt8.ofNat z.toNat, by simp, ?_⟩
  unfold bvs
  rw [List.map_map]
  refine List.map_congr_left fun z hz => ?_
  have := wf_u8 (hw z hz)
  simp only [Function.comp, bv, UInt8.toNat_ofNat']
  congr 1
  omega
theorem cut_next {α : Type} (cs : List α) (o k : Nat) : cs.drop o = (cs.drop o).take k ++ cs.drop (o + k) := by
  rw [← List.drop_drop, List.take_append_drop]
theorem cut_end {α : Type} (cs : List α) (o : Nat) (h : cs.length = o) : cs.drop o = [] := List.drop_eq_nil_of_le (Nat.le_of_eq h)

section
variable {H : Type} {enc : TypeId × Value → H} {P : Program} {W : World} {base : Nat}
theorem open_sl {t : TypeId} {fuel : Nat} {cs : List Value} {y : DataW H × List MemPlace}
    (ht : P.underlying t = some (.slice 5)) (he : P.underlying 5 = some (.int .u8)) (hc : P.cellsOf 5 = 1) (hby : P.bytesOf 5 = 1)
    (hf : DataW.trod enc P W base (fun _ => true) true fuel t cs = some y) (hsz : ∀ n ∈ y.1.weights P t, n ≤ reachBytes) :
    ∃ (A : Option Addr) (l : List UInt8) (c : Nat), cs = [.slice A l.length c] ∧ Rd W (.slice A l.length c) l ∧ l.length ≤ 140737488351232 := by
  rcases open_ints ht he hc hf with ⟨hcs, hx⟩ | ⟨x, len0, cap0, zs, hcs, _, hl, hm, hz, hx, hcell, hwz⟩
  · subst hcs
    exact ⟨none, [], 0, rfl, Rd.nil W, by simp⟩
  · subst hcs
    simp only [if_true] at hz
    have hd : y.1 = .slice (lits .u8 (zs.take len0)) (lits .u8 (zs.drop len0)) := by rw [hx]
    have hr := hsz ((zs.take len0).length + (zs.drop len0).length) (by rw [hd]; simp [DataW.weights, ht, hby, lits])
    have hlen : ((zs.take len0).map fun z => UInt8.ofNat z.toNat).length = len0 := by simp; omega
    refine ⟨some x, (zs.take len0).map fun z => UInt8.ofNat z.toNat, cap0, by rw [hlen], ?_, ?_⟩
    · refine ⟨some x, cap0, rfl, by rw [hlen]; exact hl, hm, fun h0 => ?_⟩
      rw [hlen] at h0
      have hc0 := hcell 0 (by omega)
      obtain ⟨b, o, sp⟩ := x
      have hsp : sp = none := by simpa [Addr.add] using World.cell?_spot hc0
      subst hsp
      refine ⟨b, o, rfl, ?_, fun i hi => ?_⟩
      · have := World.block_lt_of_cell? W _ hc0
        simpa [Addr.add] using this
      · rw [hlen] at hi
        have hci := hcell i (by omega)
        rw [addr_add] at hci
        rw [hci]
        have hiz : i < zs.length := by omega
        have hg : zs.getD i 0 = zs[i] := by simp [List.getD_eq_getElem?_getD, hiz]
        have hw := wf_u8 (hwz zs[i] (List.getElem_mem _))
        rw [hg]
        have h8 : (UInt8.ofNat zs[i].toNat).toNat = zs[i].toNat := by rw [UInt8.toNat_ofNat']; omega
        simp only [List.getElem_map, List.getElem_take, bv]
        rw [h8, Int.toNat_of_nonneg hw.1]
    · rw [hlen]
      have h1 : (zs.take len0).length = len0 := by simp; omega
      rw [h1] at hr
      have h2 : reachBytes = 140737488351232 := by decide
      rw [h2] at hr
      omega
theorem sized_top {ts : List TypeId} {ds : List (DataW H)} (h : (DataW.weightsEach P ts ds).all (· ≤ reachBytes) = true) {j : Nat} {t : TypeId} {d : DataW H} (ht : ts[j]? = some t) (hd : ds[j]? = some d) : ∀ n ∈ d.weights P t, n ≤ reachBytes :=
  fun n hn => of_decide_eq_true (List.all_eq_true.1 h _ (DataW.weights_mem_each ht hd n hn))
theorem sized_field {t : TypeId} {fs : Array Field} {parts : List (DataW H)} (hu : P.underlying t = some (.struct fs)) (h : ∀ n ∈ (DataW.agg parts).weights P t, n ≤ reachBytes) {j : Nat} {u : TypeId} {d : DataW H}
    (ht : (fs.toList.map (·.type))[j]? = some u) (hd : parts[j]? = some d) : ∀ n ∈ d.weights P u, n ≤ reachBytes := fun n hn => h n (by
  simp only [DataW.weights, hu]
  exact DataW.weights_mem_each ht hd n hn)
end

section
variable {H : Type} {enc : TypeId × Value → H} {P : Program} {W : World} {base : Nat}
theorem weightsAll_in {P : Program} {e : TypeId} : ∀ {l : List (DataW H)} {d : DataW H}, d ∈ l → ∀ n ∈ d.weights P e, n ∈ DataW.weightsAll P e l
  | x :: l, d, hd, n, hn => by
    simp only [DataW.weightsAll, List.mem_append]
    rcases List.mem_cons.1 hd with rfl | h
    · exact .inl hn
    · exact .inr (weightsAll_in h n hn)
theorem open_lists {ts : List TypeId} {ds : List (DataW H)} {j : Nat} {t : TypeId} {v : Value} {d : DataW H} {p : List MemPlace} {b0 : Nat} {r : Reach}
    (ht : P.underlying t = some (.slice 28)) (hb : P.underlying 28 = some (.slice 5)) (he : P.underlying 5 = some (.int .u8)) (hcb : P.cellsOf 28 = 1) (hc : P.cellsOf 5 = 1) (hby : P.bytesOf 5 = 1)
    (hv : Value.okWide P W r b0 t v) (h : DataW.Trod enc P W base (fun _ => true) true t v d p)
    (hsz : (DataW.weightsEach P ts ds).all (· ≤ reachBytes) = true) (hts : ts[j]? = some t) (hds : ds[j]? = some d) :
    ∃ ls : List (List UInt8), RdL W v ls ∧ ∀ l ∈ ls, l.length ≤ 140737488351232 := by
  have hs := sized_top hsz hts hds
  obtain ⟨a0, len0, cap0, rfl⟩ := okWide_slice ht hv
  obtain ⟨fuel, hf⟩ := h
  rcases Go.Deep.open_slice1 ht hcb hf with ⟨hcs, hx⟩ | ⟨a, len, cap, m, n, V, D, Pl, hcs, _, hl, hm, hmm, hx, hcell⟩
  · simp [Value.cells] at hcs
    obtain ⟨rfl, rfl, rfl⟩ := hcs
    exact ⟨[], RdL.nil W, by simp⟩
  · simp [Value.cells] at hcs
    obtain ⟨rfl, rfl, rfl⟩ := hcs
    simp only [if_true] at hmm
    simp only [Prod.mk.injEq] at hx
    have each : ∀ i, i < len0 → ∃ y : Option Addr × List UInt8 × Nat, V i = .slice y.1 y.2.1.length y.2.2 ∧ Rd W (.slice y.1 y.2.1.length y.2.2) y.2.1 ∧ y.2.1.length ≤ 140737488351232 := fun i hi => by
      obtain ⟨g1, g2⟩ := hcell i (by omega)
      obtain ⟨A, l, c, e1, e2, e3⟩ := open_sl hb he hc hby g2 (fun q hq => hs q (by
        rw [hx.1]
        simp only [DataW.weights, ht, List.mem_cons, List.mem_append]
        exact .inr (.inl (weightsAll_in (List.mem_map.2 ⟨i, List.mem_range.2 hi, rfl⟩) q hq))))
      exact ⟨(A, l, c), by simpa using e1, e2, e3⟩
    obtain ⟨Y, hY⟩ := Go.Deep.choose_lt each
    refine ⟨(List.range len0).map fun i => (Y i).2.1, ⟨(List.range len0).map V, ⟨some a, cap0, by simp, by simpa using hl, hm, ?_, fun hp => ?_⟩, by simp, fun j u l h1 h2 => ?_⟩, ?_⟩
    · intro u hu
      obtain ⟨i, hi, rfl⟩ := List.mem_map.1 hu
      rw [(hY i (List.mem_range.1 hi)).1]
      rfl
    · have hp' : 0 < len0 := by simpa using hp
      have hc0 := (hcell 0 (by omega)).1
      obtain ⟨b, o, sp⟩ := a
      have hsp : sp = none := by simpa [Addr.add] using World.cell?_spot hc0
      subst hsp
      refine ⟨b, o, rfl, ?_, fun i hi => ?_⟩
      · have := World.block_lt_of_cell? W _ hc0
        simpa [Addr.add] using this
      · have hi' : i < len0 := by simpa using hi
        have := (hcell i (by omega)).1
        rw [addr_add] at this
        rw [this]
        simp
    · obtain ⟨hj, rfl⟩ := List.getElem?_eq_some_iff.1 h1
      obtain ⟨hj2, rfl⟩ := List.getElem?_eq_some_iff.1 h2
      have hj' : j < len0 := by simpa using hj
      simp only [List.getElem_map, List.getElem_range]
      rw [(hY j hj').1]
      exact ⟨(hY j hj').2.1, fun _ k hk => by cases hk⟩
    · intro l hl
      obtain ⟨i, hi, rfl⟩ := List.mem_map.1 hl
      exact (hY i (List.mem_range.1 hi)).2.2
end
end Go.Proofs.YtpkopigiijiiiaaDoor
end

section
namespace Go.Proofs.YtpkopigiijiiiaaDoor
open Go Go.ChangeShapes Go.WideShapes Go.ChangeAt Go.RowKit
set_option linter.unusedVariables false
set_option linter.unusedSimpArgs false
set_option linter.unusedVariables false
set_option linter.unusedSimpArgs false

section
variable {H : Type} {enc : TypeId × Value → H} {P : Program} {W : World} {base : Nat} {α : Type}
theorem flat_get {css : List (List Value)} {k : Nat} (h : ∀ c ∈ css, c.length = k) : css.flatten.length = css.length * k ∧ ∀ j (hj : j < css.length), (css.flatten.drop (j * k)).take k = css[j] := by
  induction css with
  | nil => exact ⟨by simp, fun j hj => by simp at hj⟩
  | cons c r ih =>
    obtain ⟨i1, i2⟩ := ih fun x hx => h x (List.mem_cons_of_mem _ hx)
    have hc := h c (List.mem_cons_self ..)
    refine ⟨by rw [List.flatten_cons, List.length_append, i1, hc, List.length_cons, Nat.add_mul]; omega, fun j hj => ?_⟩
    cases j with
    | zero => rw [Nat.zero_mul, List.drop_zero, List.flatten_cons, List.take_left' hc]; rfl
    | succ j =>
      rw [List.flatten_cons, Nat.add_mul, Nat.one_mul, List.drop_append, List.drop_of_length_le (by omega), List.nil_append, show j * k + k - c.length = j * k by omega, List.getElem_cons_succ]
      exact i2 j (by simpa using hj)
theorem open_els_cells (L : El α) (Good : α → Prop) {t : TypeId} (ht : P.underlying t = some (.slice L.E)) (hcb : P.cellsOf L.E = L.k)
    (hel : ∀ n cs y, DataW.trod enc P W base (fun _ => true) true n L.E cs = some y → (∀ q ∈ y.1.weights P L.E, q ≤ reachBytes) → ∃ a, L.rd none W cs a ∧ Good a)
    {fuel : Nat} {cs : List Value} {y : DataW H × List MemPlace} (hf : DataW.trod enc P W base (fun _ => true) true fuel t cs = some y) (hs : ∀ n ∈ y.1.weights P t, n ≤ reachBytes) :
    ∃ (A : Option Addr) (n c : Nat) (es : List α), cs = [.slice A n c] ∧ n = es.length ∧ RdE L W (.slice A n c) es ∧ ∀ a ∈ es, Good a := by
  rcases Go.Deep.open_slice ht hf with ⟨hcs, hx⟩ | ⟨a, len, cap, m, n, D, Pl, hcs, _, hl, hm, hmm, hx, hcell⟩
  · subst hcs
    exact ⟨none, 0, 0, [], rfl, rfl, RdE.nil W, by simp⟩
  · subst hcs
    simp only [if_true] at hmm
    have each : ∀ i, i < len → ∃ z : List Value × Option α, ∃ e, z.2 = some e ∧ (∀ q, q < L.k → W.cell? ((a.add (i * L.k)).add q) = z.1[q]?) ∧ L.rd none W z.1 e ∧ Good e := fun i hi => by
      obtain ⟨cs', g1, g2⟩ := hcell i (by omega)
      rw [hcb] at g1
      obtain ⟨_, hlen, hcc⟩ := World.cells?_some g1
      obtain ⟨e, e1, e2⟩ := hel n cs' _ g2 (fun q hq => hs q (by
        rw [hx]
        simp only [DataW.weights, ht, List.mem_cons, List.mem_append]
        exact .inr (.inl (weightsAll_in (List.mem_map.2 ⟨i, List.mem_range.2 hi, rfl⟩) q hq))))
      exact ⟨(cs', some e), e, rfl, hcc, e1, e2⟩
    obtain ⟨Y, hY⟩ := Go.Deep.choose_lt each
    have hY2 : ∀ i, i < len → (Y i).2.isSome = true := fun i hi => by obtain ⟨e, h1, _⟩ := hY i hi; rw [h1]; rfl
    obtain ⟨es, hes, hesl⟩ : ∃ es : List α, es.length = len ∧ ∀ i (h : i < es.length), (Y i).2 = some es[i] := by
      refine ⟨(List.range len).pmap (fun i hi => (Y i).2.get (hY2 i hi)) (fun i hi => List.mem_range.1 hi), by simp, fun i h => ?_⟩
      simp
    have hr : ∀ i (h : i < es.length), L.rd none W (Y i).1 es[i] ∧ Good es[i] ∧ ∀ q, q < L.k → W.cell? ((a.add (i * L.k)).add q) = (Y i).1[q]? := fun i h => by
      obtain ⟨e, h1, h2, h3, h4⟩ := hY i (by omega)
      have := hesl i h
      rw [h1] at this
      injection this with this
      subst this
      exact ⟨h3, h4, h2⟩
    have hk : ∀ c ∈ (List.range len).map (fun i => (Y i).1), c.length = L.k := fun c hc => by
      obtain ⟨i, hi, rfl⟩ := List.mem_map.1 hc
      exact L.len (hr i (by rw [hes]; exact List.mem_range.1 hi)).1
    obtain ⟨f1, f2⟩ := flat_get hk
    rw [List.length_map, List.length_range] at f1
    have hall : AllE L none W ((List.range len).map (fun i => (Y i).1)).flatten es := by
      refine ⟨by rw [f1, hes], fun j hj => ?_⟩
      have := f2 j (by rw [List.length_map, List.length_range]; omega)
      show L.rd none W (((List.range len).map (fun i => (Y i).1)).flatten.drop (j * L.k) |>.take L.k) es[j]
      rw [this, List.getElem_map, List.getElem_range]
      exact (hr j hj).1
    refine ⟨some a, len, cap, es, rfl, hes.symm, ⟨_, ⟨by rw [f1, hes], hall.one, some a, cap, by rw [hes], by rw [hes]; exact hl, hm, fun hp => ?_⟩, hall⟩, fun e he => ?_⟩
    · have hp' : 0 < len := by omega
      have hkp := L.pos
      have hc0 := (hr 0 (by omega)).2.2 0 hkp
      have hl0 := L.len (hr 0 (by omega)).1
      rw [List.getElem?_eq_getElem (by omega)] at hc0
      obtain ⟨b, o, sp⟩ := a
      have hsp : sp = none := by simpa [Addr.add] using World.cell?_spot hc0
      subst hsp
      refine ⟨b, o, rfl, ?_, fun j hj => ?_⟩
      · have := World.block_lt_of_cell? W _ hc0
        simpa [Addr.add] using this
      · rw [f1] at hj
        have hji : j / L.k < len := by rw [Nat.div_lt_iff_lt_mul hkp]; exact hj
        have h1 := Nat.div_add_mod j L.k
        have h2 := Nat.mod_lt j hkp
        have hcj := (hr (j / L.k) (by omega)).2.2 (j % L.k) h2
        rw [addr_add, addr_add, Nat.add_assoc, Nat.mul_comm, h1] at hcj
        rw [hcj]
        have g := f2 (j / L.k) (by rw [List.length_map, List.length_range]; exact hji)
        rw [List.getElem_map, List.getElem_range] at g
        rw [← g, List.getElem?_take_of_lt h2, List.getElem?_drop, Nat.mul_comm, h1, List.getElem?_eq_getElem (by rw [f1]; exact hj)]
    · obtain ⟨j, hj, rfl⟩ := List.getElem_of_mem he
      exact (hr j hj).2.1
theorem open_els (L : El α) (Good : α → Prop) {ts : List TypeId} {ds : List (DataW H)} {j : Nat} {t : TypeId} {v : Value} {d : DataW H} {p : List MemPlace} {b0 : Nat} {r : Reach} (ht : P.underlying t = some (.slice L.E)) (hcb : P.cellsOf L.E = L.k)
    (hel : ∀ n cs y, DataW.trod enc P W base (fun _ => true) true n L.E cs = some y → (∀ q ∈ y.1.weights P L.E, q ≤ reachBytes) → ∃ a, L.rd none W cs a ∧ Good a)
    (hv : Value.okWide P W r b0 t v) (h : DataW.Trod enc P W base (fun _ => true) true t v d p)
    (hsz : (DataW.weightsEach P ts ds).all (· ≤ reachBytes) = true) (hts : ts[j]? = some t) (hds : ds[j]? = some d) :
    ∃ es : List α, RdE L W v es ∧ ∀ a ∈ es, Good a := by
  obtain ⟨a0, len0, cap0, rfl⟩ := okWide_slice ht hv
  obtain ⟨fuel, hf⟩ := h
  obtain ⟨A, n, c, es, e1, e2, e3, e4⟩ := open_els_cells L Good ht hcb hel hf (sized_top hsz hts hds)
  simp [Value.cells] at e1
  obtain ⟨rfl, rfl, rfl⟩ := e1
  exact ⟨es, e3, e4⟩
end
end Go.Proofs.YtpkopigiijiiiaaDoor
end
