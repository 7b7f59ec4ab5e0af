/- LISTS OF VALUES OF k CELLS EACH (slices of structs), of our own: read, owned, appended to. -/
import Derived.Test.YtdbokmhkgkgnfaaFrame
import Derived.Test.YtdbokmhkgkgnfaaSame
namespace Go.Proofs.Ytdbokmhkgkgnfaa
open Go Go.RowKit
set_option linter.unusedVariables false
set_option linter.unusedSimpArgs false
set_option linter.unusedVariables false
set_option linter.unusedSimpArgs false

/-- The slice v holds n elements, whose cells are fs. -/
def RdF (k : Nat) (w : World) (v : Value) (n : Nat) (fs : List Value) : Prop :=
  fs.length = n * k ∧ (∀ u ∈ fs, u.oneCell' = true) ∧ ∃ A c, v = .slice A n c ∧ n ≤ c ∧ c ≤ maxLen ∧ (0 < n → ∃ b o, A = some ⟨b, o, none⟩ ∧ b < w.heap.size ∧ ∀ j (h : j < fs.length), w.cell? ⟨b, o + j, none⟩ = some fs[j])
/-- A row of the call's own, of elements of type E, from block B on; or nil. -/
def OwnF (E : TypeId) (k B : Nat) (w : World) (v : Value) (n : Nat) (fs : List Value) : Prop :=
  fs.length = n * k ∧ ((v = .slice none 0 0 ∧ n = 0) ∨
  ∃ (g c : Nat) (full : List Value), v = .slice (some ⟨g, 0, none⟩) n c ∧ B ≤ g ∧ w.heap[g]? = some (.cells full.toArray E (0, 0)) ∧ full.length = c * k ∧ n ≤ c ∧ c ≤ maxLen ∧ full.take (n * k) = fs)
theorem RdF.nil (k : Nat) (w : World) : RdF k w (.slice none 0 0) 0 [] := ⟨by simp, by simp, none, 0, rfl, by simp, by simp [maxLen], by simp⟩
theorem RdF.nx {k : Nat} {w w' : World} {v : Value} {n : Nat} {fs : List Value} (h : RdF k w v n fs) (x : Nx w w') : RdF k w' v n fs := by
  obtain ⟨h0, h3, A, c, rfl, h1, h2, h4⟩ := h
  refine ⟨h0, h3, A, c, rfl, h1, h2, fun hp => ?_⟩
  obtain ⟨b, o, rfl, hb, hc⟩ := h4 hp
  exact ⟨b, o, rfl, Nat.lt_of_lt_of_le hb x.size, fun j hj => by rw [x.cell (p := ⟨b, o + j, none⟩) hb]; exact hc j hj⟩
theorem OwnF.nil (E : TypeId) (k B : Nat) (w : World) : OwnF E k B w (.slice none 0 0) 0 [] := ⟨by simp, .inl ⟨rfl, rfl⟩⟩
theorem OwnF.nx {E : TypeId} {k B : Nat} {w w' : World} {v : Value} {n : Nat} {fs : List Value} (h : OwnF E k B w v n fs) (x : Nx w w') : OwnF E k B w' v n fs := by
  obtain ⟨h0, h2 | ⟨g, c, full, rfl, hb, hg, rest⟩⟩ := h
  · exact ⟨h0, .inl h2⟩
  · exact ⟨h0, .inr ⟨g, c, full, rfl, hb, by rw [x.block g (Array.getElem?_eq_some_iff.1 hg).1]; exact hg, rest⟩⟩
theorem OwnF.mono {E : TypeId} {k B B' : Nat} {w : World} {v : Value} {n : Nat} {fs : List Value} (h : OwnF E k B w v n fs) (hB : B' ≤ B) : OwnF E k B' w v n fs := by
  obtain ⟨h0, h2 | ⟨g, c, full, rfl, hb, rest⟩⟩ := h
  · exact ⟨h0, .inl h2⟩
  · exact ⟨h0, .inr ⟨g, c, full, rfl, Nat.le_trans hB hb, rest⟩⟩
theorem OwnF.cellsAt {E : TypeId} {w : World} {g m : Nat} {full fs : List Value} (hg : w.heap[g]? = some (.cells full.toArray E (0, 0))) (ht : full.take m = fs) : ∀ j (h : j < fs.length), w.cell? ⟨g, j, none⟩ = some fs[j] := by
  intro j hj
  rw [cell_of_row w g j _ _ (0, 0) hg]
  have hm : j < m := by rw [← ht, List.length_take] at hj; omega
  have h1 : full[j]? = fs[j]? := by rw [← ht, List.getElem?_take_of_lt hm]
  simp only [List.getElem?_toArray, h1, List.getElem?_eq_getElem hj]
theorem OwnF.rd {E : TypeId} {k B : Nat} {w : World} {v : Value} {n : Nat} {fs : List Value} (h : OwnF E k B w v n fs) (h1 : ∀ u ∈ fs, u.oneCell' = true) : RdF k w v n fs := by
  obtain ⟨h0, ⟨rfl, rfl⟩ | ⟨g, c, full, rfl, hg, hh, hf, hn, hm, ht⟩⟩ := h
  · exact ⟨h0, h1, none, 0, rfl, by simp, by simp [maxLen], by simp⟩
  · exact ⟨h0, h1, some ⟨g, 0, none⟩, c, rfl, hn, hm, fun _ => ⟨g, 0, rfl, (Array.getElem?_eq_some_iff.1 hh).1, fun j hj => by rw [Nat.zero_add]; exact OwnF.cellsAt hh ht j hj⟩⟩
theorem OwnF.block {E : TypeId} {k B : Nat} {w : World} {v : Value} {n : Nat} {fs : List Value} (h : OwnF E k B w v n fs) : ∀ q, v.ownBlock = some q → B ≤ q ∧ q < w.heap.size := by
  intro q hq
  obtain ⟨h0, ⟨rfl, _⟩ | ⟨g, c, full, rfl, hb, hg, _⟩⟩ := h
  · simp [Value.ownBlock] at hq
  · obtain rfl : g = q := by simpa [Value.ownBlock] using hq
    exact ⟨hb, (Array.getElem?_eq_some_iff.1 hg).1⟩
theorem OwnF.below {E : TypeId} {k B : Nat} {w w' : World} {v : Value} {n : Nat} {fs : List Value} (hB : B ≤ w.heap.size) (hown : OwnF E k B w v n fs) (hg : w.grownBy w' v.ownBlock) : Below B w w' :=
  Below.grown (Below.refl _ _) hg hB fun q hq => (hown.block q hq).1

section
variable {P : Program}
theorem appF_run (w : World) (t ty E : TypeId) (i : TypeInfo) (z : Value) (k by' : Nat) (ht : P.underlying t = some (.slice E)) (hi : P.info? E = some i) (hz : i.zero = some z) (hzc : z.cells.size = k) (hsize : i.size = k) (hby : i.bytes = by') (hk : 0 < k)
    (B : Nat) (v vx : Value) (n m : Nat) (fs us : List Value) (hown : OwnF E k B w v n fs) (hr : RdF k w vx m us) (hlen : (n + m) * by' ≤ 140737488355328) (hmx : n + m ≤ maxLen) (hB : B ≤ w.heap.size) :
    ∃ v' w', (Builtin.append_ #[t, t] ty #[v, vx]).run P w = .ok v' w' ∧ OwnF E k B w' v' (n + m) (fs ++ us) ∧ w.grownBy w' v.ownBlock ∧ (v'.ownBlock = v.ownBlock ∨ (v'.ownBlock = some w.heap.size ∧ w.grownBy w' none)) := by
  obtain ⟨hu, h1, A, c, rfl, hc, hm, ha⟩ := hr
  subst hby
  have h63 : ((n + m : Nat) : Int) ≤ 9223372036854775807 := by simp only [maxLen] at hmx; omega
  have hfl0 : (fs ++ us).length = (n + m) * k := by rw [List.length_append, hown.1, hu, Nat.add_mul]
  rcases A with _ | ad
  · have h0 : m = 0 := by
      rcases Nat.eq_zero_or_pos m with h | h
      · exact h
      · obtain ⟨b, o, h', _⟩ := ha h; cases h'
    subst h0
    obtain rfl : us = [] := List.eq_nil_of_length_eq_zero (by simpa using hu)
    refine ⟨v, w, ?_, by simpa using hown, World.grownBy.refl w _, .inl rfl⟩
    obtain ⟨h0, ⟨rfl, rfl⟩ | ⟨g, cc, full, rfl, _, _, _, hnc, _⟩⟩ := hown
    · simp [Builtin.append_, run_underlying ht, sizeOf, typeInfo, hi, Builtin.lenOf, Builtin.firstCells]
    · simp [Builtin.append_, run_underlying ht, sizeOf, typeInfo, hi, Builtin.lenOf, Builtin.firstCells, hnc, storeCells]
  · have hnews : 0 < m → ∀ j u, us[j]? = some u → w.cell? (ad.add j) = some u := fun hp j u hu' => by
      obtain ⟨hj, rfl⟩ := List.getElem?_eq_some_iff.1 hu'
      obtain ⟨b, o, he, hb, hcell⟩ := ha hp
      obtain rfl : ad = ⟨b, o, none⟩ := by injection he
      rw [addr_add, hcell j hj]
    have hnews' : ∀ j u, us[j]? = some u → w.cell? (ad.add j) = some u := by
      rcases Nat.eq_zero_or_pos m with h | h
      · intro j u hu'
        have := (List.getElem?_eq_some_iff.1 hu').1
        rw [hu, h] at this
        omega
      · exact hnews h
    have grown : ∀ (old : Nat) (row : Option Nat), OwnF E k B (w.drew.alloc (.cells (fs.toArray ++ us.toArray ++ Builtin.zeroCells z.cells (grownCap w (n + m) old E - (n + m))) E))
        (.slice (some ⟨w.heap.size, 0, none⟩) (n + m) (grownCap w (n + m) old E)) (n + m) (fs ++ us) ∧
        w.grownBy (w.drew.alloc (.cells (fs.toArray ++ us.toArray ++ Builtin.zeroCells z.cells (grownCap w (n + m) old E - (n + m))) E)) row := by
      intro old row
      have hge := grownCap_ge w (n + m) old E
      have hcm := grownCap_le_maxLen w (n + m) old E hmx
      generalize grownCap w (n + m) old E = cp at *
      have hzl : (Builtin.zeroCells z.cells (cp - (n + m))).toList.length = (cp - (n + m)) * k := by simp [Builtin.zeroCells, hzc]
      have hfl : (fs ++ us ++ (Builtin.zeroCells z.cells (cp - (n + m))).toList).length = cp * k := by
        rw [List.length_append, hfl0, hzl, ← Nat.add_mul]
        congr 1
        omega
      refine ⟨⟨hfl0, .inr ⟨w.heap.size, cp, fs ++ us ++ (Builtin.zeroCells z.cells (cp - (n + m))).toList, rfl, hB, ?_, hfl, hge, hcm, by rw [← hfl0]; exact List.take_left⟩⟩,
        ⟨rfl, rfl, rfl, by simp, fun q hq _ => heap_alloc_old _ _ hq⟩⟩
      have e : (fs ++ us ++ (Builtin.zeroCells z.cells (cp - (n + m))).toList).toArray = fs.toArray ++ us.toArray ++ Builtin.zeroCells z.cells (cp - (n + m)) := by apply Array.ext'; simp
      rw [e]
      exact heap_alloc_new w.drew (.cells (fs.toArray ++ us.toArray ++ Builtin.zeroCells z.cells (cp - (n + m))) E)
    obtain ⟨hf0, ⟨rfl, rfl⟩ | ⟨g, cc, full, rfl, hbg, hg, hfc, hnc, hcm, htk⟩⟩ := hown
    · obtain rfl : fs = [] := List.eq_nil_of_length_eq_zero (by simpa using hf0)
      by_cases h0 : m = 0
      · subst h0
        obtain rfl : us = [] := List.eq_nil_of_length_eq_zero (by simpa using hu)
        refine ⟨.slice none 0 0, w, ?_, OwnF.nil _ _ _ _, World.grownBy.refl w _, .inl rfl⟩
        simp [Builtin.append_, run_underlying ht, sizeOf, typeInfo, hi, Builtin.lenOf, Builtin.firstCells, loadCells, loadCellsFrom]
      · have hrun := run_append_nil (P := P) w t ty E i z ht hi hz ad m c us (by rw [hsize]; exact hu) hnews' (by omega) (by simpa using h63) (by simp at hlen; omega)
        have hgr := grown 0 (Value.ownBlock (.slice none 0 0))
        have hgn := (grown 0 none).2
        simp only [Nat.zero_add, List.nil_append] at hgr hrun hgn ⊢
        simp only [show (#[] : Array Value) ++ us.toArray = us.toArray by simp] at hgr hgn
        exact ⟨_, _, hrun, hgr.1, hgr.2, .inr ⟨rfl, hgn⟩⟩
    · by_cases hroom : n + m ≤ cc
      · have hle : (n + m) * k ≤ cc * k := Nat.mul_le_mul_right _ hroom
        have hrun := run_append_room (P := P) w t ty E i ht hi g n cc full.toArray hg ad m c us (by rw [hsize]; exact hu) hnews' h1 hroom (by rw [hsize, hu, ← Nat.add_mul]; simpa [hfc] using hle)
        rw [hsize] at hrun
        have hl2 : fs ++ us ++ full.drop (n * k + us.length) = full.take (n * k) ++ us ++ full.drop (n * k + us.length) := by rw [htk]
        have hfl : (fs ++ us ++ full.drop (n * k + us.length)).length = cc * k := by
          rw [List.length_append, hfl0, List.length_drop, hfc, hu, ← Nat.add_mul]
          omega
        refine ⟨_, _, hrun, ⟨hfl0, .inr ⟨g, cc, fs ++ us ++ full.drop (n * k + us.length), rfl, hbg, ?_, hfl, hroom, hcm, by rw [← hfl0]; exact List.take_left⟩⟩,
          ⟨rfl, rfl, rfl, by simp, fun q _ hq => setRow_other w g q _ (fun e => hq (by simp [Value.ownBlock, e]))⟩, .inl rfl⟩
        have := setRow_heap w g _ (full.toArray.toList.take (n * k) ++ us ++ full.toArray.toList.drop (n * k + us.length)).toArray _ _ hg
        rw [this, hl2]
      · have holds : ∀ j u, fs[j]? = some u → w.cell? ((⟨g, 0, none⟩ : Addr).add j) = some u := fun j u hu' => by
          obtain ⟨hj, rfl⟩ := List.getElem?_eq_some_iff.1 hu'
          rw [addr_add, Nat.zero_add]
          exact OwnF.cellsAt hg htk j hj
        have hrun := run_append_grow (P := P) w t ty E i z ht hi hz ⟨g, 0, none⟩ n cc fs (by rw [hsize]; exact hf0) holds ad m c us (by rw [hsize]; exact hu) hnews' (by omega) h63 (growslice_fits (by omega) hlen)
        have hgr := grown cc (Value.ownBlock (.slice (some ⟨g, 0, none⟩) n cc))
        exact ⟨_, _, hrun, hgr.1, hgr.2, .inr ⟨rfl, (grown cc none).2⟩⟩
theorem wpList_appF {w : World} {ops : Array Oper} {rest : List Oper} {o : Oper} {a : Act} {Q : Exit → Act → World → Prop} (hgd : o.guard = none) (s x : Operand) (t : TypeId)
    (ho : o.op = .call { callee := .builtin .append, args := #[s, x], argTypes := #[t, t] })
    (E : TypeId) (z : Value) (k by' : Nat) (ht : P.underlying t = some (.slice E)) (hi : (P.info? E).map (fun i => (i.zero, i.size, i.bytes)) = some (some z, k, by')) (hzc : z.cells.size = k) (hk : 0 < k)
    (B : Nat) (v vx : Value) (n m : Nat) (fs us : List Value) (hs : a.eval s = v) (hx : a.eval x = vx) (hown : OwnF E k B w v n fs) (hr : RdF k w vx m us) (hlen : (n + m) * by' ≤ 140737488355328) (hmx : n + m ≤ maxLen) (hB : B ≤ w.heap.size)
    (h : ∀ v' w', OwnF E k B w' v' (n + m) (fs ++ us) → Below B w w' → w.grownBy w' v.ownBlock → (v'.ownBlock = v.ownBlock ∨ (v'.ownBlock = some w.heap.size ∧ w.grownBy w' none)) → wpList P ops Q rest (a.put o.dst v') w') : wpList P ops Q (o :: rest) a w := by
  refine wpList_plain hgd fun K hK => ?_
  obtain ⟨i, hi0, hz, hsz, hby⟩ : ∃ i, P.info? E = some i ∧ i.zero = some z ∧ i.size = k ∧ i.bytes = by' := by
    rcases hq : P.info? E with _ | i
    · rw [hq] at hi; cases hi
    · rw [hq] at hi
      simp only [Option.map_some, Option.some.injEq, Prod.mk.injEq] at hi
      exact ⟨i, rfl, hi.1, hi.2.1, hi.2.2⟩
  obtain ⟨v', w', hr, h2, h3, h5⟩ := appF_run (P := P) w t o.type E i z k by' ht hi0 hz hzc hsz hby hk B v vx n m fs us hown hr hlen hmx hB
  unfold Oper.wp execOp
  simp only [ho, resolve, invoke, builtin, Sem.run_bind, Sem.run_pure, Result.andThen_ok, List.map_toArray, List.map_cons, List.map_nil, hs, hx, hr]
  exact hK _ _ (h v' w' h2 (OwnF.below hB hown h3) h3 h5)
end
end Go.Proofs.Ytdbokmhkgkgnfaa
