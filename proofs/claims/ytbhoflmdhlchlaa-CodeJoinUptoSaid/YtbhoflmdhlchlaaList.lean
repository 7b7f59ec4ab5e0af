/- LISTS OF ONE-CELL VALUES (slices of slices), of our own: read, owned, appended to. -/
import Derived.Test.YtbhoflmdhlchlaaFrame
import Derived.Test.YtbhoflmdhlchlaaSame
namespace Go.Proofs.Ytbhoflmdhlchlaa
open Go Go.RowKit
set_option linter.unusedVariables false
set_option linter.unusedSimpArgs false
set_option linter.unusedVariables false
set_option linter.unusedSimpArgs false

/-- The slice v holds the cells vs. -/
def RdC (w : World) (v : Value) (vs : List Value) : Prop :=
  ∃ A c, v = .slice A vs.length c ∧ vs.length ≤ c ∧ c ≤ maxLen ∧ (∀ u ∈ vs, u.oneCell' = true) ∧ (0 < vs.length → ∃ b o, A = some ⟨b, o, none⟩ ∧ b < w.heap.size ∧ ∀ j (h : j < vs.length), w.cell? ⟨b, o + j, none⟩ = some vs[j])
/-- A row of the call's own, of elements of type E, from block B on, that holds the cells vs; or nil. -/
def OwnC (E : TypeId) (B : Nat) (w : World) (v : Value) (vs : List Value) : Prop :=
  (v = .slice none 0 0 ∧ vs = []) ∨
  ∃ (g : Nat) (full : List Value), v = .slice (some ⟨g, 0, none⟩) vs.length full.length ∧ B ≤ g ∧ w.heap[g]? = some (.cells full.toArray E (0, 0)) ∧ vs.length ≤ full.length ∧ full.length ≤ maxLen ∧ full.take vs.length = vs
theorem RdC.nil (w : World) : RdC w (.slice none 0 0) [] := ⟨none, 0, rfl, by simp, by simp [maxLen], by simp, by simp⟩
theorem RdC.nx {w w' : World} {v : Value} {vs : List Value} (h : RdC w v vs) (k : Nx w w') : RdC w' v vs := by
  obtain ⟨A, c, rfl, h1, h2, h3, h4⟩ := h
  refine ⟨A, c, rfl, h1, h2, h3, fun hp => ?_⟩
  obtain ⟨b, o, rfl, hb, hc⟩ := h4 hp
  exact ⟨b, o, rfl, Nat.lt_of_lt_of_le hb k.size, fun j hj => by rw [k.cell (p := ⟨b, o + j, none⟩) hb]; exact hc j hj⟩
theorem OwnC.nil (E : TypeId) (B : Nat) (w : World) : OwnC E B w (.slice none 0 0) [] := .inl ⟨rfl, rfl⟩
theorem OwnC.nx {E : TypeId} {B : Nat} {w w' : World} {v : Value} {vs : List Value} (h : OwnC E B w v vs) (k : Nx w w') : OwnC E B w' v vs := by
  rcases h with h2 | ⟨g, full, rfl, hb, hg, rest⟩
  · exact .inl h2
  · exact .inr ⟨g, full, rfl, hb, by rw [k.block g (Array.getElem?_eq_some_iff.1 hg).1]; exact hg, rest⟩
theorem OwnC.mono {E : TypeId} {B B' : Nat} {w : World} {v : Value} {vs : List Value} (h : OwnC E B w v vs) (hB : B' ≤ B) : OwnC E B' w v vs := by
  rcases h with h2 | ⟨g, full, rfl, hb, rest⟩
  · exact .inl h2
  · exact .inr ⟨g, full, rfl, Nat.le_trans hB hb, rest⟩
theorem OwnC.cellsAt {E : TypeId} {w : World} {g : Nat} {full vs : List Value} (hg : w.heap[g]? = some (.cells full.toArray E (0, 0))) (hn : vs.length ≤ full.length) (ht : full.take vs.length = vs) : ∀ j (h : j < vs.length), w.cell? ⟨g, j, none⟩ = some vs[j] := by
  intro j hj
  rw [cell_of_row w g j _ _ (0, 0) hg]
  have h1 : full[j]? = vs[j]? := by rw [← ht, List.getElem?_take_of_lt hj]
  simp only [List.getElem?_toArray, h1, List.getElem?_eq_getElem hj]
theorem OwnC.rd {E : TypeId} {B : Nat} {w : World} {v : Value} {vs : List Value} (h : OwnC E B w v vs) (h1 : ∀ u ∈ vs, u.oneCell' = true) : RdC w v vs := by
  rcases h with ⟨rfl, rfl⟩ | ⟨g, full, rfl, hg, hh, hn, hm, ht⟩
  · exact RdC.nil w
  · exact ⟨some ⟨g, 0, none⟩, full.length, rfl, hn, hm, h1, fun _ => ⟨g, 0, rfl, (Array.getElem?_eq_some_iff.1 hh).1, fun j hj => by rw [Nat.zero_add]; exact OwnC.cellsAt hh hn ht j hj⟩⟩
theorem OwnC.block {E : TypeId} {B : Nat} {w : World} {v : Value} {vs : List Value} (h : OwnC E B w v vs) : ∀ k, v.ownBlock = some k → B ≤ k ∧ k < w.heap.size := by
  intro k hk
  rcases h with ⟨rfl, _⟩ | ⟨g, full, rfl, hb, hg, _⟩
  · simp [Value.ownBlock] at hk
  · obtain rfl : g = k := by simpa [Value.ownBlock] using hk
    exact ⟨hb, (Array.getElem?_eq_some_iff.1 hg).1⟩
theorem OwnC.below {E : TypeId} {B : Nat} {w w' : World} {v : Value} {vs : List Value} (hB : B ≤ w.heap.size) (hown : OwnC E B w v vs) (hg : w.grownBy w' v.ownBlock) : Below B w w' :=
  Below.grown (Below.refl _ _) hg hB fun k hk => (hown.block k hk).1

theorem zeroCells_one (z : Value) (hz : z.cells = #[z]) (k : Nat) : Builtin.zeroCells z.cells k = (List.replicate k z).toArray := by
  apply Array.ext
  · simp [Builtin.zeroCells, hz]
  · intro i h1 h2
    simp [Builtin.zeroCells, hz, Nat.mod_one]

section
variable {P : Program}
theorem appC_run (w : World) (t ty E : TypeId) (i : TypeInfo) (z : Value) (by' : Nat) (ht : P.underlying t = some (.slice E)) (hi : P.info? E = some i) (hz : i.zero = some z) (hzc : z.cells = #[z]) (hsize : i.size = 1) (hby : i.bytes = by')
    (B : Nat) (v vx : Value) (vs us : List Value) (hown : OwnC E B w v vs) (hr : RdC w vx us) (hlen : (vs.length + us.length) * by' ≤ 140737488355328) (hmx : vs.length + us.length ≤ maxLen) (hB : B ≤ w.heap.size) :
    ∃ v' w', (Builtin.append_ #[t, t] ty #[v, vx]).run P w = .ok v' w' ∧ OwnC E B w' v' (vs ++ us) ∧ w.grownBy w' v.ownBlock ∧ (v'.ownBlock = v.ownBlock ∨ v'.ownBlock = some w.heap.size) := by
  obtain ⟨A, c, rfl, hc, hm, h1, ha⟩ := hr
  subst hby
  have h63 : ((vs.length + us.length : Nat) : Int) ≤ 9223372036854775807 := by simp only [maxLen] at hmx; omega
  rcases A with _ | ad
  · have h0 : us.length = 0 := by
      rcases Nat.eq_zero_or_pos us.length with h | h
      · exact h
      · obtain ⟨b, o, h', _⟩ := ha h; cases h'
    obtain rfl : us = [] := List.eq_nil_of_length_eq_zero h0
    refine ⟨v, w, ?_, by simpa using hown, World.grownBy.refl w _, .inl rfl⟩
    rcases hown with ⟨rfl, rfl⟩ | ⟨g, full, rfl, _, _, hnc, _⟩
    · simp [Builtin.append_, run_underlying ht, sizeOf, typeInfo, hi, Builtin.lenOf, Builtin.firstCells]
    · simp [Builtin.append_, run_underlying ht, sizeOf, typeInfo, hi, Builtin.lenOf, Builtin.firstCells, hnc, storeCells]
  · have hnews : ∀ j u, us[j]? = some u → w.cell? (ad.add j) = some u := fun j u hu => by
      obtain ⟨hj, rfl⟩ := List.getElem?_eq_some_iff.1 hu
      obtain ⟨b, o, he, hb, hcell⟩ := ha (by omega)
      obtain rfl : ad = ⟨b, o, none⟩ := by injection he
      rw [addr_add, hcell j hj]
    have grown : ∀ (old : Nat) (row : Option Nat), OwnC E B (w.drew.alloc (.cells (vs.toArray ++ us.toArray ++ Builtin.zeroCells z.cells (grownCap w (vs.length + us.length) old E - (vs.length + us.length))) E))
        (.slice (some ⟨w.heap.size, 0, none⟩) (vs.length + us.length) (grownCap w (vs.length + us.length) old E)) (vs ++ us) ∧
        w.grownBy (w.drew.alloc (.cells (vs.toArray ++ us.toArray ++ Builtin.zeroCells z.cells (grownCap w (vs.length + us.length) old E - (vs.length + us.length))) E)) row := by
      intro old row
      have hge := grownCap_ge w (vs.length + us.length) old E
      have hcm := grownCap_le_maxLen w (vs.length + us.length) old E hmx
      generalize grownCap w (vs.length + us.length) old E = cp at *
      have hfl : (vs ++ us ++ List.replicate (cp - (vs.length + us.length)) z).length = cp := by simp; omega
      refine ⟨.inr ⟨w.heap.size, vs ++ us ++ List.replicate (cp - (vs.length + us.length)) z, by rw [hfl, List.length_append], hB, ?_, by rw [hfl, List.length_append]; exact hge, by rw [hfl]; exact hcm, List.take_left⟩,
        ⟨rfl, rfl, rfl, by simp, fun k hk _ => heap_alloc_old _ _ hk⟩⟩
      rw [zeroCells_one z hzc]
      have e : (vs ++ us ++ List.replicate (cp - (vs.length + us.length)) z).toArray = vs.toArray ++ us.toArray ++ (List.replicate (cp - (vs.length + us.length)) z).toArray := by apply Array.ext'; simp
      rw [e]
      exact heap_alloc_new w.drew (.cells (vs.toArray ++ us.toArray ++ (List.replicate (cp - (vs.length + us.length)) z).toArray) E)
    rcases hown with ⟨rfl, rfl⟩ | ⟨g, full, rfl, hbg, hg, hnc, hcm, htk⟩
    · by_cases h0 : us.length = 0
      · obtain rfl : us = [] := List.eq_nil_of_length_eq_zero h0
        refine ⟨.slice none 0 0, w, ?_, OwnC.nil _ _ _, World.grownBy.refl w _, .inl rfl⟩
        simp [Builtin.append_, run_underlying ht, sizeOf, typeInfo, hi, Builtin.lenOf, Builtin.firstCells, loadCells, loadCellsFrom]
      · have hrun := run_append_nil (P := P) w t ty E i z ht hi hz ad us.length c us (by rw [hsize]; simp) hnews (by omega) (by simpa using h63) (by simp at hlen; omega)
        have hgr := grown 0 (Value.ownBlock (.slice none 0 0))
        simp only [List.length_nil, Nat.zero_add, List.nil_append] at hgr hrun ⊢
        simp only [show (#[] : Array Value) ++ us.toArray = us.toArray by simp] at hgr
        exact ⟨_, _, hrun, hgr.1, hgr.2, .inr rfl⟩
    · by_cases hroom : vs.length + us.length ≤ full.length
      · have hrun := run_append_room (P := P) w t ty E i ht hi g vs.length full.length full.toArray hg ad us.length c us (by rw [hsize]; simp) hnews h1 hroom (by rw [hsize]; simp; omega)
        rw [hsize] at hrun
        have hl2 : vs ++ us ++ full.drop (vs.length + us.length) = full.take vs.length ++ us ++ full.drop (vs.length + us.length) := by rw [htk]
        have hfl : (vs ++ us ++ full.drop (vs.length + us.length)).length = full.length := by simp; omega
        refine ⟨_, _, hrun, .inr ⟨g, vs ++ us ++ full.drop (vs.length + us.length), by rw [hfl, List.length_append], hbg, ?_, by rw [hfl, List.length_append]; exact hroom, by rw [hfl]; exact hcm, List.take_left⟩,
          ⟨rfl, rfl, rfl, by simp, fun k _ hk => setRow_other w g k _ (fun e => hk (by simp [Value.ownBlock, e]))⟩, .inl rfl⟩
        have := setRow_heap w g _ (full.toArray.toList.take (vs.length * 1) ++ us ++ full.toArray.toList.drop (vs.length * 1 + us.length)).toArray _ _ hg
        rw [this, hl2]
        simp
      · have holds : ∀ j u, vs[j]? = some u → w.cell? ((⟨g, 0, none⟩ : Addr).add j) = some u := fun j u hu => by
          obtain ⟨hj, rfl⟩ := List.getElem?_eq_some_iff.1 hu
          rw [addr_add, Nat.zero_add]
          exact OwnC.cellsAt hg hnc htk j hj
        have hrun := run_append_grow (P := P) w t ty E i z ht hi hz ⟨g, 0, none⟩ vs.length full.length vs (by rw [hsize]; simp) holds ad us.length c us (by rw [hsize]; simp) hnews (by omega) h63 (growslice_fits (by omega) hlen)
        have hgr := grown full.length (Value.ownBlock (.slice (some ⟨g, 0, none⟩) vs.length full.length))
        exact ⟨_, _, hrun, hgr.1, hgr.2, .inr rfl⟩
theorem wpList_appC {w : World} {ops : Array Oper} {rest : List Oper} {o : Oper} {a : Act} {Q : Exit → Act → World → Prop} (hgd : o.guard = none) (s x : Operand) (t : TypeId)
    (ho : o.op = .call { callee := .builtin .append, args := #[s, x], argTypes := #[t, t] })
    (E : TypeId) (z : Value) (by' : Nat) (ht : P.underlying t = some (.slice E)) (hi : (P.info? E).map (fun i => (i.zero, i.size, i.bytes)) = some (some z, 1, by')) (hzc : z.cells = #[z])
    (B : Nat) (v vx : Value) (vs us : List Value) (hs : a.eval s = v) (hx : a.eval x = vx) (hown : OwnC E B w v vs) (hr : RdC w vx us) (hlen : (vs.length + us.length) * by' ≤ 140737488355328) (hmx : vs.length + us.length ≤ maxLen) (hB : B ≤ w.heap.size)
    (h : ∀ v' w', OwnC E B w' v' (vs ++ us) → Below B w w' → w.grownBy w' v.ownBlock → (v'.ownBlock = v.ownBlock ∨ v'.ownBlock = some w.heap.size) → wpList P ops Q rest (a.put o.dst v') w') : wpList P ops Q (o :: rest) a w := by
  refine wpList_plain hgd fun K hK => ?_
  obtain ⟨i, hi0, hz, hsz, hby⟩ : ∃ i, P.info? E = some i ∧ i.zero = some z ∧ i.size = 1 ∧ i.bytes = by' := by
    rcases hq : P.info? E with _ | i
    · rw [hq] at hi; cases hi
    · rw [hq] at hi
      simp only [Option.map_some, Option.some.injEq, Prod.mk.injEq] at hi
      exact ⟨i, rfl, hi.1, hi.2.1, hi.2.2⟩
  obtain ⟨v', w', hr, h2, h3, h5⟩ := appC_run (P := P) w t o.type E i z by' ht hi0 hz hzc hsz hby B v vx vs us hown hr hlen hmx hB
  unfold Oper.wp execOp
  simp only [ho, resolve, invoke, builtin, Sem.run_bind, Sem.run_pure, Result.andThen_ok, List.map_toArray, List.map_cons, List.map_nil, hs, hx, hr]
  exact hK _ _ (h v' w' h2 (OwnC.below hB hown h3) h3 h5)
end

/-! ### Slices of slices of bytes -/
/-- The cells vs read as the lists ls; what holds bytes lies in no block that s names. -/
def VsL (s : Option Nat) (w : World) (vs : List Value) (ls : List (List UInt8)) : Prop :=
  vs.length = ls.length ∧ ∀ (j : Nat) (u : Value) (l : List UInt8), vs[j]? = some u → ls[j]? = some l → Rd w u l ∧ (0 < l.length → ∀ k, s = some k → u.ownBlock ≠ some k)
theorem VsL.nil (s : Option Nat) (w : World) : VsL s w [] [] := ⟨rfl, fun j u l h => by simp at h⟩
theorem VsL.nx {s : Option Nat} {w w' : World} {vs : List Value} {ls : List (List UInt8)} (h : VsL s w vs ls) (k : Nx w w') : VsL s w' vs ls :=
  ⟨h.1, fun j u l h1 h2 => ⟨(h.2 j u l h1 h2).1.nx k, (h.2 j u l h1 h2).2⟩⟩
theorem VsL.free {s : Option Nat} {w : World} {vs : List Value} {ls : List (List UInt8)} (h : VsL s w vs ls) : VsL none w vs ls :=
  ⟨h.1, fun j u l h1 h2 => ⟨(h.2 j u l h1 h2).1, fun _ k hk => by cases hk⟩⟩
theorem VsL.one {s : Option Nat} {w : World} {vs : List Value} {ls : List (List UInt8)} (h : VsL s w vs ls) : ∀ u ∈ vs, u.oneCell' = true := by
  intro u hu
  obtain ⟨j, hj, rfl⟩ := List.getElem_of_mem hu
  obtain ⟨⟨A, c, e, _⟩, _⟩ := h.2 j vs[j] (ls[j]'(by rw [← h.1]; exact hj)) (List.getElem?_eq_getElem hj) (List.getElem?_eq_getElem _)
  rw [e]; rfl
theorem Rd.blk {w : World} {v : Value} {l : List UInt8} (h : Rd w v l) (hp : 0 < l.length) : ∃ k, v.ownBlock = some k ∧ k < w.heap.size := by
  obtain ⟨A, c, rfl, _, _, ha⟩ := h
  obtain ⟨b, o, rfl, hb, _⟩ := ha hp
  exact ⟨b, by simp [Value.ownBlock], hb⟩
/-- Bytes that lie in no block that grew go on to be read. -/
theorem Rd.grownBy {w w' : World} {v : Value} {l : List UInt8} {row : Option Nat} (h : Rd w v l) (hg : w.grownBy w' row) (hs : 0 < l.length → ∀ k, row = some k → v.ownBlock ≠ some k) : Rd w' v l := by
  obtain ⟨A, c, rfl, h1, h2, ha⟩ := h
  refine ⟨A, c, rfl, h1, h2, fun hp => ?_⟩
  obtain ⟨b, o, rfl, hb, hc⟩ := ha hp
  have hne : some b ≠ row := fun e => hs hp b e.symm (by simp [Value.ownBlock])
  have hblk := hg.block b hb hne
  refine ⟨b, o, rfl, ?_, fun j hj => ?_⟩
  · rw [Array.getElem?_eq_getElem hb] at hblk
    exact (Array.getElem?_eq_some_iff.1 hblk).1
  · rw [← hc j hj]
    unfold World.cell?
    simp only [hblk]
/-- A slice of slices of bytes. -/
def RdL (w : World) (v : Value) (ls : List (List UInt8)) : Prop := ∃ vs, RdC w v vs ∧ VsL none w vs ls
/-- One of the call's own. -/
def OwnL (B : Nat) (w : World) (v : Value) (ls : List (List UInt8)) : Prop := ∃ vs, OwnC 23 B w v vs ∧ VsL v.ownBlock w vs ls
theorem RdL.nx {w w' : World} {v : Value} {ls : List (List UInt8)} (h : RdL w v ls) (k : Nx w w') : RdL w' v ls := by
  obtain ⟨vs, h1, h2⟩ := h
  exact ⟨vs, h1.nx k, h2.nx k⟩
theorem OwnL.nx {B : Nat} {w w' : World} {v : Value} {ls : List (List UInt8)} (h : OwnL B w v ls) (k : Nx w w') : OwnL B w' v ls := by
  obtain ⟨vs, h1, h2⟩ := h
  exact ⟨vs, h1.nx k, h2.nx k⟩
theorem OwnL.mono {B B' : Nat} {w : World} {v : Value} {ls : List (List UInt8)} (h : OwnL B w v ls) (hB : B' ≤ B) : OwnL B' w v ls := by
  obtain ⟨vs, h1, h2⟩ := h
  exact ⟨vs, h1.mono hB, h2⟩
theorem OwnL.rd {B : Nat} {w : World} {v : Value} {ls : List (List UInt8)} (h : OwnL B w v ls) : RdL w v ls := by
  obtain ⟨vs, h1, h2⟩ := h
  exact ⟨vs, h1.rd h2.one, h2.free⟩
theorem RdL.nil (w : World) : RdL w (.slice none 0 0) [] := ⟨[], RdC.nil w, VsL.nil _ _⟩
theorem OwnL.nil (B : Nat) (w : World) : OwnL B w (.slice none 0 0) [] := ⟨[], OwnC.nil _ _ _, VsL.nil _ _⟩
theorem VsL.append {s : Option Nat} {w : World} {vs us : List Value} {ls ms : List (List UInt8)} (h : VsL s w vs ls) (k : VsL s w us ms) : VsL s w (vs ++ us) (ls ++ ms) := by
  refine ⟨by rw [List.length_append, List.length_append, h.1, k.1], fun j u l h1 h2 => ?_⟩
  by_cases hj : j < vs.length
  · rw [List.getElem?_append_left hj] at h1
    rw [List.getElem?_append_left (by rw [← h.1]; exact hj)] at h2
    exact h.2 j u l h1 h2
  · rw [List.getElem?_append_right (by omega)] at h1
    rw [List.getElem?_append_right (by rw [← h.1]; omega), ← h.1] at h2
    exact k.2 _ u l h1 h2
theorem info_bytes24 : (Try.prog.info? 23).map (fun i => (i.zero, i.size, i.bytes)) = some (some (.slice none 0 0), 1, 24) := by kernel_rfl
/-- An append to one of the call's own, of lists that lie elsewhere. -/
theorem wpList_appL {w : World} {ops : Array Oper} {rest : List Oper} {o : Oper} {a : Act} {Q : Exit → Act → World → Prop} (hgd : o.guard = none) (s x : Operand) (t : TypeId)
    (ho : o.op = .call { callee := .builtin .append, args := #[s, x], argTypes := #[t, t] }) (ht : Try.prog.underlying t = some (.slice 23))
    (B : Nat) (v vx : Value) (ls ms : List (List UInt8)) (us : List Value) (hs : a.eval s = v) (hx : a.eval x = vx) (hown : OwnL B w v ls) (hr : RdC w vx us) (hu : VsL v.ownBlock w us ms) (hlen : ls.length + ms.length ≤ 1000000000000) (hB : B ≤ w.heap.size)
    (h : ∀ v' w', OwnL B w' v' (ls ++ ms) → Below B w w' → w.grownBy w' v.ownBlock → wpList Try.prog ops Q rest (a.put o.dst v') w') : wpList Try.prog ops Q (o :: rest) a w := by
  obtain ⟨vs, h1, h2⟩ := hown
  refine wpList_appC hgd s x t ho 23 (.slice none 0 0) 24 ht info_bytes24 rfl B v vx vs us hs hx h1 hr (by rw [h2.1, hu.1]; omega) (by rw [h2.1, hu.1]; simp only [maxLen]; omega) hB fun v' w' g1 g2 g3 g4 => h v' w' ⟨vs ++ us, g1, ?_⟩ g2 g3
  have happ := h2.append hu
  refine ⟨happ.1, fun j u l e1 e2 => ?_⟩
  obtain ⟨q1, q2⟩ := happ.2 j u l e1 e2
  refine ⟨q1.grownBy g3 fun hp k hk => q2 hp k hk, fun hp k hk hc => ?_⟩
  rcases g4 with g4 | g4
  · rw [g4] at hk; exact q2 hp k hk hc
  · rw [g4] at hk
    obtain rfl : w.heap.size = k := by simpa using hk
    obtain ⟨k', hk1, hk2⟩ := q1.blk hp
    rw [hc] at hk1
    have : w.heap.size = k' := by simpa using hk1
    omega
end Go.Proofs.Ytbhoflmdhlchlaa
