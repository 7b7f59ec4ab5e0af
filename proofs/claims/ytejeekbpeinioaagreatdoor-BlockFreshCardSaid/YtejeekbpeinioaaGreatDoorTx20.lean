/- LAYER 7: bytes that are spoilt, and what stays. -/
import Derived.Test.YtejeekbpeinioaaGreatDoorTx19
import Derived.Test.YtejeekbpeinioaaGreatDoorFreshS
namespace Go.Proofs.YtejeekbpeinioaaGreatDoor
open Go Go.RowKit
set_option linter.unusedVariables false
set_option linter.unusedSimpArgs false
set_option linter.unusedVariables false
set_option linter.unusedSimpArgs false

/-- Just bytes from block B1 on, below B2, have turned into others. -/
structure Rl (B1 B2 : Nat) (w w' : World) : Prop where
  below : Below B1 w w'
  above : Above B2 w w'
  bys : ∀ g : Nat, w'.heap[g]? = w.heap[g]? ∨ ∃ f f' : List UInt8, f'.length = f.length ∧ w.heap[g]? = some (Obj.cells (bvs f).toArray 5 (0, 0)) ∧ w'.heap[g]? = some (Obj.cells (bvs f').toArray 5 (0, 0))
theorem Rl.refl (B1 B2 : Nat) (w : World) : Rl B1 B2 w w := ⟨Below.refl _ _, Above.of_nx (Nx.refl _), fun _ => .inl rfl⟩
theorem bvs_len_of {f g : List UInt8} (h : some (Obj.cells (bvs f).toArray 5 (0, 0)) = some (Obj.cells (bvs g).toArray 5 (0, 0))) : f.length = g.length := by
  have h1 := Option.some.inj h
  injection h1 with h2
  have h3 := congrArg Array.size h2
  simpa using h3
theorem Rl.trans {B1 B2 : Nat} {a b c : World} (h : Rl B1 B2 a b) (k : Rl B1 B2 b c) : Rl B1 B2 a c := by
  refine ⟨h.below.trans k.below, h.above.trans k.above, fun g => ?_⟩
  rcases h.bys g with h1 | ⟨f, f', e, h1, h2⟩
  · rcases k.bys g with k1 | ⟨p, p', e', k1, k2⟩
    · exact .inl (k1.trans h1)
    · exact .inr ⟨p, p', e', h1 ▸ k1, k2⟩
  · rcases k.bys g with k1 | ⟨p, p', e', k1, k2⟩
    · exact .inr ⟨f, f', e, h1, k1.trans h2⟩
    · have := bvs_len_of (h2.symm.trans k1)
      exact .inr ⟨f, p', by omega, h1, k2⟩
theorem Rl.own {B1 B2 : Nat} {w w' : World} {v : Value} {l : List UInt8} (x : Rl B1 B2 w w') (h : Own B1 w v l) : ∃ l', l'.length = l.length ∧ Own B1 w' v l' := by
  rcases h with ⟨rfl, rfl⟩ | ⟨g, full, rfl, hg, hh, hn, hm, ht⟩
  · exact ⟨[], rfl, .inl ⟨rfl, rfl⟩⟩
  · rcases x.bys g with h1 | ⟨f, f', e, h1, h2⟩
    · exact ⟨l, rfl, .inr ⟨g, full, rfl, hg, h1.trans hh, hn, hm, ht⟩⟩
    · have hl := bvs_len_of (hh.symm.trans h1)
      have h3 : (f'.take l.length).length = l.length := by rw [List.length_take]; omega
      exact ⟨f'.take l.length, h3, .inr ⟨g, f', by rw [h3, e, hl], hg, h2, by rw [h3]; omega, by omega, by rw [h3]⟩⟩
theorem Rl.same {B1 B2 : Nat} {w w' : World} {g i : Nat} {x : Value} (h : Rl B1 B2 w w') (hc : w.cell? ⟨g, i, none⟩ = some x) (hx : ∀ b : UInt8, x ≠ bv b) : w'.heap[g]? = w.heap[g]? := by
  rcases h.bys g with h1 | ⟨f, f', e, h1, h2⟩
  · exact h1
  · exfalso
    have h3 : w.cell? ⟨g, i, none⟩ = (bvs f).toArray[i]? := cell_of_row w g i _ _ (0, 0) h1
    rw [h3] at hc
    simp only [bvs, List.getElem?_toArray, List.getElem?_map] at hc
    cases hf : f[i]? with
    | none => rw [hf] at hc; cases hc
    | some b => rw [hf] at hc; exact hx b (Option.some.inj hc).symm
theorem Rl.row {B1 B2 : Nat} {w w' : World} {g : Nat} {cs : Array Value} {t : TypeId} (h : Rl B1 B2 w w') (R : Row w g cs t) (hg : B2 ≤ g) : Row w' g cs t := (h.above.block g hg R.lt).trans R
set_option maxHeartbeats 800000 in
theorem spoil_rl (B1 B2 : Nat) (v : Value) (l : List UInt8) (y : UInt8) (w : World) (hown : Own B1 w v l) (hq : ∀ q, v.ownBlock = some q → q < B2) :
    Calls Tryz.prog 26 #[v, .int .u8 (y.toNat : Int)] w fun e w' => e = .returned (.tuple #[]) ∧ Rl B1 B2 w w' := by
  rcases hown with ⟨rfl, rfl⟩ | ⟨g, full, rfl, hg, hh, hn, hm, ht⟩
  · go_enter Tryz.func26, Tryz.ntmps26
    go_wp2
    refine wp_loop_rounds 1 ?_
    rw [rounds_succ]
    go_wp2
    go_end0
    exact ⟨rfl, Rl.refl _ _ _⟩
  · unfold maxLen at hm
    have HH0 := Lib.hid hh
    have HG := Lib.hid (hq g rfl)
    clear hq
    go_enter Tryz.func26, Tryz.ntmps26
    go_wp2
    go_loopw [5] (fun i wr => ∃ (k : Nat) (cur : List UInt8), k ≤ full.length ∧ i = .int .i64 k ∧ cur.length = full.length ∧ wr.heap[g]? = some (.cells (bvs cur).toArray 5 (0, 0)) ∧ Below B1 w wr ∧ Hid (∀ h, h ≠ g → wr.heap[h]? = w.heap[h]?)) (fun i _ => full.length - (intOf i).toNat)
    case atStart => exact ⟨0, full, by omega, rfl, rfl, hh, Below.refl _ _, Lib.hid fun _ _ => rfl⟩
    case round =>
      obtain ⟨k, cur, hk, rfl, hc, hh', hb, HO⟩ := hrel
      by_cases hlt : k < full.length
      · have g1 := blk_cell hh' (k := k) (by omega)
        have f1 := blk_frozen hh' k
        obtain ⟨x, hx⟩ : ∃ x, cur[k] = x := ⟨_, rfl⟩
        rw [hx] at g1
        have HH := Lib.hid hh'
        have HC := Lib.hid hc
        clear hx hh' hc hh ht
        have hs := Lib.hid (u8_sum x y)
        go_wp2
        go_roundw
        case rel => exact ⟨k + 1, cur.set k (x + y), by omega, by go_num, by rw [List.length_set, HC.out], by rw [hs.out]; exact blk_set HH.out k (x + y), hb.setCell hg _, Lib.hid fun h hh => (heap_setCell_other _ ⟨g, k, none⟩ h _ hh).trans (HO.out h hh)⟩
        case measure => simp [intOf]; omega
      · have HH := Lib.hid hh'
        have HC := Lib.hid hc
        clear hh' hc hh
        go_wp2
        go_end0
        refine ⟨rfl, hb, ⟨hb.os, hb.tape, hb.output, hb.size, fun h h1 h2 => HO.out h (by have := HG.out; omega)⟩, fun h => ?_⟩
        by_cases he : h = g
        · subst he
          exact .inr ⟨full, cur, HC.out, HH0.out, HH.out⟩
        · exact .inl (HO.out h he)
theorem spoil_rl1 (B1 B2 : Nat) (v : Value) (l : List UInt8) (w : World) (hown : Own B1 w v l) (hq : ∀ q, v.ownBlock = some q → q < B2) :
    Calls Tryz.prog 26 #[v, .int .u8 1] w fun e w' => e = .returned (.tuple #[]) ∧ Rl B1 B2 w w' := spoil_rl B1 B2 v l 1 w hown hq
theorem rdF_cell {k : Nat} {w : World} {v : Value} {n : Nat} {fs : List Value} (h : RdF k w v n fs) (hn : 0 < n) : ∃ b o c, v = .slice (some ⟨b, o, none⟩) n c ∧ b < w.heap.size ∧ ∀ i u, fs[i]? = some u → w.cell? ⟨b, o + i, none⟩ = some u := by
  obtain ⟨h1, h2, A, c, rfl, h3, h4, h5⟩ := h
  obtain ⟨b, o, rfl, hb, hc⟩ := h5 hn
  refine ⟨b, o, c, rfl, hb, fun i u hi => ?_⟩
  obtain ⟨hi1, rfl⟩ := List.getElem?_eq_some_iff.1 hi
  exact hc i hi1
/-- Inputs whose unlocks lie from block B1 on, below B2. -/
def InsSp (B1 B2 : Nat) (w : World) (v : Value) (es : List Inp) : Prop := ∀ j (hj : j < es.length), ∃ b o c uv, v = .slice (some ⟨b, o, none⟩) es.length c ∧ b < w.heap.size ∧ (∀ i u, (icl es[j] uv)[i]? = some u → w.cell? ⟨b, o + j * 35 + i, none⟩ = some u) ∧ InOk es[j] ∧ Own B1 w uv es[j].u ∧ ∀ q, uv.ownBlock = some q → q < B2
def OutsSp (B1 B2 : Nat) (w : World) (v : Value) (es : List Outp) : Prop := ∀ j (hj : j < es.length), ∃ b o c uv, v = .slice (some ⟨b, o, none⟩) es.length c ∧ b < w.heap.size ∧ (∀ i u, (ocl es[j] uv)[i]? = some u → w.cell? ⟨b, o + j * 2 + i, none⟩ = some u) ∧ Own B1 w uv es[j].l ∧ ∀ q, uv.ownBlock = some q → q < B2
theorem InsSp.of {B : Nat} {w : World} {v : Value} {es : List Inp} (h : InsAt B w v es) : InsSp B w.heap.size w v es := by
  intro j hj
  obtain ⟨fs, hf, hb, -⟩ := h
  obtain ⟨b, o, c, rfl, hlt, hc⟩ := rdF_cell hf (by omega)
  obtain ⟨uv, hcut, hok, hown⟩ := hb.2 j hj
  refine ⟨b, o, c, uv, rfl, hlt, fun i u hi => ?_, hok, hown, fun q hq => (own_blk hown q hq).2⟩
  rw [Nat.add_assoc]
  refine hc _ _ ?_
  rw [← hcut] at hi
  unfold El.cut at hi
  rw [List.getElem?_take] at hi
  split at hi
  · rw [List.getElem?_drop] at hi; exact hi
  · cases hi
theorem OutsSp.of {B : Nat} {w : World} {v : Value} {es : List Outp} (h : OutsAt B w v es) : OutsSp B w.heap.size w v es := by
  intro j hj
  obtain ⟨fs, hf, hb, -⟩ := h
  obtain ⟨b, o, c, rfl, hlt, hc⟩ := rdF_cell hf (by omega)
  obtain ⟨uv, hcut, hok, hown⟩ := hb.2 j hj
  refine ⟨b, o, c, uv, rfl, hlt, fun i u hi => ?_, hown, fun q hq => (own_blk hown q hq).2⟩
  rw [Nat.add_assoc]
  refine hc _ _ ?_
  rw [← hcut] at hi
  unfold El.cut at hi
  rw [List.getElem?_take] at hi
  split at hi
  · rw [List.getElem?_drop] at hi; exact hi
  · cases hi
theorem InsSp.nx {B1 B2 : Nat} {w w' : World} {v : Value} {es : List Inp} (h : InsSp B1 B2 w v es) (k : Nx w w') : InsSp B1 B2 w' v es := by
  intro j hj
  obtain ⟨b, o, c, uv, rfl, hlt, hc, hok, hown, hq⟩ := h j hj
  exact ⟨b, o, c, uv, rfl, Nat.lt_of_lt_of_le hlt k.size, fun i u hi => (k.cell (p := ⟨b, o + j * 35 + i, none⟩) hlt).trans (hc i u hi), hok, hown.nx k, hq⟩
theorem OutsSp.nx {B1 B2 : Nat} {w w' : World} {v : Value} {es : List Outp} (h : OutsSp B1 B2 w v es) (k : Nx w w') : OutsSp B1 B2 w' v es := by
  intro j hj
  obtain ⟨b, o, c, uv, rfl, hlt, hc, hown, hq⟩ := h j hj
  exact ⟨b, o, c, uv, rfl, Nat.lt_of_lt_of_le hlt k.size, fun i u hi => (k.cell (p := ⟨b, o + j * 2 + i, none⟩) hlt).trans (hc i u hi), hown.nx k, hq⟩
theorem icl_32 (i : Inp) (u : Value) (h : InOk i) : (icl i u)[32]? = some (.int .u16 (i.n : Int)) := by
  simp [icl, pcl, bvs, h.1, List.getElem?_append_right]
theorem InsSp.rl {B1 B2 : Nat} {w w' : World} {v : Value} {es : List Inp} (h : InsSp B1 B2 w v es) (x : Rl B1 B2 w w') (j : Nat) (hj : j < es.length) : ∃ b o c uv l', v = .slice (some ⟨b, o, none⟩) es.length c ∧ w'.cell? ⟨b, o + j * 35 + 34, none⟩ = some uv ∧ Own B1 w' uv l' ∧ ∀ q, uv.ownBlock = some q → q < B2 := by
  obtain ⟨b, o, c, uv, rfl, hlt, hc, hok, hown, hq⟩ := h j hj
  obtain ⟨l', -, ho⟩ := x.own hown
  have h32 := hc 32 _ (icl_32 _ uv hok)
  have hs := x.same h32 (fun y e => by simp [bv] at e)
  refine ⟨b, o, c, uv, l', rfl, ?_, ho, hq⟩
  have h34 := hc 34 uv (by have := icel_u es[j] uv hok; simpa [icel] using this)
  unfold World.cell? at h34 ⊢
  rw [hs]
  exact h34
theorem OutsSp.rl {B1 B2 : Nat} {w w' : World} {v : Value} {es : List Outp} (h : OutsSp B1 B2 w v es) (x : Rl B1 B2 w w') (j : Nat) (hj : j < es.length) : ∃ b o c uv l', v = .slice (some ⟨b, o, none⟩) es.length c ∧ w'.cell? ⟨b, o + j * 2 + 1, none⟩ = some uv ∧ Own B1 w' uv l' ∧ ∀ q, uv.ownBlock = some q → q < B2 := by
  obtain ⟨b, o, c, uv, rfl, hlt, hc, hown, hq⟩ := h j hj
  obtain ⟨l', -, ho⟩ := x.own hown
  have h0 := hc 0 (.int .u64 (es[j].v : Int)) rfl
  have hs := x.same h0 (fun y e => by simp [bv] at e)
  refine ⟨b, o, c, uv, l', rfl, ?_, ho, hq⟩
  have h1 := hc 1 uv rfl
  unfold World.cell? at h1 ⊢
  rw [hs]
  exact h1
end Go.Proofs.YtejeekbpeinioaaGreatDoor
