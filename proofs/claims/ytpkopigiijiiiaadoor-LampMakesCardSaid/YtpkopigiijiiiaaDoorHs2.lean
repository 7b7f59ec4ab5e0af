/- SLICES OF HASHES, more: literals of one; appends, beside another slice that is read; of our own. -/
import Derived.Test.YtpkopigiijiiiaaDoorHs
namespace Go.Proofs.YtpkopigiijiiiaaDoor
open Go Go.RowKit
set_option linter.unusedVariables false
set_option linter.unusedSimpArgs false
set_option linter.unusedVariables false
set_option linter.unusedSimpArgs false

theorem list32 (l : List UInt8) (h : l.length = 32) : ∃ x0 x1 x2 x3 x4 x5 x6 x7 x8 x9 x10 x11 x12 x13 x14 x15 x16 x17 x18 x19 x20 x21 x22 x23 x24 x25 x26 x27 x28 x29 x30 x31 : UInt8, l = [x0, x1, x2, x3, x4, x5, x6, x7, x8, x9, x10, x11, x12, x13, x14, x15, x16, x17, x18, x19, x20, x21, x22, x23, x24, x25, x26, x27, x28, x29, x30, x31] := by
  rcases l with _ | ⟨x0, l⟩
  · simp at h
  rcases l with _ | ⟨x1, l⟩
  · simp at h
  rcases l with _ | ⟨x2, l⟩
  · simp at h
  rcases l with _ | ⟨x3, l⟩
  · simp at h
  rcases l with _ | ⟨x4, l⟩
  · simp at h
  rcases l with _ | ⟨x5, l⟩
  · simp at h
  rcases l with _ | ⟨x6, l⟩
  · simp at h
  rcases l with _ | ⟨x7, l⟩
  · simp at h
  rcases l with _ | ⟨x8, l⟩
  · simp at h
  rcases l with _ | ⟨x9, l⟩
  · simp at h
  rcases l with _ | ⟨x10, l⟩
  · simp at h
  rcases l with _ | ⟨x11, l⟩
  · simp at h
  rcases l with _ | ⟨x12, l⟩
  · simp at h
  rcases l with _ | ⟨x13, l⟩
  · simp at h
  rcases l with _ | ⟨x14, l⟩
  · simp at h
  rcases l with _ | ⟨x15, l⟩
  · simp at h
  rcases l with _ | ⟨x16, l⟩
  · simp at h
  rcases l with _ | ⟨x17, l⟩
  · simp at h
  rcases l with _ | ⟨x18, l⟩
  · simp at h
  rcases l with _ | ⟨x19, l⟩
  · simp at h
  rcases l with _ | ⟨x20, l⟩
  · simp at h
  rcases l with _ | ⟨x21, l⟩
  · simp at h
  rcases l with _ | ⟨x22, l⟩
  · simp at h
  rcases l with _ | ⟨x23, l⟩
  · simp at h
  rcases l with _ | ⟨x24, l⟩
  · simp at h
  rcases l with _ | ⟨x25, l⟩
  · simp at h
  rcases l with _ | ⟨x26, l⟩
  · simp at h
  rcases l with _ | ⟨x27, l⟩
  · simp at h
  rcases l with _ | ⟨x28, l⟩
  · simp at h
  rcases l with _ | ⟨x29, l⟩
  · simp at h
  rcases l with _ | ⟨x30, l⟩
  · simp at h
  rcases l with _ | ⟨x31, l⟩
  · simp at h
  rcases l with _ | ⟨y, l⟩
  · exact ⟨x0, x1, x2, x3, x4, x5, x6, x7, x8, x9, x10, x11, x12, x13, x14, x15, x16, x17, x18, x19, x20, x21, x22, x23, x24, x25, x26, x27, x28, x29, x30, x31, rfl⟩
  · simp at h
theorem run_mk1h (x : List UInt8) (hx : x.length = 32) (w : World) : (Instr.buildSlice 32 1 #[(0, .agg (hcel x))]).run Tryd.prog w = .ok (.slice (some ⟨w.heap.size, 0, none⟩) 1 1) (w.alloc (.cells (hcel x) 23)) := by
  obtain ⟨x0, x1, x2, x3, x4, x5, x6, x7, x8, x9, x10, x11, x12, x13, x14, x15, x16, x17, x18, x19, x20, x21, x22, x23, x24, x25, x26, x27, x28, x29, x30, x31, rfl⟩ := list32 x hx
  kernel_rfl
theorem wpList_mk {P : Program} {w w' : World} {ops : Array Oper} {rest : List Oper} {o : Oper} {a : Act} {Q : Exit → Act → World → Prop} (hgd : o.guard = none) (ty : TypeId) (n : Nat) (parts : Array (Nat × Operand)) (ho : o.op = .buildSlice ty n parts) (vals : Array (Nat × Value)) (hv : (parts.map fun (i, x) => (i, a.eval x)) = vals) (v : Value)
    (hrun : (Instr.buildSlice ty n vals).run P w = .ok v w') (h : wpList P ops Q rest (a.put o.dst v) w') : wpList P ops Q (o :: rest) a w :=
  wpList_plain hgd fun _ hK => wp_mk_of _ rfl ty n parts ho vals hv v w' hrun (hK _ _ h)
/-- A slice that is read, and lies in no block that s names. -/
def RdA {α : Type} (L : El α) (s : Option Nat) (w : World) (v : Value) (es : List α) : Prop := RdE L w v es ∧ (0 < es.length → ∀ q, s = some q → v.ownBlock ≠ some q)
theorem RdA.nx {α : Type} {L : El α} {s : Option Nat} {w w' : World} {v : Value} {es : List α} (h : RdA L s w v es) (x : Nx w w') : RdA L s w' v es := ⟨h.1.nx x, h.2⟩
theorem RdA.grown {s : Option Nat} {w w' : World} {v : Value} {es : Hs} (h : RdA elH s w v es) (x : w.grownBy w' s) : RdA elH s w' v es := by
  obtain ⟨⟨fs, ⟨h1, h2, A, c, rfl, h3, h4, ha⟩, hv⟩, hs⟩ := h
  obtain ⟨h32, rfl⟩ := allE_is hv
  refine ⟨⟨hfs es, ⟨h1, h2, A, c, rfl, h3, h4, fun hp => ?_⟩, allE_hfs h32 _ _⟩, hs⟩
  obtain ⟨b, o, rfl, hb, hc⟩ := ha hp
  have hne : some b ≠ s := fun e => hs hp b e.symm (by simp [Value.ownBlock])
  have hblk := x.block b hb hne
  refine ⟨b, o, rfl, ?_, fun j hj => ?_⟩
  · rw [Array.getElem?_eq_getElem hb] at hblk
    exact (Array.getElem?_eq_some_iff.1 hblk).1
  · rw [← hc j hj]
    unfold World.cell?
    simp only [hblk]
theorem RdE.lt {α : Type} {L : El α} {w : World} {v : Value} {es : List α} (h : RdE L w v es) (hp : 0 < es.length) : ∀ b, v.ownBlock = some b → b < w.heap.size := by
  obtain ⟨A, c, fs, rfl, _, _, _, h4⟩ := h.parts
  obtain ⟨b, o, rfl, hb, _⟩ := h4 hp
  intro q hq
  have : b = q := by simpa [Value.ownBlock] using hq
  omega
theorem RdA.of_lt {α : Type} {L : El α} {s : Option Nat} {w : World} {v : Value} {es : List α} (h : RdE L w v es) (hs : ∀ q, s = some q → w.heap.size ≤ q) : RdA L s w v es := ⟨h, fun hp q hq he => by
  have := h.lt hp q he
  have := hs q hq
  omega⟩
/-- Behind an append: the new list's block is the old one's, or new. -/
theorem RdA.next {s s' : Option Nat} {w w' : World} {v : Value} {es : Hs} (h : RdA elH s w v es) (x : w.grownBy w' s) (e : s' = s ∨ s' = some w.heap.size) : RdA elH s' w' v es := by
  refine ⟨(h.grown x).1, fun hp q hq he => ?_⟩
  rcases e with rfl | rfl
  · exact h.2 hp q hq he
  · have := h.1.lt hp q he
    have : w.heap.size = q := by simpa using hq
    omega
theorem wpList_appE2 {α : Type} {P : Program} {w : World} {ops : Array Oper} {rest : List Oper} {o : Oper} {a : Act} {Q : Exit → Act → World → Prop} (L : El α) (hgd : o.guard = none) (s x : Operand) (t : TypeId)
    (ho : o.op = .call { callee := .builtin .append, args := #[s, x], argTypes := #[t, t] }) (z : Value) (by' : Nat) (ht : P.underlying t = some (.slice L.E)) (hi : (P.info? L.E).map (fun i => (i.zero, i.size, i.bytes)) = some (some z, L.k, by')) (hzc : z.cells.size = L.k)
    (B : Nat) (v vx : Value) (es bs : List α) (us : List Value) (hs : a.eval s = v) (hx : a.eval x = vx) (hown : OwnE L B w v es) (hr : RdF L.k w vx bs.length us) (hu : AllE L v.ownBlock w us bs) (hlen : (es.length + bs.length) * by' ≤ 140737488355328) (hmx : es.length + bs.length ≤ maxLen) (hB : B ≤ w.heap.size)
    (h : ∀ v' w', OwnE L B w' v' (es ++ bs) → Below B w w' → w.grownBy w' v.ownBlock → (v'.ownBlock = v.ownBlock ∨ v'.ownBlock = some w.heap.size) → wpList P ops Q rest (a.put o.dst v') w') : wpList P ops Q (o :: rest) a w := by
  obtain ⟨fs, h1, h2⟩ := hown
  refine wpList_appF hgd s x t ho L.E z L.k by' ht hi hzc L.pos B v vx es.length bs.length fs us hs hx h1 hr hlen hmx hB fun v' w' g1 g2 g3 g4 => h v' w' ⟨fs ++ us, by rw [List.length_append]; exact g1, ?_⟩ g2 g3 (g4.imp id And.left)
  rcases g4 with g4 | g4
  · rw [g4]
    exact (h2.append hu).grown g3
  · obtain ⟨g4, g5⟩ := g4
    rw [g4]
    exact (h2.append hu).free.to (Below.grown (Below.refl _ _) g5 (Nat.le_refl _) (fun q hq => by cases hq)) (fun q hq => by
      have : w.heap.size = q := by simpa using hq
      omega)
theorem wp_appE_of {α : Type} {P : Program} {w : World} {o : Oper} {a : Act} {K : Act → World → Prop} {Q : Exit → Act → World → Prop} (L : El α) (dst : Option Tmp) (hd : o.dst = dst) (s x : Operand) (t : TypeId)
    (ho : o.op = .call { callee := .builtin .append, args := #[s, x], argTypes := #[t, t] }) (z : Value) (by' : Nat) (ht : P.underlying t = some (.slice L.E)) (hi : (P.info? L.E).map (fun i => (i.zero, i.size, i.bytes)) = some (some z, L.k, by')) (hzc : z.cells.size = L.k)
    (B : Nat) (v vx : Value) (es bs : List α) (us : List Value) (hs : a.eval s = v) (hx : a.eval x = vx) (hown : OwnE L B w v es) (hr : RdF L.k w vx bs.length us) (hu : AllE L v.ownBlock w us bs) (hlen : (es.length + bs.length) * by' ≤ 140737488355328) (hmx : es.length + bs.length ≤ maxLen) (hB : B ≤ w.heap.size)
    (h : ∀ v' w', OwnE L B w' v' (es ++ bs) → Below B w w' → w.grownBy w' v.ownBlock → (v'.ownBlock = v.ownBlock ∨ v'.ownBlock = some w.heap.size) → K (a.put dst v') w') : o.wp P a w K Q := by
  subst hd
  obtain ⟨fs, h1, h2⟩ := hown
  obtain ⟨i, hi0, hz, hsz, hby⟩ : ∃ i, P.info? L.E = some i ∧ i.zero = some z ∧ i.size = L.k ∧ i.bytes = by' := by
    rcases hq : P.info? L.E with _ | i
    · rw [hq] at hi; cases hi
    · rw [hq] at hi
      simp only [Option.map_some, Option.some.injEq, Prod.mk.injEq] at hi
      exact ⟨i, rfl, hi.1, hi.2.1, hi.2.2⟩
  obtain ⟨v', w', hr, g1, g3, g4⟩ := appF_run (P := P) w t o.type L.E i z L.k by' ht hi0 hz hzc hsz hby L.pos B v vx es.length bs.length fs us h1 hr hlen hmx hB
  have g2 := OwnF.below hB h1 g3
  unfold Oper.wp execOp
  simp only [ho, resolve, invoke, builtin, Sem.run_bind, Sem.run_pure, Result.andThen_ok, List.map_toArray, List.map_cons, List.map_nil, hs, hx, hr]
  refine h v' w' ⟨fs ++ us, by rw [List.length_append]; exact g1, ?_⟩ g2 g3 (g4.imp id And.left)
  rcases g4 with g4 | g4
  · rw [g4]
    exact (h2.append hu).grown g3
  · obtain ⟨g4, g5⟩ := g4
    rw [g4]
    exact (h2.append hu).free.to (Below.grown (Below.refl _ _) g5 (Nat.le_refl _) (fun q hq => by cases hq)) (fun q hq => by
      have : w.heap.size = q := by simpa using hq
      omega)
theorem wpList_eql {P : Program} {ops : Array Oper} {Q : Exit → Act → World → Prop} {o : Oper} {rest : List Oper} {a : Act} {w : World} (hgd : o.guard = none) (T : TypeId) (x y : Operand) (T' : TypeId) (ho : o.op = .binOp .eql T x y T') (X Y : Array Value)
    (hx : a.eval x = .agg X) (hy : a.eval y = .agg Y) (hgt : P.eqGuardType P.depth T = false) (b : Bool) (heq : (Op.equalIn 10000 T (.agg X) (.agg Y)).run P w = .ok b w) (h : wpList P ops Q rest (a.put o.dst (.bool b)) w) : wpList P ops Q (o :: rest) a w :=
  wpList_plain hgd fun _ hK => wp_eql_of _ rfl T x y T' ho X Y hx hy hgt b heq (hK _ _ h)
end Go.Proofs.YtpkopigiijiiiaaDoor
