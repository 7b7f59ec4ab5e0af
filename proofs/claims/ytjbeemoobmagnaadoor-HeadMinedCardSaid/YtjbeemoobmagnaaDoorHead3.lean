/- LAYER 8: the document's Put; the id of a head, and whether it works, of both sides. -/
import Derived.Laws.Rows
import Derived.Test.YtjbeemoobmagnaaDoorGe
import Derived.Test.YtjbeemoobmagnaaDoorGf
import Derived.Test.YtjbeemoobmagnaaDoorGg
import Derived.Test.YtjbeemoobmagnaaDoorGl
import Derived.Test.YtjbeemoobmagnaaDoorResCell
import Derived.Test.YtjbeemoobmagnaaDoorEl2
namespace Go.Proofs.YtjbeemoobmagnaaDoor
open Go Go.RowKit
set_option linter.unusedVariables false
set_option linter.unusedSimpArgs false
set_option linter.unusedVariables false
set_option linter.unusedSimpArgs false

theorem Row.blw {B g : Nat} {w w' : World} {cs : Array Value} {t : TypeId} (h : Row w g cs t) (hb : Below B w w') (hg : g < B) : Row w' g cs t := (hb.block g hg).trans h
theorem wpList_app2 {P : Program} {w : World} {ops : Array Oper} {rest : List Oper} {o : Oper} {a : Act} {Q : Exit → Act → World → Prop} (hgd : o.guard = none) (s x : Operand) (t : TypeId)
    (ho : o.op = .call { callee := .builtin .append, args := #[s, x], argTypes := #[t, t] })
    (ht : P.underlying t = some (.slice 5)) (hi : (P.info? 5).map (fun i => (i.zero, i.size, i.bytes)) = some (some (.int .u8 0), 1, 1))
    (B : Nat) (v vx : Value) (l m : List UInt8) (hs : a.eval s = v) (hx : a.eval x = vx) (hown : Own B w v l) (hr : Rd w vx m) (hlen : l.length + m.length ≤ 140737488355328) (hB : B ≤ w.heap.size)
    (h : ∀ v' w', Own B w' v' (l ++ m) → Below B w w' → w.grownBy w' v.ownBlock → (v'.ownBlock = v.ownBlock ∨ v'.ownBlock = some w.heap.size) → wpList P ops Q rest (a.put o.dst v') w') : wpList P ops Q (o :: rest) a w := by
  refine wpList_plain hgd fun K hK => ?_
  obtain ⟨i, hi0, hz, hsz, hby⟩ := info_parts hi
  obtain ⟨v', w', hr, h2, h3, h5⟩ := app_run (P := P) w t o.type i ht hi0 hz hsz hby B v vx l m hown hr hlen hB
  unfold Oper.wp execOp
  simp only [ho, resolve, invoke, builtin, Sem.run_bind, Sem.run_pure, Result.andThen_ok, List.map_toArray, List.map_cons, List.map_nil, hs, hx, hr]
  exact hK _ _ (h v' w' h2 (Own.below hB hown h3) h3 h5)
theorem Own.blt {B : Nat} {w : World} {v : Value} {l : List UInt8} (h : Own B w v l) : ∀ q, v.ownBlock = some q → q < w.heap.size := by
  intro q hq
  rcases h with ⟨rfl, _⟩ | ⟨g, full, rfl, hb, hg, _⟩
  · simp [Value.ownBlock] at hq
  · obtain rfl : g = q := by simpa [Value.ownBlock] using hq
    exact (Array.getElem?_eq_some_iff.1 hg).1
theorem apart_of {w w' : World} {B : Nat} {y v : Value} {l m : List UInt8} (hy : Own B w y l) (hv : Own w.heap.size w' v m) : RdS y.ownBlock w' v m := ⟨hv.rd, fun _ q hq he => by
  have := hy.blt q hq
  have := hv.block q he
  omega⟩
theorem RdS.next {u u' : World} {y a v : Value} {l : List UInt8} (h : RdS y.ownBlock u v l) (x : u.grownBy u' y.ownBlock) (ha : a.ownBlock = y.ownBlock ∨ a.ownBlock = some u.heap.size) : RdS a.ownBlock u' v l := by
  have h1 := h.grown x
  rcases ha with e | e
  · rw [e]; exact h1
  · exact ⟨h1.1, fun hp q hq he => (h.free.apart (s := a.ownBlock) (fun q hq => by rw [e] at hq; injection hq with hq; omega)).2 hp q hq he⟩
/-- What a head is. -/
structure HOk (p r : List UInt8) (t b n : Nat) : Prop where
  p : p.length = 32
  r : r.length = 32
  t : t < 4294967296
  b : b < 4294967296
  n : n < 4294967296
theorem hcel_at_p {p r : List UInt8} {t b n : Nat} (hp : p.length = 32) : ∀ (j : Nat) (v : Value), (hcel p)[j]? = some v → (hdc p r t b n)[j]? = some v := by
  intro j v hv
  have hj : j < p.length := by
    have := (Array.getElem?_eq_some_iff.1 hv).1
    rwa [hcel_size] at this
  rw [hcel_get p j hj] at hv
  rw [hd_p p r t b n j hj]
  exact hv
theorem hcel_at_r {p r : List UInt8} {t b n : Nat} (hp : p.length = 32) : ∀ (j : Nat) (v : Value), (hcel r)[j]? = some v → (hdc p r t b n)[32 + j]? = some v := by
  intro j v hv
  have hj : j < r.length := by
    have := (Array.getElem?_eq_some_iff.1 hv).1
    rwa [hcel_size] at this
  rw [hcel_get r j hj] at hv
  rw [hd_r p r t b n hp j hj]
  exact hv
theorem info_u8p : (Tryd.prog.info? 5).map (fun i => (i.zero, i.size, i.bytes)) = some (some (.int .u8 0), 1, 1) := by kernel_rfl
theorem u32_up (n : Nat) (h : n < 4294967296) : IntKind.u64.wrap (n : Int) = (n : Int) := by rw [IntKind.wrap_u64, Int.emod_eq_of_lt (by omega) (by omega)]
theorem rhnum_any (n : Nat) (h : n < 4294967296) (w : World) : Calls Tryd.prog 51 #[.int .u64 (n : Int), .int .i64 4] w fun e w' => ∃ v E, e = .returned (.tuple #[v, .int .i64 E]) ∧ Own w.heap.size w' v (low n 4) ∧ Nx w w' := by
  have H := refPut_any n 4 w (by omega)
  rw [putL_four n h] at H
  exact H.mono fun e w' ⟨v, h1, h2, h3⟩ => ⟨v, _, h1, h2, h3⟩
set_option maxRecDepth 100000 in
set_option maxHeartbeats 4000000 in
theorem rhput_any (p r : List UInt8) (t b n : Nat) (H : HOk p r t b n) (w : World) :
    Calls Tryd.prog 19 #[.agg (hdc p r t b n)] w fun e w' => ∃ v, e = .returned v ∧ Own w.heap.size w' v (hdB p r t b n) ∧ Nx w w' := by
  have HN1 := Lib.hid (fun w => rhnum_any t H.t w)
  have HN2 := Lib.hid (fun w => rhnum_any b H.b w)
  have HN3 := Lib.hid (fun w => rhnum_any n H.n w)
  have hu1 := u32_up t H.t
  have hu2 := u32_up b H.b
  have hu3 := u32_up n H.n
  have HL1 := Lib.hid (low_length t 4)
  have HL2 := Lib.hid (low_length b 4)
  have HL3 := Lib.hid (low_length n 4)
  unfold hdB
  generalize low t 4 = B1 at *
  generalize low b 4 = B2 at *
  generalize low n 4 = B3 at *
  have HT := Lib.hid H.p
  have HU := Lib.hid H.r
  have HCT := Lib.hid (hd_t p r t b n H.p H.r)
  have HCB := Lib.hid (hd_b p r t b n H.p H.r)
  have HCN := Lib.hid (hd_n p r t b n H.p H.r)
  have HPC := Lib.hid (hcel_at_p (r := r) (t := t) (b := b) (n := n) H.p)
  have HRC := Lib.hid (hcel_at_r (r := r) (t := t) (b := b) (n := n) H.p)
  have HPS := Lib.hid (hashsz p H.p)
  have HRS := Lib.hid (hashsz r H.r)
  have HLP := Lib.hid (fun w => rlist_any p w H.p)
  have HLR := Lib.hid (fun w => rlist_any r w H.r)
  have R0 := Row.new w (hdc p r t b n) 32 _ rfl
  have NW := Lib.hid ((Nx.refl w).alloc (.cells (hdc p r t b n) 32))
  clear H
  go_enter Tryd.func19, Tryd.ntmps19
  go_wp2_with fail
  generalize w.alloc (.cells (hdc p r t b n) 32) = W at *
  have K0 := R0
  clear R0
  refine wp_region_sep (W.heap.size) 7 [[], [0], [1], [], [3], [4, 2], [2, 5, 5], [6, 6, 0, 1, 2, 3, 4, 5, 6]] [some 10, some 11, some 12, some 13, some 14, some 15, some 16] [0, 0, 2, 0, 0, 2, 2] [none, none, some 6, none, none, none, none, none] [none, none, none, none, none, none, some 2]
    [{ V := .pointer (some ⟨w.heap.size, 0, none⟩) }, { V := .agg (hcel p) }, { l := p }, { V := .pointer (some ⟨w.heap.size, 32, none⟩) }, { V := .agg (hcel r) }, { l := r }, { l := p ++ r }]
    (Nat.le_refl _) (by kernel_rfl) (by kernel_rfl) (hord_of (by decide)) (by kernel_rfl) (by decide) (by decide) (htail_of (by decide)) (stat4 (needs := [[], [0], [1], [], [3], [4, 2], [2, 5, 5], [6, 6, 0, 1, 2, 3, 4, 5, 6]]) (cons := [none, none, some 6, none, none, none, none, none]) (src := [none, none, none, none, none, none, some 2]) (by decide)) (statS (by decide)) ?_ ?_ ?_ ?_ _ (by rfl) ?_
  · intro j hj h1 v w w' _ _
    have : j = 0 ∨ j = 1 ∨ j = 2 ∨ j = 3 ∨ j = 4 ∨ j = 5 ∨ j = 6 := by omega
    rcases this with rfl | rfl | rfl | rfl | rfl | rfl | rfl <;> exact trivial
  · intro j hj h1
    have : j = 0 ∨ j = 1 ∨ j = 2 ∨ j = 3 ∨ j = 4 ∨ j = 5 ∨ j = 6 := by omega
    rcases this with rfl | rfl | rfl | rfl | rfl | rfl | rfl <;> cases h1
  · intro i j hi _ _ h1
    have : i = 0 ∨ i = 1 ∨ i = 2 ∨ i = 3 ∨ i = 4 ∨ i = 5 ∨ i = 6 := by omega
    rcases this with rfl | rfl | rfl | rfl | rfl | rfl | rfl <;> cases h1
  · intro x tm wr htm hbl hB i hi hd K hK
    simp only [fillA, List.setIfInBounds_toArray, List.set_cons_zero, List.set_cons_succ] at htm
    subst htm
    have hcs : i = 0 ∨ i = 1 ∨ i = 2 ∨ i = 3 ∨ i = 4 ∨ i = 5 ∨ i = 6 := by omega
    clear hi
    rcases hcs with rfl | rfl | rfl | rfl | rfl | rfl | rfl
    · exact wpOp_of rfl rfl (wp_val_of (some 10) rfl (.pointer (some ⟨w.heap.size, 0, none⟩)) (by kernel_rfl) (hK _ _ ⟨rfl, Nx.refl _⟩))
    · have e0 : x 0 = .pointer (some ⟨w.heap.size, 0, none⟩) := hd 0 (by decide)
      generalize x 0 = y0 at e0 hK ⊢
      subst e0
      exact wpOp_of rfl rfl (wp_load_at (some 11) rfl 30 (.tmp 10) rfl (w.heap.size) 0 rfl (hcel p) _ (fun j v hv => by rw [Nat.zero_add]; exact (Row.blw K0 hbl K0.lt).cell (HPC.out j v hv)) Tryd.underlying30 rfl HPS.out (hK _ _ ⟨rfl, Nx.refl _⟩))
    · have e1 : x 1 = .agg (hcel p) := hd 1 (by decide)
      generalize x 1 = y1 at e1 hK ⊢
      subst e1
      exact wpOp_of rfl rfl (wp_callp_of (some 12) rfl 50 #[(.agg (hcel p))] (by kernel_rfl) (fun v w' => Own wr.heap.size w' v (p)) (HLP.out wr) (fun v w' h1 h2 => hK v w' ⟨h1, h2⟩))
    · exact wpOp_of rfl rfl (wp_val_of (some 13) rfl (.pointer (some ⟨w.heap.size, 32, none⟩)) (by kernel_rfl) (hK _ _ ⟨rfl, Nx.refl _⟩))
    · have e3 : x 3 = .pointer (some ⟨w.heap.size, 32, none⟩) := hd 3 (by decide)
      generalize x 3 = y3 at e3 hK ⊢
      subst e3
      exact wpOp_of rfl rfl (wp_load_at (some 14) rfl 30 (.tmp 13) rfl (w.heap.size) 32 rfl (hcel r) _ (fun j v hv => (Row.blw K0 hbl K0.lt).cell (HRC.out j v hv)) Tryd.underlying30 rfl HRS.out (hK _ _ ⟨rfl, Nx.refl _⟩))
    · have e4 : x 4 = .agg (hcel r) := hd 4 (by decide)
      generalize x 4 = y4 at e4 hK ⊢
      subst e4
      exact wpOp_of rfl rfl (wp_callp_of (some 15) rfl 50 #[(.agg (hcel r))] (by kernel_rfl) (fun v w' => Own wr.heap.size w' v (r)) (HLR.out wr) (fun v w' h1 h2 => hK v w' ⟨h1, h2⟩))
    · have o2 : Own (W.heap.size) wr (x 2) (p) := hd 2 (by decide) (by decide)
      have o5 : Own (W.heap.size) wr (x 5) (r) := hd 5 (by decide) (by decide)
      exact wpOp_of rfl rfl (wp_app_of (some 16) rfl (.tmp 12) (.tmp 15) 34 rfl Tryd.underlying34 info_u8p (W.heap.size) (x 2) (x 5) (p) (r) rfl rfl o2 (o5.rd) (by have := HT.out; have := HU.out; omega) hB (fun v' w' h1 h2 h3 => hK v' w' ⟨h1, h2, h3⟩))
  · intro x tm wr htm hbl hv
    simp only [fillA, List.setIfInBounds_toArray, List.set_cons_zero, List.set_cons_succ] at htm
    subst htm
    have OY := Lib.hid ((hv 6 (by decide) (by decide)).mono NW.out.size)
    have N1 := Lib.hid (NW.out.app (hbl.mono NW.out.size))
    have K1 := Row.blw K0 hbl K0.lt
    have k1 := K1.cell HCT.out
    generalize x 6 = y at *
    clear hv hbl K0
    go_wp2_with fail
    refine (HN1.out _).mono ?_
    rintro e w1 ⟨v1, E1, rfl, o1, n1⟩
    have O1 := Lib.hid (apart_of OY.out o1)
    have OY1 := Lib.hid (OY.out.nx n1)
    have N2 := Lib.hid (N1.out.trans n1)
    have K2 := K1.nx n1
    have k2 := K2.cell HCB.out
    clear o1 n1 k1 K1
    go_wp2_with fail
    refine (HN2.out _).mono ?_
    rintro e w2 ⟨v2, E2, rfl, o2, n2⟩
    have O2 := Lib.hid (apart_of OY1.out o2)
    have O12 := Lib.hid (O1.out.nx n2)
    have OY2 := Lib.hid (OY1.out.nx n2)
    have N3 := Lib.hid (N2.out.trans n2)
    have K3 := K2.nx n2
    have k3 := K3.cell HCN.out
    clear o2 n2 k2 K2
    go_wp2_with fail
    refine (HN3.out _).mono ?_
    rintro e w3 ⟨v3, E3, rfl, o3, n3⟩
    have O3 := Lib.hid (apart_of OY2.out o3)
    have O13 := Lib.hid (O12.out.nx n3)
    have O23 := Lib.hid (O2.out.nx n3)
    have OY3 := Lib.hid (OY2.out.nx n3)
    have N4 := Lib.hid (N3.out.trans n3)
    clear o3 n3 k3 K3
    go_wp2_with (at_builtin; refine wpList_app2 rfl (.tmp 38) (.tmp 39) _ rfl Tryd.underlying34 info_u8 w.heap.size y v1 (p ++ r) B1 rfl rfl OY3.out O13.out.1 (by have := HT.out; have := HU.out; have := HL1.out; rw [List.length_append]; omega) N4.out.size ?_)
    intro a1 u1 q1 b1 c1 d1
    have Q1 : Hid (Own w.heap.size u1 a1 (p ++ r ++ B1)) := Lib.hid (by simpa using q1)
    have P2 := Lib.hid (O23.out.next c1 d1)
    have P3 := Lib.hid (O3.out.next c1 d1)
    have N5 := Lib.hid (N4.out.app b1)
    clear q1 b1 c1 d1
    go_wp2_with (at_builtin; refine wpList_app2 rfl (.tmp 40) (.tmp 41) _ rfl Tryd.underlying34 info_u8 w.heap.size a1 v2 (p ++ r ++ B1) B2 rfl rfl Q1.out P2.out.1 (by have := HT.out; have := HU.out; have := HL1.out; have := HL2.out; rw [List.length_append, List.length_append]; omega) N5.out.size ?_)
    intro a2 u2 q2 b2 c2 d2
    have Q2 : Hid (Own w.heap.size u2 a2 (p ++ r ++ B1 ++ B2)) := Lib.hid (by simpa using q2)
    have P4 := Lib.hid (P3.out.next c2 d2)
    have N6 := Lib.hid (N5.out.app b2)
    clear q2 b2 c2 d2
    go_wp2_with (at_builtin; refine wpList_app2 rfl (.tmp 42) (.tmp 43) _ rfl Tryd.underlying34 info_u8 w.heap.size a2 v3 (p ++ r ++ B1 ++ B2) B3 rfl rfl Q2.out P4.out.1 (by have := HT.out; have := HU.out; have := HL1.out; have := HL2.out; have := HL3.out; rw [List.length_append, List.length_append, List.length_append]; omega) N6.out.size ?_)
    intro a3 u3 q3 b3 c3 d3
    have Q3 := Lib.hid q3
    have N7 := Lib.hid (N6.out.app b3)
    clear q3 b3 c3 d3
    go_wp2_with fail
    go_ret
    exact ⟨_, rfl, by have := Q3.out; simpa [List.append_assoc] using this, N7.out⟩
end Go.Proofs.YtjbeemoobmagnaaDoor
