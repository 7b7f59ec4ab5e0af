/- TEXTS OF OUR OWN, IN ONE FILE: heads and lists of hashes, what block needs of them. -/
import Derived.Test.YtejeekbpeinioaaGreatDoorBa
import Derived.Test.YtejeekbpeinioaaGreatDoorTk
import Derived.Test.YtejeekbpeinioaaGreatDoorTl
import Derived.Test.YtejeekbpeinioaaGreatDoorTi
import Derived.Laws.Rows
import Derived.Laws.CopyOwn
import Derived.Deep.WholeRow
import Derived.StillTailTactics
section
namespace Go.Proofs.YtejeekbpeinioaaGreatDoor
open Go Go.RowKit
set_option linter.unusedVariables false
set_option linter.unusedSimpArgs false
set_option linter.unusedVariables false
set_option linter.unusedSimpArgs false

theorem Row.blwh {B g : Nat} {w w' : World} {cs : Array Value} {t : TypeId} (h : Row w g cs t) (hb : Below B w w') (hg : g < B) : Row w' g cs t := (hb.block g hg).trans h
theorem wpList_app2 {P : Program} {w : World} {ops : Array Oper} {rest : List Oper} {o : Oper} {a : Act} {Q : Exit → Act → World → Prop} (hgd : o.guard = none) (s x : Operand) (t : TypeId)
    (ho : o.op = .call { callee := .builtin .append, args := #[s, x], argTypes := #[t, t] })
    (ht : P.underlying t = some (.slice 5)) (hi : (P.info? 5).map (fun i => (i.zero, i.size, i.bytes)) = some (some (.int .u8 0), 1, 1))
    (B : Nat) (v vx : Value) (l m : List UInt8) (hs : a.eval s = v) (hx : a.eval x = vx) (hown : Own B w v l) (hr : Rd w vx m) (hlen : l.length + m.length ≤ 140737488355328) (hB : B ≤ w.heap.size)
    (h : ∀ v' w', Own B w' v' (l ++ m) → Below B w w' → w.grownBy w' v.ownBlock → (v'.ownBlock = v.ownBlock ∨ v'.ownBlock = some w.heap.size) → wpList P ops Q rest (a.put o.dst v') w') : wpList P ops Q (o :: rest) a w := by
  refine wpList_plain hgd fun K hK => ?_
  obtain ⟨i, hi0, hz, hsz, hby⟩ := info_parts hi
  obtain ⟨v', w', hr, h2, h3, h5⟩ := app_run (P := P) w t o.type i ht hi0 hz hsz hby B v vx l m hown hr hlen hB
  unfold Oper.wp execOp
  simp only [ho, resolve, invoke, builtin, Sem.run_bind, Sem.run_pure, Result.andThen_ok, List.map_toArray, List.map_cons, List.map_nil, hs, hx, hr]
  exact hK _ _ (h v' w' h2 (Own.below hB hown h3) h3 h5)
theorem Own.blt {B : Nat} {w : World} {v : Value} {l : List UInt8} (h : Own B w v l) : ∀ q, v.ownBlock = some q → q < w.heap.size := by
  intro q hq
  rcases h with ⟨rfl, _⟩ | ⟨g, full, rfl, hb, hg, _⟩
  · simp [Value.ownBlock] at hq
  · obtain rfl : g = q := by simpa [Value.ownBlock] using hq
    exact (Array.getElem?_eq_some_iff.1 hg).1
theorem apart_of {w w' : World} {B : Nat} {y v : Value} {l m : List UInt8} (hy : Own B w y l) (hv : Own w.heap.size w' v m) : RdS y.ownBlock w' v m := ⟨hv.rd, fun _ q hq he => by
  have := hy.blt q hq
  have := hv.block q he
  omega⟩
theorem RdS.next {u u' : World} {y a v : Value} {l : List UInt8} (h : RdS y.ownBlock u v l) (x : u.grownBy u' y.ownBlock) (ha : a.ownBlock = y.ownBlock ∨ a.ownBlock = some u.heap.size) : RdS a.ownBlock u' v l := by
  have h1 := h.grown x
  rcases ha with e | e
  · rw [e]; exact h1
  · exact ⟨h1.1, fun hp q hq he => (h.free.apart (s := a.ownBlock) (fun q hq => by rw [e] at hq; injection hq with hq; omega)).2 hp q hq he⟩
/-- What a head is. -/
structure HOk (p r : List UInt8) (t b n : Nat) : Prop where
  p : p.length = 32
  r : r.length = 32
  t : t < 4294967296
  b : b < 4294967296
  n : n < 4294967296
theorem hcel_at_p {p r : List UInt8} {t b n : Nat} (hp : p.length = 32) : ∀ (j : Nat) (v : Value), (hcel p)[j]? = some v → (hdc p r t b n)[j]? = some v := by
  intro j v hv
  have hj : j < p.length := by
    have := (Array.getElem?_eq_some_iff.1 hv).1
    rwa [hcel_size] at this
  rw [hcel_get p j hj] at hv
  rw [hd_p p r t b n j hj]
  exact hv
theorem hcel_at_r {p r : List UInt8} {t b n : Nat} (hp : p.length = 32) : ∀ (j : Nat) (v : Value), (hcel r)[j]? = some v → (hdc p r t b n)[32 + j]? = some v := by
  intro j v hv
  have hj : j < r.length := by
    have := (Array.getElem?_eq_some_iff.1 hv).1
    rwa [hcel_size] at this
  rw [hcel_get r j hj] at hv
  rw [hd_r p r t b n hp j hj]
  exact hv
theorem info_u8ph : (Tryz.prog.info? 5).map (fun i => (i.zero, i.size, i.bytes)) = some (some (.int .u8 0), 1, 1) := by kernel_rfl
theorem u32_up (n : Nat) (h : n < 4294967296) : IntKind.u64.wrap (n : Int) = (n : Int) := by rw [IntKind.wrap_u64, Int.emod_eq_of_lt (by omega) (by omega)]
theorem rhnum_any (n : Nat) (h : n < 4294967296) (w : World) : Calls Tryz.prog 64 #[.int .u64 (n : Int), .int .i64 4] w fun e w' => ∃ v E, e = .returned (.tuple #[v, .int .i64 E]) ∧ Own w.heap.size w' v (low n 4) ∧ Nx w w' := by
  have H := refPut_any n 4 w (by omega)
  rw [putL_four n h] at H
  exact H.mono fun e w' ⟨v, h1, h2, h3⟩ => ⟨v, _, h1, h2, h3⟩
set_option maxRecDepth 100000 in
set_option maxHeartbeats 4000000 in
theorem rhput_any (p r : List UInt8) (t b n : Nat) (H : HOk p r t b n) (w : World) :
    Calls Tryz.prog 35 #[.agg (hdc p r t b n)] w fun e w' => ∃ v, e = .returned v ∧ Own w.heap.size w' v (hdB p r t b n) ∧ Nx w w' := by
  have HN1 := Lib.hid (fun w => rhnum_any t H.t w)
  have HN2 := Lib.hid (fun w => rhnum_any b H.b w)
  have HN3 := Lib.hid (fun w => rhnum_any n H.n w)
  have hu1 := u32_up t H.t
  have hu2 := u32_up b H.b
  have hu3 := u32_up n H.n
  have HL1 := Lib.hid (low_length t 4)
  have HL2 := Lib.hid (low_length b 4)
  have HL3 := Lib.hid (low_length n 4)
  unfold hdB
  generalize low t 4 = B1 at *
  generalize low b 4 = B2 at *
  generalize low n 4 = B3 at *
  have HT := Lib.hid H.p
  have HU := Lib.hid H.r
  have HCT := Lib.hid (hd_t p r t b n H.p H.r)
  have HCB := Lib.hid (hd_b p r t b n H.p H.r)
  have HCN := Lib.hid (hd_n p r t b n H.p H.r)
  have HPC := Lib.hid (hcel_at_p (r := r) (t := t) (b := b) (n := n) H.p)
  have HRC := Lib.hid (hcel_at_r (r := r) (t := t) (b := b) (n := n) H.p)
  have HPS := Lib.hid (hashsz p H.p)
  have HRS := Lib.hid (hashsz r H.r)
  have HLP := Lib.hid (fun w => rlist_any p w H.p)
  have HLR := Lib.hid (fun w => rlist_any r w H.r)
  have R0 := Row.new w (hdc p r t b n) 26 _ rfl
  have NW := Lib.hid ((Nx.refl w).alloc (.cells (hdc p r t b n) 26))
  clear H
  go_enter Tryz.func35, Tryz.ntmps35
  go_wp2_with fail
  generalize w.alloc (.cells (hdc p r t b n) 26) = W at *
  have K0 := R0
  clear R0
  refine wp_region_sep (W.heap.size) 7 [[], [0], [1], [], [3], [4, 2], [2, 5, 5], [6, 6, 0, 1, 2, 3, 4, 5, 6]] [some 10, some 11, some 12, some 13, some 14, some 15, some 16] [0, 0, 2, 0, 0, 2, 2] [none, none, some 6, none, none, none, none, none] [none, none, none, none, none, none, some 2]
    [{ V := .pointer (some ⟨w.heap.size, 0, none⟩) }, { V := .agg (hcel p) }, { l := p }, { V := .pointer (some ⟨w.heap.size, 32, none⟩) }, { V := .agg (hcel r) }, { l := r }, { l := p ++ r }]
    (Nat.le_refl _) (by kernel_rfl) (by kernel_rfl) (hord_of (by decide)) (by kernel_rfl) (by decide) (by decide) (htail_of (by decide)) (stat4 (needs := [[], [0], [1], [], [3], [4, 2], [2, 5, 5], [6, 6, 0, 1, 2, 3, 4, 5, 6]]) (cons := [none, none, some 6, none, none, none, none, none]) (src := [none, none, none, none, none, none, some 2]) (by decide)) (statS (by decide)) ?_ ?_ ?_ ?_ _ (by rfl) ?_
  · intro j hj h1 v w w' _ _
    have : j = 0 ∨ j = 1 ∨ j = 2 ∨ j = 3 ∨ j = 4 ∨ j = 5 ∨ j = 6 := by omega
    rcases this with rfl | rfl | rfl | rfl | rfl | rfl | rfl <;> exact trivial
  · intro j hj h1
    have : j = 0 ∨ j = 1 ∨ j = 2 ∨ j = 3 ∨ j = 4 ∨ j = 5 ∨ j = 6 := by omega
    rcases this with rfl | rfl | rfl | rfl | rfl | rfl | rfl <;> cases h1
  · intro i j hi _ _ h1
    have : i = 0 ∨ i = 1 ∨ i = 2 ∨ i = 3 ∨ i = 4 ∨ i = 5 ∨ i = 6 := by omega
    rcases this with rfl | rfl | rfl | rfl | rfl | rfl | rfl <;> cases h1
  · intro x tm wr htm hbl hB i hi hd K hK
    simp only [fillA, List.setIfInBounds_toArray, List.set_cons_zero, List.set_cons_succ] at htm
    subst htm
    have hcs : i = 0 ∨ i = 1 ∨ i = 2 ∨ i = 3 ∨ i = 4 ∨ i = 5 ∨ i = 6 := by omega
    clear hi
    rcases hcs with rfl | rfl | rfl | rfl | rfl | rfl | rfl
    · exact wpOp_of rfl rfl (wp_val_of (some 10) rfl (.pointer (some ⟨w.heap.size, 0, none⟩)) (by kernel_rfl) (hK _ _ ⟨rfl, Nx.refl _⟩))
    · have e0 : x 0 = .pointer (some ⟨w.heap.size, 0, none⟩) := hd 0 (by decide)
      generalize x 0 = y0 at e0 hK ⊢
      subst e0
      exact wpOp_of rfl rfl (wp_load_at (some 11) rfl 23 (.tmp 10) rfl (w.heap.size) 0 rfl (hcel p) _ (fun j v hv => by rw [Nat.zero_add]; exact (Row.blwh K0 hbl K0.lt).cell (HPC.out j v hv)) Tryz.underlying23 rfl HPS.out (hK _ _ ⟨rfl, Nx.refl _⟩))
    · have e1 : x 1 = .agg (hcel p) := hd 1 (by decide)
      generalize x 1 = y1 at e1 hK ⊢
      subst e1
      exact wpOp_of rfl rfl (wp_callp_of (some 12) rfl 63 #[(.agg (hcel p))] (by kernel_rfl) (fun v w' => Own wr.heap.size w' v (p)) (HLP.out wr) (fun v w' h1 h2 => hK v w' ⟨h1, h2⟩))
    · exact wpOp_of rfl rfl (wp_val_of (some 13) rfl (.pointer (some ⟨w.heap.size, 32, none⟩)) (by kernel_rfl) (hK _ _ ⟨rfl, Nx.refl _⟩))
    · have e3 : x 3 = .pointer (some ⟨w.heap.size, 32, none⟩) := hd 3 (by decide)
      generalize x 3 = y3 at e3 hK ⊢
      subst e3
      exact wpOp_of rfl rfl (wp_load_at (some 14) rfl 23 (.tmp 13) rfl (w.heap.size) 32 rfl (hcel r) _ (fun j v hv => (Row.blwh K0 hbl K0.lt).cell (HRC.out j v hv)) Tryz.underlying23 rfl HRS.out (hK _ _ ⟨rfl, Nx.refl _⟩))
    · have e4 : x 4 = .agg (hcel r) := hd 4 (by decide)
      generalize x 4 = y4 at e4 hK ⊢
      subst e4
      exact wpOp_of rfl rfl (wp_callp_of (some 15) rfl 63 #[(.agg (hcel r))] (by kernel_rfl) (fun v w' => Own wr.heap.size w' v (r)) (HLR.out wr) (fun v w' h1 h2 => hK v w' ⟨h1, h2⟩))
    · have o2 : Own (W.heap.size) wr (x 2) (p) := hd 2 (by decide) (by decide)
      have o5 : Own (W.heap.size) wr (x 5) (r) := hd 5 (by decide) (by decide)
      exact wpOp_of rfl rfl (wp_app_of (some 16) rfl (.tmp 12) (.tmp 15) 32 rfl Tryz.underlying32 info_u8ph (W.heap.size) (x 2) (x 5) (p) (r) rfl rfl o2 (o5.rd) (by have := HT.out; have := HU.out; omega) hB (fun v' w' h1 h2 h3 => hK v' w' ⟨h1, h2, h3⟩))
  · intro x tm wr htm hbl hv
    simp only [fillA, List.setIfInBounds_toArray, List.set_cons_zero, List.set_cons_succ] at htm
    subst htm
    have OY := Lib.hid ((hv 6 (by decide) (by decide)).mono NW.out.size)
    have N1 := Lib.hid (NW.out.app (hbl.mono NW.out.size))
    have K1 := Row.blwh K0 hbl K0.lt
    have k1 := K1.cell HCT.out
    generalize x 6 = y at *
    clear hv hbl K0
    go_wp2_with fail
    refine (HN1.out _).mono ?_
    rintro e w1 ⟨v1, E1, rfl, o1, n1⟩
    have O1 := Lib.hid (apart_of OY.out o1)
    have OY1 := Lib.hid (OY.out.nx n1)
    have N2 := Lib.hid (N1.out.trans n1)
    have K2 := K1.nx n1
    have k2 := K2.cell HCB.out
    clear o1 n1 k1 K1
    go_wp2_with fail
    refine (HN2.out _).mono ?_
    rintro e w2 ⟨v2, E2, rfl, o2, n2⟩
    have O2 := Lib.hid (apart_of OY1.out o2)
    have O12 := Lib.hid (O1.out.nx n2)
    have OY2 := Lib.hid (OY1.out.nx n2)
    have N3 := Lib.hid (N2.out.trans n2)
    have K3 := K2.nx n2
    have k3 := K3.cell HCN.out
    clear o2 n2 k2 K2
    go_wp2_with fail
    refine (HN3.out _).mono ?_
    rintro e w3 ⟨v3, E3, rfl, o3, n3⟩
    have O3 := Lib.hid (apart_of OY2.out o3)
    have O13 := Lib.hid (O12.out.nx n3)
    have O23 := Lib.hid (O2.out.nx n3)
    have OY3 := Lib.hid (OY2.out.nx n3)
    have N4 := Lib.hid (N3.out.trans n3)
    clear o3 n3 k3 K3
    go_wp2_with (at_builtin; refine wpList_app2 rfl (.tmp 38) (.tmp 39) _ rfl Tryz.underlying32 info_u8 w.heap.size y v1 (p ++ r) B1 rfl rfl OY3.out O13.out.1 (by have := HT.out; have := HU.out; have := HL1.out; rw [List.length_append]; omega) N4.out.size ?_)
    intro a1 u1 q1 b1 c1 d1
    have Q1 : Hid (Own w.heap.size u1 a1 (p ++ r ++ B1)) := Lib.hid (by simpa using q1)
    have P2 := Lib.hid (O23.out.next c1 d1)
    have P3 := Lib.hid (O3.out.next c1 d1)
    have N5 := Lib.hid (N4.out.app b1)
    clear q1 b1 c1 d1
    go_wp2_with (at_builtin; refine wpList_app2 rfl (.tmp 40) (.tmp 41) _ rfl Tryz.underlying32 info_u8 w.heap.size a1 v2 (p ++ r ++ B1) B2 rfl rfl Q1.out P2.out.1 (by have := HT.out; have := HU.out; have := HL1.out; have := HL2.out; rw [List.length_append, List.length_append]; omega) N5.out.size ?_)
    intro a2 u2 q2 b2 c2 d2
    have Q2 : Hid (Own w.heap.size u2 a2 (p ++ r ++ B1 ++ B2)) := Lib.hid (by simpa using q2)
    have P4 := Lib.hid (P3.out.next c2 d2)
    have N6 := Lib.hid (N5.out.app b2)
    clear q2 b2 c2 d2
    go_wp2_with (at_builtin; refine wpList_app2 rfl (.tmp 42) (.tmp 43) _ rfl Tryz.underlying32 info_u8 w.heap.size a2 v3 (p ++ r ++ B1 ++ B2) B3 rfl rfl Q2.out P4.out.1 (by have := HT.out; have := HU.out; have := HL1.out; have := HL2.out; have := HL3.out; rw [List.length_append, List.length_append, List.length_append]; omega) N6.out.size ?_)
    intro a3 u3 q3 b3 c3 d3
    have Q3 := Lib.hid q3
    have N7 := Lib.hid (N6.out.app b3)
    clear q3 b3 c3 d3
    go_wp2_with fail
    go_ret
    exact ⟨_, rfl, by have := Q3.out; simpa [List.append_assoc] using this, N7.out⟩
end Go.Proofs.YtejeekbpeinioaaGreatDoor
end

section
namespace Go.Proofs.YtejeekbpeinioaaGreatDoor
open Go Go.RowKit
set_option linter.unusedVariables false
set_option linter.unusedSimpArgs false
set_option linter.unusedVariables false
set_option linter.unusedSimpArgs false

/-- The id of a head. -/
def hI (p r : List UInt8) (t b n : Nat) : List UInt8 := shaL (shaL (hdB p r t b n))
end Go.Proofs.YtejeekbpeinioaaGreatDoor
end

section
namespace Go.Proofs.YtejeekbpeinioaaGreatDoor
open Go Go.RowKit
set_option linter.unusedVariables false
set_option linter.unusedSimpArgs false

end Go.Proofs.YtejeekbpeinioaaGreatDoor
end

section
namespace Go.Proofs.YtejeekbpeinioaaGreatDoor
open Go Go.RowKit
set_option linter.unusedVariables false
set_option linter.unusedSimpArgs false
set_option linter.unusedVariables false
set_option linter.unusedSimpArgs false

/-- What Get answers. -/
structure HD where
  p : List UInt8
  r : List UInt8
  t : Nat
  b : Nat
  n : Nat
  at_ : Int
  e : Int
def HD.bad (e : Int) : HD := ⟨Z32h, Z32h, 0, 0, 0, 0, e⟩
def hdOf (L : List UInt8) (at_ : Int) : HD := ⟨L.take 32, (L.drop 32).take 32, num ((L.drop 64).take 4), num ((L.drop 68).take 4), num ((L.drop 72).take 4), at_, 0⟩
def hgT (l : List UInt8) (at_ : Int) : HD := if cutE l.length at_ 76 = 0 then hdOf (cutL l at_ 76) (at_ + 76) else .bad (cutE l.length at_ 76)
theorem cut76 {l : List UInt8} {at_ : Int} (h : cutE l.length at_ 76 = 0) : (cutL l at_ 76).length = 76 ∧ 0 ≤ at_ ∧ at_ + 76 ≤ l.length := by
  rcases cutE_cases l.length at_ 76 with ⟨_, h2⟩ | ⟨_, h2⟩ | ⟨i, m, rfl, hm, h1, h2⟩
  · rw [h2] at h; cases h
  · rw [h2] at h; cases h
  · obtain rfl : m = 76 := by omega
    unfold cutL
    rw [if_pos h, List.length_take, List.length_drop]
    omega
theorem getAt (L : List UInt8) (N : Nat) (h : L.length = N) (i m : Nat) (hm : m = 1 ∨ m = 2 ∨ m = 4 ∨ m = 8) (hi : i + m ≤ N) : getE L.length (i : Int) (m : Int) = 0 ∧ getN L (i : Int) (m : Int) = num ((L.drop i).take m) ∧ num ((L.drop i).take m) < 256 ^ m := by
  rcases get_cases L (i : Int) (m : Int) with ⟨h1, h2, h3⟩ | ⟨h1, h4, h2, h3⟩ | ⟨h1, h4, h2, h3⟩ | ⟨i', m', hi', hm', hmm, h1, h4, h2, h3⟩
  · exfalso
    have := isSz_no h1
    omega
  · exfalso; omega
  · exfalso; omega
  · obtain rfl : i = i' := by omega
    obtain rfl : m = m' := by omega
    refine ⟨h2, h3, ?_⟩
    have := num_lt ((L.drop i).take m)
    have hl : ((L.drop i).take m).length = m := by rw [List.length_take, List.length_drop]; omega
    rwa [hl] at this
theorem p4 : (256 : Nat) ^ 4 = 4294967296 := by decide
theorem hna_any (v : Value) (L : List UInt8) (i : Nat) (w : World) (h : Rd w v L) (hi : i + 4 ≤ L.length) :
    Calls Tryz.prog 73 #[v, .int .i64 (i : Int)] w fun e w' => e = .returned (.int .u32 (num ((L.drop i).take 4) : Int)) ∧ w = w' := by
  obtain ⟨g1, g2, g3⟩ := getAt L L.length rfl i 4 (by decide) hi
  have HG := Lib.hid (get_any v L (i : Int) 4 w h)
  rw [show getE L.length (i : Int) 4 = 0 from g1, show getN L (i : Int) 4 = _ from g2] at HG
  rw [p4] at g3
  obtain ⟨A, c, rfl, -, -, -⟩ := h
  generalize num ((L.drop i).take 4) = n at *
  have hw : IntKind.u32.wrap (n : Int) = (n : Int) := by rw [show IntKind.u32.wrap (n : Int) = (n : Int) % 4294967296 from rfl]; omega
  have hw2 : (n : Int) % 4294967296 = (n : Int) := by omega
  clear g1 g2 g3 hi
  go_enter Tryz.func73, Tryz.ntmps73
  go_wp2_with fail
  refine HG.out.mono ?_
  rintro e w' ⟨rfl, rfl⟩
  go_wp2_with fail
  go_ret
  exact ⟨rfl, rfl⟩
theorem hd_put_p {q r : List UInt8} {t b n : Nat} (p : List UInt8) (hq : q.length = 32) (hp : p.length = 32) : ((hdc q r t b n).toList.take 0 ++ (bvs p ++ (hdc q r t b n).toList.drop (0 + (bvs p).length))).toArray = hdc p r t b n := by
  rw [bvs_length, hp]
  simp [hdc, hdl, List.drop_append, bvs_length, hq]
theorem hd_put_r {p q : List UInt8} {t b n : Nat} (r : List UInt8) (hp : p.length = 32) (hq : q.length = 32) (hr : r.length = 32) : ((hdc p q t b n).toList.take 32 ++ (bvs r ++ (hdc p q t b n).toList.drop (32 + (bvs r).length))).toArray = hdc p r t b n := by
  rw [bvs_length, hr]
  simp [hdc, hdl, List.drop_append, List.take_append, bvs_length, hp, hq, List.take_of_length_le (Nat.le_of_eq (show (bvs p).length = 32 by rw [bvs_length, hp]))]
set_option maxRecDepth 100000 in
set_option maxHeartbeats 4000000 in
theorem hget_any (v : Value) (l : List UInt8) (at_ : Int) (w : World) (h : Rd w v l) (hr : l.length ≤ 140737488355328) :
    Calls Tryz.prog 45 #[v, .int .i64 at_] w fun e w' => e = .returned (.tuple #[.agg (hdc (hgT l at_).p (hgT l at_).r (hgT l at_).t (hgT l at_).b (hgT l at_).n), .int .i64 (hgT l at_).at_, .int .i64 (hgT l at_).e]) ∧ Nx w w' := by
  have HP := Lib.hid (fun w h => part_any v l at_ 76 w h hr)
  have HR := Lib.hid h
  obtain ⟨A, c, rfl, -⟩ := h
  obtain ⟨hz, hzs⟩ := zero_of_info info_head
  have HZL := Lib.hid Z32_lengthh
  have cz := Lib.hid (headsz Z32h Z32h 0 0 0 HZL.out HZL.out)
  have hl : w.heap.size ≤ w.heap.size := Nat.le_refl _
  unfold hgT
  by_cases hE : cutE l.length at_ 76 = 0
  · obtain ⟨q1, q2, q3⟩ := cut76 hE
    rw [if_pos hE]
    rw [hE] at HP
    unfold hdOf
    dsimp only
    have HQ := Lib.hid q1
    have q4 : at_ + 76 ≤ 9223372036854775807 := by omega
    have HN1 := Lib.hid (fun v w h => hna_any v (cutL l at_ 76) 64 w h (by omega))
    have HN2 := Lib.hid (fun v w h => hna_any v (cutL l at_ 76) 68 w h (by omega))
    have HN3 := Lib.hid (fun v w h => hna_any v (cutL l at_ 76) 72 w h (by omega))
    have HXL : Hid (((cutL l at_ 76).take 32).length = 32) := Lib.hid (by rw [List.length_take]; omega)
    have HYL : Hid ((((cutL l at_ 76).drop 32).take 32).length = 32) := Lib.hid (by rw [List.length_take, List.length_drop]; omega)
    clear hE q1 q3
    generalize cutL l at_ 76 = L at *
    generalize num ((L.drop 64).take 4) = T at *
    generalize num ((L.drop 68).take 4) = B at *
    generalize num ((L.drop 72).take 4) = N at *
    have HX : Hid (L.take 32 = L.take 32) := Lib.hid rfl
    generalize hX : L.take 32 = X at *
    generalize hY : (L.drop 32).take 32 = Y at *
    replace hX := Lib.hid hX
    replace hY := Lib.hid hY
    clear HX
    go_enter Tryz.func45, Tryz.ntmps45
    go_wp2_with fail
    refine (HP.out _ (HR.out.alloc _)).mono ?_
    rintro e w1 ⟨v1, rfl, o1, n1⟩
    have R4 := (Row.new w (hdc Z32h Z32h 0 0 0) 26 _ rfl).nx n1
    have N1 := Lib.hid (((Nx.refl w).alloc (.cells (hdc Z32h Z32h 0 0 0) 26)).trans n1)
    have O1 := Lib.hid o1.rd
    obtain ⟨A1, c1, rfl, -⟩ := o1.rd
    clear o1 n1
    go_wp2_with fail
    refine (HN1.out _ _ O1.out).mono ?_
    rintro e w2 ⟨rfl, rfl⟩
    go_wp2_with fail
    refine (HN2.out _ _ O1.out).mono ?_
    rintro e w2 ⟨rfl, rfl⟩
    go_wp2_with fail
    refine (HN3.out _ _ O1.out).mono ?_
    rintro e w2 ⟨rfl, rfl⟩
    have HU8 : (Tryz.prog.info? 5).map (·.size) = some 1 := by kernel_rfl
    have ip := Lib.hid (headsz Z32h Z32h T B N HZL.out HZL.out)
    have ix := Lib.hid (headsz X Y T B N HXL.out HYL.out)
    have jp := Lib.hid (headsame Z32h Z32h Z32h Z32h 0 0 0 T B N HZL.out HZL.out HZL.out HZL.out)
    have jx := Lib.hid (headsame Z32h Z32h X Y 0 0 0 T B N HZL.out HZL.out HXL.out HYL.out)
    have RP := Row.new w1 (hdc Z32h Z32h 0 0 0) 26 _ rfl
    have RP2 := RP.setRow (hdc Z32h Z32h T B N)
    have hsl := fun w' => slice_arr_at (P := Tryz.prog) 23 5 32 Tryz.underlying23 Tryz.sizeOf5 w1.heap.size 0 (by omega) w'
    have HSR := Lib.hid fun w' => slice_arr_at (P := Tryz.prog) 23 5 32 Tryz.underlying23 Tryz.sizeOf5 w1.heap.size 32 (by omega) w'
    have RL := O1.out
    obtain ⟨A1', c1', hA, hc1', -, ha1⟩ := RL
    obtain ⟨rfl, rfl⟩ : A1 = A1' ∧ c1 = c1' := by injection hA with h1 h2 h3; exact ⟨h1, h3⟩
    obtain ⟨b1, o1, rfl, hb1, hc1⟩ := ha1 (by rw [HQ.out]; decide)
    have NW : Hid (Nx w1 ((w1.alloc (.cells (hdc Z32h Z32h 0 0 0) 26)).setRow w1.heap.size (hdc Z32h Z32h T B N))) := Lib.hid (((Nx.refl w1).alloc _).setRow _ (Nat.le_refl _))
    have HN : Hid ((bvs X).length = Nat.min L.length 32) := Lib.hid (by rw [bvs_length, HXL.out, HQ.out]; rfl)
    have HF : Hid (0 + (bvs X).length ≤ (hdc Z32h Z32h T B N).size) := Lib.hid (by rw [bvs_length, HXL.out, hd_size _ _ _ _ _ HZL.out HZL.out]; decide)
    have HS : Hid (∀ j v, (bvs X)[j]? = some v → ((w1.alloc (.cells (hdc Z32h Z32h 0 0 0) 26)).setRow w1.heap.size (hdc Z32h Z32h T B N)).cell? ((⟨b1, o1, none⟩ : Addr).add j) = some v) := Lib.hid fun j v hv => by
      obtain ⟨hj, rfl⟩ := bvs_get hv
      rw [addr_add, NW.out.cell (p := ⟨b1, o1 + j, none⟩) hb1]
      have hjL : j < L.length := by have := HXL.out; have := HQ.out; omega
      rw [hc1 j hjL]
      congr 2
      simp only [← hX.out, List.getElem_take]
    have HEQ := Lib.hid (hd_put_p (r := Z32h) (t := T) (b := B) (n := N) X HZL.out HXL.out)
    have R42 := (R4.alloc (.cells (hdc Z32h Z32h 0 0 0) 26)).setRow_other (k := w1.heap.size) (hdc Z32h Z32h T B N) (Nat.ne_of_lt R4.lt)
    have RP3 := RP2.setRow (hdc X Z32h T B N)
    have R43 := R42.setRow_other (k := w1.heap.size) (hdc X Z32h T B N) (Nat.ne_of_lt R4.lt)
    have NW3 := Lib.hid (NW.out.setRow (hdc X Z32h T B N) (Nat.le_refl _))
    have HC1 := Lib.hid hc1
    have HNE := Lib.hid (Nat.ne_of_lt R4.lt)
    have HB1 := Lib.hid hb1
    have HCL : Hid (76 ≤ c1) := Lib.hid (by have := HQ.out; omega)
    clear hc1 hA ha1 hc1'
    go_wp2_with (first | (refine wpList_val (some 26) rfl rfl (.agg (hdc Z32h Z32h T B N)) ?_ ?_; (focus kernel_rfl)) | (refine wpList_store_row rfl 26 (.tmp 9) (.tmp 26) rfl w1.heap.size (hdc Z32h Z32h T B N) rfl rfl 26 (hdc Z32h Z32h 0 0 0) RP ip.out jp.out (hd_one _ _ _ _ _) ?_) | (refine wpList_copy_own rfl (.tmp 28) (.tmp 29) _ _ rfl 5 Tryz.underlying32 HU8 w1.heap.size 0 32 32 ⟨b1, o1, none⟩ L.length c1 rfl rfl (hdc Z32h Z32h T B N) 26 RP2 (bvs X) HN.out HS.out HF.out (bvs_one _) ?_; rw [HEQ.out]))
    simp only [Act.put, List.setIfInBounds_toArray, List.set_cons_zero, List.set_cons_succ]
    generalize (((w1.alloc (.cells (hdc Z32h Z32h 0 0 0) 26)).setRow w1.heap.size (hdc Z32h Z32h T B N)).setRow w1.heap.size (hdc X Z32h T B N)) = W3 at *
    clear hsl HS HN HF HEQ RP RP2 R4 R42 NW ip jp
    have hsr := HSR.out
    have hfr : ∀ w', (Instr.sliceAt 32 (.slice (some ⟨b1, o1, none⟩) L.length c1) (some (.int .i64 32)) none none).run Tryz.prog w' = .ok (.slice (some ⟨b1, o1 + 32, none⟩) (L.length - 32) (c1 - 32)) w' := fun w' => by
      have := slice_fromV (P := Tryz.prog) 32 5 Tryz.underlying32 Tryz.sizeOf5 (some ⟨b1, o1, none⟩) L.length c1 32 32 rfl (by have := HQ.out; omega) (by have := HCL.out; have := HQ.out; omega) w'
      rw [this]
      unfold fromV
      rw [if_neg (by have := HCL.out; omega)]
      simp [addr_add]
    have HN : Hid ((bvs Y).length = Nat.min (L.length - 32) 32) := Lib.hid (by rw [bvs_length, HYL.out, HQ.out]; rfl)
    have HF : Hid (32 + (bvs Y).length ≤ (hdc X Z32h T B N).size) := Lib.hid (by rw [bvs_length, HYL.out, hd_size _ _ _ _ _ HXL.out HZL.out]; decide)
    have HS : Hid (∀ j v, (bvs Y)[j]? = some v → W3.drew.cell? ((⟨b1, o1 + 32, none⟩ : Addr).add j) = some v) := Lib.hid fun j v hv => by
      obtain ⟨hj, rfl⟩ := bvs_get hv
      rw [addr_add, NW3.out.drew.cell (p := ⟨b1, o1 + 32 + j, none⟩) HB1.out]
      have hjL : 32 + j < L.length := by have := HYL.out; have := HQ.out; omega
      have := HC1.out (32 + j) hjL
      rw [← Nat.add_assoc] at this
      rw [this]
      congr 2
      simp only [← hY.out, List.getElem_take, List.getElem_drop]
    have HEQ := Lib.hid (hd_put_r (t := T) (b := B) (n := N) Y HXL.out HZL.out HYL.out)
    have RP4 := RP3.drew
    have RP5 := RP4.setRow (hdc X Y T B N)
    have R44 := (R43.drew).setRow_other (k := w1.heap.size) (hdc X Y T B N) HNE.out
    have NF := Lib.hid ((N1.out.trans NW3.out.drew).setRow (g := w1.heap.size) (hdc X Y T B N) N1.out.size)
    clear RP3 R43 HSR NW3 HC1 HB1
    go_still_tail 4, (by kernel_rfl)
    change wpList _ _ _ _ _ W3.drew
    refine wpList_copy_own rfl (.tmp 32) (.tmp 34) _ _ rfl 5 Tryz.underlying32 HU8 w1.heap.size 32 32 32 ⟨b1, o1 + 32, none⟩ (L.length - 32) (c1 - 32) rfl rfl (hdc X Z32h T B N) 26 RP4 (bvs Y) HN.out HS.out HF.out (bvs_one _) ?_
    rw [HEQ.out]
    go_wp2_with (first | (refine wpList_load_row rfl 26 (.tmp 9) rfl w1.heap.size rfl 26 (hdc X Y T B N) (0, 0) _ RP5 Tryz.underlying26 rfl ix.out ?_) | (refine wpList_store_row rfl 26 (.tmp 4) (.tmp 36) rfl w.heap.size (hdc X Y T B N) rfl rfl 26 (hdc Z32h Z32h 0 0 0) R44 ix.out jx.out (hd_one _ _ _ _ _) ?_))
    exact bodyPost_ret (results_cell_three Tryz.results45 _ _ w.heap.size 26 (hdc X Y T B N) (0, 0) _ rfl (R44.setRow _) Tryz.underlying26 rfl ix.out) rfl ⟨rfl, NF.out.setRow _ hl⟩
  · rw [if_neg hE]
    unfold HD.bad
    generalize cutE l.length at_ 76 = E at *
    generalize cutL l at_ 76 = L at *
    have dE : (E != 0) = true := by simp [hE]
    clear hE
    go_enter Tryz.func45, Tryz.ntmps45
    go_wp2_with fail
    refine (HP.out _ (HR.out.alloc _)).mono ?_
    rintro e w1 ⟨v1, rfl, o1, n1⟩
    have R4 := (Row.new w (hdc Z32h Z32h 0 0 0) 26 _ rfl).nx n1
    have N1 := Lib.hid (((Nx.refl w).alloc (.cells (hdc Z32h Z32h 0 0 0) 26)).trans n1)
    clear o1 n1
    go_wp2_with (first | (refine wpList_val (some 18) rfl rfl (.agg (hdc Z32h Z32h 0 0 0)) ?_ ?_; (focus kernel_rfl)) | (refine wpList_store_row rfl 26 (.tmp 4) (.tmp 18) rfl w.heap.size (hdc Z32h Z32h 0 0 0) rfl rfl 26 (hdc Z32h Z32h 0 0 0) R4 cz.out rfl (hd_one _ _ _ _ _) ?_))
    exact bodyPost_ret (results_cell_three Tryz.results45 _ _ w.heap.size 26 (hdc Z32h Z32h 0 0 0) (0, 0) _ rfl (R4.setRow _) Tryz.underlying26 rfl cz.out) rfl ⟨rfl, N1.out.setRow _ hl⟩
end Go.Proofs.YtejeekbpeinioaaGreatDoor
end

section
namespace Go.Proofs.YtejeekbpeinioaaGreatDoor
open Go Go.RowKit
set_option linter.unusedVariables false
set_option linter.unusedSimpArgs false
set_option linter.unusedVariables false
set_option linter.unusedSimpArgs false

theorem hgT_p (l : List UInt8) (at_ : Int) : (hgT l at_).p.length = 32 := by
  unfold hgT
  split
  · rename_i h
    obtain ⟨h1, -⟩ := cut76 h
    show ((cutL l at_ 76).take 32).length = 32
    rw [List.length_take]; omega
  · exact Z32_lengthh
theorem hgT_r (l : List UInt8) (at_ : Int) : (hgT l at_).r.length = 32 := by
  unfold hgT
  split
  · rename_i h
    obtain ⟨h1, -⟩ := cut76 h
    show (((cutL l at_ 76).drop 32).take 32).length = 32
    rw [List.length_take, List.length_drop]; omega
  · exact Z32_lengthh
theorem hgT_at (l : List UInt8) (at_ : Int) : (hgT l at_).e = 0 → (hgT l at_).at_ ≤ l.length := by
  unfold hgT
  split
  · rename_i h
    obtain ⟨h1, h2, h3⟩ := cut76 h
    intro _
    exact h3
  · rename_i h
    intro h2
    exact absurd h2 h
theorem low_four (q : List UInt8) (h : q.length = 4) : low (num q) 4 = q := by
  have := low_num q
  rwa [h] at this
theorem hdB_of (L : List UInt8) (h : L.length = 76) : hdB (L.take 32) ((L.drop 32).take 32) (num ((L.drop 64).take 4)) (num ((L.drop 68).take 4)) (num ((L.drop 72).take 4)) = L := by
  unfold hdB
  rw [low_four _ (by rw [List.length_take, List.length_drop]; omega), low_four _ (by rw [List.length_take, List.length_drop]; omega), low_four _ (by rw [List.length_take, List.length_drop]; omega)]
  have e5 : (L.drop 72).take 4 = L.drop 72 := List.take_of_length_le (by rw [List.length_drop]; omega)
  have e4 : (L.drop 68).take 4 ++ L.drop 72 = L.drop 68 := by
    have := List.take_append_drop 4 (L.drop 68)
    rwa [List.drop_drop] at this
  have e3 : (L.drop 64).take 4 ++ L.drop 68 = L.drop 64 := by
    have := List.take_append_drop 4 (L.drop 64)
    rwa [List.drop_drop] at this
  have e2 : (L.drop 32).take 32 ++ L.drop 64 = L.drop 32 := by
    have := List.take_append_drop 32 (L.drop 32)
    rwa [List.drop_drop] at this
  rw [e5, e4, e3, e2, List.take_append_drop]
theorem num_four (q : List UInt8) (h : q.length = 4) : num q < 4294967296 := by
  have := num_lt q
  rw [h, p4] at this
  exact this
theorem hgT_ok {l : List UInt8} {at_ : Int} (h : (hgT l at_).e = 0) : ∃ i : Nat, at_ = (i : Int) ∧ i + 76 ≤ l.length ∧ (hgT l at_).at_ = (i : Int) + 76 ∧ HOk (hgT l at_).p (hgT l at_).r (hgT l at_).t (hgT l at_).b (hgT l at_).n ∧ hdB (hgT l at_).p (hgT l at_).r (hgT l at_).t (hgT l at_).b (hgT l at_).n = (l.drop i).take 76 := by
  have hp := hgT_p l at_
  have hr := hgT_r l at_
  unfold hgT at h hp hr ⊢
  by_cases hE : cutE l.length at_ 76 = 0
  · rw [if_pos hE] at hp hr ⊢
    obtain ⟨q1, q2, q3⟩ := cut76 hE
    have hc : cutL l at_ 76 = (l.drop at_.toNat).take 76 := by unfold cutL; rw [if_pos hE]; rfl
    refine ⟨at_.toNat, by omega, by omega, by show at_ + 76 = _; omega, ⟨hp, hr, ?_, ?_, ?_⟩, ?_⟩
    · exact num_four _ (by rw [List.length_take, List.length_drop]; omega)
    · exact num_four _ (by rw [List.length_take, List.length_drop]; omega)
    · exact num_four _ (by rw [List.length_take, List.length_drop]; omega)
    · rw [← hc]
      exact hdB_of _ q1
  · rw [if_neg hE] at h
    exact absurd h hE
theorem hgT_e (l : List UInt8) (at_ : Int) : (hgT l at_).e = 0 ∨ (hgT l at_).e = 2 ∨ (hgT l at_).e = 4 := by
  unfold hgT
  by_cases hE : cutE l.length at_ 76 = 0
  · rw [if_pos hE]
    exact .inl rfl
  · rw [if_neg hE]
    show cutE l.length at_ 76 = 0 ∨ cutE l.length at_ 76 = 2 ∨ cutE l.length at_ 76 = 4
    unfold cutE
    split
    · exact .inr (.inl rfl)
    · split
      · exact .inr (.inr rfl)
      · exact .inl rfl
theorem hd_set_p (p r : List UInt8) (t b n i : Nat) (x : UInt8) (hi : i < p.length) : (hdc p r t b n).setIfInBounds i (.int .u8 (x.toNat : Int)) = hdc (p.set i x) r t b n := by
  have e : (bvs p).set i (.int .u8 (x.toNat : Int)) = bvs (p.set i x) := by simp [bvs, bv, List.map_set]
  simp only [hdc, hdl, List.setIfInBounds_toArray]
  rw [List.set_append_left _ _ (by rw [bvs_length]; exact hi), e]
theorem hd_set_r (p r : List UInt8) (t b n i : Nat) (x : UInt8) (hp : p.length = 32) (hi : i < r.length) : (hdc p r t b n).setIfInBounds (32 + i) (.int .u8 (x.toNat : Int)) = hdc p (r.set i x) t b n := by
  have e : (bvs r).set i (.int .u8 (x.toNat : Int)) = bvs (r.set i x) := by simp [bvs, bv, List.map_set]
  simp only [hdc, hdl, List.setIfInBounds_toArray]
  rw [List.set_append_right _ _ (by rw [bvs_length, hp]; omega), bvs_length, hp, Nat.add_sub_cancel_left, List.set_append_left _ _ (by rw [bvs_length]; exact hi), e]
theorem hd_set_t (p r : List UInt8) (t b n x : Nat) (hp : p.length = 32) (hr : r.length = 32) : (hdc p r t b n).setIfInBounds 64 (.int .u32 (x : Int)) = hdc p r x b n := by
  simp only [hdc, hdl, List.setIfInBounds_toArray]
  rw [List.set_append_right _ _ (by rw [bvs_length, hp]; omega), bvs_length, hp, List.set_append_right _ _ (by rw [bvs_length, hr]; omega), bvs_length, hr]
  rfl
theorem hd_set_b (p r : List UInt8) (t b n x : Nat) (hp : p.length = 32) (hr : r.length = 32) : (hdc p r t b n).setIfInBounds 65 (.int .u32 (x : Int)) = hdc p r t x n := by
  simp only [hdc, hdl, List.setIfInBounds_toArray]
  rw [List.set_append_right _ _ (by rw [bvs_length, hp]; omega), bvs_length, hp, List.set_append_right _ _ (by rw [bvs_length, hr]; omega), bvs_length, hr]
  rfl
theorem hd_set_n (p r : List UInt8) (t b n x : Nat) (hp : p.length = 32) (hr : r.length = 32) : (hdc p r t b n).setIfInBounds 66 (.int .u32 (x : Int)) = hdc p r t b x := by
  simp only [hdc, hdl, List.setIfInBounds_toArray]
  rw [List.set_append_right _ _ (by rw [bvs_length, hp]; omega), bvs_length, hp, List.set_append_right _ _ (by rw [bvs_length, hr]; omega), bvs_length, hr]
  rfl
set_option maxRecDepth 100000 in
set_option maxHeartbeats 8000000 in
theorem rhget_any (v : Value) (l : List UInt8) (at_ : Int) (w : World) (h : Rd w v l) (hr : l.length ≤ 140737488355328) :
    Calls Tryz.prog 48 #[v, .int .i64 at_] w fun e w' => e = .returned (.tuple #[.agg (hdc (hgT l at_).p (hgT l at_).r (hgT l at_).t (hgT l at_).b (hgT l at_).n), .int .i64 (hgT l at_).at_, .int .i64 (hgT l at_).e]) ∧ Nx w w' := by
  have HP := Lib.hid (fun w h => refPart_any v l at_ 76 w h hr)
  have HR := Lib.hid h
  obtain ⟨A, c, rfl, -⟩ := h
  obtain ⟨hz, hzs⟩ := zero_of_info info_head
  have HZL := Lib.hid Z32_lengthh
  have cz := Lib.hid (headsz Z32h Z32h 0 0 0 HZL.out HZL.out)
  have hl : w.heap.size ≤ w.heap.size := Nat.le_refl _
  unfold hgT
  by_cases hE : cutE l.length at_ 76 = 0
  · obtain ⟨q1, q2, q3⟩ := cut76 hE
    rw [if_pos hE]
    rw [hE] at HP
    unfold hdOf
    dsimp only
    have HQ := Lib.hid q1
    have q4 : at_ + 76 ≤ 9223372036854775807 := by omega
    obtain ⟨a1, a2, a3⟩ := getAt _ 76 q1 64 4 (by decide) (by decide)
    obtain ⟨a4, a5, a6⟩ := getAt _ 76 q1 68 4 (by decide) (by decide)
    obtain ⟨a7, a8, a9⟩ := getAt _ 76 q1 72 4 (by decide) (by decide)
    have HN1 : Hid (∀ v w, Rd w v (cutL l at_ 76) → Calls Tryz.prog 76 #[v, .int .i64 64, .int .i64 4] w fun e w' => e = .returned (.tuple #[.int .u64 (num (((cutL l at_ 76).drop 64).take 4) : Int), .int .i64 0]) ∧ Nx w w') := Lib.hid fun v w h => by
      have := refGet_any v _ 64 4 w h (by omega)
      rw [show getE (cutL l at_ 76).length 64 4 = 0 from a1, show getN (cutL l at_ 76) 64 4 = _ from a2] at this
      exact this
    have HN2 : Hid (∀ v w, Rd w v (cutL l at_ 76) → Calls Tryz.prog 76 #[v, .int .i64 68, .int .i64 4] w fun e w' => e = .returned (.tuple #[.int .u64 (num (((cutL l at_ 76).drop 68).take 4) : Int), .int .i64 0]) ∧ Nx w w') := Lib.hid fun v w h => by
      have := refGet_any v _ 68 4 w h (by omega)
      rw [show getE (cutL l at_ 76).length 68 4 = 0 from a4, show getN (cutL l at_ 76) 68 4 = _ from a5] at this
      exact this
    have HN3 : Hid (∀ v w, Rd w v (cutL l at_ 76) → Calls Tryz.prog 76 #[v, .int .i64 72, .int .i64 4] w fun e w' => e = .returned (.tuple #[.int .u64 (num (((cutL l at_ 76).drop 72).take 4) : Int), .int .i64 0]) ∧ Nx w w') := Lib.hid fun v w h => by
      have := refGet_any v _ 72 4 w h (by omega)
      rw [show getE (cutL l at_ 76).length 72 4 = 0 from a7, show getN (cutL l at_ 76) 72 4 = _ from a8] at this
      exact this
    rw [p4] at a3 a6 a9
    have HXL : Hid (((cutL l at_ 76).take 32).length = 32) := Lib.hid (by rw [List.length_take]; omega)
    have HYL : Hid ((((cutL l at_ 76).drop 32).take 32).length = 32) := Lib.hid (by rw [List.length_take, List.length_drop]; omega)
    clear hE q1 q3 a1 a2 a4 a5 a7 a8
    generalize cutL l at_ 76 = L at *
    generalize num ((L.drop 64).take 4) = T at *
    generalize num ((L.drop 68).take 4) = B at *
    generalize num ((L.drop 72).take 4) = N at *
    have hT : IntKind.u32.wrap (T : Int) = (T : Int) := by rw [show IntKind.u32.wrap (T : Int) = (T : Int) % 4294967296 from rfl]; omega
    have hB : IntKind.u32.wrap (B : Int) = (B : Int) := by rw [show IntKind.u32.wrap (B : Int) = (B : Int) % 4294967296 from rfl]; omega
    have hN : IntKind.u32.wrap (N : Int) = (N : Int) := by rw [show IntKind.u32.wrap (N : Int) = (N : Int) % 4294967296 from rfl]; omega
    have hT2 : (T : Int) % 4294967296 = (T : Int) := by omega
    have hB2 : (B : Int) % 4294967296 = (B : Int) := by omega
    have hN2 : (N : Int) % 4294967296 = (N : Int) := by omega
    have HXE : Hid (∀ j, j < 32 → (L.take 32)[j]? = L[j]?) := Lib.hid fun j hj => List.getElem?_take_of_lt hj
    have HYE : Hid (∀ j, j < 32 → ((L.drop 32).take 32)[j]? = L[32 + j]?) := Lib.hid fun j hj => by rw [List.getElem?_take_of_lt hj, List.getElem?_drop]
    generalize L.take 32 = X at *
    generalize (L.drop 32).take 32 = Y at *
    have HTW := Lib.hid (And.intro hT hT2)
    have HBW := Lib.hid (And.intro hB hB2)
    have HNW := Lib.hid (And.intro hN hN2)
    clear a3 a6 a9 hT hT2 hB hB2 hN hN2
    go_enter Tryz.func48, Tryz.ntmps48
    go_wp2_with fail
    refine (HP.out _ (HR.out.alloc _)).mono ?_
    rintro e w1 ⟨v1, rfl, o1, n1⟩
    have R4 := ((Row.new w (hdc Z32h Z32h 0 0 0) 26 _ rfl).nx n1).alloc (.cells (hdc Z32h Z32h 0 0 0) 26)
    have HNE : Hid (w.heap.size ≠ w1.heap.size) := Lib.hid (Nat.ne_of_lt ((Row.new w (hdc Z32h Z32h 0 0 0) 26 _ rfl).nx n1).lt)
    have N1 := Lib.hid (((Nx.refl w).alloc (.cells (hdc Z32h Z32h 0 0 0) 26)).trans n1)
    have O1 := Lib.hid o1.rd
    have RL := o1.rd
    obtain ⟨A1, c1, rfl, hc1', hm1', ha1⟩ := RL
    obtain ⟨b1, o1', rfl, hb1, hc1⟩ := ha1 (by rw [HQ.out]; decide)
    have HC1 := Lib.hid hc1
    have HB1 := Lib.hid hb1
    have hL76 : (L.length : Int) = 76 := by rw [HQ.out]; rfl
    have RP := Row.new w1 (hdc Z32h Z32h 0 0 0) 26 _ rfl
    have eX0 : hashZ X 0 = Z32h := hashZ_zero X
    have eY0 : hashZ Y 0 = Z32h := hashZ_zero Y
    have RP0 : Row (w1.alloc (.cells (hdc Z32h Z32h 0 0 0) 26)) w1.heap.size (hdc (hashZ X 0) (hashZ Y 0) 0 0 0) 26 := by rw [eX0, eY0]; exact RP
    have N2 : Hid (Nx w1 (w1.alloc (.cells (hdc Z32h Z32h 0 0 0) 26))) := Lib.hid ((Nx.refl w1).alloc _)
    clear o1 n1 hc1' hm1' ha1 hc1 hb1 eX0 eY0 RP
    go_wp2_with fail
    generalize w1.alloc (.cells (hdc Z32h Z32h 0 0 0) 26) = W1 at *
    go_loopw [10] (fun i wr => ∃ j : Nat, j ≤ 32 ∧ i = .int .i64 j ∧ Row wr w1.heap.size (hdc (hashZ X j) (hashZ Y j) 0 0 0) 26 ∧ Row wr w.heap.size (hdc Z32h Z32h 0 0 0) 26 ∧ Hid (Nx w1 wr)) (fun i _ => 32 - (intOf i).toNat)
    case atStart => exact ⟨0, by omega, rfl, RP0, R4, N2.out⟩
    case round =>
      obtain ⟨j, hj, rfl, hrow, hr4, hx⟩ := hrel
      by_cases hlt : j < 32
      · have hj0 : (0 : Int) ≤ (j : Int) := by omega
        have hlt' : (j : Int) < 32 := by omega
        have hl1 : (j : Int) < (L.length : Int) := by omega
        have hl2 : (32 : Int) + (j : Int) < (L.length : Int) := by omega
        have hw1 : wrap64 (32 + (j : Int)) = 32 + (j : Int) := by unfold wrap64; omega
        have hjl : j < L.length := Int.ofNat_lt.mp hl1
        have hjl2 : 32 + j < L.length := Int.ofNat_lt.mp (by rw [Int.natCast_add]; exact hl2)
        obtain ⟨x, hx0⟩ : ∃ x, L[j]'hjl = x := ⟨_, rfl⟩
        obtain ⟨y, hy0⟩ : ∃ y, L[32 + j]'hjl2 = y := ⟨_, rfl⟩
        have hx1 : X[j]? = some x := by rw [HXE.out j hlt, List.getElem?_eq_getElem hjl, hx0]
        have hy1 : Y[j]? = some y := by rw [HYE.out j hlt, List.getElem?_eq_getElem hjl2, hy0]
        have k1 := (Nx.cell hx (p := ⟨b1, o1' + j, none⟩) HB1.out).trans (HC1.out j hjl)
        have k3 := HC1.out (32 + j) hjl2
        rw [hx0] at k1
        rw [hy0] at k3
        clear hx0 hy0 hjl hjl2
        have eX := Lib.hid (hashZ_next X j x hlt HXL.out hx1)
        have eY := Lib.hid (hashZ_next Y j y hlt HYL.out hy1)
        have zX := hashZ_length X j hj HXL.out
        have zY := hashZ_length Y j hj HYL.out
        have ZX := Lib.hid zX
        have ZY := Lib.hid zY
        have hR1 := hrow.set j (.int .u8 (x.toNat : Int))
        rw [hd_set_p _ _ _ _ _ _ _ (by rw [zX]; exact hlt), eX.out] at hR1
        have c1a := hrow.cell (i := j) (hd_p (hashZ X j) (hashZ Y j) 0 0 0 j (by rw [zX]; exact hlt))
        have f1a := hrow.frozen j
        have c2a := hR1.cell (i := 32 + j) (hd_r (hashZ X (j + 1)) (hashZ Y j) 0 0 0 (hashZ_length X (j + 1) hlt HXL.out) j (by rw [zY]; exact hlt))
        have f2a := hR1.frozen (32 + j)
        have hR2 := hR1.set (32 + j) (.int .u8 (y.toNat : Int))
        rw [hd_set_r _ _ _ _ _ _ _ (hashZ_length X (j + 1) hlt HXL.out) (by rw [zY]; exact hlt), eY.out] at hR2
        have hx2 := Nx.setAt hx (k := w1.heap.size) (i := j) (.int .u8 (x.toNat : Int)) (Nat.le_refl _)
        have k2' : (wr.setCell ⟨w1.heap.size, j, none⟩ (.int .u8 (x.toNat : Int))).cell? ⟨b1, o1' + (32 + j), none⟩ = some (.int .u8 (y.toNat : Int)) := (hx2.cell (p := ⟨b1, o1' + (32 + j), none⟩) HB1.out).trans k3
        have HX3 := Lib.hid (hx2.setAt (k := w1.heap.size) (i := 32 + j) (.int .u8 (y.toNat : Int)) (Nat.le_refl _))
        have HR2 := Lib.hid hR2
        have HR4 := Lib.hid ((hr4.other w1.heap.size j (.int .u8 (x.toNat : Int)) HNE.out).other w1.heap.size (32 + j) (.int .u8 (y.toNat : Int)) HNE.out)
        generalize bv _ = xx at c1a
        generalize bv _ = yy at c2a
        clear hx2 hR1 hR2 hrow hr4 hx zX zY k3
        unfold bv at k1
        go_wp2_with fail
        go_roundw
        case rel => exact ⟨j + 1, by omega, by go_num, HR2.out, HR4.out, HX3.out⟩
        case measure => simp [intOf]; omega
      · obtain rfl : j = 32 := by omega
        rw [hashZ_all X HXL.out, hashZ_all Y HYL.out] at hrow
        have NX := Lib.hid hx
        obtain ⟨hT, hT2⟩ := HTW.out
        obtain ⟨hB, hB2⟩ := HBW.out
        obtain ⟨hN, hN2⟩ := HNW.out
        have O2 := Lib.hid (Rd.nx O1.out hx)
        clear hx hlt hj
        go_wp2_with fail
        refine (HN1.out _ _ O2.out).mono ?_
        rintro e w2 ⟨rfl, n2⟩
        have r2 := hrow.nx n2
        have r4 := hr4.nx n2
        have O3 := Lib.hid (O2.out.nx n2)
        have N3 := Lib.hid (Nx.trans NX.out n2)
        clear n2 hrow hr4
        go_wp2_with fail
        refine (HN2.out _ _ O3.out).mono ?_
        rintro e w3 ⟨rfl, n3⟩
        have r5 := r2.nx n3
        have r6 := r4.nx n3
        have O4 := Lib.hid (O3.out.nx n3)
        have N4 := Lib.hid (N3.out.trans n3)
        clear n3 r2 r4
        go_wp2_with fail
        refine (HN3.out _ _ O4.out).mono ?_
        rintro e w4 ⟨rfl, n4⟩
        have r7 := r5.nx n4
        have r8 := r6.nx n4
        have N5 := Lib.hid (N4.out.trans n4)
        clear n4 r5 r6
        have cA := r7.cell (hd_t X Y 0 0 0 HXL.out HYL.out)
        have fA := r7.frozen 64
        have ra := r7.set 64 (.int .u32 (T : Int))
        rw [hd_set_t _ _ _ _ _ _ HXL.out HYL.out] at ra
        have cB := ra.cell (hd_b X Y T 0 0 HXL.out HYL.out)
        have fB := ra.frozen 65
        have rb := ra.set 65 (.int .u32 (B : Int))
        rw [hd_set_b _ _ _ _ _ _ HXL.out HYL.out] at rb
        have cC := rb.cell (hd_n X Y T B 0 HXL.out HYL.out)
        have fC := rb.frozen 66
        have rc := rb.set 66 (.int .u32 (N : Int))
        rw [hd_set_n _ _ _ _ _ _ HXL.out HYL.out] at rc
        have rd := ((r8.other w1.heap.size 64 (.int .u32 (T : Int)) HNE.out).other w1.heap.size 65 (.int .u32 (B : Int)) HNE.out).other w1.heap.size 66 (.int .u32 (N : Int)) HNE.out
        have NF := Lib.hid ((((N1.out.trans N5.out).setAt (k := w1.heap.size) (i := 64) (.int .u32 (T : Int)) N1.out.size).setAt (k := w1.heap.size) (i := 65) (.int .u32 (B : Int)) N1.out.size).setAt (k := w1.heap.size) (i := 66) (.int .u32 (N : Int)) N1.out.size)
        have ix := Lib.hid (headsz X Y T B N HXL.out HYL.out)
        have jx := Lib.hid (headsame Z32h Z32h X Y 0 0 0 T B N HZL.out HZL.out HXL.out HYL.out)
        clear r7 r8 ra rb
        go_wp2_with (first | (refine wpList_load_row rfl 26 (.tmp 9) rfl w1.heap.size rfl 26 (hdc X Y T B N) (0, 0) _ rc Tryz.underlying26 rfl ix.out ?_) | (refine wpList_store_row rfl 26 (.tmp 4) (.tmp 70) rfl w.heap.size (hdc X Y T B N) rfl rfl 26 (hdc Z32h Z32h 0 0 0) rd ix.out jx.out (hd_one _ _ _ _ _) ?_))
        exact bodyPost_ret (results_cell_three Tryz.results48 _ _ w.heap.size 26 (hdc X Y T B N) (0, 0) _ rfl (rd.setRow _) Tryz.underlying26 rfl ix.out) rfl ⟨rfl, NF.out.setRow _ hl⟩
  · rw [if_neg hE]
    unfold HD.bad
    generalize cutE l.length at_ 76 = E at *
    generalize cutL l at_ 76 = L at *
    have dE : (E != 0) = true := by simp [hE]
    clear hE
    go_enter Tryz.func48, Tryz.ntmps48
    go_wp2_with fail
    refine (HP.out _ (HR.out.alloc _)).mono ?_
    rintro e w1 ⟨v1, rfl, o1, n1⟩
    have R4 := (Row.new w (hdc Z32h Z32h 0 0 0) 26 _ rfl).nx n1
    have N1 := Lib.hid (((Nx.refl w).alloc (.cells (hdc Z32h Z32h 0 0 0) 26)).trans n1)
    clear o1 n1
    go_wp2_with (first | (refine wpList_val (some 25) rfl rfl (.agg (hdc Z32h Z32h 0 0 0)) ?_ ?_; (focus kernel_rfl)) | (refine wpList_store_row rfl 26 (.tmp 4) (.tmp 25) rfl w.heap.size (hdc Z32h Z32h 0 0 0) rfl rfl 26 (hdc Z32h Z32h 0 0 0) R4 cz.out rfl (hd_one _ _ _ _ _) ?_))
    exact bodyPost_ret (results_cell_three Tryz.results48 _ _ w.heap.size 26 (hdc Z32h Z32h 0 0 0) (0, 0) _ rfl (R4.setRow _) Tryz.underlying26 rfl cz.out) rfl ⟨rfl, N1.out.setRow _ hl⟩
end Go.Proofs.YtejeekbpeinioaaGreatDoor
end
