/- LAYER 7: the document's Digest. -/
import Derived.Deep.DeepCutAuto
import Derived.Test.YtnbonmkecmgphaaDoorTx25
namespace Go.Proofs.YtnbonmkecmgphaaDoor
open Go Go.RowKit
set_option linter.unusedVariables false
set_option linter.unusedSimpArgs false
set_option linter.unusedVariables false
set_option linter.unusedSimpArgs false

theorem built_inb (x0 x1 x2 x3 x4 x5 x6 x7 x8 x9 x10 x11 x12 x13 x14 x15 x16 x17 x18 x19 x20 x21 x22 x23 x24 x25 x26 x27 x28 x29 x30 x31 : UInt8) (n h : Nat) :
    Tryd.prog.built 55 [(0, .agg (pcel [x0, x1, x2, x3, x4, x5, x6, x7, x8, x9, x10, x11, x12, x13, x14, x15, x16, x17, x18, x19, x20, x21, x22, x23, x24, x25, x26, x27, x28, x29, x30, x31] n h))] = some (icel ⟨[x0, x1, x2, x3, x4, x5, x6, x7, x8, x9, x10, x11, x12, x13, x14, x15, x16, x17, x18, x19, x20, x21, x22, x23, x24, x25, x26, x27, x28, x29, x30, x31], n, h, []⟩ (.slice none 0 0)) := by kernel_rfl
theorem built_bare (q : Inp) (hq : InOk q) : Tryd.prog.built 55 [(0, .agg (pcel q.x q.n q.h))] = some (icel (bareI q) (.slice none 0 0)) := by
  obtain ⟨tx, n, h, u⟩ := q
  obtain ⟨x0, x1, x2, x3, x4, x5, x6, x7, x8, x9, x10, x11, x12, x13, x14, x15, x16, x17, x18, x19, x20, x21, x22, x23, x24, x25, x26, x27, x28, x29, x30, x31, rfl⟩ := list32 tx hq.1
  exact built_inb x0 x1 x2 x3 x4 x5 x6 x7 x8 x9 x10 x11 x12 x13 x14 x15 x16 x17 x18 x19 x20 x21 x22 x23 x24 x25 x26 x27 x28 x29 x30 x31 n h
theorem icl_one (i : Inp) (u : Value) (hu : u.oneCell' = true) : ∀ y ∈ icl i u, y.oneCell' = true := by
  have := icel_one i u hu
  rw [Array.all_eq_true'] at this
  exact fun y hy => this y (by simpa [icel] using hy)
theorem ownE_bare {B g : Nat} {w : World} {v : Value} {es : List Inp} (h : OwnE inEl B w v es) (hb : ∀ a ∈ es, a.u = []) (hg : g < B) (cs : Array Value) : OwnE inEl B (w.setRow g cs) v es := by
  obtain ⟨fs, ⟨h0, h2⟩, h3⟩ := h
  refine ⟨fs, ⟨h0, ?_⟩, h3.1, fun j hj => ?_⟩
  · rcases h2 with h2 | ⟨q, c, full, rfl, hq, hh, rest⟩
    · exact .inl h2
    · exact .inr ⟨q, c, full, rfl, hq, by rw [Go.setRow_other _ _ _ _ (by omega)]; exact hh, rest⟩
  · obtain ⟨u, e, hok, ⟨A, c, hu, h4, h5, -⟩, -⟩ := h3.2 j hj
    have hz := hb es[j] (List.getElem_mem hj)
    exact ⟨u, e, hok, ⟨A, c, hu, h4, h5, fun hp => by rw [hz] at hp; simp at hp⟩, fun hp => by rw [hz] at hp; simp at hp⟩
theorem rdF_row1 {w : World} {ga : Nat} {cs : List Value} {T : TypeId} (R : Row w ga cs.toArray T) (hl : cs.length = 35) (h1 : ∀ y ∈ cs, y.oneCell' = true) : RdF 35 w (.slice (some ⟨ga, 0, none⟩) 1 1) 1 cs :=
  ⟨by rw [hl], h1, _, 1, rfl, Nat.le_refl _, by simp [maxLen], fun _ => ⟨ga, 0, rfl, R.lt, fun j hj => by rw [Nat.zero_add]; exact R.cell (by simp [hj])⟩⟩
theorem wpList_gT {P : Program} {ops : Array Oper} {rest : List Oper} {o : Oper} {a : Act} {w : World} {Q : Exit → Act → World → Prop} (hw : Region.wanted o (yielded ops a.tmps) = true)
    (h : ∀ K : Act → World → Prop, (∀ a w, wpList P ops Q rest a w → K a w) → o.wp P a w K Q) : wpList P ops Q (o :: rest) a w :=
  wpList_step fun K hK => by rw [if_pos hw]; exact h K hK
section
variable {P : Program}
theorem wp_built_of {o : Oper} {a : Act} {w : World} {K : Act → World → Prop} {Q : Exit → Act → World → Prop} (t : TypeId) (parts : Array (Nat × Operand)) (ho : o.op = .build t parts)
    (L : List (Nat × Value)) (hp : (parts.map fun (i, x) => (i, a.eval x)).toList = L) (cs : Array Value) (hb : P.built t L = some cs) (h : K (a.put o.dst (.agg cs)) w) : o.wp P a w K Q := by
  subst hp
  refine wp_build t parts ho (by rw [hb]; rfl) ?_
  rw [hb]
  exact h
theorem wp_store1_of {o : Oper} {a : Act} {w : World} {K : Act → World → Prop} {Q : Exit → Act → World → Prop} (ty : TypeId) (x y : Operand) (ho : o.op = .store ty x y)
    (g k : Nat) (v : Value) (hv : v.cells = #[v]) (hx : a.eval x = .pointer (some ⟨g, k, none⟩)) (hy : a.eval y = v) (h1 : v.oneCell' = true)
    (t : TypeId) (old : Array Value) (hg : Row w g old t) (hi : (P.info? ty).map (·.size) = some 1) (hold : k + 1 ≤ old.size)
    (h : K (a.put o.dst undef) (w.setRow g (old.toList.take k ++ [v] ++ old.toList.drop (k + 1)).toArray)) : o.wp P a w K Q := by
  have := run_storeCells_at (P := P) g k t [v] 0 old w hg (by simpa using hold) (fun u hu => by rw [List.mem_singleton.1 hu]; exact h1)
  cases hq : P.info? ty with
  | none => simp [hq] at hi
  | some i =>
    have hs : i.size = 1 := by simpa [hq] using hi
    have hr : (storeVar ty ⟨g, k, none⟩ v).run P w = .ok () (w.setRow g (old.toList.take k ++ [v] ++ old.toList.drop (k + 1)).toArray) := by
      simp only [Nat.add_zero, List.length_singleton] at this
      simp [storeVar, sizeOf, typeInfo, hq, hv, hs, this]
    unfold Oper.wp execOp
    simp only [ho, hx, hy, Instr.storeAt, Instr.sureAddr, Sem.run_bind, Sem.run_pure, Result.andThen_ok, hr]
    exact h
theorem wp_appE_of {α : Type} {w : World} {o : Oper} {a : Act} {K : Act → World → Prop} {Q : Exit → Act → World → Prop} (L : El α) (dst : Option Tmp) (hd : o.dst = dst) (s x : Operand) (t : TypeId)
    (ho : o.op = .call { callee := .builtin .append, args := #[s, x], argTypes := #[t, t] }) (z : Value) (by' : Nat) (ht : P.underlying t = some (.slice L.E)) (hi : (P.info? L.E).map (fun i => (i.zero, i.size, i.bytes)) = some (some z, L.k, by')) (hzc : z.cells.size = L.k)
    (B : Nat) (v vx : Value) (es bs : List α) (us : List Value) (hs : a.eval s = v) (hx : a.eval x = vx) (hown : OwnE L B w v es) (hr : RdF L.k w vx bs.length us) (hu : AllE L v.ownBlock w us bs) (hlen : (es.length + bs.length) * by' ≤ 140737488355328) (hmx : es.length + bs.length ≤ maxLen) (hB : B ≤ w.heap.size)
    (h : ∀ v' w', OwnE L B w' v' (es ++ bs) → Below B w w' → w.grownBy w' v.ownBlock → (v'.ownBlock = v.ownBlock ∨ v'.ownBlock = some w.heap.size) → K (a.put dst v') w') : o.wp P a w K Q := by
  subst hd
  obtain ⟨fs, h1, h2⟩ := hown
  obtain ⟨i, hi0, hz, hsz, hby⟩ : ∃ i, P.info? L.E = some i ∧ i.zero = some z ∧ i.size = L.k ∧ i.bytes = by' := by
    rcases hq : P.info? L.E with _ | i
    · rw [hq] at hi; cases hi
    · rw [hq] at hi
      simp only [Option.map_some, Option.some.injEq, Prod.mk.injEq] at hi
      exact ⟨i, rfl, hi.1, hi.2.1, hi.2.2⟩
  obtain ⟨v', w', hr, g1, g3, g4⟩ := appF_run (P := P) w t o.type L.E i z L.k by' ht hi0 hz hzc hsz hby L.pos B v vx es.length bs.length fs us h1 hr hlen hmx hB
  have g2 := OwnF.below hB h1 g3
  unfold Oper.wp execOp
  simp only [ho, resolve, invoke, builtin, Sem.run_bind, Sem.run_pure, Result.andThen_ok, List.map_toArray, List.map_cons, List.map_nil, hs, hx, hr]
  refine h v' w' ⟨fs ++ us, by rw [List.length_append]; exact g1, ?_⟩ g2 g3 (g4.imp id And.left)
  rcases g4 with g4 | g4
  · rw [g4]
    exact (h2.append hu).grown g3
  · obtain ⟨g4, g5⟩ := g4
    rw [g4]
    exact (h2.append hu).free.to (Below.grown (Below.refl _ _) g5 (Nat.le_refl _) (fun q hq => by cases hq)) (fun q hq => by
      have : w.heap.size = q := by simpa using hq
      omega)
end
/-- The values of the region that appends an input. -/
def FD (gs g3 : Nat) (sv iv : Value) (j b p : Nat) (q : Inp) (ga : Nat) (sv' : Value) : Nat → Value
  | 0 => .pointer (some ⟨gs, 0, none⟩)
  | 1 => sv
  | 2 => .pointer (some ⟨g3, 0, none⟩)
  | 3 => iv
  | 4 => .int .i64 (j : Int)
  | 5 => .pointer (some ⟨b, p, none⟩)
  | 6 => .pointer (some ⟨b, p, none⟩)
  | 7 => .agg (pcel q.x q.n q.h)
  | 8 => .agg (icel (bareI q) (.slice none 0 0))
  | 9 => .slice (some ⟨ga, 0, none⟩) 1 1
  | 10 => sv'
  | 11 => .pointer (some ⟨gs, 0, none⟩)
  | _ => undef
def JD (W0 : World) (gs g3 : Nat) (sv iv ov : Value) (a j b p : Nat) (q : Inp) (es : List Inp) (L : Nat → Bool) (x : Nat → Value) (wr : World) : Prop :=
  ∃ ga sv', (∀ i, i ≠ 12 → L i = true → x i = FD gs g3 sv iv j b p q ga sv' i) ∧ (L 10 = false → Nx W0 wr ∧ (L 9 = true → W0.heap.size ≤ ga ∧ Row wr ga (icel (bareI q) (.slice none 0 0)) 55)) ∧
    (L 10 = true → ∃ W', Below (gs + 1) W0 W' ∧ OwnE inEl (gs + 1) W' sv' (es ++ [bareI q]) ∧ (L 12 = false → wr = W') ∧ (L 12 = true → wr = W'.setRow gs #[sv', ov, .int .u32 (a : Int)]))
section
variable {W0 wr w' : World} {gs g3 : Nat} {sv iv ov : Value} {a j b p : Nat} {q : Inp} {es : List Inp} {L : Nat → Bool} {x : Nat → Value} {ga : Nat} {sv' : Value}
theorem FD_ga (g s : Nat) (u v : Value) (i : Nat) (h9 : i ≠ 9) (h : i ≠ 10 ∨ u = v) : FD gs g3 sv iv j b p q g u i = FD gs g3 sv iv j b p q s v i := by
  unfold FD
  split <;> first | rfl | (exact absurd rfl h9) | (rcases h with h | h; exact absurd rfl h; exact h)
theorem jd_pure (i : Nat) (i9 : i ≠ 9) (i10 : i ≠ 10) (i12 : i ≠ 12) (h1 : ∀ i, i ≠ 12 → L i = true → x i = FD gs g3 sv iv j b p q ga sv' i) (h2 : L 10 = false → Nx W0 wr ∧ (L 9 = true → W0.heap.size ≤ ga ∧ Row wr ga (icel (bareI q) (.slice none 0 0)) 55))
    (h3 : L 10 = true → ∃ W', Below (gs + 1) W0 W' ∧ OwnE inEl (gs + 1) W' sv' (es ++ [bareI q]) ∧ (L 12 = false → wr = W') ∧ (L 12 = true → wr = W'.setRow gs #[sv', ov, .int .u32 (a : Int)])) :
    JD W0 gs g3 sv iv ov a j b p q es (fun k => k == i || L k) (upd x i (FD gs g3 sv iv j b p q ga sv' i)) wr := by
  refine ⟨ga, sv', fun k hk hl => ?_, fun h => ?_, fun h => ?_⟩ <;> dsimp only at *
  · by_cases hki : k = i
    · subst hki; rw [upd_eq]
    · rw [upd_ne _ _ hki]; exact h1 k hk (by rwa [or_ne hki] at hl)
  · rw [or_ne (Ne.symm i10)] at h
    rw [or_ne (Ne.symm i9)]
    exact h2 h
  · rw [or_ne (Ne.symm i10)] at h
    rw [or_ne (Ne.symm i12)]
    exact h3 h
theorem jd_mk (l9 : L 9 = false) (l10 : L 10 = false) (h1 : ∀ i, i ≠ 12 → L i = true → x i = FD gs g3 sv iv j b p q ga sv' i) (h2 : Nx W0 wr) :
    JD W0 gs g3 sv iv ov a j b p q es (fun k => k == 9 || L k) (upd x 9 (.slice (some ⟨wr.heap.size, 0, none⟩) 1 1)) (wr.alloc (.cells (icel (bareI q) (.slice none 0 0)) 55)) := by
  refine ⟨wr.heap.size, sv', fun k hk hl => ?_, fun _ => ⟨h2.alloc _, fun _ => ⟨h2.size, Row.new wr _ _ _ rfl⟩⟩, fun h => ?_⟩ <;> dsimp only at *
  · by_cases hki : k = 9
    · subst hki; rw [upd_eq]; rfl
    · rw [upd_ne _ _ hki, h1 k hk (by rwa [or_ne hki] at hl)]
      exact FD_ga _ _ _ _ _ hki (.inr rfl)
  · rw [or_ne (by decide), l10] at h; cases h
theorem jd_app {v' : Value} (l10 : L 10 = false) (l11 : L 11 = false) (l12 : L 12 = false) (h1 : ∀ i, i ≠ 12 → L i = true → x i = FD gs g3 sv iv j b p q ga sv' i) (hb : Below (gs + 1) W0 w') (ho : OwnE inEl (gs + 1) w' v' (es ++ [bareI q])) :
    JD W0 gs g3 sv iv ov a j b p q es (fun k => k == 10 || L k) (upd x 10 v') w' := by
  refine ⟨ga, v', fun k hk hl => ?_, fun h => ?_, fun _ => ⟨w', hb, ho, fun _ => rfl, fun h => ?_⟩⟩ <;> dsimp only at *
  · by_cases hki : k = 10
    · subst hki; rw [upd_eq]; rfl
    · rw [upd_ne _ _ hki, h1 k hk (by rwa [or_ne hki] at hl)]
      by_cases h9 : k = 9
      · subst h9; rfl
      · exact FD_ga _ _ _ _ _ h9 (.inl hki)
  · rw [show ((10 == 10 || L 10) : Bool) = true from rfl] at h; cases h
  · rw [or_ne (by decide), l12] at h; cases h
theorem jd_store (l12 : L 12 = false) (l10 : L 10 = true) (h1 : ∀ i, i ≠ 12 → L i = true → x i = FD gs g3 sv iv j b p q ga sv' i) (hb : Below (gs + 1) W0 wr) (ho : OwnE inEl (gs + 1) wr sv' (es ++ [bareI q])) :
    JD W0 gs g3 sv iv ov a j b p q es (fun k => k == 12 || L k) (upd x 12 undef) (wr.setRow gs #[sv', ov, .int .u32 (a : Int)]) := by
  refine ⟨ga, sv', fun k hk hl => ?_, fun h => ?_, fun _ => ⟨wr, hb, ho, fun h => ?_, fun _ => rfl⟩⟩ <;> dsimp only at *
  · rw [upd_ne _ _ hk]; exact h1 k hk (by rwa [or_ne hk] at hl)
  · rw [or_ne (by decide), l10] at h; cases h
  · rw [show ((12 == 12 || L 12) : Bool) = true from rfl] at h; cases h
end
set_option maxRecDepth 100000 in
set_option maxHeartbeats 8000000 in
theorem rdigest_any (iv ov : Value) (t : Txn) (n : Int) (x : List UInt8) (k h v : Nat) (b : Bool) (A : Option Addr) (l : List UInt8) (c : Nat) (w : World) (ht : TxAt w iv ov t) (hx : x.length = 32) (hk : k < 65536) (hh : h < 4294967296) (hvv : (v : Int) ≤ 18446744073709551615) (hl : Rd w (.slice A l.length c) l) (hr : l.length ≤ 140737488351232) :
    Calls Tryd.prog 16 #[.agg #[iv, ov, .int .u32 (t.after : Int)], .int .i64 n, .agg (ccel x k h v b (.slice A l.length c))] w fun e w' => e = .returned (.tuple #[.agg (hcel (dgH t n x k h v b l)), .int .i64 (dgE t n v l)]) ∧ Nx w w' := by
  have HM := Lib.hid (fun w h => rmay_any iv ov t w h)
  have HT := Lib.hid ht
  have HL := Lib.hid hl
  have cz := Lib.hid info_tx
  have hc1 := Lib.hid (coinsz x k h v b (.slice A l.length c) hx)
  have HCM := Lib.hid (fun w hl => may_any x k h v b (.slice A l.length c) l w hx hl (by omega))
  have HCP := Lib.hid (fun w hl => rput_coin_any x k h v b (.slice A l.length c) l w hx hk hh hvv hl hr)
  obtain ⟨A0, c0, hiv, hi1, hi2, hel⟩ := ht.i.elem
  subst hiv
  have HEL := Lib.hid hel
  obtain ⟨B0, d0, rfl, -⟩ := ht.o.elem
  obtain ⟨hz, hzs⟩ := zero_of_info info_hash7
  have io := Lib.hid (show (Tryd.prog.info? 28).map (·.size) = some (hcel Z32).size by rw [hcel_size, Z32_length]; exact hzs)
  have HZL : Hid (Z32.length = 32) := Lib.hid Z32_length
  have K0 := Lib.hid (((Row.new w #[.slice A0 t.ins.length c0, .slice B0 t.outs.length d0, .int .u32 (t.after : Int)] 26 _ rfl).alloc (.cells (ccel x k h v b (.slice A l.length c)) 35)).alloc (.cells (hcel Z32) 28))
  have KC := Lib.hid ((Row.new2 w (.cells #[.slice A0 t.ins.length c0, .slice B0 t.outs.length d0, .int .u32 (t.after : Int)] 26) (ccel x k h v b (.slice A l.length c)) 35).alloc (.cells (hcel Z32) 28))
  have KH := Lib.hid (show Row (((w.alloc (.cells #[.slice A0 t.ins.length c0, .slice B0 t.outs.length d0, .int .u32 (t.after : Int)] 26)).alloc (.cells (ccel x k h v b (.slice A l.length c)) 35)).alloc (.cells (hcel Z32) 28)) (w.heap.size + 1 + 1) (hcel Z32) 28 by
    have := Row.new ((w.alloc (.cells #[.slice A0 t.ins.length c0, .slice B0 t.outs.length d0, .int .u32 (t.after : Int)] 26)).alloc (.cells (ccel x k h v b (.slice A l.length c)) 35)) (hcel Z32) 28 _ rfl
    have hs : ((w.alloc (.cells #[.slice A0 t.ins.length c0, .slice B0 t.outs.length d0, .int .u32 (t.after : Int)] 26)).alloc (.cells (ccel x k h v b (.slice A l.length c)) 35)).heap.size = w.heap.size + 1 + 1 := by simp
    rw [hs] at this
    exact this)
  have N0 := Lib.hid ((((Nx.refl w).alloc (.cells #[.slice A0 t.ins.length c0, .slice B0 t.outs.length d0, .int .u32 (t.after : Int)] 26)).alloc (.cells (ccel x k h v b (.slice A l.length c)) 35)).alloc (.cells (hcel Z32) 28))
  have S0 : Hid ((((w.alloc (.cells #[.slice A0 t.ins.length c0, .slice B0 t.outs.length d0, .int .u32 (t.after : Int)] 26)).alloc (.cells (ccel x k h v b (.slice A l.length c)) 35)).alloc (.cells (hcel Z32) 28)).heap.size = w.heap.size + 3) := Lib.hid (by simp)
  have a0 := K0.out.cell (i := 0) (v := .slice A0 t.ins.length c0) rfl
  have a1 := K0.out.cell (i := 1) (v := .slice B0 t.outs.length d0) rfl
  have a2 := K0.out.cell (i := 2) (v := .int .u32 (t.after : Int)) rfl
  cases hm : mayT t
  · obtain ⟨e1, e2⟩ := dg_no (t := t) (n := n) (x := x) (k := k) (h := h) (v := v) (b := b) (l := l) (by unfold dgOk; rw [hm]; rfl)
    rw [e1, e2]
    rw [hm] at HM
    clear hm e1 e2 ht hx hk hh hl hr hi1 hi2 HCP HCM hel HEL S0
    go_enter Tryd.func16, Tryd.ntmps16
    go_wp2_with fail
    refine (HM.out _ (HT.out.nx N0.out)).mono ?_
    rintro e w1 ⟨rfl, n1⟩
    have N1 := Lib.hid (N0.out.trans n1)
    have RH := KH.out.nx n1
    clear a0 a1 a2 n1 N0 K0 KC KH
    go_wp2_with (refine wpList_store_row rfl 28 (.tmp 6) (.tmp 33) rfl (w.heap.size + 1 + 1) (hcel Z32) rfl rfl 28 (hcel Z32) RH io.out rfl (hcel_one _) ?_)
    exact bodyPost_ret (results_cell_row2 Tryd.results16 _ _ (w.heap.size + 1 + 1) 28 (hcel Z32) (0, 0) _ rfl (RH.setRow _) Tryd.underlying28 rfl io.out) rfl ⟨rfl, N1.out.setRow _ (by omega)⟩
  have hq := (mayT_parts hm).1
  by_cases hn : 0 ≤ n ∧ n < (t.ins.length : Int)
  · obtain ⟨m, rfl⟩ := Int.eq_ofNat_of_zero_le hn.1
    have hm16 : (m : Int) ≤ 16 := by omega
    have hm0 : (0 : Int) ≤ (m : Int) := by omega
    have hlt1 : (m : Int) < (t.ins.length : Int) := hn.2
    have hge1 : decide ((t.ins.length : Int) ≤ (m : Int)) = false := decide_eq_false (by omega)
    have hge2 : decide (t.ins.length ≤ m) = false := decide_eq_false (by omega)
    have hge3 : decide ((m : Int) < 0) = false := decide_eq_false (by omega)
    cases hmb : mayB v l.length
    · obtain ⟨e1, e2⟩ := dg_no (t := t) (n := m) (x := x) (k := k) (h := h) (v := v) (b := b) (l := l) (by unfold dgOk; rw [hmb]; simp)
      rw [e1, e2]
      rw [hm] at HM
      rw [hmb] at HCM
      clear hm e1 e2 ht hx hk hh hl hr hmb hq hn hi1 hi2 HCP hel HEL S0
      go_enter Tryd.func16, Tryd.ntmps16
      go_wp2_with fail
      refine (HM.out _ (HT.out.nx N0.out)).mono ?_
      rintro e w1 ⟨rfl, n1⟩
      have N1 := Lib.hid (N0.out.trans n1)
      have K1 := K0.out.nx n1
      have RH := Lib.hid (KH.out.nx n1)
      have RC := Lib.hid (KC.out.nx n1)
      clear a0 a1 a2 n1 N0 K0 KC KH
      have a0 := K1.cell (i := 0) (v := .slice A0 t.ins.length c0) rfl
      clear K1
      go_wp2_with (refine wpList_gT (by rfl) fun K hK => wp_load_row_of (some 29) rfl 35 (.tmp 5) rfl (w.heap.size + 1) rfl 35 (ccel x k h v b (.slice A l.length c)) _ RC.out Tryd.underlying35 rfl hc1.out (hK _ _ ?_))
      refine (HCM.out _ (HL.out.nx N1.out)).mono ?_
      rintro e w2 ⟨rfl, n2⟩
      have N2 := Lib.hid (N1.out.trans n2)
      have RH2 := RH.out.nx n2
      clear a0 n2 N1 RC RH
      go_wp2_with (refine wpList_store_row rfl 28 (.tmp 6) (.tmp 33) rfl (w.heap.size + 1 + 1) (hcel Z32) rfl rfl 28 (hcel Z32) RH2 io.out rfl (hcel_one _) ?_)
      exact bodyPost_ret (results_cell_row2 Tryd.results16 _ _ (w.heap.size + 1 + 1) 28 (hcel Z32) (0, 0) _ rfl (RH2.setRow _) Tryd.underlying28 rfl io.out) rfl ⟨rfl, N2.out.setRow _ (by omega)⟩
    · obtain ⟨e1, e2⟩ := dg_yes (t := t) (n := m) (x := x) (k := k) (h := h) (v := v) (b := b) (l := l) (by unfold dgOk; rw [hmb, hm]; simp; omega)
      have e3 : outE v l = 0 := by unfold outE; rw [hmb]; rfl
      obtain ⟨g1, g2, g3⟩ := dgB_len (t := t) (n := m) (x := x) (k := k) (h := h) (v := v) (b := b) (l := l) hm hx hk hh hmb
      rw [e1, e2, Int.toNat_natCast]
      rw [hm] at HM
      rw [e3] at HCP
      rw [hmb] at HCM
      have HRB : Hid (∀ W sv, RdE inEl W sv (t.ins.map bareI) → TxAt W (.slice A0 t.ins.length c0) (.slice B0 t.outs.length d0) t → Calls Tryd.prog 39 #[.agg #[sv, .slice B0 t.outs.length d0, .int .u32 (t.after : Int)]] W fun e w' => ∃ r, e = .returned r ∧ Own W.heap.size w' r (txB (bare t)) ∧ Nx W w') := Lib.hid (fun W sv hs x =>
        rbytes_any sv (.slice B0 t.outs.length d0) (bare t) W hs x.o x.a ⟨fun i hi => by
          obtain ⟨a, -, rfl⟩ := List.mem_map.1 (show i ∈ t.ins.map bareI from hi)
          exact Nat.zero_le _, x.g.2⟩ (by simpa [bare] using hq) (mayT_parts hm).2.1 (fun j hj => by simp [bare, bareI]))
      have HTW : Hid (∀ W v', Rd W v' (dgB t m x k h v b l) → Calls Tryd.prog 41 #[v'] W fun e w' => e = .returned (.agg (hcel (shaL (shaL (dgB t m x k h v b l))))) ∧ Nx W w') := Lib.hid fun W v' hv => rtw_any v' _ W hv (by unfold dgB; simp only [List.length_append]; omega)
      have HD : Hid (dgB t m x k h v b l = txB (bare t) ++ (putL m 2 ++ coinB x k h v b l)) := Lib.hid rfl
      have HIL : Hid ((shaL (shaL (dgB t m x k h v b l))).length = 32) := Lib.hid (shaL_length _)
      have HNB := Lib.hid (fun W => refPut_any m 2 W (by omega))
      have HG1 := Lib.hid g1
      have HG2 := Lib.hid g2
      have HG3 := Lib.hid g3
      have HQ16 := Lib.hid hq
      generalize shaL (shaL (dgB t m x k h v b l)) = I at *
      generalize dgB t m x k h v b l = D at *
      generalize coinB x k h v b l = C0 at *
      generalize txB (bare t) = L0 at *
      generalize putL m 2 = P0 at *
      have h2 := Lib.hid (hashsz I HIL.out)
      have h4 := Lib.hid (hashsame Z32 I HZL.out HIL.out)
      clear hm e1 e2 e3 ht hx hk hh hl hr hmb hn g1 g2 g3 hi1 hi2 hel
      go_enter Tryd.func16, Tryd.ntmps16
      go_wp2_with fail
      refine (HM.out _ (HT.out.nx N0.out)).mono ?_
      rintro e w1 ⟨rfl, n1⟩
      have N1 := Lib.hid (N0.out.trans n1)
      have S1 : Hid (w.heap.size + 3 ≤ w1.heap.size) := Lib.hid (by have := n1.size; have := S0.out; omega)
      have K1 := K0.out.nx n1
      have RH := Lib.hid (KH.out.nx n1)
      have RC := Lib.hid (KC.out.nx n1)
      clear a0 a1 a2 n1 N0 K0 KC KH S0
      have a0 := K1.cell (i := 0) (v := .slice A0 t.ins.length c0) rfl
      go_wp2_with (refine wpList_gT (by rfl) fun K hK => wp_load_row_of (some 29) rfl 35 (.tmp 5) rfl (w.heap.size + 1) rfl 35 (ccel x k h v b (.slice A l.length c)) _ RC.out Tryd.underlying35 rfl hc1.out (hK _ _ ?_))
      refine (HCM.out _ (HL.out.nx N1.out)).mono ?_
      rintro e w2 ⟨rfl, n2⟩
      have N2 := Lib.hid (N1.out.trans n2)
      have S2 : Hid (w.heap.size + 3 ≤ w2.heap.size) := Lib.hid (by have := n2.size; have := S1.out; omega)
      have K2 := K1.nx n2
      replace RH := Lib.hid (RH.out.nx n2)
      replace RC := Lib.hid (RC.out.nx n2)
      clear a0 n2 N1 K1 S1 HM HCM
      have a1 := K2.cell (i := 1) (v := .slice B0 t.outs.length d0) rfl
      have a2 := K2.cell (i := 2) (v := .int .u32 (t.after : Int)) rfl
      have KK := Lib.hid K2
      have RG := Lib.hid (Row.new w2 #[.slice none 0 0, .slice B0 t.outs.length d0, .int .u32 (t.after : Int)] 26 _ rfl)
      have NG := Lib.hid ((Nx.refl w2).alloc (.cells #[.slice none 0 0, .slice B0 t.outs.length d0, .int .u32 (t.after : Int)] 26))
      have HOG : Hid (OwnE inEl (w2.heap.size + 1) (w2.alloc (.cells #[.slice none 0 0, .slice B0 t.outs.length d0, .int .u32 (t.after : Int)] 26)) (.slice none 0 0) []) := Lib.hid (OwnE.nil _ _)
      have SG : Hid (w2.heap.size + 1 ≤ (w2.alloc (.cells #[.slice none 0 0, .slice B0 t.outs.length d0, .int .u32 (t.after : Int)] 26)).heap.size) := Lib.hid (by simp)
      clear K2
      go_wp2_with fail
      generalize w2.alloc (.cells #[.slice none 0 0, .slice B0 t.outs.length d0, .int .u32 (t.after : Int)] 26) = W2 at *
      clear a1 a2
      go_loopw [9] (fun i9 wr => ∃ (j : Nat) (sv : Value), i9 = .int .i64 (j : Int) ∧ j ≤ t.ins.length ∧ Hid (Nx w2 wr) ∧ Hid (w2.heap.size + 1 ≤ wr.heap.size) ∧ Hid (Row wr w2.heap.size #[sv, .slice B0 t.outs.length d0, .int .u32 (t.after : Int)] 26) ∧ Hid (OwnE inEl (w2.heap.size + 1) wr sv ((t.ins.take j).map bareI))) (fun i9 _ => t.ins.length - (intOf i9).toNat)
      case atStart => exact ⟨0, _, rfl, Nat.zero_le _, NG, SG, RG, HOG⟩
      case round =>
        clear NG SG RG HOG
        obtain ⟨j, sv, rfl, hj, NG, HGS, RG, HOE⟩ := hrel
        have KT := Lib.hid (KK.out.nx NG.out)
        have a0 := KT.out.cell (i := 0) (v := .slice A0 t.ins.length c0) rfl
        by_cases hlt : j < t.ins.length
        · obtain ⟨bb, o, cs, rfl, hb, ⟨uv, rfl, hok, hu⟩, hcell⟩ := HEL.out j hlt
          have HJ := Lib.hid hlt
          have hlt2 : (j : Int) < (t.ins.length : Int) := by omega
          have hj16 : (j : Int) < 16 := by omega
          have HES : Hid ((t.ins.take (j + 1)).map bareI = (t.ins.take j).map bareI ++ [bareI t.ins[j]]) := Lib.hid (by rw [List.take_succ_eq_append_getElem hlt, List.map_append]; rfl)
          have HLE : Hid (((t.ins.take j).map bareI).length ≤ 16) := Lib.hid (by have := HQ16.out; simp; omega)
          generalize hqq : t.ins[j] = q at *
          clear hqq
          have HOK := Lib.hid hok
          have HPS := Lib.hid (pointsz q.x q.n q.h hok.1)
          have HBU := Lib.hid (built_bare q hok)
          have HMK := Lib.hid (fun w => run_mkin (bareI q) (bareI_ok hok) none 0 0 w)
          have HLD : Hid (∀ W, Nx wr W → ∀ i v, (pcel q.x q.n q.h)[i]? = some v → W.cell? ⟨bb, o + j * 35 + i, none⟩ = some v) := Lib.hid (fun W hW i v hv => by
            rw [(N2.out.trans (NG.out.trans hW)).cell (p := ⟨bb, o + j * 35 + i, none⟩) hb]
            exact hcell i v (by have := icel_p q uv i v hv; simpa [icel] using this))
          have RS := RG.out
          have RT := KT.out
          clear hlt hj hok hcell hu hb hq
          have HBE : Hid (∀ a ∈ (t.ins.take j).map bareI, a.u = []) := Lib.hid (fun a ha => by obtain ⟨z, -, rfl⟩ := List.mem_map.1 ha; rfl)
          generalize hes : (t.ins.take j).map bareI = es at *
          clear hes
          go_wp2_with fail
          clear a0
          refine wp_region_J 13 [[], [0], [], [2], [], [3, 4], [5], [6], [7], [8], [1, 9], [0, 1, 2, 3, 4, 5, 6, 7, 8, 9, 10], [11, 10, 10, 0, 1, 2, 3, 4, 5, 6, 7, 8, 9, 10]] [some 46, some 47, some 48, some 49, some 50, some 51, some 52, some 53, some 54, some 55, some 56, some 57, none] (JD wr w2.heap.size w.heap.size sv (.slice (some ⟨bb, o, none⟩) t.ins.length c0) (.slice B0 t.outs.length d0) t.after j bb (o + j * 35) q es)
            (by kernel_rfl) (by kernel_rfl) (hord_of (by decide)) (by kernel_rfl) (by decide) (by decide) ?_ ?_ ?_
          · intro x_ _
            exact ⟨0, undef, fun j _ h => (by cases h), fun _ => ⟨(Nx.refl _).drew, fun h => (by cases h)⟩, fun h => (by cases h)⟩
          · intro L x_ tm w9 htm hJ hcl i hi hi0 hd hlate K hK
            obtain ⟨ga, sv', h1, h2, h3⟩ := hJ
            simp only [fillA, List.setIfInBounds_toArray, List.set_cons_zero, List.set_cons_succ] at htm
            subst htm
            have ch : ∀ a b, L a = false → a ∈ ([[], [0], [], [2], [], [3, 4], [5], [6], [7], [8], [1, 9], [0, 1, 2, 3, 4, 5, 6, 7, 8, 9, 10], [11, 10, 10, 0, 1, 2, 3, 4, 5, 6, 7, 8, 9, 10]] : List (List Nat)).getD b [] → L b = false := fun a b ha hm => by
              rcases hq : L b with _ | _
              · rfl
              · have := hcl b hq a hm; rw [ha] at this; cases this
            have hcs : i = 0 ∨ i = 1 ∨ i = 2 ∨ i = 3 ∨ i = 4 ∨ i = 5 ∨ i = 6 ∨ i = 7 ∨ i = 8 ∨ i = 9 ∨ i = 10 ∨ i = 11 ∨ i = 12 := by omega
            clear hi
            rcases hcs with rfl | rfl | rfl | rfl | rfl | rfl | rfl | rfl | rfl | rfl | rfl | rfl | rfl
            · exact wpOp_of rfl rfl (wp_val_of (some 46) rfl (.pointer (some ⟨w2.heap.size, 0, none⟩)) (by kernel_rfl) (hK _ _ (jd_pure 0 (by decide) (by decide) (by decide) h1 h2 h3)))
            · have e0 : x_ 0 = .pointer (some ⟨w2.heap.size, 0, none⟩) := h1 0 (by decide) (hd 0 (by decide))
              generalize x_ 0 = y0 at e0 hK ⊢
              subst e0
              have l10 : L 10 = false := hlate 10 (by decide)
              exact wpOp_of rfl rfl (wp_load_cell (some 47) rfl 22 (.tmp 46) rfl w2.heap.size 0 rfl sv _ ((Row.nx RS (h2 l10).1).cell (i := 0) rfl) Tryd.underlying22 rfl (hK _ _ (jd_pure 1 (by decide) (by decide) (by decide) h1 h2 h3)))
            · exact wpOp_of rfl rfl (wp_val_of (some 48) rfl (.pointer (some ⟨w.heap.size, 0, none⟩)) (by kernel_rfl) (hK _ _ (jd_pure 2 (by decide) (by decide) (by decide) h1 h2 h3)))
            · have e2 : x_ 2 = .pointer (some ⟨w.heap.size, 0, none⟩) := h1 2 (by decide) (hd 2 (by decide))
              generalize x_ 2 = y2 at e2 hK ⊢
              subst e2
              have l10 : L 10 = false := ch 9 10 (ch 8 9 (ch 7 8 (ch 6 7 (ch 5 6 (hlate 5 (by decide)) (by decide)) (by decide)) (by decide)) (by decide)) (by decide)
              exact wpOp_of rfl rfl (wp_load_cell (some 49) rfl 22 (.tmp 48) rfl w.heap.size 0 rfl (.slice (some ⟨bb, o, none⟩) t.ins.length c0) _ ((Row.nx RT (h2 l10).1).cell (i := 0) rfl) Tryd.underlying22 rfl (hK _ _ (jd_pure 3 (by decide) (by decide) (by decide) h1 h2 h3)))
            · exact wpOp_of rfl rfl (wp_val_of (some 50) rfl (.int .i64 (j : Int)) (by kernel_rfl) (hK _ _ (jd_pure 4 (by decide) (by decide) (by decide) h1 h2 h3)))
            · have e3 : x_ 3 = .slice (some ⟨bb, o, none⟩) t.ins.length c0 := h1 3 (by decide) (hd 3 (by decide))
              generalize x_ 3 = y3 at e3 hK ⊢
              subst e3
              have e4 : x_ 4 = .int .i64 (j : Int) := h1 4 (by decide) (hd 4 (by decide))
              generalize x_ 4 = y4 at e4 hK ⊢
              subst e4
              exact wpOp_of rfl rfl (wp_ix_of (some 51) rfl 22 55 (.tmp 49) (.tmp 50) rfl Tryd.underlying22 35 Tryd.sizeOf55 bb o t.ins.length c0 j (j : Int) rfl rfl rfl HJ.out (hK _ _ (jd_pure 5 (by decide) (by decide) (by decide) h1 h2 h3)))
            · have e5 : x_ 5 = .pointer (some ⟨bb, o + j * 35, none⟩) := h1 5 (by decide) (hd 5 (by decide))
              generalize x_ 5 = y5 at e5 hK ⊢
              subst e5
              exact wpOp_of rfl rfl (wp_val_of (some 52) rfl (.pointer (some ⟨bb, o + j * 35, none⟩)) (by kernel_rfl) (hK _ _ (jd_pure 6 (by decide) (by decide) (by decide) h1 h2 h3)))
            · have e6 : x_ 6 = .pointer (some ⟨bb, o + j * 35, none⟩) := h1 6 (by decide) (hd 6 (by decide))
              generalize x_ 6 = y6 at e6 hK ⊢
              subst e6
              have l10 : L 10 = false := ch 9 10 (ch 8 9 (hlate 8 (by decide)) (by decide)) (by decide)
              exact wpOp_of rfl rfl (wp_load_at (some 53) rfl 31 (.tmp 52) rfl bb (o + j * 35) rfl (pcel q.x q.n q.h) _ (HLD.out w9 (h2 l10).1) Tryd.underlying31 rfl HPS.out (hK _ _ (jd_pure 7 (by decide) (by decide) (by decide) h1 h2 h3)))
            · have e7 : x_ 7 = .agg (pcel q.x q.n q.h) := h1 7 (by decide) (hd 7 (by decide))
              generalize x_ 7 = y7 at e7 hK ⊢
              subst e7
              exact wpOp_of rfl rfl (wp_built_of 55 _ rfl [(0, .agg (pcel q.x q.n q.h))] (by kernel_rfl) _ HBU.out (hK _ _ (jd_pure 8 (by decide) (by decide) (by decide) h1 h2 h3)))
            · have e8 : x_ 8 = .agg (icel (bareI q) (.slice none 0 0)) := h1 8 (by decide) (hd 8 (by decide))
              generalize x_ 8 = y8 at e8 hK ⊢
              subst e8
              have l10 : L 10 = false := hlate 10 (by decide)
              exact wpOp_of rfl rfl (wp_mk_of (some 55) rfl 22 1 _ rfl (#[(0, .agg (icel (bareI q) (.slice none 0 0)))]) (by kernel_rfl) _ _ (HMK.out w9) (hK _ _ (jd_mk hi0 l10 h1 (h2 l10).1)))
            · have e1 : x_ 1 = sv := h1 1 (by decide) (hd 1 (by decide))
              generalize x_ 1 = y1 at e1 hK ⊢
              subst e1
              have e9 : x_ 9 = .slice (some ⟨ga, 0, none⟩) 1 1 := h1 9 (by decide) (hd 9 (by decide))
              generalize x_ 9 = y9 at e9 hK ⊢
              subst e9
              have l11 : L 11 = false := hlate 11 (by decide)
              have l12 : L 12 = false := hlate 12 (by decide)
              obtain ⟨n9, k9⟩ := h2 hi0
              obtain ⟨hga, rga⟩ := k9 (hd 9 (by decide))
              refine wpOp_of rfl rfl (wp_appE_of inEl (some 56) rfl (.tmp 47) (.tmp 55) 22 rfl (.agg (icel inZ (.slice none 0 0))) 64 Tryd.underlying22 info_in3 inzsz (w2.heap.size + 1) y1 (.slice (some ⟨ga, 0, none⟩) 1 1) es [bareI q] (icl (bareI q) (.slice none 0 0)) rfl rfl (HOE.out.nx n9) (rdF_row1 rga (icl_length _ _ (bareI_ok HOK.out)) (icl_one _ _ rfl)) (AllE.single ⟨_, rfl, bareI_ok HOK.out, Rd.nil _, fun hp => by simp [bareI] at hp⟩) (by have := HLE.out; simp; omega) (by have := HLE.out; simp [maxLen]; omega) (Nat.le_trans HGS.out n9.size) ?_)
              intro v' w' o' b' _ _
              exact hK _ _ (jd_app hi0 l11 l12 h1 (Below.trans (Below.mono n9 HGS.out) b') o')
            · exact wpOp_of rfl rfl (wp_val_of (some 57) rfl (.pointer (some ⟨w2.heap.size, 0, none⟩)) (by kernel_rfl) (hK _ _ (jd_pure 11 (by decide) (by decide) (by decide) h1 h2 h3)))
            · have e11 : x_ 11 = .pointer (some ⟨w2.heap.size, 0, none⟩) := h1 11 (by decide) (hd 11 (by decide))
              generalize x_ 11 = y11 at e11 hK ⊢
              subst e11
              have e10 : x_ 10 = sv' := h1 10 (by decide) (hd 10 (by decide))
              generalize x_ 10 = y10 at e10 hK ⊢
              subst e10
              obtain ⟨W', b1, o1, k1, -⟩ := h3 (hd 10 (by decide))
              obtain rfl := k1 hi0
              obtain ⟨Ax, cx, hsx⟩ := ownE_sl o1
              refine wpOp_of rfl rfl (wp_store1_of 22 (.tmp 57) (.tmp 56) rfl w2.heap.size 0 y10 (by rw [hsx]; rfl) rfl rfl (by rw [hsx]; rfl) 26 #[sv, .slice B0 t.outs.length d0, .int .u32 (t.after : Int)] (row_beneath RS b1 (Nat.lt_succ_self _)) (by kernel_rfl) (by simp) (hK _ _ (jd_store hi0 (hd 10 (by decide)) h1 b1 o1)))
          · intro L x_ tm w9 htm hJ hall
            obtain ⟨ga, sv', h1, -, h3⟩ := hJ
            simp only [fillA, List.setIfInBounds_toArray, List.set_cons_zero, List.set_cons_succ] at htm
            subst htm
            have e0 : x_ 0 = .pointer (some ⟨w2.heap.size, 0, none⟩) := h1 0 (by decide) (hall 0 (by decide))
            rw [e0]
            have e1 : x_ 1 = sv := h1 1 (by decide) (hall 1 (by decide))
            rw [e1]
            have e2 : x_ 2 = .pointer (some ⟨w.heap.size, 0, none⟩) := h1 2 (by decide) (hall 2 (by decide))
            rw [e2]
            have e3 : x_ 3 = .slice (some ⟨bb, o, none⟩) t.ins.length c0 := h1 3 (by decide) (hall 3 (by decide))
            rw [e3]
            have e4 : x_ 4 = .int .i64 (j : Int) := h1 4 (by decide) (hall 4 (by decide))
            rw [e4]
            have e5 : x_ 5 = .pointer (some ⟨bb, o + j * 35, none⟩) := h1 5 (by decide) (hall 5 (by decide))
            rw [e5]
            have e6 : x_ 6 = .pointer (some ⟨bb, o + j * 35, none⟩) := h1 6 (by decide) (hall 6 (by decide))
            rw [e6]
            have e7 : x_ 7 = .agg (pcel q.x q.n q.h) := h1 7 (by decide) (hall 7 (by decide))
            rw [e7]
            have e8 : x_ 8 = .agg (icel (bareI q) (.slice none 0 0)) := h1 8 (by decide) (hall 8 (by decide))
            rw [e8]
            have e9 : x_ 9 = .slice (some ⟨ga, 0, none⟩) 1 1 := h1 9 (by decide) (hall 9 (by decide))
            rw [e9]
            have e10 : x_ 10 = sv' := h1 10 (by decide) (hall 10 (by decide))
            rw [e10]
            have e11 : x_ 11 = .pointer (some ⟨w2.heap.size, 0, none⟩) := h1 11 (by decide) (hall 11 (by decide))
            rw [e11]
            obtain ⟨W', b1, o1, -, k1⟩ := h3 (hall 10 (by decide))
            obtain rfl := k1 (hall 12 (by decide))
            clear h1 h3 hall k1 e0 e1 e2 e3 e4 e5 e6 e7 e8 e9 e10 e11
            have R5 := (row_beneath RS b1 (Nat.lt_succ_self _)).setRow #[sv', .slice B0 t.outs.length d0, .int .u32 (t.after : Int)]
            have q1 := Lib.hid ((NG.out.app (b1.mono (Nat.le_succ _))).setRow (g := w2.heap.size) #[sv', .slice B0 t.outs.length d0, .int .u32 (t.after : Int)] (Nat.le_refl _))
            have q2 := Lib.hid R5.lt
            have q3 := Lib.hid R5
            have q4 := Lib.hid (ownE_bare o1 (by
              intro a ha
              rcases List.mem_append.1 ha with h | h
              · exact HBE.out a h
              · rw [List.mem_singleton.1 h]; rfl) (Nat.lt_succ_self w2.heap.size) #[sv', .slice B0 t.outs.length d0, .int .u32 (t.after : Int)])
            clear b1 o1 R5 RS RT HOE RG KT NG HGS HLD HMK HBU HPS
            go_wp2_with fail
            go_roundw
            case rel => exact ⟨j + 1, sv', by go_num, HJ.out, q1, q2, q3, by rw [HES.out]; exact q4⟩
            case measure => have := HJ.out; simp [intOf]; omega
        · obtain rfl : j = t.ins.length := by omega
          have HRS := Lib.hid (show RdE inEl wr sv (t.ins.map bareI) by have := HOE.out.rd; rw [List.take_length] at this; exact this)
          have HR3 := Lib.hid (RH.out.nx NG.out)
          have HC3 := Lib.hid (RC.out.nx NG.out)
          have N3 := Lib.hid (N2.out.trans NG.out)
          clear hlt hj HOE HEL RH RC NG KT N2 KK
          go_wp2_with fail
          refine (HNB.out _).mono ?_
          rintro e w4 ⟨r4, rfl, o4, n4⟩
          have O4 := Lib.hid o4.rd
          obtain ⟨A4, c4, rfl, -⟩ := o4.rd
          have N4 := Lib.hid (N3.out.trans n4)
          replace HRS := Lib.hid (HRS.out.nx n4)
          replace HR3 := Lib.hid (HR3.out.nx n4)
          have RC4 := HC3.out.nx n4
          replace RG := Lib.hid (RG.out.nx n4)
          clear n4 o4 N3 HC3 a0 HNB
          go_wp2_with (refine wpList_load_row rfl 35 (.tmp 5) rfl (w.heap.size + 1) rfl 35 (ccel x k h v b (.slice A l.length c)) (0, 0) _ RC4 Tryd.underlying35 rfl hc1.out ?_)
          refine (HCP.out _ (HL.out.nx N4.out)).mono ?_
          rintro e w5 ⟨r5, rfl, o5, n5⟩
          have O5 := Lib.hid o5.rd
          obtain ⟨A5, c5, rfl, -⟩ := o5.rd
          have N5 := Lib.hid (N4.out.trans n5)
          replace O4 := Lib.hid (O4.out.nx n5)
          replace HRS := Lib.hid (HRS.out.nx n5)
          replace HR3 := Lib.hid (HR3.out.nx n5)
          have RG5 := RG.out.nx n5
          clear n5 o5 N4 RC4 RG HCP
          obtain ⟨As, cs, hsv⟩ : ∃ A c, sv = .slice A (t.ins.map bareI).length c := by obtain ⟨A, c, e, _⟩ := HRS.out.elem; exact ⟨A, c, e⟩
          rw [List.length_map] at hsv
          subst hsv
          have a0 := RG5.cell (i := 0) (v := .slice As t.ins.length cs) rfl
          have a1 := RG5.cell (i := 1) (v := .slice B0 t.outs.length d0) rfl
          have a2 := RG5.cell (i := 2) (v := .int .u32 (t.after : Int)) rfl
          clear RG5
          go_wp2_with fail
          refine (HRB.out _ _ HRS.out (HT.out.nx N5.out)).mono ?_
          rintro e w6 ⟨r6, rfl, o6, n6⟩
          have O6 := Lib.hid o6
          obtain ⟨A6, c6, rfl, -⟩ := o6.rd
          have NN6 := Lib.hid n6
          have P4 := Lib.hid (O4.out.nx n6)
          clear n6 o6 O4 HRS a0 a1 a2 HRB
          go_wp2_with (first | (at_builtin; refine wpList_app rfl (.tmp 70) (.tmp 71) _ rfl Tryd.underlying33 info_u8p w5.heap.size (.slice A6 L0.length c6) (.slice A4 P0.length c4) L0 P0 rfl rfl O6.out P4.out (by have := HG1.out; have := HG2.out; omega) NN6.out.size ?_; intro vy wy oy bY _) | (at_builtin; refine wpList_app rfl (.tmp 72) (.tmp 73) _ rfl Tryd.underlying33 info_u8p w5.heap.size vy (.slice A5 C0.length c5) (L0 ++ P0) C0 rfl rfl oy (O5.out.nx (NN6.out.app bY)) (by have := HG1.out; have := HG2.out; have := HG3.out; simp; omega) (Nat.le_trans NN6.out.size bY.size) ?_; intro vz wz oz bz _))
          have nz := (NN6.out.app bY).app bz
          have N7 := Lib.hid (N5.out.trans nz)
          replace HR3 := Lib.hid (HR3.out.nx nz)
          have RD := oz.rd
          rw [List.append_assoc, ← HD.out] at RD
          have HRD := Lib.hid RD
          clear nz oy oz bY bz RD NN6 N5 O5 O6 P4
          refine (HTW.out _ _ HRD.out).mono ?_
          rintro e w8 ⟨rfl, n8⟩
          have N8 := Lib.hid (N7.out.trans n8)
          have RH2 := HR3.out.nx n8
          clear n8 N7 HR3 HTW HRD
          go_wp2_with (refine wpList_store_row rfl 28 (.tmp 6) (.tmp 75) rfl (w.heap.size + 1 + 1) (hcel I) rfl rfl 28 (hcel Z32) RH2 h2.out h4.out (hcel_one _) ?_)
          exact bodyPost_ret (results_cell_row2 Tryd.results16 _ _ (w.heap.size + 1 + 1) 28 (hcel I) (0, 0) _ rfl (RH2.setRow _) Tryd.underlying28 rfl h2.out) rfl ⟨rfl, N8.out.setRow _ (by omega)⟩
  · obtain ⟨e1, e2⟩ := dg_no (t := t) (n := n) (x := x) (k := k) (h := h) (v := v) (b := b) (l := l) (by
      unfold dgOk
      by_cases h0 : 0 ≤ n
      · have : ¬ n < (t.ins.length : Int) := fun h1 => hn ⟨h0, h1⟩
        simp [this]
      · simp [h0])
    rw [e1, e2]
    rw [hm] at HM
    by_cases h0 : n < 0
    · clear hm e1 e2 ht hx hk hh hl hr hq hn HCP HCM hi1 hi2 hel HEL S0
      go_enter Tryd.func16, Tryd.ntmps16
      go_wp2_with fail
      refine (HM.out _ (HT.out.nx N0.out)).mono ?_
      rintro e w1 ⟨rfl, n1⟩
      have N1 := Lib.hid (N0.out.trans n1)
      have RH := KH.out.nx n1
      clear a0 a1 a2 n1 N0 K0 KC KH
      go_wp2_with (refine wpList_store_row rfl 28 (.tmp 6) (.tmp 33) rfl (w.heap.size + 1 + 1) (hcel Z32) rfl rfl 28 (hcel Z32) RH io.out rfl (hcel_one _) ?_)
      exact bodyPost_ret (results_cell_row2 Tryd.results16 _ _ (w.heap.size + 1 + 1) 28 (hcel Z32) (0, 0) _ rfl (RH.setRow _) Tryd.underlying28 rfl io.out) rfl ⟨rfl, N1.out.setRow _ (by omega)⟩
    · have h5 : (t.ins.length : Int) ≤ n := by omega
      have h6 : ¬ n < 0 := h0
      clear hm e1 e2 ht hx hk hh hl hr hq hn HCP HCM hi1 hi2 h0 hel HEL S0
      go_enter Tryd.func16, Tryd.ntmps16
      go_wp2_with fail
      refine (HM.out _ (HT.out.nx N0.out)).mono ?_
      rintro e w1 ⟨rfl, n1⟩
      have N1 := Lib.hid (N0.out.trans n1)
      have RH := KH.out.nx n1
      have K1 := K0.out.nx n1
      clear a0 a1 a2 n1 N0 K0 KC KH
      have a0 := K1.cell (i := 0) (v := .slice A0 t.ins.length c0) rfl
      clear K1
      go_wp2_with (refine wpList_store_row rfl 28 (.tmp 6) (.tmp 33) rfl (w.heap.size + 1 + 1) (hcel Z32) rfl rfl 28 (hcel Z32) RH io.out rfl (hcel_one _) ?_)
      exact bodyPost_ret (results_cell_row2 Tryd.results16 _ _ (w.heap.size + 1 + 1) 28 (hcel Z32) (0, 0) _ rfl (RH.setRow _) Tryd.underlying28 rfl io.out) rfl ⟨rfl, N1.out.setRow _ (by omega)⟩
end Go.Proofs.YtnbonmkecmgphaaDoor
