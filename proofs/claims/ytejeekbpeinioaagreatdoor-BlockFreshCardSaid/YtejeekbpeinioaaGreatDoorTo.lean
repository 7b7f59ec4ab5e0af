/- TEXTS OF OUR OWN, IN ONE FILE. -/
import Derived.Test.YtejeekbpeinioaaGreatDoorTn
import Derived.Deep.QuietTactic
import Derived.BigQuiet
import Derived.Laws.AppendOwn
import Derived.Test.YtejeekbpeinioaaGreatDoorTm
section
namespace Go.Proofs.YtejeekbpeinioaaGreatDoor
open Go Go.RowKit
set_option linter.unusedVariables false
set_option linter.unusedSimpArgs false
set_option linter.unusedVariables false
set_option linter.unusedSimpArgs false

section
variable {P : Program}
/-- A place in a slice. -/
theorem run_ix (t e : TypeId) (ht : P.underlying t = some (.slice e)) (k : Nat) (hsz : ∀ w, (sizeOf e).run P w = .ok k w) (b o n c j : Nat) (z : Int) (hz : z = j) (hj : j < n) (w : World) :
    (Instr.indexAt t (.slice (some ⟨b, o, none⟩) n c) (.int .i64 z)).run P w = .ok (.pointer (some ⟨b, o + j * k, none⟩)) w := by
  subst hz
  have h1 : (j : Int) < (n : Int) := by omega
  simp [Instr.indexAt, asIntOf, run_underlying ht, hsz, h1, addr_add]
  intro h
  omega
theorem wp_ix_of {o : Oper} {a : Act} {w : World} {K : Act → World → Prop} {Q : Exit → Act → World → Prop} (dst : Option Tmp) (hd : o.dst = dst) (t e : TypeId) (x ix : Operand) (ho : o.op = .indexAddr t x ix)
    (ht : P.underlying t = some (.slice e)) (k : Nat) (hsz : ∀ w, (sizeOf e).run P w = .ok k w) (b q n c j : Nat) (z : Int) (hx : a.eval x = .slice (some ⟨b, q, none⟩) n c) (hi : a.eval ix = .int .i64 z) (hz : z = j) (hj : j < n)
    (h : K (a.put dst (.pointer (some ⟨b, q + j * k, none⟩))) w) : o.wp P a w K Q := by
  refine wp_val_of dst hd _ ?_ h
  unfold execOp
  simp only [ho, hx, hi]
  simp only [Sem.run_bind, run_ix t e ht k hsz b q n c j z hz hj w, Result.andThen_ok, Sem.run_pure]
end
set_option maxRecDepth 100000 in
set_option maxHeartbeats 8000000 in
theorem rbytes_any (iv ov : Value) (t : Txn) (w : World) (hi : RdE inEl w iv t.ins) (ho : RdE outEl w ov t.outs) (ha : t.after < 4294967296) (hg : TxG t) (hl1 : t.ins.length ≤ 16) (hl2 : t.outs.length ≤ 16) (hu3 : ∀ j (hj : j < t.ins.length), t.ins[j].u.length ≤ 3000) :
    Calls Tryz.prog 66 #[.agg #[iv, ov, .int .u32 (t.after : Int)]] w fun e w' => ∃ r, e = .returned r ∧ Own w.heap.size w' r (txB t) ∧ Nx w w' := by
  obtain ⟨A, c, rfl, hc1, hc2, hel⟩ := hi.elem
  obtain ⟨A2, c2, rfl, hd1, hd2, hel2⟩ := ho.elem
  clear hi ho
  have HG := Lib.hid hg
  have HU3 := Lib.hid hu3
  clear hg hu3
  have R0 := Row.new w #[.slice A t.ins.length c, .slice A2 t.outs.length c2, .int .u32 (t.after : Int)] 54 _ rfl
  have N0 := Lib.hid ((Nx.refl w).alloc (.cells #[.slice A t.ins.length c, .slice A2 t.outs.length c2, .int .u32 (t.after : Int)] 54))
  have HW := Lib.hid (show (w.alloc (.cells #[.slice A t.ins.length c, .slice A2 t.outs.length c2, .int .u32 (t.after : Int)] 54)).heap.size = w.heap.size + 1 by simp)
  have a0 := R0.cell (i := 0) (v := .slice A t.ins.length c) rfl
  replace R0 := Lib.hid R0
  unfold maxLen at hc2 hd2
  have HL1 := Lib.hid hl1
  have HL2 := Lib.hid hl2
  have HEL := Lib.hid hel
  have HEL2 := Lib.hid hel2
  have k1 : IntKind.u64.wrap (t.ins.length : Int) = (t.ins.length : Int) := by rw [IntKind.wrap_u64]; omega
  have k2 : IntKind.u64.wrap (t.outs.length : Int) = (t.outs.length : Int) := by rw [IntKind.wrap_u64]; omega
  have HC1 := Lib.hid (fun w => refCount_any t.ins.length w (by omega))
  have HC2 := Lib.hid (fun w => refCount_any t.outs.length w (by omega))
  have HCT := Lib.hid (countL_le t.ins.length)
  have HCT2 := Lib.hid (countL_le t.outs.length)
  have HAF := Lib.hid ha
  clear hel hel2 hl1 hl2 ha hc1 hc2 hd1 hd2
  go_enter Tryz.func66, Tryz.ntmps66
  go_wp2_with fail
  refine (HC1.out _).mono ?_
  rintro e w1 ⟨bv, rfl, o1, n1⟩
  rw [HW.out] at o1
  have O1 : Hid (Own (w.heap.size + 1) w1 bv (preB t.ins.length (t.ins.take 0))) := Lib.hid (by
    have e : preB t.ins.length (t.ins.take 0) = countL t.ins.length := by simp [preB, insB]
    rw [e]; exact o1)
  have NW := Lib.hid (N0.out.trans n1)
  have R1 := Lib.hid (R0.out.nx n1)
  have HS1 : Hid (w.heap.size + 1 ≤ w1.heap.size) := Lib.hid (by have := n1.size; rw [HW.out] at this; exact this)
  clear o1 n1 N0 R0 HW a0
  go_wp2_with fail
  go_loopw [3, 4] (fun bv iv wr => ∃ (bx : Value) (j : Nat), bx = bv ∧ iv = .int .i64 (j : Int) ∧ j ≤ t.ins.length ∧ Hid (Own (w.heap.size + 1) wr bx (preB t.ins.length (t.ins.take j))) ∧ Hid (Nx w wr) ∧ Hid (Row wr w.heap.size #[.slice A t.ins.length c, .slice A2 t.outs.length c2, .int .u32 (t.after : Int)] 54) ∧ Hid (w.heap.size + 1 ≤ wr.heap.size) ∧ Hid (∀ i (h : i < t.ins.length), i < j → InOk t.ins[i])) (fun _ iv _ => t.ins.length - (intOf iv).toNat)
  case atStart => exact ⟨_, 0, rfl, rfl, Nat.zero_le _, O1, NW, R1, HS1, Lib.hid (fun i _ h => absurd h (Nat.not_lt_zero _))⟩
  case round =>
    clear O1 NW R1 HS1
    obtain ⟨bx, j, rfl, rfl, hj, HO, HNW, HR, HB1, HA⟩ := hrel
    have a0 := HR.out.cell (i := 0) (v := .slice A t.ins.length c) rfl
    have hpl := insB_len (t.ins.take j) (fun x hx => by
      obtain ⟨i, hi, rfl⟩ := List.getElem_of_mem hx
      rw [List.length_take] at hi
      rw [List.getElem_take]
      exact ⟨HA.out i (by omega) (by omega), HU3.out i (by omega)⟩)
    have HPL : Hid ((preB t.ins.length (t.ins.take j)).length ≤ 49000) := Lib.hid (by
      have := HL1.out
      have := HCT.out
      rw [List.length_take] at hpl
      have : min j t.ins.length * 3057 ≤ 16 * 3057 := Nat.mul_le_mul_right _ (by omega)
      unfold preB; rw [List.length_append]; omega)
    clear hpl
    by_cases hlt : j < t.ins.length
    · obtain ⟨b, o, cs, rfl, hb, ⟨uv, rfl, hok, hu⟩, hcell⟩ := HEL.out j hlt
      have HJ := Lib.hid hlt
      have hlt1 : (j : Int) < (t.ins.length : Int) := by omega
      have hj16 : (j : Int) < 16 := by have := HL1.out; omega
      have HSN := Lib.hid (insB_snoc t.ins j hlt)
      have HQU := Lib.hid (HU3.out j hlt)
      have HGE : Hid (∀ i (h : i < t.ins.length), i < j + 1 → InOk t.ins[i]) := Lib.hid (fun i h hi => by
        by_cases he : i = j
        · subst he; exact hok
        · exact HA.out i h (by omega))
      generalize hq : t.ins[j] = q at *
      clear hq
      replace hb := Lib.hid hb
      have HLD := Lib.hid (fun i v (hv : (icel q uv)[i]? = some v) => show w.cell? ⟨b, o + j * 35 + i, none⟩ = some v from hcell i v (by simpa [icel] using hv))
      have HRU := Lib.hid hu.1
      have HU34 := Lib.hid (icel_u q uv hok)
      have HPS := Lib.hid (pointsz q.x q.n q.h hok.1)
      have HPP := Lib.hid (fun w => rputPoint_any q.x q.n q.h hok.1 hok.2.1 hok.2.2 w)
      have HP1 := Lib.hid (ptL_short q.x q.n q.h hok.1)
      have HP2 := Lib.hid (rowL_len q.u)
      have HRW := Lib.hid (fun w (h : Rd w uv q.u) => refRow_any _ q.u w h (by have := HQU.out; omega))
      have HSN2 : Hid (preB t.ins.length (t.ins.take (j + 1)) = preB t.ins.length (t.ins.take j) ++ ptL q.x q.n q.h ++ rowL q.u) := Lib.hid (by unfold preB; rw [HSN.out, List.append_assoc, List.append_assoc]; rfl)
      generalize hP1 : ptL q.x q.n q.h = P1 at *
      generalize hP2 : rowL q.u = P2 at *
      generalize hPB : preB t.ins.length (t.ins.take j) = PB at *
      clear hP1 hP2 hPB hlt hj hok hcell hu HA HEL
      go_wp2_with fail
      refine wp_region_sep (w.heap.size + 1) 17 [[], [], [1], [], [2, 3], [4], [5], [6], [0, 7, 7], [], [9], [], [10, 11], [12], [13], [14, 8], [8, 15, 15], [16, 16, 0, 1, 2, 3, 4, 5, 6, 7, 8, 9, 10, 11, 12, 13, 14, 15, 16]] [some 22, some 23, some 24, some 25, some 26, some 27, some 28, some 29, some 30, some 31, some 32, some 33, some 34, some 35, some 36, some 37, some 38] [3, 0, 0, 0, 0, 0, 0, 2, 2, 0, 0, 0, 0, 0, 0, 2, 2] [some 8, none, none, none, none, none, none, none, some 16, none, none, none, none, none, none, none, none, none] [none, none, none, none, none, none, none, none, some 0, none, none, none, none, none, none, none, some 8]
        [{ V := bx, l := PB }, { V := .pointer (some ⟨w.heap.size, 0, none⟩) }, { V := .slice (some ⟨b, o, none⟩) t.ins.length c }, { V := .int .i64 (j : Int) }, { V := .pointer (some ⟨b, o + j * 35, none⟩) }, { V := .pointer (some ⟨b, o + j * 35 + 0, none⟩) }, { V := .agg (pcel q.x q.n q.h) }, { l := P1 }, { l := PB ++ P1 }, { V := .pointer (some ⟨w.heap.size, 0, none⟩) }, { V := .slice (some ⟨b, o, none⟩) t.ins.length c }, { V := .int .i64 (j : Int) }, { V := .pointer (some ⟨b, o + j * 35, none⟩) }, { V := .pointer (some ⟨b, o + j * 35 + 34, none⟩) }, { V := uv }, { l := P2 }, { l := (PB ++ P1) ++ P2 }]
        HB1.out (by kernel_rfl) (by kernel_rfl) (hord_of (by decide)) (by kernel_rfl) (by decide) (by decide) (htail_of (by decide)) (stat4 (needs := [[], [], [1], [], [2, 3], [4], [5], [6], [0, 7, 7], [], [9], [], [10, 11], [12], [13], [14, 8], [8, 15, 15], [16, 16, 0, 1, 2, 3, 4, 5, 6, 7, 8, 9, 10, 11, 12, 13, 14, 15, 16]]) (cons := [some 8, none, none, none, none, none, none, none, some 16, none, none, none, none, none, none, none, none, none]) (src := [none, none, none, none, none, none, none, none, some 0, none, none, none, none, none, none, none, some 8]) (by decide)) (statS (by decide)) ?_ ?_ ?_ ?_ _ (by rfl) ?_
      · intro j hj h1 v w w' _ _
        have : j = 0 ∨ j = 1 ∨ j = 2 ∨ j = 3 ∨ j = 4 ∨ j = 5 ∨ j = 6 ∨ j = 7 ∨ j = 8 ∨ j = 9 ∨ j = 10 ∨ j = 11 ∨ j = 12 ∨ j = 13 ∨ j = 14 ∨ j = 15 ∨ j = 16 := by omega
        rcases this with rfl | rfl | rfl | rfl | rfl | rfl | rfl | rfl | rfl | rfl | rfl | rfl | rfl | rfl | rfl | rfl | rfl <;> exact trivial
      · intro j hj h1
        have : j = 0 ∨ j = 1 ∨ j = 2 ∨ j = 3 ∨ j = 4 ∨ j = 5 ∨ j = 6 ∨ j = 7 ∨ j = 8 ∨ j = 9 ∨ j = 10 ∨ j = 11 ∨ j = 12 ∨ j = 13 ∨ j = 14 ∨ j = 15 ∨ j = 16 := by omega
        rcases this with rfl | rfl | rfl | rfl | rfl | rfl | rfl | rfl | rfl | rfl | rfl | rfl | rfl | rfl | rfl | rfl | rfl
        · exact HO.out
        · cases h1
        · cases h1
        · cases h1
        · cases h1
        · cases h1
        · cases h1
        · cases h1
        · cases h1
        · cases h1
        · cases h1
        · cases h1
        · cases h1
        · cases h1
        · cases h1
        · cases h1
        · cases h1
      · intro i j hi hj hij h1 h2
        have h3 : i = 0 ∨ i = 1 ∨ i = 2 ∨ i = 3 ∨ i = 4 ∨ i = 5 ∨ i = 6 ∨ i = 7 ∨ i = 8 ∨ i = 9 ∨ i = 10 ∨ i = 11 ∨ i = 12 ∨ i = 13 ∨ i = 14 ∨ i = 15 ∨ i = 16 := by omega
        have h4 : j = 0 ∨ j = 1 ∨ j = 2 ∨ j = 3 ∨ j = 4 ∨ j = 5 ∨ j = 6 ∨ j = 7 ∨ j = 8 ∨ j = 9 ∨ j = 10 ∨ j = 11 ∨ j = 12 ∨ j = 13 ∨ j = 14 ∨ j = 15 ∨ j = 16 := by omega
        rcases h3 with rfl | rfl | rfl | rfl | rfl | rfl | rfl | rfl | rfl | rfl | rfl | rfl | rfl | rfl | rfl | rfl | rfl <;> first | (cases h1; done) | (rcases h4 with rfl | rfl | rfl | rfl | rfl | rfl | rfl | rfl | rfl | rfl | rfl | rfl | rfl | rfl | rfl | rfl | rfl <;> first | (cases h2; done) | exact absurd rfl hij)
      · intro x tm wr htm hbl hB i hi hd K hK
        simp only [fillA, List.setIfInBounds_toArray, List.set_cons_zero, List.set_cons_succ] at htm
        subst htm
        have hcs : i = 0 ∨ i = 1 ∨ i = 2 ∨ i = 3 ∨ i = 4 ∨ i = 5 ∨ i = 6 ∨ i = 7 ∨ i = 8 ∨ i = 9 ∨ i = 10 ∨ i = 11 ∨ i = 12 ∨ i = 13 ∨ i = 14 ∨ i = 15 ∨ i = 16 := by omega
        clear hi
        rcases hcs with rfl | rfl | rfl | rfl | rfl | rfl | rfl | rfl | rfl | rfl | rfl | rfl | rfl | rfl | rfl | rfl | rfl
        · exact wpOp_of rfl rfl (wp_val_of (some 22) rfl (bx) (by kernel_rfl) (hK _ _ ⟨rfl, Nx.refl _⟩))
        · exact wpOp_of rfl rfl (wp_val_of (some 23) rfl (.pointer (some ⟨w.heap.size, 0, none⟩)) (by kernel_rfl) (hK _ _ ⟨rfl, Nx.refl _⟩))
        · have e1 : x 1 = .pointer (some ⟨w.heap.size, 0, none⟩) := hd 1 (by decide)
          generalize x 1 = y1 at e1 hK ⊢
          subst e1
          exact wpOp_of rfl rfl (wp_load_cell (some 24) rfl 51 (.tmp 23) rfl w.heap.size 0 rfl (.slice (some ⟨b, o, none⟩) t.ins.length c) _ ((Row.blw HR.out hbl (Nat.lt_succ_self _)).cell (i := 0) rfl) Tryz.underlying51 rfl (hK _ _ ⟨rfl, Nx.refl _⟩))
        · exact wpOp_of rfl rfl (wp_val_of (some 25) rfl (.int .i64 (j : Int)) (by kernel_rfl) (hK _ _ ⟨rfl, Nx.refl _⟩))
        · have e2 : x 2 = .slice (some ⟨b, o, none⟩) t.ins.length c := hd 2 (by decide)
          generalize x 2 = y2 at e2 hK ⊢
          subst e2
          have e3 : x 3 = .int .i64 (j : Int) := hd 3 (by decide)
          generalize x 3 = y3 at e3 hK ⊢
          subst e3
          exact wpOp_of rfl rfl (wp_ix_of (some 26) rfl 51 59 (.tmp 24) (.tmp 25) rfl Tryz.underlying51 35 Tryz.sizeOf59 b o t.ins.length c j (j : Int) rfl rfl rfl HJ.out (hK _ _ ⟨rfl, Nx.refl _⟩))
        · have e4 : x 4 = .pointer (some ⟨b, o + j * 35, none⟩) := hd 4 (by decide)
          generalize x 4 = y4 at e4 hK ⊢
          subst e4
          exact wpOp_of rfl rfl (wp_val_of (some 27) rfl (.pointer (some ⟨b, o + j * 35 + 0, none⟩)) (by kernel_rfl) (hK _ _ ⟨rfl, Nx.refl _⟩))
        · have e5 : x 5 = .pointer (some ⟨b, o + j * 35 + 0, none⟩) := hd 5 (by decide)
          generalize x 5 = y5 at e5 hK ⊢
          subst e5
          exact wpOp_of rfl rfl (wp_load_at (some 28) rfl 57 (.tmp 27) rfl b (o + j * 35 + 0) rfl (pcel q.x q.n q.h) _ (fun i v hv => by rw [Nat.add_zero, (Below.trans HNW.out (Below.mono hbl (Nat.le_succ _))).cell (p := ⟨b, o + j * 35 + i, none⟩) hb.out]; exact HLD.out i v (icel_p q uv i v hv)) Tryz.underlying57 rfl HPS.out (hK _ _ ⟨rfl, Nx.refl _⟩))
        · have e6 : x 6 = .agg (pcel q.x q.n q.h) := hd 6 (by decide)
          generalize x 6 = y6 at e6 hK ⊢
          subst e6
          exact wpOp_of rfl rfl (wp_callp_of (some 29) rfl 93 #[(.agg (pcel q.x q.n q.h))] (by kernel_rfl) (fun v w' => Own wr.heap.size w' v (P1)) (HPP.out wr) (fun v w' h1 h2 => hK v w' ⟨h1, h2⟩))
        · have p0 := hd 0 (by decide)
          have e0 : x 0 = bx := p0.1
          have o0 : Own (w.heap.size + 1) wr (x 0) (PB) := p0.2 (by decide)
          have o7 : Own (w.heap.size + 1) wr (x 7) (P1) := hd 7 (by decide) (by decide)
          exact wpOp_of rfl rfl (wp_app_of (some 30) rfl (.tmp 22) (.tmp 29) 32 rfl Tryz.underlying32 info_u8p (w.heap.size + 1) (x 0) (x 7) (PB) (P1) rfl rfl o0 (o7.rd) (by have := HPL.out; have := HP1.out; omega) hB (fun v' w' h1 h2 h3 => hK v' w' ⟨h1, h2, h3⟩))
        · exact wpOp_of rfl rfl (wp_val_of (some 31) rfl (.pointer (some ⟨w.heap.size, 0, none⟩)) (by kernel_rfl) (hK _ _ ⟨rfl, Nx.refl _⟩))
        · have e9 : x 9 = .pointer (some ⟨w.heap.size, 0, none⟩) := hd 9 (by decide)
          generalize x 9 = y9 at e9 hK ⊢
          subst e9
          exact wpOp_of rfl rfl (wp_load_cell (some 32) rfl 51 (.tmp 31) rfl w.heap.size 0 rfl (.slice (some ⟨b, o, none⟩) t.ins.length c) _ ((Row.blw HR.out hbl (Nat.lt_succ_self _)).cell (i := 0) rfl) Tryz.underlying51 rfl (hK _ _ ⟨rfl, Nx.refl _⟩))
        · exact wpOp_of rfl rfl (wp_val_of (some 33) rfl (.int .i64 (j : Int)) (by kernel_rfl) (hK _ _ ⟨rfl, Nx.refl _⟩))
        · have e10 : x 10 = .slice (some ⟨b, o, none⟩) t.ins.length c := hd 10 (by decide)
          generalize x 10 = y10 at e10 hK ⊢
          subst e10
          have e11 : x 11 = .int .i64 (j : Int) := hd 11 (by decide)
          generalize x 11 = y11 at e11 hK ⊢
          subst e11
          exact wpOp_of rfl rfl (wp_ix_of (some 34) rfl 51 59 (.tmp 32) (.tmp 33) rfl Tryz.underlying51 35 Tryz.sizeOf59 b o t.ins.length c j (j : Int) rfl rfl rfl HJ.out (hK _ _ ⟨rfl, Nx.refl _⟩))
        · have e12 : x 12 = .pointer (some ⟨b, o + j * 35, none⟩) := hd 12 (by decide)
          generalize x 12 = y12 at e12 hK ⊢
          subst e12
          exact wpOp_of rfl rfl (wp_val_of (some 35) rfl (.pointer (some ⟨b, o + j * 35 + 34, none⟩)) (by kernel_rfl) (hK _ _ ⟨rfl, Nx.refl _⟩))
        · have e13 : x 13 = .pointer (some ⟨b, o + j * 35 + 34, none⟩) := hd 13 (by decide)
          generalize x 13 = y13 at e13 hK ⊢
          subst e13
          exact wpOp_of rfl rfl (wp_load_cell (some 36) rfl 32 (.tmp 35) rfl b (o + j * 35 + 34) rfl (uv) _ (by rw [(Below.trans HNW.out (Below.mono hbl (Nat.le_succ _))).cell (p := ⟨b, o + j * 35 + 34, none⟩) hb.out]; exact HLD.out 34 uv HU34.out) Tryz.underlying32 rfl (hK _ _ ⟨rfl, Nx.refl _⟩))
        · have e14 : x 14 = uv := hd 14 (by decide)
          generalize x 14 = y14 at e14 hK ⊢
          subst e14
          exact wpOp_of rfl rfl (wp_callp_of (some 37) rfl 94 #[y14] (by kernel_rfl) (fun v w' => Own wr.heap.size w' v (P2)) (HRW.out wr (HRU.out.nx (Below.trans HNW.out (Below.mono hbl (Nat.le_succ _))))) (fun v w' h1 h2 => hK v w' ⟨h1, h2⟩))
        · have o8 : Own (w.heap.size + 1) wr (x 8) (PB ++ P1) := hd 8 (by decide) (by decide)
          have o15 : Own (w.heap.size + 1) wr (x 15) (P2) := hd 15 (by decide) (by decide)
          exact wpOp_of rfl rfl (wp_app_of (some 38) rfl (.tmp 30) (.tmp 37) 32 rfl Tryz.underlying32 info_u8p (w.heap.size + 1) (x 8) (x 15) ((PB ++ P1)) (P2) rfl rfl o8 (o15.rd) (by have := HPL.out; have := HP1.out; have := HP2.out; have := HQU.out; rw [List.length_append]; omega) hB (fun v' w' h1 h2 h3 => hK v' w' ⟨h1, h2, h3⟩))
      · intro x tm wr htm hbl hv
        simp only [fillA, List.setIfInBounds_toArray, List.set_cons_zero, List.set_cons_succ] at htm
        subst htm
        have HOL : Hid (Own (w.heap.size + 1) wr (x 16) (preB t.ins.length (t.ins.take (j + 1)))) := Lib.hid (by rw [HSN2.out]; exact hv 16 (by decide) (by decide))
        have HN2 := Lib.hid (Below.trans HNW.out (Below.mono hbl (Nat.le_succ _)))
        have HR2 := Lib.hid (Row.blw HR.out hbl (Nat.lt_succ_self _))
        have HB2 : Hid (w.heap.size + 1 ≤ wr.heap.size) := Lib.hid (Nat.le_trans HB1.out hbl.size)
        clear hv hbl a0
        go_wp2_with fail
        go_roundw
        case rel => exact ⟨_, j + 1, rfl, by go_num, HJ.out, HOL, HN2, HR2, HB2, HGE⟩
        case measure => have := HJ.out; simp [intOf]; omega
    · obtain rfl : j = t.ins.length := by omega
      have HA2 := Lib.hid (fun i (h : i < t.ins.length) => HA.out i h h)
      have HPL2 : Hid ((preB t.ins.length t.ins).length ≤ 49000) := Lib.hid (by
        have := HPL.out
        rwa [List.take_length] at this)
      have HO2 : Hid (Own (w.heap.size + 1) wr bx (preB t.ins.length t.ins)) := Lib.hid (by
        have := HO.out
        rwa [List.take_length] at this)
      have a1 := HR.out.cell (i := 1) (v := .slice A2 t.outs.length c2) rfl
      clear hlt hj HA HO HPL HEL
      go_wp2_with fail
      refine (HC2.out _).mono ?_
      rintro e w2 ⟨cv, rfl, o2, n2⟩
      have HCR := Lib.hid o2.rd
      replace HO2 := Lib.hid (HO2.out.nx n2)
      replace HR := Lib.hid (HR.out.nx n2)
      replace HNW := Lib.hid (HNW.out.trans n2)
      replace HB1 : Hid (w.heap.size + 1 ≤ w2.heap.size) := Lib.hid (Nat.le_trans HB1.out n2.size)
      clear o2 n2 a1 a0
      go_wp2_with (at_builtin; refine wpList_app rfl (.tmp 39) (.tmp 44) _ rfl Tryz.underlying32 info_u8p (w.heap.size + 1) _ _ (preB t.ins.length t.ins) (countL t.outs.length) rfl rfl HO2.out HCR.out ?c2 ?c3 ?_)
      case c2 => have := HPL2.out; have := HCT2.out; omega
      case c3 => exact HB1.out
      intro v3 w3 o3 b3 _
      have HO3 : Hid (Own (w.heap.size + 1) w3 v3 (midB t.ins.length t.ins t.outs.length (t.outs.take 0))) := Lib.hid (by
        have e : midB t.ins.length t.ins t.outs.length (t.outs.take 0) = preB t.ins.length t.ins ++ countL t.outs.length := by simp [midB, outsB]
        rw [e]; exact o3)
      have HN3 := Lib.hid (Below.trans HNW.out (b3.mono (Nat.le_succ _)))
      have HR3 := Lib.hid (Row.blw HR.out b3 (Nat.lt_succ_self _))
      have HB3 : Hid (w.heap.size + 1 ≤ w3.heap.size) := Lib.hid (Nat.le_trans HB1.out b3.size)
      clear o3 b3 HO2 HNW HR HB1 HCR
      go_wp2_with fail
      go_loopw [3, 5] (fun bv iv wr => ∃ (bx : Value) (k : Nat), bx = bv ∧ iv = .int .i64 (k : Int) ∧ k ≤ t.outs.length ∧ Hid (Own (w.heap.size + 1) wr bx (midB t.ins.length t.ins t.outs.length (t.outs.take k))) ∧ Hid (Nx w wr) ∧ Hid (Row wr w.heap.size #[.slice A t.ins.length c, .slice A2 t.outs.length c2, .int .u32 (t.after : Int)] 54) ∧ Hid (w.heap.size + 1 ≤ wr.heap.size)) (fun _ iv _ => t.outs.length - (intOf iv).toNat)
      case atStart => exact ⟨_, 0, rfl, rfl, Nat.zero_le _, HO3, HN3, HR3, HB3⟩
      case round =>
        clear HO3 HN3 HR3 HB3
        obtain ⟨bx, k, rfl, rfl, hk, HO, HN, HR, HB⟩ := hrel
        have a1 := HR.out.cell (i := 1) (v := .slice A2 t.outs.length c2) rfl
        have HQL : Hid ((midB t.ins.length t.ins t.outs.length (t.outs.take k)).length ≤ 53000) := Lib.hid (by
          have h1 := outsB_len (t.outs.take k)
          have := HPL2.out
          have := HCT2.out
          have := HL2.out
          rw [List.length_take] at h1
          have : min k t.outs.length * 200 ≤ 16 * 200 := Nat.mul_le_mul_right _ (by omega)
          unfold midB; rw [List.length_append, List.length_append]; omega)
        by_cases hlt : k < t.outs.length
        · obtain ⟨b, o, cs, rfl, hb, ⟨uv, rfl, hok, hu⟩, hcell⟩ := HEL2.out k hlt
          have HJ := Lib.hid hlt
          have hlt1 : (k : Int) < (t.outs.length : Int) := by omega
          have hk16 : (k : Int) < 16 := by have := HL2.out; omega
          have HSN := Lib.hid (outsB_snoc t.outs k hlt)
          have hgq : Hid (t.outs[k].l.length ≤ 140737488351232) := Lib.hid (HG.out.2 _ (List.getElem_mem hlt))
          generalize hq : t.outs[k] = q at *
          clear hq
          have HRU := Lib.hid (hu.1.nx HN.out)
          obtain ⟨A3, c3, rfl⟩ := hu.sl
          have HLD : Hid (∀ i v, (#[.int .u64 (q.v : Int), .slice A3 q.l.length c3] : Array Value)[i]? = some v → wr.cell? ⟨b, o + k * 2 + i, none⟩ = some v) := Lib.hid (fun i v hv => by
            rw [HN.out.cell (p := ⟨b, o + k * 2 + i, none⟩) hb]
            exact hcell i v (by simpa using hv))
          have HPO : Hid (∀ w, Rd w (.slice A3 q.l.length c3) q.l → Calls Tryz.prog 95 #[.agg #[.int .u64 (q.v : Int), .slice A3 q.l.length c3]] w fun e w' => ∃ r, e = .returned (.tuple #[r, .int .i64 (outE q.v q.l)]) ∧ Own w.heap.size w' r (outB q.v q.l) ∧ Nx w w') := Lib.hid (fun w h => rputOut_any q.v _ q.l w (by omega) h hgq.out)
          have HOBL := Lib.hid (outB_len q.v q.l)
          have hso := Lib.hid outsz
          clear hlt hk hok hcell hu hb
          go_wp2_with (refine wpList_load_at rfl 62 (.tmp 57) rfl b (o + k * 2) rfl #[.int .u64 (q.v : Int), .slice A3 q.l.length c3] _ HLD.out Tryz.underlying62 rfl hso.out ?_)
          refine (HPO.out _ HRU.out).mono ?_
          rintro e w4 ⟨rv, rfl, o4, n4⟩
          have HRV := Lib.hid o4.rd
          replace HO := Lib.hid (HO.out.nx n4)
          replace HN := Lib.hid (HN.out.trans n4)
          replace HR := Lib.hid (HR.out.nx n4)
          replace HB : Hid (w.heap.size + 1 ≤ w4.heap.size) := Lib.hid (Nat.le_trans HB.out n4.size)
          clear o4 n4 HLD HRU a1
          go_wp2_with (at_builtin; refine wpList_app rfl (.tmp 62) (.tmp 63) _ rfl Tryz.underlying32 info_u8p (w.heap.size + 1) _ _ (midB t.ins.length t.ins t.outs.length (t.outs.take k)) (outB q.v q.l) rfl rfl HO.out HRV.out ?d2 ?d3 ?_)
          case d2 => have := HQL.out; have := HOBL.out; omega
          case d3 => exact HB.out
          intro v5 w5 o5 b5 _
          have HO5 : Hid (Own (w.heap.size + 1) w5 v5 (midB t.ins.length t.ins t.outs.length (t.outs.take (k + 1)))) := Lib.hid (by
            have e : midB t.ins.length t.ins t.outs.length (t.outs.take (k + 1)) = midB t.ins.length t.ins t.outs.length (t.outs.take k) ++ outB q.v q.l := by
              unfold midB; rw [HSN.out, List.append_assoc]; simp only [List.append_assoc]
            rw [e]; exact o5)
          have HN5 := Lib.hid (Below.trans HN.out (b5.mono (Nat.le_succ _)))
          have HR5 := Lib.hid (Row.blw HR.out b5 (Nat.lt_succ_self _))
          have HB5 : Hid (w.heap.size + 1 ≤ w5.heap.size) := Lib.hid (Nat.le_trans HB.out b5.size)
          clear o5 b5 HO HN HR HB HRV
          go_wp2_with fail
          go_roundw
          case rel => exact ⟨_, k + 1, rfl, by go_num, HJ.out, HO5, HN5, HR5, HB5⟩
          case measure => have := HJ.out; simp [intOf]; omega
        · obtain rfl : k = t.outs.length := by omega
          have HO6 : Hid (Own (w.heap.size + 1) wr bx (midB t.ins.length t.ins t.outs.length t.outs)) := Lib.hid (by
            have := HO.out
            rwa [List.take_length] at this)
          have HQL2 : Hid ((midB t.ins.length t.ins t.outs.length t.outs).length ≤ 53000) := Lib.hid (by
            have := HQL.out
            rwa [List.take_length] at this)
          have a2 := HR.out.cell (i := 2) (v := .int .u32 (t.after : Int)) rfl
          have ka : IntKind.u64.wrap (t.after : Int) = (t.after : Int) := by rw [IntKind.wrap_u64]; have := HAF.out; omega
          have HPT := Lib.hid (fun w => refPut_any t.after 4 w (by have := HAF.out; omega))
          clear hlt hk HO HQL
          go_wp2_with fail
          refine (HPT.out _).mono ?_
          rintro e w6 ⟨nv, rfl, o6, n6⟩
          have HNV := Lib.hid o6.rd
          replace HO6 := Lib.hid (HO6.out.nx n6)
          replace HN := Lib.hid (HN.out.trans n6)
          replace HB : Hid (w.heap.size + 1 ≤ w6.heap.size) := Lib.hid (Nat.le_trans HB.out n6.size)
          have HPS := Lib.hid (putL_short t.after 4)
          clear o6 n6 a2 a1
          go_wp2_with (at_builtin; refine wpList_app rfl (.tmp 72) (.tmp 73) _ rfl Tryz.underlying32 info_u8p (w.heap.size + 1) _ _ (midB t.ins.length t.ins t.outs.length t.outs) (putL t.after 4) rfl rfl HO6.out HNV.out ?f2 ?f3 ?_)
          case f2 => have := HQL2.out; have := HPS.out; omega
          case f3 => exact HB.out
          intro v7 w7 o7 b7 _
          have HO7 : Hid (Own (w.heap.size + 1) w7 v7 (txB t)) := Lib.hid o7
          have HN7 := Lib.hid (Below.trans HN.out (b7.mono (Nat.le_succ _)))
          clear o7 b7 HO6 HN HB HNV
          go_wp2_with fail
          go_ret
          exact ⟨_, rfl, HO7.out.mono (Nat.le_succ _), HN7.out⟩
end Go.Proofs.YtejeekbpeinioaaGreatDoor
end

section
namespace Go.Proofs.YtejeekbpeinioaaGreatDoor
open Go Go.RowKit
set_option linter.unusedVariables false
set_option linter.unusedSimpArgs false

/-- A transaction lies here. -/
structure TxAt (w : World) (iv ov : Value) (t : Txn) : Prop where
  i : RdE inEl w iv t.ins
  o : RdE outEl w ov t.outs
  a : t.after < 4294967296
  g : TxG t
theorem TxAt.nx {w w' : World} {iv ov : Value} {t : Txn} (h : TxAt w iv ov t) (k : Nx w w') : TxAt w' iv ov t := ⟨h.i.nx k, h.o.nx k, h.a, h.g⟩
set_option maxRecDepth 100000 in
set_option maxHeartbeats 8000000 in
theorem rmay_any (iv ov : Value) (t : Txn) (w : World) (h : TxAt w iv ov t) :
    Calls Tryz.prog 62 #[.agg #[iv, ov, .int .u32 (t.after : Int)]] w fun e w' => e = .returned (.bool (mayT t)) ∧ Nx w w' := by
  have HT := Lib.hid h
  obtain ⟨A, c, rfl, hc1, hc2, hel⟩ := h.i.elem
  obtain ⟨A2, c2, rfl, hd1, hd2, hel2⟩ := h.o.elem
  have HG := Lib.hid h.g
  clear h
  have R0 := Row.new w #[.slice A t.ins.length c, .slice A2 t.outs.length c2, .int .u32 (t.after : Int)] 54 _ rfl
  have N0 := Lib.hid ((Nx.refl w).alloc (.cells #[.slice A t.ins.length c, .slice A2 t.outs.length c2, .int .u32 (t.after : Int)] 54))
  have a0 := R0.cell (i := 0) (v := .slice A t.ins.length c) rfl
  have a1 := R0.cell (i := 1) (v := .slice A2 t.outs.length c2) rfl
  replace R0 := Lib.hid R0
  unfold maxLen at hc2 hd2
  by_cases hlen : ¬ (t.ins.length ≤ 16 ∧ t.outs.length ≤ 16)
  · have e1 := mayT_false_len hlen
    rw [e1]
    clear e1 hel hel2
    by_cases h1 : t.ins.length ≤ 16
    · have h5 : ¬ t.outs.length ≤ 16 := fun h => hlen ⟨h1, h⟩
      have h2 : (16 : Int) < (t.outs.length : Int) := by omega
      have h3 : ¬ (16 : Int) < (t.ins.length : Int) := by omega
      clear hlen h1 h5
      go_enter Tryz.func62, Tryz.ntmps62
      go_wp2_with fail
      go_ret
      exact ⟨rfl, N0.out⟩
    · have h3 : (16 : Int) < (t.ins.length : Int) := by omega
      clear hlen h1
      go_enter Tryz.func62, Tryz.ntmps62
      go_wp2_with fail
      go_ret
      exact ⟨rfl, N0.out⟩
  obtain ⟨hl1, hl2⟩ := Classical.not_not.1 hlen
  clear hlen
  have HL1 := Lib.hid hl1
  have HL2 := Lib.hid hl2
  have HEL := Lib.hid hel
  have HEL2 := Lib.hid hel2
  have h3 : ¬ (16 : Int) < (t.ins.length : Int) := by omega
  have h4 : ¬ (16 : Int) < (t.outs.length : Int) := by omega
  have cz := Lib.hid info_tx
  clear hel hel2 hl1 hl2 hc1 hc2 hd1 hd2
  go_enter Tryz.func62, Tryz.ntmps62
  go_wp2_with fail
  go_loopw [3] (fun iv wr => ∃ j : Nat, iv = .int .i64 (j : Int) ∧ j ≤ t.ins.length ∧ Hid (Nx w wr) ∧ Hid (Row wr w.heap.size #[.slice A t.ins.length c, .slice A2 t.outs.length c2, .int .u32 (t.after : Int)] 54) ∧ Hid (∀ i (h : i < t.ins.length), i < j → t.ins[i].u.length ≤ 3000)) (fun iv _ => t.ins.length - (intOf iv).toNat)
  case atStart => exact ⟨0, rfl, Nat.zero_le _, N0, R0, Lib.hid (fun i _ h => absurd h (Nat.not_lt_zero _))⟩
  case round =>
    clear N0 R0 a0 a1
    obtain ⟨j, rfl, hj, HN, HR, HA⟩ := hrel
    have a0 := HR.out.cell (i := 0) (v := .slice A t.ins.length c) rfl
    by_cases hlt : j < t.ins.length
    · obtain ⟨b, o, cs, rfl, hb, ⟨uv, rfl, hok, hu⟩, hcell⟩ := HEL.out j hlt
      have HJ := Lib.hid hlt
      have hlt1 : (j : Int) < (t.ins.length : Int) := by omega
      have hj16 : (j : Int) < 16 := by have := HL1.out; omega
      have HBAD := Lib.hid (fun h => mayT_false_in (t := t) j hlt h)
      have HGE : Hid (∀ (hs : t.ins[j].u.length ≤ 3000) i (h : i < t.ins.length), i < j + 1 → t.ins[i].u.length ≤ 3000) := Lib.hid (fun hs i h hi => by
        by_cases he : i = j
        · subst he; exact hs
        · exact HA.out i h (by omega))
      generalize hq : t.ins[j] = q at *
      clear hq
      have hcu : wr.cell? ⟨b, o + j * 35 + 34, none⟩ = some uv := by
        rw [HN.out.cell (p := ⟨b, o + j * 35 + 34, none⟩) hb]
        exact hcell 34 uv (by have := icel_u q uv hok; simpa [icel] using this)
      obtain ⟨A3, c3, rfl⟩ := hu.sl
      clear hlt hj hok hcell hu hb HA
      by_cases hs : q.u.length ≤ 3000
      · have hs1 : ¬ (3000 : Int) < (q.u.length : Int) := by omega
        have HS := Lib.hid hs
        clear hs
        go_wp2_with fail
        go_roundw
        case rel => exact ⟨j + 1, by go_num, HJ.out, HN, HR, Lib.hid (HGE.out HS.out)⟩
        case measure => have := HJ.out; simp [intOf]; omega
      · have hs1 : (3000 : Int) < (q.u.length : Int) := by omega
        have e1 := Lib.hid (HBAD.out hs)
        clear hs HBAD
        go_wp2_with fail
        go_ret
        exact ⟨by rw [e1.out]; rfl, HN.out⟩
    · obtain rfl : j = t.ins.length := by omega
      have HA2 := Lib.hid (fun i (h : i < t.ins.length) => HA.out i h h)
      clear hlt hj HA HEL
      go_wp2_with fail
      go_loopw [4] (fun iv wr => ∃ k : Nat, iv = .int .i64 (k : Int) ∧ k ≤ t.outs.length ∧ Hid (Nx w wr) ∧ Hid (Row wr w.heap.size #[.slice A t.ins.length c, .slice A2 t.outs.length c2, .int .u32 (t.after : Int)] 54) ∧ Hid (∀ i (h : i < t.outs.length), i < k → mayB t.outs[i].v t.outs[i].l.length = true)) (fun iv _ => t.outs.length - (intOf iv).toNat)
      case atStart => exact ⟨0, rfl, Nat.zero_le _, HN, HR, Lib.hid (fun i _ h => absurd h (Nat.not_lt_zero _))⟩
      case round =>
        clear HN HR a0
        obtain ⟨k, rfl, hk, HN, HR, HM⟩ := hrel
        have a1 := HR.out.cell (i := 1) (v := .slice A2 t.outs.length c2) rfl
        by_cases hlt : k < t.outs.length
        · obtain ⟨b, o, cs, rfl, hb, ⟨uv, rfl, hok, hu⟩, hcell⟩ := HEL2.out k hlt
          have HJ := Lib.hid hlt
          have hlt1 : (k : Int) < (t.outs.length : Int) := by omega
          have hk16 : (k : Int) < 16 := by have := HL2.out; omega
          have HBAD := Lib.hid (fun h => mayT_false_out (t := t) k hlt h)
          have hgq : Hid (t.outs[k].l.length ≤ 140737488351232) := Lib.hid (HG.out.2 _ (List.getElem_mem hlt))
          have HGE : Hid (∀ (hs : mayB t.outs[k].v t.outs[k].l.length = true) i (h : i < t.outs.length), i < k + 1 → mayB t.outs[i].v t.outs[i].l.length = true) := Lib.hid (fun hs i h hi => by
            by_cases he : i = k
            · subst he; exact hs
            · exact HM.out i h (by omega))
          generalize hq : t.outs[k] = q at *
          clear hq
          have HRU := Lib.hid (hu.1.nx HN.out)
          obtain ⟨A3, c3, rfl⟩ := hu.sl
          have HLD : Hid (∀ i v, (#[.int .u64 (q.v : Int), .slice A3 q.l.length c3] : Array Value)[i]? = some v → wr.cell? ⟨b, o + k * 2 + i, none⟩ = some v) := Lib.hid (fun i v hv => by
            rw [HN.out.cell (p := ⟨b, o + k * 2 + i, none⟩) hb]
            exact hcell i v (by simpa using hv))
          have HMO := Lib.hid (fun w h => mayOut_any q.v (.slice A3 q.l.length c3) q.l w h (by have := hgq.out; omega))
          have hso := Lib.hid outsz
          clear hlt hk hok hcell hu hb HM
          cases hmb : mayB q.v q.l.length
          · have e1 := Lib.hid (HBAD.out hmb)
            rw [hmb] at HMO
            clear hmb HBAD HGE
            go_wp2_with (refine wpList_load_at rfl 62 (.tmp 40) rfl b (o + k * 2) rfl #[.int .u64 (q.v : Int), .slice A3 q.l.length c3] _ HLD.out Tryz.underlying62 rfl hso.out ?_)
            refine (HMO.out _ HRU.out).mono ?_
            rintro e w4 ⟨rfl, n4⟩
            replace HN := Lib.hid (HN.out.trans n4)
            clear n4 HLD a1
            go_wp2_with fail
            go_ret
            exact ⟨by rw [e1.out]; rfl, HN.out⟩
          · have HS := Lib.hid (HGE.out hmb)
            rw [hmb] at HMO
            clear hmb HBAD HGE
            go_wp2_with (refine wpList_load_at rfl 62 (.tmp 40) rfl b (o + k * 2) rfl #[.int .u64 (q.v : Int), .slice A3 q.l.length c3] _ HLD.out Tryz.underlying62 rfl hso.out ?_)
            refine (HMO.out _ HRU.out).mono ?_
            rintro e w4 ⟨rfl, n4⟩
            replace HN := Lib.hid (HN.out.trans n4)
            replace HR := Lib.hid (HR.out.nx n4)
            clear n4 HLD a1
            go_wp2_with fail
            go_roundw
            case rel => exact ⟨k + 1, by go_num, HJ.out, HN, HR, HS⟩
            case measure => have := HJ.out; simp [intOf]; omega
        · obtain rfl : k = t.outs.length := by omega
          have HE := Lib.hid (mayT_len HL1.out HL2.out HA2.out (fun i h => HM.out i h h))
          have HB := Lib.hid (fun w (x : TxAt w (.slice A t.ins.length c) (.slice A2 t.outs.length c2) t) => rbytes_any _ _ t w x.i x.o x.a x.g HL1.out HL2.out HA2.out)
          have HT2 := Lib.hid (HT.out.nx HN.out)
          have R := HR.out
          clear hlt hk HM HR
          go_wp2_with (refine wpList_load_row rfl 54 (.tmp 1) rfl w.heap.size rfl 54 #[.slice A t.ins.length c, .slice A2 t.outs.length c2, .int .u32 (t.after : Int)] (0, 0) _ R Tryz.underlying54 rfl cz.out ?_)
          refine (HB.out _ HT2.out).mono ?_
          rintro e w5 ⟨r, rfl, o5, n5⟩
          obtain ⟨A5, c5, rfl, -⟩ := o5.rd
          replace HN := Lib.hid (HN.out.trans n5)
          clear o5 n5 R a1
          have hdd : decide (((txB t).length : Int) ≤ 8000) = decide ((txB t).length ≤ 8000) := by rw [Bool.eq_iff_iff, decide_eq_true_iff, decide_eq_true_iff]; omega
          have HDD := Lib.hid hdd
          clear hdd
          go_wp2_with fail
          go_ret
          exact ⟨by rw [HE.out, ← HDD.out]; rfl, HN.out⟩
set_option maxRecDepth 100000 in
set_option maxHeartbeats 4000000 in
theorem rtxput_any (iv ov : Value) (t : Txn) (w : World) (h : TxAt w iv ov t) :
    Calls Tryz.prog 37 #[.agg #[iv, ov, .int .u32 (t.after : Int)]] w fun e w' => ∃ r, e = .returned (.tuple #[r, .int .i64 (ptE t)]) ∧ Own w.heap.size w' r (ptT t) ∧ Nx w w' := by
  have HM := Lib.hid (fun w h => rmay_any iv ov t w h)
  have HT := Lib.hid h
  have cz := Lib.hid info_tx
  have HB := Lib.hid (fun w (x : TxAt w iv ov t) h1 h2 h3 => rbytes_any iv ov t w x.i x.o x.a x.g h1 h2 h3)
  obtain ⟨A, c, rfl, -⟩ := h.i.elem
  obtain ⟨A2, c2, rfl, -⟩ := h.o.elem
  have R := Row.new w #[.slice A t.ins.length c, .slice A2 t.outs.length c2, .int .u32 (t.after : Int)] 54 _ rfl
  have N := Lib.hid ((Nx.refl w).alloc (.cells #[.slice A t.ins.length c, .slice A2 t.outs.length c2, .int .u32 (t.after : Int)] 54))
  have HPO : Hid (mayT t = true → t.ins.length ≤ 16 ∧ t.outs.length ≤ 16 ∧ ∀ j (hj : j < t.ins.length), t.ins[j].u.length ≤ 3000) := Lib.hid (fun hm => by
    unfold mayT at hm
    simp only [Bool.and_eq_true, decide_eq_true_iff, List.all_eq_true] at hm
    exact ⟨hm.1.1.1.1, hm.1.1.1.2, fun j hj => hm.1.1.2 _ (List.getElem_mem hj)⟩)
  clear h
  cases hm : mayT t
  · obtain ⟨e1, e2⟩ := pt_no hm
    rw [hm] at HM
    rw [e1, e2]
    clear hm e1 e2 HPO
    go_enter Tryz.func37, Tryz.ntmps37
    go_wp2_with (refine wpList_load_row rfl 54 (.tmp 1) rfl w.heap.size rfl 54 #[.slice A t.ins.length c, .slice A2 t.outs.length c2, .int .u32 (t.after : Int)] (0, 0) _ R Tryz.underlying54 rfl cz.out ?_)
    refine (HM.out _ (HT.out.nx N.out)).mono ?_
    rintro e w1 ⟨rfl, n1⟩
    replace N := Lib.hid (N.out.trans n1)
    clear n1
    go_wp2_with fail
    go_ret2
    exact ⟨_, rfl, Own.nil _ _, N.out⟩
  · have e1 : ptE t = 0 := by unfold ptE; rw [hm]; rfl
    have e2 : ptT t = txB t := by unfold ptT; rw [hm]; rfl
    obtain ⟨p1, p2, p3⟩ := HPO.out hm
    rw [hm] at HM
    rw [e1, e2]
    replace HB := Lib.hid (fun w h => HB.out w h p1 p2 p3)
    clear hm e1 e2 HPO p1 p2 p3
    go_enter Tryz.func37, Tryz.ntmps37
    go_wp2_with (refine wpList_load_row rfl 54 (.tmp 1) rfl w.heap.size rfl 54 #[.slice A t.ins.length c, .slice A2 t.outs.length c2, .int .u32 (t.after : Int)] (0, 0) _ R Tryz.underlying54 rfl cz.out ?_)
    refine (HM.out _ (HT.out.nx N.out)).mono ?_
    rintro e w1 ⟨rfl, n1⟩
    replace R := R.nx n1
    replace N := Lib.hid (N.out.trans n1)
    clear n1
    go_wp2_with (refine wpList_load_row rfl 54 (.tmp 1) rfl w.heap.size rfl 54 #[.slice A t.ins.length c, .slice A2 t.outs.length c2, .int .u32 (t.after : Int)] (0, 0) _ R Tryz.underlying54 rfl cz.out ?_)
    refine (HB.out _ (HT.out.nx N.out)).mono ?_
    rintro e w2 ⟨r, rfl, o2, n2⟩
    have O2 := Lib.hid (o2.mono N.out.size)
    replace N := Lib.hid (N.out.trans n2)
    clear n2 o2 R
    go_wp2_with fail
    go_ret2
    exact ⟨_, rfl, O2.out, N.out⟩
end Go.Proofs.YtejeekbpeinioaaGreatDoor
end

section
namespace Go.Proofs.YtejeekbpeinioaaGreatDoor
open Go Go.RowKit
set_option linter.unusedVariables false
set_option linter.unusedSimpArgs false

theorem gr_trans {a b c : World} {row : Option Nat} (h : a.grownBy b row) (k : b.grownBy c row) : a.grownBy c row :=
  ⟨k.os.trans h.os, k.tape.trans h.tape, k.output.trans h.output, Nat.le_trans h.size k.size, fun i hi hne => (k.block i (Nat.lt_of_lt_of_le hi h.size) hne).trans (h.block i hi hne)⟩
theorem gr_of {w w' : World} {s : Option Nat} (h : Nx w w') : w.grownBy w' s := ⟨h.os, h.tape, h.output, h.size, fun k hk _ => h.block k hk⟩
theorem gr_set (w : World) (r i : Nat) (v : Value) : w.grownBy (w.setCell ⟨r, i, none⟩ v) (some r) :=
  ⟨rfl, rfl, rfl, by simp [World.setCell], fun k hk hne => by
    have hk2 : k ≠ r := fun e => hne (by rw [e])
    simp [World.setCell, Array.getElem?_modify, Ne.symm hk2]⟩
theorem grw_row {w w' : World} {g r : Nat} {cs : Array Value} {t : TypeId} (h : Row w g cs t) (k : w.grownBy w' (some r)) (hne : g ≠ r) : Row w' g cs t :=
  (k.block g h.lt (fun e => hne (Option.some.inj e))).trans h
theorem gr_own {w w' : World} {r B : Nat} {v : Value} {l : List UInt8} (h : Own B w v l) (k : w.grownBy w' (some r)) (hB : r < B) : Own B w' v l := by
  rcases h with h2 | ⟨g, full, rfl, hb, hg, rest⟩
  · exact .inl h2
  · exact .inr ⟨g, full, rfl, hb, by rw [k.block g (Array.getElem?_eq_some_iff.1 hg).1 (fun e => by have := Option.some.inj e; omega)]; exact hg, rest⟩
theorem gr_below {B r : Nat} {a w w' : World} (h : Below B a w) (k : w.grownBy w' (some r)) (hB : B ≤ a.heap.size) (hr : B ≤ r) : Below B a w' :=
  ⟨k.os.trans h.os, k.tape.trans h.tape, k.output.trans h.output, Nat.le_trans h.size k.size, fun i hi => (k.block i (Nat.lt_of_lt_of_le (Nat.lt_of_lt_of_le hi hB) h.size) (fun e => by have := Option.some.inj e; omega)).trans (h.block i hi)⟩
/-- What a reader counts. -/
def cnT (l : List UInt8) (at_ : Int) (most : Nat) : Nat × Int × Int := if (gc l at_).2.2 ≠ 0 then (0, at_, (gc l at_).2.2) else if most < (gc l at_).1 then (0, at_, 3) else ((gc l at_).1, (gc l at_).2.1, 0)
abbrev rdcs (bv : Value) (at_ : Int) : Array Value := #[bv, .int .i64 at_]
set_option maxRecDepth 100000 in
set_option maxHeartbeats 8000000 in
theorem tcount_any (r : Nat) (bv : Value) (l : List UInt8) (at_ : Int) (most : Nat) (w : World) (R : Row w r (rdcs bv at_) 147) (h : RdS (some r) w bv l) (hl : l.length ≤ 140737488355328) (hm : most ≤ 1000) :
    Calls Tryz.prog 120 #[.pointer (some ⟨r, 0, none⟩), .int .i64 (most : Int)] w fun e w' => e = .returned (.tuple #[.int .i64 ((cnT l at_ most).1 : Int), .int .i64 (cnT l at_ most).2.2]) ∧ Row w' r (rdcs bv (cnT l at_ most).2.1) 147 ∧ w.grownBy w' (some r) := by
  have HG := Lib.hid (fun w h => getCount_any bv l at_ w h hl)
  have HGN : Hid (∀ w, Rd w bv l → Calls Tryz.prog 74 #[bv, .int .i64 at_] w fun e w' => e = .returned (.tuple #[.int .u64 ((gc l at_).1 : Int), .int .i64 (gc l at_).2.1, .int .i64 (gc l at_).2.2]) ∧ Nx w w') := Lib.hid (fun w h => (HG.out w h).mono fun e w' ⟨h1, h2⟩ => ⟨h1, by subst h2; exact Nx.refl _⟩)
  clear HG
  obtain ⟨A, c, rfl⟩ := h.sl
  unfold cnT
  generalize hgc : gc l at_ = T at *
  clear hgc
  obtain ⟨N, p, E⟩ := T
  dsimp only at *
  have hm1 : IntKind.u64.wrap (most : Int) = (most : Int) := by rw [IntKind.wrap_u64]; omega
  have HRW := Lib.hid (fun d os => show Rd (Sort.grow (redrawn w d) os) (.slice A l.length c) l from h.1.nx (below_regrown w d os))
  have q0 : ∀ d os, (Sort.grow (redrawn w d) os).cell? ⟨r, 0, none⟩ = some (.slice A l.length c) := fun d os => cell_regrown (R.cell (i := 0) (v := .slice A l.length c) rfl) d os
  have q1 : ∀ d os, (Sort.grow (redrawn w d) os).cell? ⟨r, 1, none⟩ = some (.int .i64 at_) := fun d os => cell_regrown (R.cell (i := 1) (v := .int .i64 at_) rfl) d os
  have HR := Lib.hid (fun d os => show Row (Sort.grow (redrawn w d) os) r #[.slice A l.length c, .int .i64 at_] 147 from Row.nx R (below_regrown w d os))
  have HNN := Lib.hid (fun d os => show Nx w (Sort.grow (redrawn w d) os) from below_regrown w d os)
  clear R h
  by_cases hE : E = 0
  · subst hE
    rw [if_neg (by simp)]
    by_cases hN : most < N
    · rw [if_pos hN]
      go_enter Tryz.func120, Tryz.ntmps120
      go_wp2_with fail
      refine wp_region_quiet_below (by kernel_rfl) (by kernel_rfl) ?_
      repeat (quiet_step ((go_at_call 74; exact Calls.regrown_of (HGN.out _ (HRW.out _ _)))))
      refine wpQuiet_nil ?_
      intro _ hw'
      obtain ⟨⟨dq, osq⟩, hw''⟩ := hw'
      subst hw''
      have R2 := HR.out dq osq
      have N2 := Lib.hid (HNN.out dq osq)
      clear q0 q1 HR HNN HRW HGN
      generalize Sort.grow (redrawn w dq) osq = W at *
      replace R2 := Lib.hid R2
      go_wp2_with fail
      go_ret2
      exact ⟨rfl, R2.out, gr_of N2.out⟩
    · rw [if_neg hN]
      have hN1 : IntKind.i64.wrap (N : Int) = (N : Int) := IntWalk.i64_in _ (by omega)
      go_enter Tryz.func120, Tryz.ntmps120
      go_wp2_with fail
      refine wp_region_quiet_below (by kernel_rfl) (by kernel_rfl) ?_
      repeat (quiet_step ((go_at_call 74; exact Calls.regrown_of (HGN.out _ (HRW.out _ _)))))
      refine wpQuiet_nil ?_
      intro _ hw'
      obtain ⟨⟨dq, osq⟩, hw''⟩ := hw'
      subst hw''
      have R2 := HR.out dq osq
      have N2 := Lib.hid (HNN.out dq osq)
      clear q0 q1 HR HNN HRW HGN
      generalize Sort.grow (redrawn w dq) osq = W at *
      have f1 := R2.frozen 1
      have c1 := R2.cell (i := 1) (v := .int .i64 at_) rfl
      have RS := Lib.hid (R2.set 1 (.int .i64 p))
      have GS := Lib.hid (gr_trans (gr_of (s := some r) N2.out) (gr_set W r 1 (.int .i64 p)))
      replace R2 := Lib.hid R2
      go_wp2_with fail
      go_ret2
      exact ⟨rfl, RS.out, GS.out⟩
  · rw [if_pos hE]
    have dE : (E != 0) = true := by simp [hE]
    clear hE
    go_enter Tryz.func120, Tryz.ntmps120
    go_wp2_with fail
    refine wp_region_quiet_below (by kernel_rfl) (by kernel_rfl) ?_
    repeat (quiet_step ((go_at_call 74; exact Calls.regrown_of (HGN.out _ (HRW.out _ _)))))
    refine wpQuiet_nil ?_
    intro _ hw'
    obtain ⟨⟨dq, osq⟩, hw''⟩ := hw'
    subst hw''
    have R2 := HR.out dq osq
    have N2 := Lib.hid (HNN.out dq osq)
    clear q0 q1 HR HNN HRW HGN
    generalize Sort.grow (redrawn w dq) osq = W at *
    replace R2 := Lib.hid R2
    go_wp2_with fail
    go_ret2
    exact ⟨rfl, R2.out, gr_of N2.out⟩
end Go.Proofs.YtejeekbpeinioaaGreatDoor
end

section
namespace Go.Proofs.YtejeekbpeinioaaGreatDoor
open Go Go.RowKit
set_option linter.unusedVariables false
set_option linter.unusedSimpArgs false
set_option linter.unusedVariables false
set_option linter.unusedSimpArgs false

theorem gpN_lt (l : List UInt8) (at_ : Int) : gpN l at_ < 65536 := by
  unfold gpN
  split
  · rename_i h
    obtain ⟨q1, -, -⟩ := cut38 h
    obtain ⟨g1, g2, g3⟩ := get38 _ q1 32 2 (by decide) (by decide)
    rw [show getN (cutL l at_ 38) 32 2 = _ from g2]
    exact g3
  · decide
theorem gpH_lt (l : List UInt8) (at_ : Int) : gpH l at_ < 4294967296 := by
  unfold gpH
  split
  · rename_i h
    obtain ⟨q1, -, -⟩ := cut38 h
    obtain ⟨g1, g2, g3⟩ := get38 _ q1 34 4 (by decide) (by decide)
    rw [show getN (cutL l at_ 38) 34 4 = _ from g2]
    exact g3
  · decide
theorem own_setRow {B g : Nat} {w : World} {v : Value} {l : List UInt8} {cs : Array Value} (h : Own B w v l) (hg : g < B) : Own B (w.setRow g cs) v l := by
  rcases h with h2 | ⟨q, full, rfl, hb, hh, rest⟩
  · exact .inl h2
  · exact .inr ⟨q, full, rfl, hb, by rw [setRow_other _ _ _ _ (by omega)]; exact hh, rest⟩
theorem gr_newRow {w W : World} {s : Option Nat} {g : Nat} {cs : Array Value} (h : w.grownBy W s) (hg : w.heap.size ≤ g) : w.grownBy (W.setRow g cs) s :=
  ⟨h.os, h.tape, h.output, by rw [size_setRow]; exact h.size, fun k hk hne => by rw [setRow_other _ _ _ _ (by omega)]; exact h.block k hk hne⟩
theorem built_in0 (x0 x1 x2 x3 x4 x5 x6 x7 x8 x9 x10 x11 x12 x13 x14 x15 x16 x17 x18 x19 x20 x21 x22 x23 x24 x25 x26 x27 x28 x29 x30 x31 : UInt8) (n h : Nat) (u : List UInt8) (A : Option Addr) (k c : Nat) :
    Tryz.prog.built 59 [(0, .agg (pcel [x0, x1, x2, x3, x4, x5, x6, x7, x8, x9, x10, x11, x12, x13, x14, x15, x16, x17, x18, x19, x20, x21, x22, x23, x24, x25, x26, x27, x28, x29, x30, x31] n h)), (1, .slice A k c)] = some (icel ⟨[x0, x1, x2, x3, x4, x5, x6, x7, x8, x9, x10, x11, x12, x13, x14, x15, x16, x17, x18, x19, x20, x21, x22, x23, x24, x25, x26, x27, x28, x29, x30, x31], n, h, u⟩ (.slice A k c)) := by kernel_rfl
theorem built_in (tx : List UInt8) (ht : tx.length = 32) (n h : Nat) (u : List UInt8) (A : Option Addr) (k c : Nat) :
    Tryz.prog.built 59 [(0, .agg (pcel tx n h)), (1, .slice A k c)] = some (icel ⟨tx, n, h, u⟩ (.slice A k c)) := by
  obtain ⟨x0, x1, x2, x3, x4, x5, x6, x7, x8, x9, x10, x11, x12, x13, x14, x15, x16, x17, x18, x19, x20, x21, x22, x23, x24, x25, x26, x27, x28, x29, x30, x31, rfl⟩ := list32 tx ht
  exact built_in0 x0 x1 x2 x3 x4 x5 x6 x7 x8 x9 x10 x11 x12 x13 x14 x15 x16 x17 x18 x19 x20 x21 x22 x23 x24 x25 x26 x27 x28 x29 x30 x31 n h u A k c
/-- What a reader reads as an input. -/
def inT (l : List UInt8) (at_ : Int) : Inp × Int × Int := if gpE l at_ ≠ 0 then (inZ, at_, gpE l at_) else if (gr l (gpP l at_) 3000).2.2 ≠ 0 then (inZ, at_, (gr l (gpP l at_) 3000).2.2) else (⟨gpX l at_, gpN l at_, gpH l at_, (gr l (gpP l at_) 3000).1⟩, (gr l (gpP l at_) 3000).2.1, 0)
set_option maxRecDepth 100000 in
set_option maxHeartbeats 8000000 in
theorem tin_any (r : Nat) (bv : Value) (l : List UInt8) (at_ : Int) (w : World) (R : Row w r (rdcs bv at_) 147) (h : RdS (some r) w bv l) (hl : l.length ≤ 140737488355328) :
    Calls Tryz.prog 101 #[.pointer (some ⟨r, 0, none⟩)] w fun e w' => ∃ uv, e = .returned (.tuple #[.agg (icel (inT l at_).1 uv), .int .i64 (inT l at_).2.2]) ∧ Own w.heap.size w' uv (inT l at_).1.u ∧ Row w' r (rdcs bv (inT l at_).2.1) 147 ∧ w.grownBy w' (some r) := by
  have HP := Lib.hid (fun w h => getPoint_any bv l at_ w h hl)
  have HG := Lib.hid (fun p w h => getRow_any bv l p 3000 w h hl (by decide))
  have HB := Lib.hid (h.1.nx ((Nx.refl w).alloc (.cells (icel inZ (.slice none 0 0)) 59)))
  obtain ⟨A, c, rfl⟩ := h.sl
  have hrl : r < w.heap.size := R.lt
  have R2 := Row.new w (icel inZ (.slice none 0 0)) 59 _ rfl
  have RR := Lib.hid (R.alloc (.cells (icel inZ (.slice none 0 0)) 59))
  have N0 := Lib.hid ((Nx.refl w).alloc (.cells (icel inZ (.slice none 0 0)) 59))
  obtain ⟨hz, hzs⟩ := zero_of_info info_in
  obtain ⟨hz2, hzs2⟩ := zero_of_info info_point
  have HHS := Lib.hid (show (w.alloc (.cells (icel inZ (.slice none 0 0)) 59)).heap.size = w.heap.size + 1 by simp)
  have HXL := gpX_length l at_
  have HOK : Hid (∀ u, InOk ⟨gpX l at_, gpN l at_, gpH l at_, u⟩) := Lib.hid (fun u => ⟨HXL, gpN_lt l at_, gpH_lt l at_⟩)
  have HPS := Lib.hid (pointsz (gpX l at_) (gpN l at_) (gpH l at_) HXL)
  have HPO := Lib.hid (pointsame Z32 (gpX l at_) 0 0 (gpN l at_) (gpH l at_) Z32_length HXL)
  unfold inT
  generalize gpX l at_ = X at *
  generalize gpN l at_ = N at *
  generalize gpH l at_ = H at *
  generalize hPP : gpP l at_ = P at *
  generalize hEE : gpE l at_ = E at *
  clear R h hPP hEE HXL
  replace R2 := Lib.hid R2
  by_cases hE : E = 0
  · rw [if_neg (by simp [hE])]
    replace HG := Lib.hid (HG.out P)
    generalize hgr : gr l P 3000 = g at *
    clear hgr
    obtain ⟨U, q, F⟩ := g
    dsimp only at *
    by_cases hF : F = 0
    · subst hF
      rw [if_neg (by simp)]
      have HE := Lib.hid hE
      clear hE
      go_enter Tryz.func101, Tryz.ntmps101
      go_wp2_with fail
      generalize (w.alloc (.cells (icel inZ (.slice none 0 0)) 59)) = W0 at *
      refine wp_region_bk 17 [[], [0], [1], [2], [], [4], [5], [6], [3, 7], [8], [9], [9], [9], [], [13, 10, 8, 0, 1, 2, 3, 4, 5, 6, 7, 8, 9, 10, 13], [11, 14, 0, 1, 2, 3, 4, 5, 6, 7, 8, 9, 10, 11, 13, 14], [12, 15, 0, 1, 2, 3, 4, 5, 6, 7, 8, 9, 10, 11, 12, 13, 14, 15]] [some 9, some 10, some 11, some 12, some 13, some 14, some 15, some 16, some 17, some 8, some 18, some 19, some 20, some 4, none, some 5, some 6]
        [.pointer (some ⟨r, 0, none⟩), .pointer (some ⟨r, 0, none⟩), .pointer (some ⟨r, 0, none⟩), .slice A l.length c, .pointer (some ⟨r, 0, none⟩), .pointer (some ⟨r, 0, none⟩), .pointer (some ⟨r, 1, none⟩), .int .i64 at_, .tuple #[.agg (pcel X N H), .int .i64 P, .int .i64 E], .tuple #[.agg (pcel X N H), .int .i64 P, .int .i64 E], .agg (pcel X N H), .int .i64 P, .int .i64 E, undef, undef, .int .i64 P, .int .i64 E]
        [⟨13, 14, pcel Z32 0 0, pcel X N H, 57⟩] [] [13, 14] [(13, 14)] rfl rfl
        (by kernel_rfl) (by kernel_rfl) (hord_of (by decide)) (by kernel_rfl) rfl (by decide) (by decide) (by decide) (by decide) (fun _ h => by cases h) (by decide) ?_ ?_ ?_ ?_ ?_
      · intro x tm wr htm hx i hi hs hd ho K hK
        simp only [fillA, List.setIfInBounds_toArray, List.set_cons_zero, List.set_cons_succ] at htm
        subst htm
        have hcs : i = 0 ∨ i = 1 ∨ i = 2 ∨ i = 3 ∨ i = 4 ∨ i = 5 ∨ i = 6 ∨ i = 7 ∨ i = 8 ∨ i = 9 ∨ i = 10 ∨ i = 11 ∨ i = 12 ∨ i = 13 ∨ i = 14 ∨ i = 15 ∨ i = 16 := by omega
        clear hi
        rcases hcs with rfl | rfl | rfl | rfl | rfl | rfl | rfl | rfl | rfl | rfl | rfl | rfl | rfl | rfl | rfl | rfl | rfl
        · exact wpOp_of rfl rfl (wp_val_of (some 9) rfl (.pointer (some ⟨r, 0, none⟩)) (by kernel_rfl) (hK _ (Nx.refl _)))
        · have e0 : x 0 = .pointer (some ⟨r, 0, none⟩) := hd 0 (by decide) (by decide)
          generalize x 0 = y0 at e0 hK ⊢
          subst e0
          exact wpOp_of rfl rfl (wp_val_of (some 10) rfl (.pointer (some ⟨r, 0, none⟩)) (by kernel_rfl) (hK _ (Nx.refl _)))
        · have e1 : x 1 = .pointer (some ⟨r, 0, none⟩) := hd 1 (by decide) (by decide)
          generalize x 1 = y1 at e1 hK ⊢
          subst e1
          exact wpOp_of rfl rfl (wp_val_of (some 11) rfl (.pointer (some ⟨r, 0, none⟩)) (by kernel_rfl) (hK _ (Nx.refl _)))
        · have e2 : x 2 = .pointer (some ⟨r, 0, none⟩) := hd 2 (by decide) (by decide)
          generalize x 2 = y2 at e2 hK ⊢
          subst e2
          exact wpOp_of rfl rfl (wp_load_cell (some 12) rfl 32 (.tmp 11) rfl r 0 rfl (.slice A l.length c) _ ((Row.nx RR.out (Kp.free hx)).cell (i := 0) rfl) Tryz.underlying32 rfl (hK _ (Nx.refl _)))
        · exact wpOp_of rfl rfl (wp_val_of (some 13) rfl (.pointer (some ⟨r, 0, none⟩)) (by kernel_rfl) (hK _ (Nx.refl _)))
        · have e4 : x 4 = .pointer (some ⟨r, 0, none⟩) := hd 4 (by decide) (by decide)
          generalize x 4 = y4 at e4 hK ⊢
          subst e4
          exact wpOp_of rfl rfl (wp_val_of (some 14) rfl (.pointer (some ⟨r, 0, none⟩)) (by kernel_rfl) (hK _ (Nx.refl _)))
        · have e5 : x 5 = .pointer (some ⟨r, 0, none⟩) := hd 5 (by decide) (by decide)
          generalize x 5 = y5 at e5 hK ⊢
          subst e5
          exact wpOp_of rfl rfl (wp_val_of (some 15) rfl (.pointer (some ⟨r, 1, none⟩)) (by kernel_rfl) (hK _ (Nx.refl _)))
        · have e6 : x 6 = .pointer (some ⟨r, 1, none⟩) := hd 6 (by decide) (by decide)
          generalize x 6 = y6 at e6 hK ⊢
          subst e6
          exact wpOp_of rfl rfl (wp_load_cell (some 16) rfl 3 (.tmp 15) rfl r 1 rfl (.int .i64 at_) _ ((Row.nx RR.out (Kp.free hx)).cell (i := 1) rfl) Tryz.underlying3 rfl (hK _ (Nx.refl _)))
        · have e3 : x 3 = .slice A l.length c := hd 3 (by decide) (by decide)
          generalize x 3 = y3 at e3 hK ⊢
          subst e3
          have e7 : x 7 = .int .i64 at_ := hd 7 (by decide) (by decide)
          generalize x 7 = y7 at e7 hK ⊢
          subst e7
          refine wpOp_of rfl rfl (wp_call_of (some 17) rfl 121 #[(.slice A l.length c), (.int .i64 at_)] (by kernel_rfl) (.tuple #[.agg (pcel X N H), .int .i64 P, .int .i64 E]) ?_ (fun w' h => hK w' h))
          exact HP.out wr (HB.out.nx (Kp.free hx))
        · have e8 : x 8 = .tuple #[.agg (pcel X N H), .int .i64 P, .int .i64 E] := hd 8 (by decide) (by decide)
          generalize x 8 = y8 at e8 hK ⊢
          subst e8
          exact wpOp_of rfl rfl (wp_val_of (some 8) rfl (.tuple #[.agg (pcel X N H), .int .i64 P, .int .i64 E]) (by kernel_rfl) (hK _ (Nx.refl _)))
        · have e9 : x 9 = .tuple #[.agg (pcel X N H), .int .i64 P, .int .i64 E] := hd 9 (by decide) (by decide)
          generalize x 9 = y9 at e9 hK ⊢
          subst e9
          exact wpOp_of rfl rfl (wp_val_of (some 18) rfl (.agg (pcel X N H)) (by kernel_rfl) (hK _ (Nx.refl _)))
        · have e9 : x 9 = .tuple #[.agg (pcel X N H), .int .i64 P, .int .i64 E] := hd 9 (by decide) (by decide)
          generalize x 9 = y9 at e9 hK ⊢
          subst e9
          exact wpOp_of rfl rfl (wp_val_of (some 19) rfl (.int .i64 P) (by kernel_rfl) (hK _ (Nx.refl _)))
        · have e9 : x 9 = .tuple #[.agg (pcel X N H), .int .i64 P, .int .i64 E] := hd 9 (by decide) (by decide)
          generalize x 9 = y9 at e9 hK ⊢
          subst e9
          exact wpOp_of rfl rfl (wp_val_of (some 20) rfl (.int .i64 E) (by kernel_rfl) (hK _ (Nx.refl _)))
        · exact absurd (by decide) hs
        · exact absurd (by decide) hs
        · have e11 : x 11 = .int .i64 P := hd 11 (by decide) (by decide)
          generalize x 11 = y11 at e11 hK ⊢
          subst e11
          exact wpOp_of rfl rfl (wp_val_of (some 5) rfl (.int .i64 P) (by kernel_rfl) (hK _ (Nx.refl _)))
        · have e12 : x 12 = .int .i64 E := hd 12 (by decide) (by decide)
          generalize x 12 = y12 at e12 hK ⊢
          subst e12
          exact wpOp_of rfl rfl (wp_val_of (some 6) rfl (.int .i64 E) (by kernel_rfl) (hK _ (Nx.refl _)))
      · intro e he
        simp only [List.mem_cons, List.not_mem_nil, or_false] at he
        subst he
        intro tm wr K hK
        exact wpOp_of rfl rfl (wp_alloc_of (some 4) rfl 57 rfl (pcel Z32 0 0) hz2 hK)
      · intro e he
        simp only [List.mem_cons, List.not_mem_nil, or_false] at he
        subst he
        intro x tm wr g htm hd hp hr K hK
        dsimp only at hd
        simp only [fillA, List.setIfInBounds_toArray, List.set_cons_zero, List.set_cons_succ] at htm
        subst htm
        replace hp : x 13 = .pointer (some ⟨g, 0, none⟩) := hp
        generalize x 13 = y13 at hp hK ⊢
        subst hp
        have e10 : x 10 = .agg (pcel X N H) := hd 10 (by decide) (by decide)
        generalize x 10 = y10 at e10 hK ⊢
        subst e10
        have e8 : x 8 = .tuple #[.agg (pcel X N H), .int .i64 P, .int .i64 E] := hd 8 (by decide) (by decide)
        generalize x 8 = y8 at e8 hK ⊢
        subst e8
        have e0 : x 0 = .pointer (some ⟨r, 0, none⟩) := hd 0 (by decide) (by decide)
        generalize x 0 = y0 at e0 hK ⊢
        subst e0
        have e1 : x 1 = .pointer (some ⟨r, 0, none⟩) := hd 1 (by decide) (by decide)
        generalize x 1 = y1 at e1 hK ⊢
        subst e1
        have e2 : x 2 = .pointer (some ⟨r, 0, none⟩) := hd 2 (by decide) (by decide)
        generalize x 2 = y2 at e2 hK ⊢
        subst e2
        have e3 : x 3 = .slice A l.length c := hd 3 (by decide) (by decide)
        generalize x 3 = y3 at e3 hK ⊢
        subst e3
        have e4 : x 4 = .pointer (some ⟨r, 0, none⟩) := hd 4 (by decide) (by decide)
        generalize x 4 = y4 at e4 hK ⊢
        subst e4
        have e5 : x 5 = .pointer (some ⟨r, 0, none⟩) := hd 5 (by decide) (by decide)
        generalize x 5 = y5 at e5 hK ⊢
        subst e5
        have e6 : x 6 = .pointer (some ⟨r, 1, none⟩) := hd 6 (by decide) (by decide)
        generalize x 6 = y6 at e6 hK ⊢
        subst e6
        have e7 : x 7 = .int .i64 at_ := hd 7 (by decide) (by decide)
        generalize x 7 = y7 at e7 hK ⊢
        subst e7
        have e9 : x 9 = .tuple #[.agg (pcel X N H), .int .i64 P, .int .i64 E] := hd 9 (by decide) (by decide)
        generalize x 9 = y9 at e9 hK ⊢
        subst e9
        exact wpOp_of rfl rfl (wp_store_row 57 (.tmp 4) (.tmp 18) rfl g (pcel X N H) rfl rfl 57 (pcel Z32 0 0) hr HPS.out HPO.out (pcel_one _ _ _) hK)
      · intro e he
        cases he
      · intro x tm wr htm hx hv hn hdis ho
        simp only [fillA, List.setIfInBounds_toArray, List.set_cons_zero, List.set_cons_succ] at htm
        subst htm
        obtain ⟨gn0, p0, q0, r0⟩ := hn ⟨13, 14, pcel Z32 0 0, pcel X N H, 57⟩ (.head _)
        replace p0 : x 13 = .pointer (some ⟨gn0, 0, none⟩) := p0
        rw [p0]
        have e0 : x 0 = .pointer (some ⟨r, 0, none⟩) := hv 0 (by decide) (by decide)
        rw [e0]
        have e1 : x 1 = .pointer (some ⟨r, 0, none⟩) := hv 1 (by decide) (by decide)
        rw [e1]
        have e2 : x 2 = .pointer (some ⟨r, 0, none⟩) := hv 2 (by decide) (by decide)
        rw [e2]
        have e3 : x 3 = .slice A l.length c := hv 3 (by decide) (by decide)
        rw [e3]
        have e4 : x 4 = .pointer (some ⟨r, 0, none⟩) := hv 4 (by decide) (by decide)
        rw [e4]
        have e5 : x 5 = .pointer (some ⟨r, 0, none⟩) := hv 5 (by decide) (by decide)
        rw [e5]
        have e6 : x 6 = .pointer (some ⟨r, 1, none⟩) := hv 6 (by decide) (by decide)
        rw [e6]
        have e7 : x 7 = .int .i64 at_ := hv 7 (by decide) (by decide)
        rw [e7]
        have e8 : x 8 = .tuple #[.agg (pcel X N H), .int .i64 P, .int .i64 E] := hv 8 (by decide) (by decide)
        rw [e8]
        have e9 : x 9 = .tuple #[.agg (pcel X N H), .int .i64 P, .int .i64 E] := hv 9 (by decide) (by decide)
        rw [e9]
        have e10 : x 10 = .agg (pcel X N H) := hv 10 (by decide) (by decide)
        rw [e10]
        have e11 : x 11 = .int .i64 P := hv 11 (by decide) (by decide)
        rw [e11]
        have e12 : x 12 = .int .i64 E := hv 12 (by decide) (by decide)
        rw [e12]
        have e15 : x 15 = .int .i64 P := hv 15 (by decide) (by decide)
        rw [e15]
        have e16 : x 16 = .int .i64 E := hv 16 (by decide) (by decide)
        rw [e16]
        have RW := Lib.hid (Row.nx RR.out (Kp.free hx))
        have RI := Lib.hid (Row.nx R2.out (Kp.free hx))
        have RP : Hid (Row wr gn0 (pcel X N H) 57) := Lib.hid r0
        have HGN : Hid (w.heap.size < gn0) := Lib.hid (by have := HHS.out; omega)
        have cb := RW.out.cell (i := 0) (v := .slice A l.length c) rfl
        have NW : Hid (Nx w wr) := Lib.hid (Below.trans N0.out (Below.mono (Kp.free hx) (by have := HHS.out; omega)))
        have HB2 := Lib.hid (HB.out.nx (Kp.free hx))
        clear hv hn hdis ho r0 p0 q0 e0 e1 e2 e3 e4 e5 e6 e7 e8 e9 e10 e11 e12 e15 e16 hx RR R2 N0 HHS HP HB
        obtain rfl : E = 0 := HE.out
        go_wp2_with fail
        refine (HG.out wr HB2.out).mono ?_
        rintro e w3 ⟨uv, rfl, o3, n3⟩
        have O3 := Lib.hid (o3.mono (show w.heap.size + 1 ≤ wr.heap.size from Nat.lt_of_lt_of_le RI.out.lt (Nat.le_refl _)))
        obtain ⟨A3, c3, rfl, -⟩ := o3.rd
        have R3 := RW.out.nx n3
        have K3 := RI.out.nx n3
        have P3 := RP.out.nx n3
        have N3 := Lib.hid (NW.out.trans n3)
        clear o3 n3 RW RI RP NW HB2 HG cb
        have f1 := R3.frozen 1
        have c1 := R3.cell (i := 1) (v := .int .i64 at_) rfl
        have R4 := Lib.hid (R3.set 1 (.int .i64 q))
        have K4 := K3.other r 1 (.int .i64 q) (by omega)
        have P4 := P3.other r 1 (.int .i64 q) (by have := HGN.out; omega)
        have G4 := Lib.hid (gr_trans (gr_of (s := some r) N3.out) (gr_set w3 r 1 (.int .i64 q)))
        have O4 := Lib.hid (gr_own O3.out (gr_set w3 r 1 (.int .i64 q)) (by omega))
        have iz := Lib.hid (insz ⟨X, N, H, U⟩ (.slice A3 U.length c3) (HOK.out U))
        have io := Lib.hid (insame inZ ⟨X, N, H, U⟩ (.slice none 0 0) (.slice A3 U.length c3) inZ_ok (HOK.out U))
        have i1 := icel_one ⟨X, N, H, U⟩ (.slice A3 U.length c3) rfl
        have HBU := Lib.hid (built_in X (HOK.out U).1 N H U A3 U.length c3)
        have hl : w.heap.size ≤ w.heap.size := Nat.le_refl _
        clear R3 K3 P3 N3 O3
        go_wp2_with (first | (refine wpList_load_row rfl 57 (.tmp 4) rfl gn0 rfl 57 (pcel X N H) (0, 0) _ P4 Tryz.underlying57 rfl HPS.out ?_) | (refine wpList_built (some 45) rfl rfl 59 _ rfl [(0, .agg (pcel X N H)), (1, .slice A3 U.length c3)] (by kernel_rfl) _ HBU.out ?_) | (refine wpList_store_row rfl 59 (.tmp 2) (.tmp 45) rfl w.heap.size (icel ⟨X, N, H, U⟩ (.slice A3 U.length c3)) rfl rfl 59 (icel inZ (.slice none 0 0)) K4 iz.out io.out i1 ?_))
        exact bodyPost_ret (results_cell_row2 Tryz.results101 _ _ w.heap.size 59 (icel ⟨X, N, H, U⟩ (.slice A3 U.length c3)) (0, 0) _ rfl (K4.setRow _) Tryz.underlying59 rfl iz.out) rfl ⟨_, rfl, (own_setRow O4.out (Nat.lt_succ_self _)).mono (Nat.le_succ _), R4.out.setRow_other _ (by omega), gr_newRow G4.out hl⟩
    · rw [if_pos hF]
      have dF : (F != 0) = true := by simp [hF]
      clear hF
      have HE := Lib.hid hE
      clear hE
      go_enter Tryz.func101, Tryz.ntmps101
      go_wp2_with fail
      generalize (w.alloc (.cells (icel inZ (.slice none 0 0)) 59)) = W0 at *
      refine wp_region_bk 17 [[], [0], [1], [2], [], [4], [5], [6], [3, 7], [8], [9], [9], [9], [], [13, 10, 8, 0, 1, 2, 3, 4, 5, 6, 7, 8, 9, 10, 13], [11, 14, 0, 1, 2, 3, 4, 5, 6, 7, 8, 9, 10, 11, 13, 14], [12, 15, 0, 1, 2, 3, 4, 5, 6, 7, 8, 9, 10, 11, 12, 13, 14, 15]] [some 9, some 10, some 11, some 12, some 13, some 14, some 15, some 16, some 17, some 8, some 18, some 19, some 20, some 4, none, some 5, some 6]
        [.pointer (some ⟨r, 0, none⟩), .pointer (some ⟨r, 0, none⟩), .pointer (some ⟨r, 0, none⟩), .slice A l.length c, .pointer (some ⟨r, 0, none⟩), .pointer (some ⟨r, 0, none⟩), .pointer (some ⟨r, 1, none⟩), .int .i64 at_, .tuple #[.agg (pcel X N H), .int .i64 P, .int .i64 E], .tuple #[.agg (pcel X N H), .int .i64 P, .int .i64 E], .agg (pcel X N H), .int .i64 P, .int .i64 E, undef, undef, .int .i64 P, .int .i64 E]
        [⟨13, 14, pcel Z32 0 0, pcel X N H, 57⟩] [] [13, 14] [(13, 14)] rfl rfl
        (by kernel_rfl) (by kernel_rfl) (hord_of (by decide)) (by kernel_rfl) rfl (by decide) (by decide) (by decide) (by decide) (fun _ h => by cases h) (by decide) ?_ ?_ ?_ ?_ ?_
      · intro x tm wr htm hx i hi hs hd ho K hK
        simp only [fillA, List.setIfInBounds_toArray, List.set_cons_zero, List.set_cons_succ] at htm
        subst htm
        have hcs : i = 0 ∨ i = 1 ∨ i = 2 ∨ i = 3 ∨ i = 4 ∨ i = 5 ∨ i = 6 ∨ i = 7 ∨ i = 8 ∨ i = 9 ∨ i = 10 ∨ i = 11 ∨ i = 12 ∨ i = 13 ∨ i = 14 ∨ i = 15 ∨ i = 16 := by omega
        clear hi
        rcases hcs with rfl | rfl | rfl | rfl | rfl | rfl | rfl | rfl | rfl | rfl | rfl | rfl | rfl | rfl | rfl | rfl | rfl
        · exact wpOp_of rfl rfl (wp_val_of (some 9) rfl (.pointer (some ⟨r, 0, none⟩)) (by kernel_rfl) (hK _ (Nx.refl _)))
        · have e0 : x 0 = .pointer (some ⟨r, 0, none⟩) := hd 0 (by decide) (by decide)
          generalize x 0 = y0 at e0 hK ⊢
          subst e0
          exact wpOp_of rfl rfl (wp_val_of (some 10) rfl (.pointer (some ⟨r, 0, none⟩)) (by kernel_rfl) (hK _ (Nx.refl _)))
        · have e1 : x 1 = .pointer (some ⟨r, 0, none⟩) := hd 1 (by decide) (by decide)
          generalize x 1 = y1 at e1 hK ⊢
          subst e1
          exact wpOp_of rfl rfl (wp_val_of (some 11) rfl (.pointer (some ⟨r, 0, none⟩)) (by kernel_rfl) (hK _ (Nx.refl _)))
        · have e2 : x 2 = .pointer (some ⟨r, 0, none⟩) := hd 2 (by decide) (by decide)
          generalize x 2 = y2 at e2 hK ⊢
          subst e2
          exact wpOp_of rfl rfl (wp_load_cell (some 12) rfl 32 (.tmp 11) rfl r 0 rfl (.slice A l.length c) _ ((Row.nx RR.out (Kp.free hx)).cell (i := 0) rfl) Tryz.underlying32 rfl (hK _ (Nx.refl _)))
        · exact wpOp_of rfl rfl (wp_val_of (some 13) rfl (.pointer (some ⟨r, 0, none⟩)) (by kernel_rfl) (hK _ (Nx.refl _)))
        · have e4 : x 4 = .pointer (some ⟨r, 0, none⟩) := hd 4 (by decide) (by decide)
          generalize x 4 = y4 at e4 hK ⊢
          subst e4
          exact wpOp_of rfl rfl (wp_val_of (some 14) rfl (.pointer (some ⟨r, 0, none⟩)) (by kernel_rfl) (hK _ (Nx.refl _)))
        · have e5 : x 5 = .pointer (some ⟨r, 0, none⟩) := hd 5 (by decide) (by decide)
          generalize x 5 = y5 at e5 hK ⊢
          subst e5
          exact wpOp_of rfl rfl (wp_val_of (some 15) rfl (.pointer (some ⟨r, 1, none⟩)) (by kernel_rfl) (hK _ (Nx.refl _)))
        · have e6 : x 6 = .pointer (some ⟨r, 1, none⟩) := hd 6 (by decide) (by decide)
          generalize x 6 = y6 at e6 hK ⊢
          subst e6
          exact wpOp_of rfl rfl (wp_load_cell (some 16) rfl 3 (.tmp 15) rfl r 1 rfl (.int .i64 at_) _ ((Row.nx RR.out (Kp.free hx)).cell (i := 1) rfl) Tryz.underlying3 rfl (hK _ (Nx.refl _)))
        · have e3 : x 3 = .slice A l.length c := hd 3 (by decide) (by decide)
          generalize x 3 = y3 at e3 hK ⊢
          subst e3
          have e7 : x 7 = .int .i64 at_ := hd 7 (by decide) (by decide)
          generalize x 7 = y7 at e7 hK ⊢
          subst e7
          refine wpOp_of rfl rfl (wp_call_of (some 17) rfl 121 #[(.slice A l.length c), (.int .i64 at_)] (by kernel_rfl) (.tuple #[.agg (pcel X N H), .int .i64 P, .int .i64 E]) ?_ (fun w' h => hK w' h))
          exact HP.out wr (HB.out.nx (Kp.free hx))
        · have e8 : x 8 = .tuple #[.agg (pcel X N H), .int .i64 P, .int .i64 E] := hd 8 (by decide) (by decide)
          generalize x 8 = y8 at e8 hK ⊢
          subst e8
          exact wpOp_of rfl rfl (wp_val_of (some 8) rfl (.tuple #[.agg (pcel X N H), .int .i64 P, .int .i64 E]) (by kernel_rfl) (hK _ (Nx.refl _)))
        · have e9 : x 9 = .tuple #[.agg (pcel X N H), .int .i64 P, .int .i64 E] := hd 9 (by decide) (by decide)
          generalize x 9 = y9 at e9 hK ⊢
          subst e9
          exact wpOp_of rfl rfl (wp_val_of (some 18) rfl (.agg (pcel X N H)) (by kernel_rfl) (hK _ (Nx.refl _)))
        · have e9 : x 9 = .tuple #[.agg (pcel X N H), .int .i64 P, .int .i64 E] := hd 9 (by decide) (by decide)
          generalize x 9 = y9 at e9 hK ⊢
          subst e9
          exact wpOp_of rfl rfl (wp_val_of (some 19) rfl (.int .i64 P) (by kernel_rfl) (hK _ (Nx.refl _)))
        · have e9 : x 9 = .tuple #[.agg (pcel X N H), .int .i64 P, .int .i64 E] := hd 9 (by decide) (by decide)
          generalize x 9 = y9 at e9 hK ⊢
          subst e9
          exact wpOp_of rfl rfl (wp_val_of (some 20) rfl (.int .i64 E) (by kernel_rfl) (hK _ (Nx.refl _)))
        · exact absurd (by decide) hs
        · exact absurd (by decide) hs
        · have e11 : x 11 = .int .i64 P := hd 11 (by decide) (by decide)
          generalize x 11 = y11 at e11 hK ⊢
          subst e11
          exact wpOp_of rfl rfl (wp_val_of (some 5) rfl (.int .i64 P) (by kernel_rfl) (hK _ (Nx.refl _)))
        · have e12 : x 12 = .int .i64 E := hd 12 (by decide) (by decide)
          generalize x 12 = y12 at e12 hK ⊢
          subst e12
          exact wpOp_of rfl rfl (wp_val_of (some 6) rfl (.int .i64 E) (by kernel_rfl) (hK _ (Nx.refl _)))
      · intro e he
        simp only [List.mem_cons, List.not_mem_nil, or_false] at he
        subst he
        intro tm wr K hK
        exact wpOp_of rfl rfl (wp_alloc_of (some 4) rfl 57 rfl (pcel Z32 0 0) hz2 hK)
      · intro e he
        simp only [List.mem_cons, List.not_mem_nil, or_false] at he
        subst he
        intro x tm wr g htm hd hp hr K hK
        dsimp only at hd
        simp only [fillA, List.setIfInBounds_toArray, List.set_cons_zero, List.set_cons_succ] at htm
        subst htm
        replace hp : x 13 = .pointer (some ⟨g, 0, none⟩) := hp
        generalize x 13 = y13 at hp hK ⊢
        subst hp
        have e10 : x 10 = .agg (pcel X N H) := hd 10 (by decide) (by decide)
        generalize x 10 = y10 at e10 hK ⊢
        subst e10
        have e8 : x 8 = .tuple #[.agg (pcel X N H), .int .i64 P, .int .i64 E] := hd 8 (by decide) (by decide)
        generalize x 8 = y8 at e8 hK ⊢
        subst e8
        have e0 : x 0 = .pointer (some ⟨r, 0, none⟩) := hd 0 (by decide) (by decide)
        generalize x 0 = y0 at e0 hK ⊢
        subst e0
        have e1 : x 1 = .pointer (some ⟨r, 0, none⟩) := hd 1 (by decide) (by decide)
        generalize x 1 = y1 at e1 hK ⊢
        subst e1
        have e2 : x 2 = .pointer (some ⟨r, 0, none⟩) := hd 2 (by decide) (by decide)
        generalize x 2 = y2 at e2 hK ⊢
        subst e2
        have e3 : x 3 = .slice A l.length c := hd 3 (by decide) (by decide)
        generalize x 3 = y3 at e3 hK ⊢
        subst e3
        have e4 : x 4 = .pointer (some ⟨r, 0, none⟩) := hd 4 (by decide) (by decide)
        generalize x 4 = y4 at e4 hK ⊢
        subst e4
        have e5 : x 5 = .pointer (some ⟨r, 0, none⟩) := hd 5 (by decide) (by decide)
        generalize x 5 = y5 at e5 hK ⊢
        subst e5
        have e6 : x 6 = .pointer (some ⟨r, 1, none⟩) := hd 6 (by decide) (by decide)
        generalize x 6 = y6 at e6 hK ⊢
        subst e6
        have e7 : x 7 = .int .i64 at_ := hd 7 (by decide) (by decide)
        generalize x 7 = y7 at e7 hK ⊢
        subst e7
        have e9 : x 9 = .tuple #[.agg (pcel X N H), .int .i64 P, .int .i64 E] := hd 9 (by decide) (by decide)
        generalize x 9 = y9 at e9 hK ⊢
        subst e9
        exact wpOp_of rfl rfl (wp_store_row 57 (.tmp 4) (.tmp 18) rfl g (pcel X N H) rfl rfl 57 (pcel Z32 0 0) hr HPS.out HPO.out (pcel_one _ _ _) hK)
      · intro e he
        cases he
      · intro x tm wr htm hx hv hn hdis ho
        simp only [fillA, List.setIfInBounds_toArray, List.set_cons_zero, List.set_cons_succ] at htm
        subst htm
        obtain ⟨gn0, p0, q0, r0⟩ := hn ⟨13, 14, pcel Z32 0 0, pcel X N H, 57⟩ (.head _)
        replace p0 : x 13 = .pointer (some ⟨gn0, 0, none⟩) := p0
        rw [p0]
        have e0 : x 0 = .pointer (some ⟨r, 0, none⟩) := hv 0 (by decide) (by decide)
        rw [e0]
        have e1 : x 1 = .pointer (some ⟨r, 0, none⟩) := hv 1 (by decide) (by decide)
        rw [e1]
        have e2 : x 2 = .pointer (some ⟨r, 0, none⟩) := hv 2 (by decide) (by decide)
        rw [e2]
        have e3 : x 3 = .slice A l.length c := hv 3 (by decide) (by decide)
        rw [e3]
        have e4 : x 4 = .pointer (some ⟨r, 0, none⟩) := hv 4 (by decide) (by decide)
        rw [e4]
        have e5 : x 5 = .pointer (some ⟨r, 0, none⟩) := hv 5 (by decide) (by decide)
        rw [e5]
        have e6 : x 6 = .pointer (some ⟨r, 1, none⟩) := hv 6 (by decide) (by decide)
        rw [e6]
        have e7 : x 7 = .int .i64 at_ := hv 7 (by decide) (by decide)
        rw [e7]
        have e8 : x 8 = .tuple #[.agg (pcel X N H), .int .i64 P, .int .i64 E] := hv 8 (by decide) (by decide)
        rw [e8]
        have e9 : x 9 = .tuple #[.agg (pcel X N H), .int .i64 P, .int .i64 E] := hv 9 (by decide) (by decide)
        rw [e9]
        have e10 : x 10 = .agg (pcel X N H) := hv 10 (by decide) (by decide)
        rw [e10]
        have e11 : x 11 = .int .i64 P := hv 11 (by decide) (by decide)
        rw [e11]
        have e12 : x 12 = .int .i64 E := hv 12 (by decide) (by decide)
        rw [e12]
        have e15 : x 15 = .int .i64 P := hv 15 (by decide) (by decide)
        rw [e15]
        have e16 : x 16 = .int .i64 E := hv 16 (by decide) (by decide)
        rw [e16]
        have RW := Lib.hid (Row.nx RR.out (Kp.free hx))
        have RI := Lib.hid (Row.nx R2.out (Kp.free hx))
        have RP : Hid (Row wr gn0 (pcel X N H) 57) := Lib.hid r0
        have HGN : Hid (w.heap.size < gn0) := Lib.hid (by have := HHS.out; omega)
        have cb := RW.out.cell (i := 0) (v := .slice A l.length c) rfl
        have NW : Hid (Nx w wr) := Lib.hid (Below.trans N0.out (Below.mono (Kp.free hx) (by have := HHS.out; omega)))
        have HB2 := Lib.hid (HB.out.nx (Kp.free hx))
        clear hv hn hdis ho r0 p0 q0 e0 e1 e2 e3 e4 e5 e6 e7 e8 e9 e10 e11 e12 e15 e16 hx RR R2 N0 HHS HP HB
        obtain rfl : E = 0 := HE.out
        go_wp2_with fail
        refine (HG.out wr HB2.out).mono ?_
        rintro e w3 ⟨uv, rfl, o3, n3⟩
        have O3 := Lib.hid (o3.mono (show w.heap.size + 1 ≤ wr.heap.size from Nat.lt_of_lt_of_le RI.out.lt (Nat.le_refl _)))
        obtain ⟨A3, c3, rfl, -⟩ := o3.rd
        have R3 := RW.out.nx n3
        have K3 := RI.out.nx n3
        have P3 := RP.out.nx n3
        have N3 := Lib.hid (NW.out.trans n3)
        clear o3 n3 RW RI RP NW HB2 HG cb
        have iz := Lib.hid (insz inZ (.slice none 0 0) inZ_ok)
        have i1 := icel_one inZ (.slice none 0 0) rfl
        go_wp2_with (first | (refine wpList_val (some 37) rfl rfl (.agg (icel inZ (.slice none 0 0))) ?_ ?_; (focus kernel_rfl)) | (refine wpList_store_row rfl 59 (.tmp 2) (.tmp 37) rfl w.heap.size (icel inZ (.slice none 0 0)) rfl rfl 59 (icel inZ (.slice none 0 0)) K3 iz.out rfl i1 ?_))
        exact bodyPost_ret (results_cell_row2 Tryz.results101 _ _ w.heap.size 59 (icel inZ (.slice none 0 0)) (0, 0) _ rfl (K3.setRow _) Tryz.underlying59 rfl iz.out) rfl ⟨_, rfl, Own.nil _ _, R3.setRow_other _ (by omega), gr_of (N3.out.setRow _ (Nat.le_refl _))⟩
  · rw [if_pos hE]
    have dE : (E != 0) = true := by simp [hE]
    have iz := Lib.hid (insz inZ (.slice none 0 0) inZ_ok)
    have i1 := icel_one inZ (.slice none 0 0) rfl
    clear hE
    go_enter Tryz.func101, Tryz.ntmps101
    go_wp2_with fail
    generalize (w.alloc (.cells (icel inZ (.slice none 0 0)) 59)) = W0 at *
    refine wp_region_bk 17 [[], [0], [1], [2], [], [4], [5], [6], [3, 7], [8], [9], [9], [9], [], [13, 10, 8, 0, 1, 2, 3, 4, 5, 6, 7, 8, 9, 10, 13], [11, 14, 0, 1, 2, 3, 4, 5, 6, 7, 8, 9, 10, 11, 13, 14], [12, 15, 0, 1, 2, 3, 4, 5, 6, 7, 8, 9, 10, 11, 12, 13, 14, 15]] [some 9, some 10, some 11, some 12, some 13, some 14, some 15, some 16, some 17, some 8, some 18, some 19, some 20, some 4, none, some 5, some 6]
      [.pointer (some ⟨r, 0, none⟩), .pointer (some ⟨r, 0, none⟩), .pointer (some ⟨r, 0, none⟩), .slice A l.length c, .pointer (some ⟨r, 0, none⟩), .pointer (some ⟨r, 0, none⟩), .pointer (some ⟨r, 1, none⟩), .int .i64 at_, .tuple #[.agg (pcel X N H), .int .i64 P, .int .i64 E], .tuple #[.agg (pcel X N H), .int .i64 P, .int .i64 E], .agg (pcel X N H), .int .i64 P, .int .i64 E, undef, undef, .int .i64 P, .int .i64 E]
      [⟨13, 14, pcel Z32 0 0, pcel X N H, 57⟩] [] [13, 14] [(13, 14)] rfl rfl
      (by kernel_rfl) (by kernel_rfl) (hord_of (by decide)) (by kernel_rfl) rfl (by decide) (by decide) (by decide) (by decide) (fun _ h => by cases h) (by decide) ?_ ?_ ?_ ?_ ?_
    · intro x tm wr htm hx i hi hs hd ho K hK
      simp only [fillA, List.setIfInBounds_toArray, List.set_cons_zero, List.set_cons_succ] at htm
      subst htm
      have hcs : i = 0 ∨ i = 1 ∨ i = 2 ∨ i = 3 ∨ i = 4 ∨ i = 5 ∨ i = 6 ∨ i = 7 ∨ i = 8 ∨ i = 9 ∨ i = 10 ∨ i = 11 ∨ i = 12 ∨ i = 13 ∨ i = 14 ∨ i = 15 ∨ i = 16 := by omega
      clear hi
      rcases hcs with rfl | rfl | rfl | rfl | rfl | rfl | rfl | rfl | rfl | rfl | rfl | rfl | rfl | rfl | rfl | rfl | rfl
      · exact wpOp_of rfl rfl (wp_val_of (some 9) rfl (.pointer (some ⟨r, 0, none⟩)) (by kernel_rfl) (hK _ (Nx.refl _)))
      · have e0 : x 0 = .pointer (some ⟨r, 0, none⟩) := hd 0 (by decide) (by decide)
        generalize x 0 = y0 at e0 hK ⊢
        subst e0
        exact wpOp_of rfl rfl (wp_val_of (some 10) rfl (.pointer (some ⟨r, 0, none⟩)) (by kernel_rfl) (hK _ (Nx.refl _)))
      · have e1 : x 1 = .pointer (some ⟨r, 0, none⟩) := hd 1 (by decide) (by decide)
        generalize x 1 = y1 at e1 hK ⊢
        subst e1
        exact wpOp_of rfl rfl (wp_val_of (some 11) rfl (.pointer (some ⟨r, 0, none⟩)) (by kernel_rfl) (hK _ (Nx.refl _)))
      · have e2 : x 2 = .pointer (some ⟨r, 0, none⟩) := hd 2 (by decide) (by decide)
        generalize x 2 = y2 at e2 hK ⊢
        subst e2
        exact wpOp_of rfl rfl (wp_load_cell (some 12) rfl 32 (.tmp 11) rfl r 0 rfl (.slice A l.length c) _ ((Row.nx RR.out (Kp.free hx)).cell (i := 0) rfl) Tryz.underlying32 rfl (hK _ (Nx.refl _)))
      · exact wpOp_of rfl rfl (wp_val_of (some 13) rfl (.pointer (some ⟨r, 0, none⟩)) (by kernel_rfl) (hK _ (Nx.refl _)))
      · have e4 : x 4 = .pointer (some ⟨r, 0, none⟩) := hd 4 (by decide) (by decide)
        generalize x 4 = y4 at e4 hK ⊢
        subst e4
        exact wpOp_of rfl rfl (wp_val_of (some 14) rfl (.pointer (some ⟨r, 0, none⟩)) (by kernel_rfl) (hK _ (Nx.refl _)))
      · have e5 : x 5 = .pointer (some ⟨r, 0, none⟩) := hd 5 (by decide) (by decide)
        generalize x 5 = y5 at e5 hK ⊢
        subst e5
        exact wpOp_of rfl rfl (wp_val_of (some 15) rfl (.pointer (some ⟨r, 1, none⟩)) (by kernel_rfl) (hK _ (Nx.refl _)))
      · have e6 : x 6 = .pointer (some ⟨r, 1, none⟩) := hd 6 (by decide) (by decide)
        generalize x 6 = y6 at e6 hK ⊢
        subst e6
        exact wpOp_of rfl rfl (wp_load_cell (some 16) rfl 3 (.tmp 15) rfl r 1 rfl (.int .i64 at_) _ ((Row.nx RR.out (Kp.free hx)).cell (i := 1) rfl) Tryz.underlying3 rfl (hK _ (Nx.refl _)))
      · have e3 : x 3 = .slice A l.length c := hd 3 (by decide) (by decide)
        generalize x 3 = y3 at e3 hK ⊢
        subst e3
        have e7 : x 7 = .int .i64 at_ := hd 7 (by decide) (by decide)
        generalize x 7 = y7 at e7 hK ⊢
        subst e7
        refine wpOp_of rfl rfl (wp_call_of (some 17) rfl 121 #[(.slice A l.length c), (.int .i64 at_)] (by kernel_rfl) (.tuple #[.agg (pcel X N H), .int .i64 P, .int .i64 E]) ?_ (fun w' h => hK w' h))
        exact HP.out wr (HB.out.nx (Kp.free hx))
      · have e8 : x 8 = .tuple #[.agg (pcel X N H), .int .i64 P, .int .i64 E] := hd 8 (by decide) (by decide)
        generalize x 8 = y8 at e8 hK ⊢
        subst e8
        exact wpOp_of rfl rfl (wp_val_of (some 8) rfl (.tuple #[.agg (pcel X N H), .int .i64 P, .int .i64 E]) (by kernel_rfl) (hK _ (Nx.refl _)))
      · have e9 : x 9 = .tuple #[.agg (pcel X N H), .int .i64 P, .int .i64 E] := hd 9 (by decide) (by decide)
        generalize x 9 = y9 at e9 hK ⊢
        subst e9
        exact wpOp_of rfl rfl (wp_val_of (some 18) rfl (.agg (pcel X N H)) (by kernel_rfl) (hK _ (Nx.refl _)))
      · have e9 : x 9 = .tuple #[.agg (pcel X N H), .int .i64 P, .int .i64 E] := hd 9 (by decide) (by decide)
        generalize x 9 = y9 at e9 hK ⊢
        subst e9
        exact wpOp_of rfl rfl (wp_val_of (some 19) rfl (.int .i64 P) (by kernel_rfl) (hK _ (Nx.refl _)))
      · have e9 : x 9 = .tuple #[.agg (pcel X N H), .int .i64 P, .int .i64 E] := hd 9 (by decide) (by decide)
        generalize x 9 = y9 at e9 hK ⊢
        subst e9
        exact wpOp_of rfl rfl (wp_val_of (some 20) rfl (.int .i64 E) (by kernel_rfl) (hK _ (Nx.refl _)))
      · exact absurd (by decide) hs
      · exact absurd (by decide) hs
      · have e11 : x 11 = .int .i64 P := hd 11 (by decide) (by decide)
        generalize x 11 = y11 at e11 hK ⊢
        subst e11
        exact wpOp_of rfl rfl (wp_val_of (some 5) rfl (.int .i64 P) (by kernel_rfl) (hK _ (Nx.refl _)))
      · have e12 : x 12 = .int .i64 E := hd 12 (by decide) (by decide)
        generalize x 12 = y12 at e12 hK ⊢
        subst e12
        exact wpOp_of rfl rfl (wp_val_of (some 6) rfl (.int .i64 E) (by kernel_rfl) (hK _ (Nx.refl _)))
    · intro e he
      simp only [List.mem_cons, List.not_mem_nil, or_false] at he
      subst he
      intro tm wr K hK
      exact wpOp_of rfl rfl (wp_alloc_of (some 4) rfl 57 rfl (pcel Z32 0 0) hz2 hK)
    · intro e he
      simp only [List.mem_cons, List.not_mem_nil, or_false] at he
      subst he
      intro x tm wr g htm hd hp hr K hK
      dsimp only at hd
      simp only [fillA, List.setIfInBounds_toArray, List.set_cons_zero, List.set_cons_succ] at htm
      subst htm
      replace hp : x 13 = .pointer (some ⟨g, 0, none⟩) := hp
      generalize x 13 = y13 at hp hK ⊢
      subst hp
      have e10 : x 10 = .agg (pcel X N H) := hd 10 (by decide) (by decide)
      generalize x 10 = y10 at e10 hK ⊢
      subst e10
      have e8 : x 8 = .tuple #[.agg (pcel X N H), .int .i64 P, .int .i64 E] := hd 8 (by decide) (by decide)
      generalize x 8 = y8 at e8 hK ⊢
      subst e8
      have e0 : x 0 = .pointer (some ⟨r, 0, none⟩) := hd 0 (by decide) (by decide)
      generalize x 0 = y0 at e0 hK ⊢
      subst e0
      have e1 : x 1 = .pointer (some ⟨r, 0, none⟩) := hd 1 (by decide) (by decide)
      generalize x 1 = y1 at e1 hK ⊢
      subst e1
      have e2 : x 2 = .pointer (some ⟨r, 0, none⟩) := hd 2 (by decide) (by decide)
      generalize x 2 = y2 at e2 hK ⊢
      subst e2
      have e3 : x 3 = .slice A l.length c := hd 3 (by decide) (by decide)
      generalize x 3 = y3 at e3 hK ⊢
      subst e3
      have e4 : x 4 = .pointer (some ⟨r, 0, none⟩) := hd 4 (by decide) (by decide)
      generalize x 4 = y4 at e4 hK ⊢
      subst e4
      have e5 : x 5 = .pointer (some ⟨r, 0, none⟩) := hd 5 (by decide) (by decide)
      generalize x 5 = y5 at e5 hK ⊢
      subst e5
      have e6 : x 6 = .pointer (some ⟨r, 1, none⟩) := hd 6 (by decide) (by decide)
      generalize x 6 = y6 at e6 hK ⊢
      subst e6
      have e7 : x 7 = .int .i64 at_ := hd 7 (by decide) (by decide)
      generalize x 7 = y7 at e7 hK ⊢
      subst e7
      have e9 : x 9 = .tuple #[.agg (pcel X N H), .int .i64 P, .int .i64 E] := hd 9 (by decide) (by decide)
      generalize x 9 = y9 at e9 hK ⊢
      subst e9
      exact wpOp_of rfl rfl (wp_store_row 57 (.tmp 4) (.tmp 18) rfl g (pcel X N H) rfl rfl 57 (pcel Z32 0 0) hr HPS.out HPO.out (pcel_one _ _ _) hK)
    · intro e he
      cases he
    · intro x tm wr htm hx hv hn hdis ho
      simp only [fillA, List.setIfInBounds_toArray, List.set_cons_zero, List.set_cons_succ] at htm
      subst htm
      obtain ⟨gn0, p0, q0, r0⟩ := hn ⟨13, 14, pcel Z32 0 0, pcel X N H, 57⟩ (.head _)
      replace p0 : x 13 = .pointer (some ⟨gn0, 0, none⟩) := p0
      rw [p0]
      have e0 : x 0 = .pointer (some ⟨r, 0, none⟩) := hv 0 (by decide) (by decide)
      rw [e0]
      have e1 : x 1 = .pointer (some ⟨r, 0, none⟩) := hv 1 (by decide) (by decide)
      rw [e1]
      have e2 : x 2 = .pointer (some ⟨r, 0, none⟩) := hv 2 (by decide) (by decide)
      rw [e2]
      have e3 : x 3 = .slice A l.length c := hv 3 (by decide) (by decide)
      rw [e3]
      have e4 : x 4 = .pointer (some ⟨r, 0, none⟩) := hv 4 (by decide) (by decide)
      rw [e4]
      have e5 : x 5 = .pointer (some ⟨r, 0, none⟩) := hv 5 (by decide) (by decide)
      rw [e5]
      have e6 : x 6 = .pointer (some ⟨r, 1, none⟩) := hv 6 (by decide) (by decide)
      rw [e6]
      have e7 : x 7 = .int .i64 at_ := hv 7 (by decide) (by decide)
      rw [e7]
      have e8 : x 8 = .tuple #[.agg (pcel X N H), .int .i64 P, .int .i64 E] := hv 8 (by decide) (by decide)
      rw [e8]
      have e9 : x 9 = .tuple #[.agg (pcel X N H), .int .i64 P, .int .i64 E] := hv 9 (by decide) (by decide)
      rw [e9]
      have e10 : x 10 = .agg (pcel X N H) := hv 10 (by decide) (by decide)
      rw [e10]
      have e11 : x 11 = .int .i64 P := hv 11 (by decide) (by decide)
      rw [e11]
      have e12 : x 12 = .int .i64 E := hv 12 (by decide) (by decide)
      rw [e12]
      have e15 : x 15 = .int .i64 P := hv 15 (by decide) (by decide)
      rw [e15]
      have e16 : x 16 = .int .i64 E := hv 16 (by decide) (by decide)
      rw [e16]
      have RW := Lib.hid (Row.nx RR.out (Kp.free hx))
      have RI := Lib.hid (Row.nx R2.out (Kp.free hx))
      have RP : Hid (Row wr gn0 (pcel X N H) 57) := Lib.hid r0
      have HGN : Hid (w.heap.size < gn0) := Lib.hid (by have := HHS.out; omega)
      have cb := RW.out.cell (i := 0) (v := .slice A l.length c) rfl
      have NW : Hid (Nx w wr) := Lib.hid (Below.trans N0.out (Below.mono (Kp.free hx) (by have := HHS.out; omega)))
      have HB2 := Lib.hid (HB.out.nx (Kp.free hx))
      clear hv hn hdis ho r0 p0 q0 e0 e1 e2 e3 e4 e5 e6 e7 e8 e9 e10 e11 e12 e15 e16 hx RR R2 N0 HHS HP HB
      have R3 := RW.out
      have K3 := RI.out
      clear RW RI RP HB2
      go_wp2_with (first | (refine wpList_val (some 23) rfl rfl (.agg (icel inZ (.slice none 0 0))) ?_ ?_; (focus kernel_rfl)) | (refine wpList_store_row rfl 59 (.tmp 2) (.tmp 23) rfl w.heap.size (icel inZ (.slice none 0 0)) rfl rfl 59 (icel inZ (.slice none 0 0)) K3 iz.out rfl i1 ?_))
      exact bodyPost_ret (results_cell_row2 Tryz.results101 _ _ w.heap.size 59 (icel inZ (.slice none 0 0)) (0, 0) _ rfl (K3.setRow _) Tryz.underlying59 rfl iz.out) rfl ⟨_, rfl, Own.nil _ _, R3.setRow_other _ (by omega), gr_of (NW.out.setRow _ (Nat.le_refl _))⟩
end Go.Proofs.YtejeekbpeinioaaGreatDoor
end
