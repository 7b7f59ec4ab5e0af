/- TEXTS OF OUR OWN, IN ONE FILE. -/
import Derived.Test.YtpijehaciomkhaaDoorTn
import Derived.Deep.QuietTactic
import Derived.BigQuiet
import Derived.Laws.AppendOwn
import Derived.Test.YtpijehaciomkhaaDoorTm
section
namespace Go.Proofs.YtpijehaciomkhaaDoor
open Go Go.RowKit
set_option linter.unusedVariables false
set_option linter.unusedSimpArgs false
set_option linter.unusedVariables false
set_option linter.unusedSimpArgs false

section
variable {P : Program}
/-- A place in a slice. -/
theorem run_ix (t e : TypeId) (ht : P.underlying t = some (.slice e)) (k : Nat) (hsz : ∀ w, (sizeOf e).run P w = .ok k w) (b o n c j : Nat) (z : Int) (hz : z = j) (hj : j < n) (w : World) :
    (Instr.indexAt t (.slice (some ⟨b, o, none⟩) n c) (.int .i64 z)).run P w = .ok (.pointer (some ⟨b, o + j * k, none⟩)) w := by
  subst hz
  have h1 : (j : Int) < (n : Int) := by omega
  simp [Instr.indexAt, asIntOf, run_underlying ht, hsz, h1, addr_add]
  intro h
  omega
theorem wp_ix_of {o : Oper} {a : Act} {w : World} {K : Act → World → Prop} {Q : Exit → Act → World → Prop} (dst : Option Tmp) (hd : o.dst = dst) (t e : TypeId) (x ix : Operand) (ho : o.op = .indexAddr t x ix)
    (ht : P.underlying t = some (.slice e)) (k : Nat) (hsz : ∀ w, (sizeOf e).run P w = .ok k w) (b q n c j : Nat) (z : Int) (hx : a.eval x = .slice (some ⟨b, q, none⟩) n c) (hi : a.eval ix = .int .i64 z) (hz : z = j) (hj : j < n)
    (h : K (a.put dst (.pointer (some ⟨b, q + j * k, none⟩))) w) : o.wp P a w K Q := by
  refine wp_val_of dst hd _ ?_ h
  unfold execOp
  simp only [ho, hx, hi]
  simp only [Sem.run_bind, run_ix t e ht k hsz b q n c j z hz hj w, Result.andThen_ok, Sem.run_pure]
end
end Go.Proofs.YtpijehaciomkhaaDoor
end

section
namespace Go.Proofs.YtpijehaciomkhaaDoor
open Go Go.RowKit
set_option linter.unusedVariables false
set_option linter.unusedSimpArgs false

/-- A transaction lies here. -/
structure TxAt (w : World) (iv ov : Value) (t : Txn) : Prop where
  i : RdE inEl w iv t.ins
  o : RdE outEl w ov t.outs
  a : t.after < 4294967296
  g : TxG t
theorem TxAt.nx {w w' : World} {iv ov : Value} {t : Txn} (h : TxAt w iv ov t) (k : Nx w w') : TxAt w' iv ov t := ⟨h.i.nx k, h.o.nx k, h.a, h.g⟩
end Go.Proofs.YtpijehaciomkhaaDoor
end

section
namespace Go.Proofs.YtpijehaciomkhaaDoor
open Go Go.RowKit
set_option linter.unusedVariables false
set_option linter.unusedSimpArgs false

theorem gr_trans {a b c : World} {row : Option Nat} (h : a.grownBy b row) (k : b.grownBy c row) : a.grownBy c row :=
  ⟨k.os.trans h.os, k.tape.trans h.tape, k.output.trans h.output, Nat.le_trans h.size k.size, fun i hi hne => (k.block i (Nat.lt_of_lt_of_le hi h.size) hne).trans (h.block i hi hne)⟩
theorem gr_of {w w' : World} {s : Option Nat} (h : Nx w w') : w.grownBy w' s := ⟨h.os, h.tape, h.output, h.size, fun k hk _ => h.block k hk⟩
theorem gr_set (w : World) (r i : Nat) (v : Value) : w.grownBy (w.setCell ⟨r, i, none⟩ v) (some r) :=
  ⟨rfl, rfl, rfl, by simp [World.setCell], fun k hk hne => by
    have hk2 : k ≠ r := fun e => hne (by rw [e])
    simp [World.setCell, Array.getElem?_modify, Ne.symm hk2]⟩
theorem grw_row {w w' : World} {g r : Nat} {cs : Array Value} {t : TypeId} (h : Row w g cs t) (k : w.grownBy w' (some r)) (hne : g ≠ r) : Row w' g cs t :=
  (k.block g h.lt (fun e => hne (Option.some.inj e))).trans h
theorem gr_own {w w' : World} {r B : Nat} {v : Value} {l : List UInt8} (h : Own B w v l) (k : w.grownBy w' (some r)) (hB : r < B) : Own B w' v l := by
  rcases h with h2 | ⟨g, full, rfl, hb, hg, rest⟩
  · exact .inl h2
  · exact .inr ⟨g, full, rfl, hb, by rw [k.block g (Array.getElem?_eq_some_iff.1 hg).1 (fun e => by have := Option.some.inj e; omega)]; exact hg, rest⟩
theorem gr_below {B r : Nat} {a w w' : World} (h : Below B a w) (k : w.grownBy w' (some r)) (hB : B ≤ a.heap.size) (hr : B ≤ r) : Below B a w' :=
  ⟨k.os.trans h.os, k.tape.trans h.tape, k.output.trans h.output, Nat.le_trans h.size k.size, fun i hi => (k.block i (Nat.lt_of_lt_of_le (Nat.lt_of_lt_of_le hi hB) h.size) (fun e => by have := Option.some.inj e; omega)).trans (h.block i hi)⟩
/-- What a reader counts. -/
def cnT (l : List UInt8) (at_ : Int) (most : Nat) : Nat × Int × Int := if (gc l at_).2.2 ≠ 0 then (0, at_, (gc l at_).2.2) else if most < (gc l at_).1 then (0, at_, 3) else ((gc l at_).1, (gc l at_).2.1, 0)
abbrev rdcs (bv : Value) (at_ : Int) : Array Value := #[bv, .int .i64 at_]
set_option maxRecDepth 100000 in
set_option maxHeartbeats 8000000 in
theorem tcount_any (r : Nat) (bv : Value) (l : List UInt8) (at_ : Int) (most : Nat) (w : World) (R : Row w r (rdcs bv at_) 100) (h : RdS (some r) w bv l) (hl : l.length ≤ 140737488355328) (hm : most ≤ 1000) :
    Calls Tryd.prog 57 #[.pointer (some ⟨r, 0, none⟩), .int .i64 (most : Int)] w fun e w' => e = .returned (.tuple #[.int .i64 ((cnT l at_ most).1 : Int), .int .i64 (cnT l at_ most).2.2]) ∧ Row w' r (rdcs bv (cnT l at_ most).2.1) 100 ∧ w.grownBy w' (some r) := by
  have HG := Lib.hid (fun w h => getCount_any bv l at_ w h hl)
  have HGN : Hid (∀ w, Rd w bv l → Calls Tryd.prog 51 #[bv, .int .i64 at_] w fun e w' => e = .returned (.tuple #[.int .u64 ((gc l at_).1 : Int), .int .i64 (gc l at_).2.1, .int .i64 (gc l at_).2.2]) ∧ Nx w w') := Lib.hid (fun w h => (HG.out w h).mono fun e w' ⟨h1, h2⟩ => ⟨h1, by subst h2; exact Nx.refl _⟩)
  clear HG
  obtain ⟨A, c, rfl⟩ := h.sl
  unfold cnT
  generalize hgc : gc l at_ = T at *
  clear hgc
  obtain ⟨N, p, E⟩ := T
  dsimp only at *
  have hm1 : IntKind.u64.wrap (most : Int) = (most : Int) := by rw [IntKind.wrap_u64]; omega
  have HRW := Lib.hid (fun d os => show Rd (Sort.grow (redrawn w d) os) (.slice A l.length c) l from h.1.nx (below_regrown w d os))
  have q0 : ∀ d os, (Sort.grow (redrawn w d) os).cell? ⟨r, 0, none⟩ = some (.slice A l.length c) := fun d os => cell_regrown (R.cell (i := 0) (v := .slice A l.length c) rfl) d os
  have q1 : ∀ d os, (Sort.grow (redrawn w d) os).cell? ⟨r, 1, none⟩ = some (.int .i64 at_) := fun d os => cell_regrown (R.cell (i := 1) (v := .int .i64 at_) rfl) d os
  have HR := Lib.hid (fun d os => show Row (Sort.grow (redrawn w d) os) r #[.slice A l.length c, .int .i64 at_] 100 from Row.nx R (below_regrown w d os))
  have HNN := Lib.hid (fun d os => show Nx w (Sort.grow (redrawn w d) os) from below_regrown w d os)
  clear R h
  by_cases hE : E = 0
  · subst hE
    rw [if_neg (by simp)]
    by_cases hN : most < N
    · rw [if_pos hN]
      go_enter Tryd.func57, Tryd.ntmps57
      go_wp2_with fail
      refine wp_region_quiet_below (by kernel_rfl) (by kernel_rfl) ?_
      repeat (quiet_step ((go_at_call 51; exact Calls.regrown_of (HGN.out _ (HRW.out _ _)))))
      refine wpQuiet_nil ?_
      intro _ hw'
      obtain ⟨⟨dq, osq⟩, hw''⟩ := hw'
      subst hw''
      have R2 := HR.out dq osq
      have N2 := Lib.hid (HNN.out dq osq)
      clear q0 q1 HR HNN HRW HGN
      generalize Sort.grow (redrawn w dq) osq = W at *
      replace R2 := Lib.hid R2
      go_wp2_with fail
      go_ret2
      exact ⟨rfl, R2.out, gr_of N2.out⟩
    · rw [if_neg hN]
      have hN1 : IntKind.i64.wrap (N : Int) = (N : Int) := IntWalk.i64_in _ (by omega)
      go_enter Tryd.func57, Tryd.ntmps57
      go_wp2_with fail
      refine wp_region_quiet_below (by kernel_rfl) (by kernel_rfl) ?_
      repeat (quiet_step ((go_at_call 51; exact Calls.regrown_of (HGN.out _ (HRW.out _ _)))))
      refine wpQuiet_nil ?_
      intro _ hw'
      obtain ⟨⟨dq, osq⟩, hw''⟩ := hw'
      subst hw''
      have R2 := HR.out dq osq
      have N2 := Lib.hid (HNN.out dq osq)
      clear q0 q1 HR HNN HRW HGN
      generalize Sort.grow (redrawn w dq) osq = W at *
      have f1 := R2.frozen 1
      have c1 := R2.cell (i := 1) (v := .int .i64 at_) rfl
      have RS := Lib.hid (R2.set 1 (.int .i64 p))
      have GS := Lib.hid (gr_trans (gr_of (s := some r) N2.out) (gr_set W r 1 (.int .i64 p)))
      replace R2 := Lib.hid R2
      go_wp2_with fail
      go_ret2
      exact ⟨rfl, RS.out, GS.out⟩
  · rw [if_pos hE]
    have dE : (E != 0) = true := by simp [hE]
    clear hE
    go_enter Tryd.func57, Tryd.ntmps57
    go_wp2_with fail
    refine wp_region_quiet_below (by kernel_rfl) (by kernel_rfl) ?_
    repeat (quiet_step ((go_at_call 51; exact Calls.regrown_of (HGN.out _ (HRW.out _ _)))))
    refine wpQuiet_nil ?_
    intro _ hw'
    obtain ⟨⟨dq, osq⟩, hw''⟩ := hw'
    subst hw''
    have R2 := HR.out dq osq
    have N2 := Lib.hid (HNN.out dq osq)
    clear q0 q1 HR HNN HRW HGN
    generalize Sort.grow (redrawn w dq) osq = W at *
    replace R2 := Lib.hid R2
    go_wp2_with fail
    go_ret2
    exact ⟨rfl, R2.out, gr_of N2.out⟩
end Go.Proofs.YtpijehaciomkhaaDoor
end

section
namespace Go.Proofs.YtpijehaciomkhaaDoor
open Go Go.RowKit
set_option linter.unusedVariables false
set_option linter.unusedSimpArgs false
set_option linter.unusedVariables false
set_option linter.unusedSimpArgs false

theorem gpN_lt (l : List UInt8) (at_ : Int) : gpN l at_ < 65536 := by
  unfold gpN
  split
  · rename_i h
    obtain ⟨q1, -, -⟩ := cut38 h
    obtain ⟨g1, g2, g3⟩ := get38 _ q1 32 2 (by decide) (by decide)
    rw [show getN (cutL l at_ 38) 32 2 = _ from g2]
    exact g3
  · decide
theorem gpH_lt (l : List UInt8) (at_ : Int) : gpH l at_ < 4294967296 := by
  unfold gpH
  split
  · rename_i h
    obtain ⟨q1, -, -⟩ := cut38 h
    obtain ⟨g1, g2, g3⟩ := get38 _ q1 34 4 (by decide) (by decide)
    rw [show getN (cutL l at_ 38) 34 4 = _ from g2]
    exact g3
  · decide
theorem own_setRow {B g : Nat} {w : World} {v : Value} {l : List UInt8} {cs : Array Value} (h : Own B w v l) (hg : g < B) : Own B (w.setRow g cs) v l := by
  rcases h with h2 | ⟨q, full, rfl, hb, hh, rest⟩
  · exact .inl h2
  · exact .inr ⟨q, full, rfl, hb, by rw [setRow_other _ _ _ _ (by omega)]; exact hh, rest⟩
theorem gr_newRow {w W : World} {s : Option Nat} {g : Nat} {cs : Array Value} (h : w.grownBy W s) (hg : w.heap.size ≤ g) : w.grownBy (W.setRow g cs) s :=
  ⟨h.os, h.tape, h.output, by rw [size_setRow]; exact h.size, fun k hk hne => by rw [setRow_other _ _ _ _ (by omega)]; exact h.block k hk hne⟩
theorem built_in0 (x0 x1 x2 x3 x4 x5 x6 x7 x8 x9 x10 x11 x12 x13 x14 x15 x16 x17 x18 x19 x20 x21 x22 x23 x24 x25 x26 x27 x28 x29 x30 x31 : UInt8) (n h : Nat) (u : List UInt8) (A : Option Addr) (k c : Nat) :
    Tryd.prog.built 45 [(0, .agg (pcel [x0, x1, x2, x3, x4, x5, x6, x7, x8, x9, x10, x11, x12, x13, x14, x15, x16, x17, x18, x19, x20, x21, x22, x23, x24, x25, x26, x27, x28, x29, x30, x31] n h)), (1, .slice A k c)] = some (icel ⟨[x0, x1, x2, x3, x4, x5, x6, x7, x8, x9, x10, x11, x12, x13, x14, x15, x16, x17, x18, x19, x20, x21, x22, x23, x24, x25, x26, x27, x28, x29, x30, x31], n, h, u⟩ (.slice A k c)) := by kernel_rfl
theorem built_in (tx : List UInt8) (ht : tx.length = 32) (n h : Nat) (u : List UInt8) (A : Option Addr) (k c : Nat) :
    Tryd.prog.built 45 [(0, .agg (pcel tx n h)), (1, .slice A k c)] = some (icel ⟨tx, n, h, u⟩ (.slice A k c)) := by
  obtain ⟨x0, x1, x2, x3, x4, x5, x6, x7, x8, x9, x10, x11, x12, x13, x14, x15, x16, x17, x18, x19, x20, x21, x22, x23, x24, x25, x26, x27, x28, x29, x30, x31, rfl⟩ := list32 tx ht
  exact built_in0 x0 x1 x2 x3 x4 x5 x6 x7 x8 x9 x10 x11 x12 x13 x14 x15 x16 x17 x18 x19 x20 x21 x22 x23 x24 x25 x26 x27 x28 x29 x30 x31 n h u A k c
/-- What a reader reads as an input. -/
def inT (l : List UInt8) (at_ : Int) : Inp × Int × Int := if gpE l at_ ≠ 0 then (inZ, at_, gpE l at_) else if (gr l (gpP l at_) 3000).2.2 ≠ 0 then (inZ, at_, (gr l (gpP l at_) 3000).2.2) else (⟨gpX l at_, gpN l at_, gpH l at_, (gr l (gpP l at_) 3000).1⟩, (gr l (gpP l at_) 3000).2.1, 0)
set_option maxRecDepth 100000 in
set_option maxHeartbeats 8000000 in
theorem tin_any (r : Nat) (bv : Value) (l : List UInt8) (at_ : Int) (w : World) (R : Row w r (rdcs bv at_) 100) (h : RdS (some r) w bv l) (hl : l.length ≤ 140737488355328) :
    Calls Tryd.prog 41 #[.pointer (some ⟨r, 0, none⟩)] w fun e w' => ∃ uv, e = .returned (.tuple #[.agg (icel (inT l at_).1 uv), .int .i64 (inT l at_).2.2]) ∧ Own w.heap.size w' uv (inT l at_).1.u ∧ Row w' r (rdcs bv (inT l at_).2.1) 100 ∧ w.grownBy w' (some r) := by
  have HP := Lib.hid (fun w h => getPoint_any bv l at_ w h hl)
  have HG := Lib.hid (fun p w h => getRow_any bv l p 3000 w h hl (by decide))
  have HB := Lib.hid (h.1.nx ((Nx.refl w).alloc (.cells (icel inZ (.slice none 0 0)) 45)))
  obtain ⟨A, c, rfl⟩ := h.sl
  have hrl : r < w.heap.size := R.lt
  have R2 := Row.new w (icel inZ (.slice none 0 0)) 45 _ rfl
  have RR := Lib.hid (R.alloc (.cells (icel inZ (.slice none 0 0)) 45))
  have N0 := Lib.hid ((Nx.refl w).alloc (.cells (icel inZ (.slice none 0 0)) 45))
  obtain ⟨hz, hzs⟩ := zero_of_info info_in
  obtain ⟨hz2, hzs2⟩ := zero_of_info info_point
  have HHS := Lib.hid (show (w.alloc (.cells (icel inZ (.slice none 0 0)) 45)).heap.size = w.heap.size + 1 by simp)
  have HXL := gpX_length l at_
  have HOK : Hid (∀ u, InOk ⟨gpX l at_, gpN l at_, gpH l at_, u⟩) := Lib.hid (fun u => ⟨HXL, gpN_lt l at_, gpH_lt l at_⟩)
  have HPS := Lib.hid (pointsz (gpX l at_) (gpN l at_) (gpH l at_) HXL)
  have HPO := Lib.hid (pointsame Z32 (gpX l at_) 0 0 (gpN l at_) (gpH l at_) Z32_length HXL)
  unfold inT
  generalize gpX l at_ = X at *
  generalize gpN l at_ = N at *
  generalize gpH l at_ = H at *
  generalize hPP : gpP l at_ = P at *
  generalize hEE : gpE l at_ = E at *
  clear R h hPP hEE HXL
  replace R2 := Lib.hid R2
  by_cases hE : E = 0
  · rw [if_neg (by simp [hE])]
    replace HG := Lib.hid (HG.out P)
    generalize hgr : gr l P 3000 = g at *
    clear hgr
    obtain ⟨U, q, F⟩ := g
    dsimp only at *
    by_cases hF : F = 0
    · subst hF
      rw [if_neg (by simp)]
      have HE := Lib.hid hE
      clear hE
      go_enter Tryd.func41, Tryd.ntmps41
      go_wp2_with fail
      generalize (w.alloc (.cells (icel inZ (.slice none 0 0)) 45)) = W0 at *
      refine wp_region_bk 17 [[], [0], [1], [2], [], [4], [5], [6], [3, 7], [8], [9], [9], [9], [], [13, 10, 8, 0, 1, 2, 3, 4, 5, 6, 7, 8, 9, 10, 13], [11, 14, 0, 1, 2, 3, 4, 5, 6, 7, 8, 9, 10, 11, 13, 14], [12, 15, 0, 1, 2, 3, 4, 5, 6, 7, 8, 9, 10, 11, 12, 13, 14, 15]] [some 9, some 10, some 11, some 12, some 13, some 14, some 15, some 16, some 17, some 8, some 18, some 19, some 20, some 4, none, some 5, some 6]
        [.pointer (some ⟨r, 0, none⟩), .pointer (some ⟨r, 0, none⟩), .pointer (some ⟨r, 0, none⟩), .slice A l.length c, .pointer (some ⟨r, 0, none⟩), .pointer (some ⟨r, 0, none⟩), .pointer (some ⟨r, 1, none⟩), .int .i64 at_, .tuple #[.agg (pcel X N H), .int .i64 P, .int .i64 E], .tuple #[.agg (pcel X N H), .int .i64 P, .int .i64 E], .agg (pcel X N H), .int .i64 P, .int .i64 E, undef, undef, .int .i64 P, .int .i64 E]
        [⟨13, 14, pcel Z32 0 0, pcel X N H, 42⟩] [] [13, 14] [(13, 14)] rfl rfl
        (by kernel_rfl) (by kernel_rfl) (hord_of (by decide)) (by kernel_rfl) rfl (by decide) (by decide) (by decide) (by decide) (fun _ h => by cases h) (by decide) ?_ ?_ ?_ ?_ ?_
      · intro x tm wr htm hx i hi hs hd ho K hK
        simp only [fillA, List.setIfInBounds_toArray, List.set_cons_zero, List.set_cons_succ] at htm
        subst htm
        have hcs : i = 0 ∨ i = 1 ∨ i = 2 ∨ i = 3 ∨ i = 4 ∨ i = 5 ∨ i = 6 ∨ i = 7 ∨ i = 8 ∨ i = 9 ∨ i = 10 ∨ i = 11 ∨ i = 12 ∨ i = 13 ∨ i = 14 ∨ i = 15 ∨ i = 16 := by omega
        clear hi
        rcases hcs with rfl | rfl | rfl | rfl | rfl | rfl | rfl | rfl | rfl | rfl | rfl | rfl | rfl | rfl | rfl | rfl | rfl
        · exact wpOp_of rfl rfl (wp_val_of (some 9) rfl (.pointer (some ⟨r, 0, none⟩)) (by kernel_rfl) (hK _ (Nx.refl _)))
        · have e0 : x 0 = .pointer (some ⟨r, 0, none⟩) := hd 0 (by decide) (by decide)
          generalize x 0 = y0 at e0 hK ⊢
          subst e0
          exact wpOp_of rfl rfl (wp_val_of (some 10) rfl (.pointer (some ⟨r, 0, none⟩)) (by kernel_rfl) (hK _ (Nx.refl _)))
        · have e1 : x 1 = .pointer (some ⟨r, 0, none⟩) := hd 1 (by decide) (by decide)
          generalize x 1 = y1 at e1 hK ⊢
          subst e1
          exact wpOp_of rfl rfl (wp_val_of (some 11) rfl (.pointer (some ⟨r, 0, none⟩)) (by kernel_rfl) (hK _ (Nx.refl _)))
        · have e2 : x 2 = .pointer (some ⟨r, 0, none⟩) := hd 2 (by decide) (by decide)
          generalize x 2 = y2 at e2 hK ⊢
          subst e2
          exact wpOp_of rfl rfl (wp_load_cell (some 12) rfl 43 (.tmp 11) rfl r 0 rfl (.slice A l.length c) _ ((Row.nx RR.out (Kp.free hx)).cell (i := 0) rfl) Tryd.underlying43 rfl (hK _ (Nx.refl _)))
        · exact wpOp_of rfl rfl (wp_val_of (some 13) rfl (.pointer (some ⟨r, 0, none⟩)) (by kernel_rfl) (hK _ (Nx.refl _)))
        · have e4 : x 4 = .pointer (some ⟨r, 0, none⟩) := hd 4 (by decide) (by decide)
          generalize x 4 = y4 at e4 hK ⊢
          subst e4
          exact wpOp_of rfl rfl (wp_val_of (some 14) rfl (.pointer (some ⟨r, 0, none⟩)) (by kernel_rfl) (hK _ (Nx.refl _)))
        · have e5 : x 5 = .pointer (some ⟨r, 0, none⟩) := hd 5 (by decide) (by decide)
          generalize x 5 = y5 at e5 hK ⊢
          subst e5
          exact wpOp_of rfl rfl (wp_val_of (some 15) rfl (.pointer (some ⟨r, 1, none⟩)) (by kernel_rfl) (hK _ (Nx.refl _)))
        · have e6 : x 6 = .pointer (some ⟨r, 1, none⟩) := hd 6 (by decide) (by decide)
          generalize x 6 = y6 at e6 hK ⊢
          subst e6
          exact wpOp_of rfl rfl (wp_load_cell (some 16) rfl 3 (.tmp 15) rfl r 1 rfl (.int .i64 at_) _ ((Row.nx RR.out (Kp.free hx)).cell (i := 1) rfl) Tryd.underlying3 rfl (hK _ (Nx.refl _)))
        · have e3 : x 3 = .slice A l.length c := hd 3 (by decide) (by decide)
          generalize x 3 = y3 at e3 hK ⊢
          subst e3
          have e7 : x 7 = .int .i64 at_ := hd 7 (by decide) (by decide)
          generalize x 7 = y7 at e7 hK ⊢
          subst e7
          refine wpOp_of rfl rfl (wp_call_of (some 17) rfl 58 #[(.slice A l.length c), (.int .i64 at_)] (by kernel_rfl) (.tuple #[.agg (pcel X N H), .int .i64 P, .int .i64 E]) ?_ (fun w' h => hK w' h))
          exact HP.out wr (HB.out.nx (Kp.free hx))
        · have e8 : x 8 = .tuple #[.agg (pcel X N H), .int .i64 P, .int .i64 E] := hd 8 (by decide) (by decide)
          generalize x 8 = y8 at e8 hK ⊢
          subst e8
          exact wpOp_of rfl rfl (wp_val_of (some 8) rfl (.tuple #[.agg (pcel X N H), .int .i64 P, .int .i64 E]) (by kernel_rfl) (hK _ (Nx.refl _)))
        · have e9 : x 9 = .tuple #[.agg (pcel X N H), .int .i64 P, .int .i64 E] := hd 9 (by decide) (by decide)
          generalize x 9 = y9 at e9 hK ⊢
          subst e9
          exact wpOp_of rfl rfl (wp_val_of (some 18) rfl (.agg (pcel X N H)) (by kernel_rfl) (hK _ (Nx.refl _)))
        · have e9 : x 9 = .tuple #[.agg (pcel X N H), .int .i64 P, .int .i64 E] := hd 9 (by decide) (by decide)
          generalize x 9 = y9 at e9 hK ⊢
          subst e9
          exact wpOp_of rfl rfl (wp_val_of (some 19) rfl (.int .i64 P) (by kernel_rfl) (hK _ (Nx.refl _)))
        · have e9 : x 9 = .tuple #[.agg (pcel X N H), .int .i64 P, .int .i64 E] := hd 9 (by decide) (by decide)
          generalize x 9 = y9 at e9 hK ⊢
          subst e9
          exact wpOp_of rfl rfl (wp_val_of (some 20) rfl (.int .i64 E) (by kernel_rfl) (hK _ (Nx.refl _)))
        · exact absurd (by decide) hs
        · exact absurd (by decide) hs
        · have e11 : x 11 = .int .i64 P := hd 11 (by decide) (by decide)
          generalize x 11 = y11 at e11 hK ⊢
          subst e11
          exact wpOp_of rfl rfl (wp_val_of (some 5) rfl (.int .i64 P) (by kernel_rfl) (hK _ (Nx.refl _)))
        · have e12 : x 12 = .int .i64 E := hd 12 (by decide) (by decide)
          generalize x 12 = y12 at e12 hK ⊢
          subst e12
          exact wpOp_of rfl rfl (wp_val_of (some 6) rfl (.int .i64 E) (by kernel_rfl) (hK _ (Nx.refl _)))
      · intro e he
        simp only [List.mem_cons, List.not_mem_nil, or_false] at he
        subst he
        intro tm wr K hK
        exact wpOp_of rfl rfl (wp_alloc_of (some 4) rfl 42 rfl (pcel Z32 0 0) hz2 hK)
      · intro e he
        simp only [List.mem_cons, List.not_mem_nil, or_false] at he
        subst he
        intro x tm wr g htm hd hp hr K hK
        dsimp only at hd
        simp only [fillA, List.setIfInBounds_toArray, List.set_cons_zero, List.set_cons_succ] at htm
        subst htm
        replace hp : x 13 = .pointer (some ⟨g, 0, none⟩) := hp
        generalize x 13 = y13 at hp hK ⊢
        subst hp
        have e10 : x 10 = .agg (pcel X N H) := hd 10 (by decide) (by decide)
        generalize x 10 = y10 at e10 hK ⊢
        subst e10
        have e8 : x 8 = .tuple #[.agg (pcel X N H), .int .i64 P, .int .i64 E] := hd 8 (by decide) (by decide)
        generalize x 8 = y8 at e8 hK ⊢
        subst e8
        have e0 : x 0 = .pointer (some ⟨r, 0, none⟩) := hd 0 (by decide) (by decide)
        generalize x 0 = y0 at e0 hK ⊢
        subst e0
        have e1 : x 1 = .pointer (some ⟨r, 0, none⟩) := hd 1 (by decide) (by decide)
        generalize x 1 = y1 at e1 hK ⊢
        subst e1
        have e2 : x 2 = .pointer (some ⟨r, 0, none⟩) := hd 2 (by decide) (by decide)
        generalize x 2 = y2 at e2 hK ⊢
        subst e2
        have e3 : x 3 = .slice A l.length c := hd 3 (by decide) (by decide)
        generalize x 3 = y3 at e3 hK ⊢
        subst e3
        have e4 : x 4 = .pointer (some ⟨r, 0, none⟩) := hd 4 (by decide) (by decide)
        generalize x 4 = y4 at e4 hK ⊢
        subst e4
        have e5 : x 5 = .pointer (some ⟨r, 0, none⟩) := hd 5 (by decide) (by decide)
        generalize x 5 = y5 at e5 hK ⊢
        subst e5
        have e6 : x 6 = .pointer (some ⟨r, 1, none⟩) := hd 6 (by decide) (by decide)
        generalize x 6 = y6 at e6 hK ⊢
        subst e6
        have e7 : x 7 = .int .i64 at_ := hd 7 (by decide) (by decide)
        generalize x 7 = y7 at e7 hK ⊢
        subst e7
        have e9 : x 9 = .tuple #[.agg (pcel X N H), .int .i64 P, .int .i64 E] := hd 9 (by decide) (by decide)
        generalize x 9 = y9 at e9 hK ⊢
        subst e9
        exact wpOp_of rfl rfl (wp_store_row 42 (.tmp 4) (.tmp 18) rfl g (pcel X N H) rfl rfl 42 (pcel Z32 0 0) hr HPS.out HPO.out (pcel_one _ _ _) hK)
      · intro e he
        cases he
      · intro x tm wr htm hx hv hn hdis ho
        simp only [fillA, List.setIfInBounds_toArray, List.set_cons_zero, List.set_cons_succ] at htm
        subst htm
        obtain ⟨gn0, p0, q0, r0⟩ := hn ⟨13, 14, pcel Z32 0 0, pcel X N H, 42⟩ (.head _)
        replace p0 : x 13 = .pointer (some ⟨gn0, 0, none⟩) := p0
        rw [p0]
        have e0 : x 0 = .pointer (some ⟨r, 0, none⟩) := hv 0 (by decide) (by decide)
        rw [e0]
        have e1 : x 1 = .pointer (some ⟨r, 0, none⟩) := hv 1 (by decide) (by decide)
        rw [e1]
        have e2 : x 2 = .pointer (some ⟨r, 0, none⟩) := hv 2 (by decide) (by decide)
        rw [e2]
        have e3 : x 3 = .slice A l.length c := hv 3 (by decide) (by decide)
        rw [e3]
        have e4 : x 4 = .pointer (some ⟨r, 0, none⟩) := hv 4 (by decide) (by decide)
        rw [e4]
        have e5 : x 5 = .pointer (some ⟨r, 0, none⟩) := hv 5 (by decide) (by decide)
        rw [e5]
        have e6 : x 6 = .pointer (some ⟨r, 1, none⟩) := hv 6 (by decide) (by decide)
        rw [e6]
        have e7 : x 7 = .int .i64 at_ := hv 7 (by decide) (by decide)
        rw [e7]
        have e8 : x 8 = .tuple #[.agg (pcel X N H), .int .i64 P, .int .i64 E] := hv 8 (by decide) (by decide)
        rw [e8]
        have e9 : x 9 = .tuple #[.agg (pcel X N H), .int .i64 P, .int .i64 E] := hv 9 (by decide) (by decide)
        rw [e9]
        have e10 : x 10 = .agg (pcel X N H) := hv 10 (by decide) (by decide)
        rw [e10]
        have e11 : x 11 = .int .i64 P := hv 11 (by decide) (by decide)
        rw [e11]
        have e12 : x 12 = .int .i64 E := hv 12 (by decide) (by decide)
        rw [e12]
        have e15 : x 15 = .int .i64 P := hv 15 (by decide) (by decide)
        rw [e15]
        have e16 : x 16 = .int .i64 E := hv 16 (by decide) (by decide)
        rw [e16]
        have RW := Lib.hid (Row.nx RR.out (Kp.free hx))
        have RI := Lib.hid (Row.nx R2.out (Kp.free hx))
        have RP : Hid (Row wr gn0 (pcel X N H) 42) := Lib.hid r0
        have HGN : Hid (w.heap.size < gn0) := Lib.hid (by have := HHS.out; omega)
        have cb := RW.out.cell (i := 0) (v := .slice A l.length c) rfl
        have NW : Hid (Nx w wr) := Lib.hid (Below.trans N0.out (Below.mono (Kp.free hx) (by have := HHS.out; omega)))
        have HB2 := Lib.hid (HB.out.nx (Kp.free hx))
        clear hv hn hdis ho r0 p0 q0 e0 e1 e2 e3 e4 e5 e6 e7 e8 e9 e10 e11 e12 e15 e16 hx RR R2 N0 HHS HP HB
        obtain rfl : E = 0 := HE.out
        go_wp2_with fail
        refine (HG.out wr HB2.out).mono ?_
        rintro e w3 ⟨uv, rfl, o3, n3⟩
        have O3 := Lib.hid (o3.mono (show w.heap.size + 1 ≤ wr.heap.size from Nat.lt_of_lt_of_le RI.out.lt (Nat.le_refl _)))
        obtain ⟨A3, c3, rfl, -⟩ := o3.rd
        have R3 := RW.out.nx n3
        have K3 := RI.out.nx n3
        have P3 := RP.out.nx n3
        have N3 := Lib.hid (NW.out.trans n3)
        clear o3 n3 RW RI RP NW HB2 HG cb
        have f1 := R3.frozen 1
        have c1 := R3.cell (i := 1) (v := .int .i64 at_) rfl
        have R4 := Lib.hid (R3.set 1 (.int .i64 q))
        have K4 := K3.other r 1 (.int .i64 q) (by omega)
        have P4 := P3.other r 1 (.int .i64 q) (by have := HGN.out; omega)
        have G4 := Lib.hid (gr_trans (gr_of (s := some r) N3.out) (gr_set w3 r 1 (.int .i64 q)))
        have O4 := Lib.hid (gr_own O3.out (gr_set w3 r 1 (.int .i64 q)) (by omega))
        have iz := Lib.hid (insz ⟨X, N, H, U⟩ (.slice A3 U.length c3) (HOK.out U))
        have io := Lib.hid (insame inZ ⟨X, N, H, U⟩ (.slice none 0 0) (.slice A3 U.length c3) inZ_ok (HOK.out U))
        have i1 := icel_one ⟨X, N, H, U⟩ (.slice A3 U.length c3) rfl
        have HBU := Lib.hid (built_in X (HOK.out U).1 N H U A3 U.length c3)
        have hl : w.heap.size ≤ w.heap.size := Nat.le_refl _
        clear R3 K3 P3 N3 O3
        go_wp2_with (first | (refine wpList_load_row rfl 42 (.tmp 4) rfl gn0 rfl 42 (pcel X N H) (0, 0) _ P4 Tryd.underlying42 rfl HPS.out ?_) | (refine wpList_built (some 45) rfl rfl 45 _ rfl [(0, .agg (pcel X N H)), (1, .slice A3 U.length c3)] (by kernel_rfl) _ HBU.out ?_) | (refine wpList_store_row rfl 45 (.tmp 2) (.tmp 45) rfl w.heap.size (icel ⟨X, N, H, U⟩ (.slice A3 U.length c3)) rfl rfl 45 (icel inZ (.slice none 0 0)) K4 iz.out io.out i1 ?_))
        exact bodyPost_ret (results_cell_row2 Tryd.results41 _ _ w.heap.size 45 (icel ⟨X, N, H, U⟩ (.slice A3 U.length c3)) (0, 0) _ rfl (K4.setRow _) Tryd.underlying45 rfl iz.out) rfl ⟨_, rfl, (own_setRow O4.out (Nat.lt_succ_self _)).mono (Nat.le_succ _), R4.out.setRow_other _ (by omega), gr_newRow G4.out hl⟩
    · rw [if_pos hF]
      have dF : (F != 0) = true := by simp [hF]
      clear hF
      have HE := Lib.hid hE
      clear hE
      go_enter Tryd.func41, Tryd.ntmps41
      go_wp2_with fail
      generalize (w.alloc (.cells (icel inZ (.slice none 0 0)) 45)) = W0 at *
      refine wp_region_bk 17 [[], [0], [1], [2], [], [4], [5], [6], [3, 7], [8], [9], [9], [9], [], [13, 10, 8, 0, 1, 2, 3, 4, 5, 6, 7, 8, 9, 10, 13], [11, 14, 0, 1, 2, 3, 4, 5, 6, 7, 8, 9, 10, 11, 13, 14], [12, 15, 0, 1, 2, 3, 4, 5, 6, 7, 8, 9, 10, 11, 12, 13, 14, 15]] [some 9, some 10, some 11, some 12, some 13, some 14, some 15, some 16, some 17, some 8, some 18, some 19, some 20, some 4, none, some 5, some 6]
        [.pointer (some ⟨r, 0, none⟩), .pointer (some ⟨r, 0, none⟩), .pointer (some ⟨r, 0, none⟩), .slice A l.length c, .pointer (some ⟨r, 0, none⟩), .pointer (some ⟨r, 0, none⟩), .pointer (some ⟨r, 1, none⟩), .int .i64 at_, .tuple #[.agg (pcel X N H), .int .i64 P, .int .i64 E], .tuple #[.agg (pcel X N H), .int .i64 P, .int .i64 E], .agg (pcel X N H), .int .i64 P, .int .i64 E, undef, undef, .int .i64 P, .int .i64 E]
        [⟨13, 14, pcel Z32 0 0, pcel X N H, 42⟩] [] [13, 14] [(13, 14)] rfl rfl
        (by kernel_rfl) (by kernel_rfl) (hord_of (by decide)) (by kernel_rfl) rfl (by decide) (by decide) (by decide) (by decide) (fun _ h => by cases h) (by decide) ?_ ?_ ?_ ?_ ?_
      · intro x tm wr htm hx i hi hs hd ho K hK
        simp only [fillA, List.setIfInBounds_toArray, List.set_cons_zero, List.set_cons_succ] at htm
        subst htm
        have hcs : i = 0 ∨ i = 1 ∨ i = 2 ∨ i = 3 ∨ i = 4 ∨ i = 5 ∨ i = 6 ∨ i = 7 ∨ i = 8 ∨ i = 9 ∨ i = 10 ∨ i = 11 ∨ i = 12 ∨ i = 13 ∨ i = 14 ∨ i = 15 ∨ i = 16 := by omega
        clear hi
        rcases hcs with rfl | rfl | rfl | rfl | rfl | rfl | rfl | rfl | rfl | rfl | rfl | rfl | rfl | rfl | rfl | rfl | rfl
        · exact wpOp_of rfl rfl (wp_val_of (some 9) rfl (.pointer (some ⟨r, 0, none⟩)) (by kernel_rfl) (hK _ (Nx.refl _)))
        · have e0 : x 0 = .pointer (some ⟨r, 0, none⟩) := hd 0 (by decide) (by decide)
          generalize x 0 = y0 at e0 hK ⊢
          subst e0
          exact wpOp_of rfl rfl (wp_val_of (some 10) rfl (.pointer (some ⟨r, 0, none⟩)) (by kernel_rfl) (hK _ (Nx.refl _)))
        · have e1 : x 1 = .pointer (some ⟨r, 0, none⟩) := hd 1 (by decide) (by decide)
          generalize x 1 = y1 at e1 hK ⊢
          subst e1
          exact wpOp_of rfl rfl (wp_val_of (some 11) rfl (.pointer (some ⟨r, 0, none⟩)) (by kernel_rfl) (hK _ (Nx.refl _)))
        · have e2 : x 2 = .pointer (some ⟨r, 0, none⟩) := hd 2 (by decide) (by decide)
          generalize x 2 = y2 at e2 hK ⊢
          subst e2
          exact wpOp_of rfl rfl (wp_load_cell (some 12) rfl 43 (.tmp 11) rfl r 0 rfl (.slice A l.length c) _ ((Row.nx RR.out (Kp.free hx)).cell (i := 0) rfl) Tryd.underlying43 rfl (hK _ (Nx.refl _)))
        · exact wpOp_of rfl rfl (wp_val_of (some 13) rfl (.pointer (some ⟨r, 0, none⟩)) (by kernel_rfl) (hK _ (Nx.refl _)))
        · have e4 : x 4 = .pointer (some ⟨r, 0, none⟩) := hd 4 (by decide) (by decide)
          generalize x 4 = y4 at e4 hK ⊢
          subst e4
          exact wpOp_of rfl rfl (wp_val_of (some 14) rfl (.pointer (some ⟨r, 0, none⟩)) (by kernel_rfl) (hK _ (Nx.refl _)))
        · have e5 : x 5 = .pointer (some ⟨r, 0, none⟩) := hd 5 (by decide) (by decide)
          generalize x 5 = y5 at e5 hK ⊢
          subst e5
          exact wpOp_of rfl rfl (wp_val_of (some 15) rfl (.pointer (some ⟨r, 1, none⟩)) (by kernel_rfl) (hK _ (Nx.refl _)))
        · have e6 : x 6 = .pointer (some ⟨r, 1, none⟩) := hd 6 (by decide) (by decide)
          generalize x 6 = y6 at e6 hK ⊢
          subst e6
          exact wpOp_of rfl rfl (wp_load_cell (some 16) rfl 3 (.tmp 15) rfl r 1 rfl (.int .i64 at_) _ ((Row.nx RR.out (Kp.free hx)).cell (i := 1) rfl) Tryd.underlying3 rfl (hK _ (Nx.refl _)))
        · have e3 : x 3 = .slice A l.length c := hd 3 (by decide) (by decide)
          generalize x 3 = y3 at e3 hK ⊢
          subst e3
          have e7 : x 7 = .int .i64 at_ := hd 7 (by decide) (by decide)
          generalize x 7 = y7 at e7 hK ⊢
          subst e7
          refine wpOp_of rfl rfl (wp_call_of (some 17) rfl 58 #[(.slice A l.length c), (.int .i64 at_)] (by kernel_rfl) (.tuple #[.agg (pcel X N H), .int .i64 P, .int .i64 E]) ?_ (fun w' h => hK w' h))
          exact HP.out wr (HB.out.nx (Kp.free hx))
        · have e8 : x 8 = .tuple #[.agg (pcel X N H), .int .i64 P, .int .i64 E] := hd 8 (by decide) (by decide)
          generalize x 8 = y8 at e8 hK ⊢
          subst e8
          exact wpOp_of rfl rfl (wp_val_of (some 8) rfl (.tuple #[.agg (pcel X N H), .int .i64 P, .int .i64 E]) (by kernel_rfl) (hK _ (Nx.refl _)))
        · have e9 : x 9 = .tuple #[.agg (pcel X N H), .int .i64 P, .int .i64 E] := hd 9 (by decide) (by decide)
          generalize x 9 = y9 at e9 hK ⊢
          subst e9
          exact wpOp_of rfl rfl (wp_val_of (some 18) rfl (.agg (pcel X N H)) (by kernel_rfl) (hK _ (Nx.refl _)))
        · have e9 : x 9 = .tuple #[.agg (pcel X N H), .int .i64 P, .int .i64 E] := hd 9 (by decide) (by decide)
          generalize x 9 = y9 at e9 hK ⊢
          subst e9
          exact wpOp_of rfl rfl (wp_val_of (some 19) rfl (.int .i64 P) (by kernel_rfl) (hK _ (Nx.refl _)))
        · have e9 : x 9 = .tuple #[.agg (pcel X N H), .int .i64 P, .int .i64 E] := hd 9 (by decide) (by decide)
          generalize x 9 = y9 at e9 hK ⊢
          subst e9
          exact wpOp_of rfl rfl (wp_val_of (some 20) rfl (.int .i64 E) (by kernel_rfl) (hK _ (Nx.refl _)))
        · exact absurd (by decide) hs
        · exact absurd (by decide) hs
        · have e11 : x 11 = .int .i64 P := hd 11 (by decide) (by decide)
          generalize x 11 = y11 at e11 hK ⊢
          subst e11
          exact wpOp_of rfl rfl (wp_val_of (some 5) rfl (.int .i64 P) (by kernel_rfl) (hK _ (Nx.refl _)))
        · have e12 : x 12 = .int .i64 E := hd 12 (by decide) (by decide)
          generalize x 12 = y12 at e12 hK ⊢
          subst e12
          exact wpOp_of rfl rfl (wp_val_of (some 6) rfl (.int .i64 E) (by kernel_rfl) (hK _ (Nx.refl _)))
      · intro e he
        simp only [List.mem_cons, List.not_mem_nil, or_false] at he
        subst he
        intro tm wr K hK
        exact wpOp_of rfl rfl (wp_alloc_of (some 4) rfl 42 rfl (pcel Z32 0 0) hz2 hK)
      · intro e he
        simp only [List.mem_cons, List.not_mem_nil, or_false] at he
        subst he
        intro x tm wr g htm hd hp hr K hK
        dsimp only at hd
        simp only [fillA, List.setIfInBounds_toArray, List.set_cons_zero, List.set_cons_succ] at htm
        subst htm
        replace hp : x 13 = .pointer (some ⟨g, 0, none⟩) := hp
        generalize x 13 = y13 at hp hK ⊢
        subst hp
        have e10 : x 10 = .agg (pcel X N H) := hd 10 (by decide) (by decide)
        generalize x 10 = y10 at e10 hK ⊢
        subst e10
        have e8 : x 8 = .tuple #[.agg (pcel X N H), .int .i64 P, .int .i64 E] := hd 8 (by decide) (by decide)
        generalize x 8 = y8 at e8 hK ⊢
        subst e8
        have e0 : x 0 = .pointer (some ⟨r, 0, none⟩) := hd 0 (by decide) (by decide)
        generalize x 0 = y0 at e0 hK ⊢
        subst e0
        have e1 : x 1 = .pointer (some ⟨r, 0, none⟩) := hd 1 (by decide) (by decide)
        generalize x 1 = y1 at e1 hK ⊢
        subst e1
        have e2 : x 2 = .pointer (some ⟨r, 0, none⟩) := hd 2 (by decide) (by decide)
        generalize x 2 = y2 at e2 hK ⊢
        subst e2
        have e3 : x 3 = .slice A l.length c := hd 3 (by decide) (by decide)
        generalize x 3 = y3 at e3 hK ⊢
        subst e3
        have e4 : x 4 = .pointer (some ⟨r, 0, none⟩) := hd 4 (by decide) (by decide)
        generalize x 4 = y4 at e4 hK ⊢
        subst e4
        have e5 : x 5 = .pointer (some ⟨r, 0, none⟩) := hd 5 (by decide) (by decide)
        generalize x 5 = y5 at e5 hK ⊢
        subst e5
        have e6 : x 6 = .pointer (some ⟨r, 1, none⟩) := hd 6 (by decide) (by decide)
        generalize x 6 = y6 at e6 hK ⊢
        subst e6
        have e7 : x 7 = .int .i64 at_ := hd 7 (by decide) (by decide)
        generalize x 7 = y7 at e7 hK ⊢
        subst e7
        have e9 : x 9 = .tuple #[.agg (pcel X N H), .int .i64 P, .int .i64 E] := hd 9 (by decide) (by decide)
        generalize x 9 = y9 at e9 hK ⊢
        subst e9
        exact wpOp_of rfl rfl (wp_store_row 42 (.tmp 4) (.tmp 18) rfl g (pcel X N H) rfl rfl 42 (pcel Z32 0 0) hr HPS.out HPO.out (pcel_one _ _ _) hK)
      · intro e he
        cases he
      · intro x tm wr htm hx hv hn hdis ho
        simp only [fillA, List.setIfInBounds_toArray, List.set_cons_zero, List.set_cons_succ] at htm
        subst htm
        obtain ⟨gn0, p0, q0, r0⟩ := hn ⟨13, 14, pcel Z32 0 0, pcel X N H, 42⟩ (.head _)
        replace p0 : x 13 = .pointer (some ⟨gn0, 0, none⟩) := p0
        rw [p0]
        have e0 : x 0 = .pointer (some ⟨r, 0, none⟩) := hv 0 (by decide) (by decide)
        rw [e0]
        have e1 : x 1 = .pointer (some ⟨r, 0, none⟩) := hv 1 (by decide) (by decide)
        rw [e1]
        have e2 : x 2 = .pointer (some ⟨r, 0, none⟩) := hv 2 (by decide) (by decide)
        rw [e2]
        have e3 : x 3 = .slice A l.length c := hv 3 (by decide) (by decide)
        rw [e3]
        have e4 : x 4 = .pointer (some ⟨r, 0, none⟩) := hv 4 (by decide) (by decide)
        rw [e4]
        have e5 : x 5 = .pointer (some ⟨r, 0, none⟩) := hv 5 (by decide) (by decide)
        rw [e5]
        have e6 : x 6 = .pointer (some ⟨r, 1, none⟩) := hv 6 (by decide) (by decide)
        rw [e6]
        have e7 : x 7 = .int .i64 at_ := hv 7 (by decide) (by decide)
        rw [e7]
        have e8 : x 8 = .tuple #[.agg (pcel X N H), .int .i64 P, .int .i64 E] := hv 8 (by decide) (by decide)
        rw [e8]
        have e9 : x 9 = .tuple #[.agg (pcel X N H), .int .i64 P, .int .i64 E] := hv 9 (by decide) (by decide)
        rw [e9]
        have e10 : x 10 = .agg (pcel X N H) := hv 10 (by decide) (by decide)
        rw [e10]
        have e11 : x 11 = .int .i64 P := hv 11 (by decide) (by decide)
        rw [e11]
        have e12 : x 12 = .int .i64 E := hv 12 (by decide) (by decide)
        rw [e12]
        have e15 : x 15 = .int .i64 P := hv 15 (by decide) (by decide)
        rw [e15]
        have e16 : x 16 = .int .i64 E := hv 16 (by decide) (by decide)
        rw [e16]
        have RW := Lib.hid (Row.nx RR.out (Kp.free hx))
        have RI := Lib.hid (Row.nx R2.out (Kp.free hx))
        have RP : Hid (Row wr gn0 (pcel X N H) 42) := Lib.hid r0
        have HGN : Hid (w.heap.size < gn0) := Lib.hid (by have := HHS.out; omega)
        have cb := RW.out.cell (i := 0) (v := .slice A l.length c) rfl
        have NW : Hid (Nx w wr) := Lib.hid (Below.trans N0.out (Below.mono (Kp.free hx) (by have := HHS.out; omega)))
        have HB2 := Lib.hid (HB.out.nx (Kp.free hx))
        clear hv hn hdis ho r0 p0 q0 e0 e1 e2 e3 e4 e5 e6 e7 e8 e9 e10 e11 e12 e15 e16 hx RR R2 N0 HHS HP HB
        obtain rfl : E = 0 := HE.out
        go_wp2_with fail
        refine (HG.out wr HB2.out).mono ?_
        rintro e w3 ⟨uv, rfl, o3, n3⟩
        have O3 := Lib.hid (o3.mono (show w.heap.size + 1 ≤ wr.heap.size from Nat.lt_of_lt_of_le RI.out.lt (Nat.le_refl _)))
        obtain ⟨A3, c3, rfl, -⟩ := o3.rd
        have R3 := RW.out.nx n3
        have K3 := RI.out.nx n3
        have P3 := RP.out.nx n3
        have N3 := Lib.hid (NW.out.trans n3)
        clear o3 n3 RW RI RP NW HB2 HG cb
        have iz := Lib.hid (insz inZ (.slice none 0 0) inZ_ok)
        have i1 := icel_one inZ (.slice none 0 0) rfl
        go_wp2_with (first | (refine wpList_val (some 37) rfl rfl (.agg (icel inZ (.slice none 0 0))) ?_ ?_; (focus kernel_rfl)) | (refine wpList_store_row rfl 45 (.tmp 2) (.tmp 37) rfl w.heap.size (icel inZ (.slice none 0 0)) rfl rfl 45 (icel inZ (.slice none 0 0)) K3 iz.out rfl i1 ?_))
        exact bodyPost_ret (results_cell_row2 Tryd.results41 _ _ w.heap.size 45 (icel inZ (.slice none 0 0)) (0, 0) _ rfl (K3.setRow _) Tryd.underlying45 rfl iz.out) rfl ⟨_, rfl, Own.nil _ _, R3.setRow_other _ (by omega), gr_of (N3.out.setRow _ (Nat.le_refl _))⟩
  · rw [if_pos hE]
    have dE : (E != 0) = true := by simp [hE]
    have iz := Lib.hid (insz inZ (.slice none 0 0) inZ_ok)
    have i1 := icel_one inZ (.slice none 0 0) rfl
    clear hE
    go_enter Tryd.func41, Tryd.ntmps41
    go_wp2_with fail
    generalize (w.alloc (.cells (icel inZ (.slice none 0 0)) 45)) = W0 at *
    refine wp_region_bk 17 [[], [0], [1], [2], [], [4], [5], [6], [3, 7], [8], [9], [9], [9], [], [13, 10, 8, 0, 1, 2, 3, 4, 5, 6, 7, 8, 9, 10, 13], [11, 14, 0, 1, 2, 3, 4, 5, 6, 7, 8, 9, 10, 11, 13, 14], [12, 15, 0, 1, 2, 3, 4, 5, 6, 7, 8, 9, 10, 11, 12, 13, 14, 15]] [some 9, some 10, some 11, some 12, some 13, some 14, some 15, some 16, some 17, some 8, some 18, some 19, some 20, some 4, none, some 5, some 6]
      [.pointer (some ⟨r, 0, none⟩), .pointer (some ⟨r, 0, none⟩), .pointer (some ⟨r, 0, none⟩), .slice A l.length c, .pointer (some ⟨r, 0, none⟩), .pointer (some ⟨r, 0, none⟩), .pointer (some ⟨r, 1, none⟩), .int .i64 at_, .tuple #[.agg (pcel X N H), .int .i64 P, .int .i64 E], .tuple #[.agg (pcel X N H), .int .i64 P, .int .i64 E], .agg (pcel X N H), .int .i64 P, .int .i64 E, undef, undef, .int .i64 P, .int .i64 E]
      [⟨13, 14, pcel Z32 0 0, pcel X N H, 42⟩] [] [13, 14] [(13, 14)] rfl rfl
      (by kernel_rfl) (by kernel_rfl) (hord_of (by decide)) (by kernel_rfl) rfl (by decide) (by decide) (by decide) (by decide) (fun _ h => by cases h) (by decide) ?_ ?_ ?_ ?_ ?_
    · intro x tm wr htm hx i hi hs hd ho K hK
      simp only [fillA, List.setIfInBounds_toArray, List.set_cons_zero, List.set_cons_succ] at htm
      subst htm
      have hcs : i = 0 ∨ i = 1 ∨ i = 2 ∨ i = 3 ∨ i = 4 ∨ i = 5 ∨ i = 6 ∨ i = 7 ∨ i = 8 ∨ i = 9 ∨ i = 10 ∨ i = 11 ∨ i = 12 ∨ i = 13 ∨ i = 14 ∨ i = 15 ∨ i = 16 := by omega
      clear hi
      rcases hcs with rfl | rfl | rfl | rfl | rfl | rfl | rfl | rfl | rfl | rfl | rfl | rfl | rfl | rfl | rfl | rfl | rfl
      · exact wpOp_of rfl rfl (wp_val_of (some 9) rfl (.pointer (some ⟨r, 0, none⟩)) (by kernel_rfl) (hK _ (Nx.refl _)))
      · have e0 : x 0 = .pointer (some ⟨r, 0, none⟩) := hd 0 (by decide) (by decide)
        generalize x 0 = y0 at e0 hK ⊢
        subst e0
        exact wpOp_of rfl rfl (wp_val_of (some 10) rfl (.pointer (some ⟨r, 0, none⟩)) (by kernel_rfl) (hK _ (Nx.refl _)))
      · have e1 : x 1 = .pointer (some ⟨r, 0, none⟩) := hd 1 (by decide) (by decide)
        generalize x 1 = y1 at e1 hK ⊢
        subst e1
        exact wpOp_of rfl rfl (wp_val_of (some 11) rfl (.pointer (some ⟨r, 0, none⟩)) (by kernel_rfl) (hK _ (Nx.refl _)))
      · have e2 : x 2 = .pointer (some ⟨r, 0, none⟩) := hd 2 (by decide) (by decide)
        generalize x 2 = y2 at e2 hK ⊢
        subst e2
        exact wpOp_of rfl rfl (wp_load_cell (some 12) rfl 43 (.tmp 11) rfl r 0 rfl (.slice A l.length c) _ ((Row.nx RR.out (Kp.free hx)).cell (i := 0) rfl) Tryd.underlying43 rfl (hK _ (Nx.refl _)))
      · exact wpOp_of rfl rfl (wp_val_of (some 13) rfl (.pointer (some ⟨r, 0, none⟩)) (by kernel_rfl) (hK _ (Nx.refl _)))
      · have e4 : x 4 = .pointer (some ⟨r, 0, none⟩) := hd 4 (by decide) (by decide)
        generalize x 4 = y4 at e4 hK ⊢
        subst e4
        exact wpOp_of rfl rfl (wp_val_of (some 14) rfl (.pointer (some ⟨r, 0, none⟩)) (by kernel_rfl) (hK _ (Nx.refl _)))
      · have e5 : x 5 = .pointer (some ⟨r, 0, none⟩) := hd 5 (by decide) (by decide)
        generalize x 5 = y5 at e5 hK ⊢
        subst e5
        exact wpOp_of rfl rfl (wp_val_of (some 15) rfl (.pointer (some ⟨r, 1, none⟩)) (by kernel_rfl) (hK _ (Nx.refl _)))
      · have e6 : x 6 = .pointer (some ⟨r, 1, none⟩) := hd 6 (by decide) (by decide)
        generalize x 6 = y6 at e6 hK ⊢
        subst e6
        exact wpOp_of rfl rfl (wp_load_cell (some 16) rfl 3 (.tmp 15) rfl r 1 rfl (.int .i64 at_) _ ((Row.nx RR.out (Kp.free hx)).cell (i := 1) rfl) Tryd.underlying3 rfl (hK _ (Nx.refl _)))
      · have e3 : x 3 = .slice A l.length c := hd 3 (by decide) (by decide)
        generalize x 3 = y3 at e3 hK ⊢
        subst e3
        have e7 : x 7 = .int .i64 at_ := hd 7 (by decide) (by decide)
        generalize x 7 = y7 at e7 hK ⊢
        subst e7
        refine wpOp_of rfl rfl (wp_call_of (some 17) rfl 58 #[(.slice A l.length c), (.int .i64 at_)] (by kernel_rfl) (.tuple #[.agg (pcel X N H), .int .i64 P, .int .i64 E]) ?_ (fun w' h => hK w' h))
        exact HP.out wr (HB.out.nx (Kp.free hx))
      · have e8 : x 8 = .tuple #[.agg (pcel X N H), .int .i64 P, .int .i64 E] := hd 8 (by decide) (by decide)
        generalize x 8 = y8 at e8 hK ⊢
        subst e8
        exact wpOp_of rfl rfl (wp_val_of (some 8) rfl (.tuple #[.agg (pcel X N H), .int .i64 P, .int .i64 E]) (by kernel_rfl) (hK _ (Nx.refl _)))
      · have e9 : x 9 = .tuple #[.agg (pcel X N H), .int .i64 P, .int .i64 E] := hd 9 (by decide) (by decide)
        generalize x 9 = y9 at e9 hK ⊢
        subst e9
        exact wpOp_of rfl rfl (wp_val_of (some 18) rfl (.agg (pcel X N H)) (by kernel_rfl) (hK _ (Nx.refl _)))
      · have e9 : x 9 = .tuple #[.agg (pcel X N H), .int .i64 P, .int .i64 E] := hd 9 (by decide) (by decide)
        generalize x 9 = y9 at e9 hK ⊢
        subst e9
        exact wpOp_of rfl rfl (wp_val_of (some 19) rfl (.int .i64 P) (by kernel_rfl) (hK _ (Nx.refl _)))
      · have e9 : x 9 = .tuple #[.agg (pcel X N H), .int .i64 P, .int .i64 E] := hd 9 (by decide) (by decide)
        generalize x 9 = y9 at e9 hK ⊢
        subst e9
        exact wpOp_of rfl rfl (wp_val_of (some 20) rfl (.int .i64 E) (by kernel_rfl) (hK _ (Nx.refl _)))
      · exact absurd (by decide) hs
      · exact absurd (by decide) hs
      · have e11 : x 11 = .int .i64 P := hd 11 (by decide) (by decide)
        generalize x 11 = y11 at e11 hK ⊢
        subst e11
        exact wpOp_of rfl rfl (wp_val_of (some 5) rfl (.int .i64 P) (by kernel_rfl) (hK _ (Nx.refl _)))
      · have e12 : x 12 = .int .i64 E := hd 12 (by decide) (by decide)
        generalize x 12 = y12 at e12 hK ⊢
        subst e12
        exact wpOp_of rfl rfl (wp_val_of (some 6) rfl (.int .i64 E) (by kernel_rfl) (hK _ (Nx.refl _)))
    · intro e he
      simp only [List.mem_cons, List.not_mem_nil, or_false] at he
      subst he
      intro tm wr K hK
      exact wpOp_of rfl rfl (wp_alloc_of (some 4) rfl 42 rfl (pcel Z32 0 0) hz2 hK)
    · intro e he
      simp only [List.mem_cons, List.not_mem_nil, or_false] at he
      subst he
      intro x tm wr g htm hd hp hr K hK
      dsimp only at hd
      simp only [fillA, List.setIfInBounds_toArray, List.set_cons_zero, List.set_cons_succ] at htm
      subst htm
      replace hp : x 13 = .pointer (some ⟨g, 0, none⟩) := hp
      generalize x 13 = y13 at hp hK ⊢
      subst hp
      have e10 : x 10 = .agg (pcel X N H) := hd 10 (by decide) (by decide)
      generalize x 10 = y10 at e10 hK ⊢
      subst e10
      have e8 : x 8 = .tuple #[.agg (pcel X N H), .int .i64 P, .int .i64 E] := hd 8 (by decide) (by decide)
      generalize x 8 = y8 at e8 hK ⊢
      subst e8
      have e0 : x 0 = .pointer (some ⟨r, 0, none⟩) := hd 0 (by decide) (by decide)
      generalize x 0 = y0 at e0 hK ⊢
      subst e0
      have e1 : x 1 = .pointer (some ⟨r, 0, none⟩) := hd 1 (by decide) (by decide)
      generalize x 1 = y1 at e1 hK ⊢
      subst e1
      have e2 : x 2 = .pointer (some ⟨r, 0, none⟩) := hd 2 (by decide) (by decide)
      generalize x 2 = y2 at e2 hK ⊢
      subst e2
      have e3 : x 3 = .slice A l.length c := hd 3 (by decide) (by decide)
      generalize x 3 = y3 at e3 hK ⊢
      subst e3
      have e4 : x 4 = .pointer (some ⟨r, 0, none⟩) := hd 4 (by decide) (by decide)
      generalize x 4 = y4 at e4 hK ⊢
      subst e4
      have e5 : x 5 = .pointer (some ⟨r, 0, none⟩) := hd 5 (by decide) (by decide)
      generalize x 5 = y5 at e5 hK ⊢
      subst e5
      have e6 : x 6 = .pointer (some ⟨r, 1, none⟩) := hd 6 (by decide) (by decide)
      generalize x 6 = y6 at e6 hK ⊢
      subst e6
      have e7 : x 7 = .int .i64 at_ := hd 7 (by decide) (by decide)
      generalize x 7 = y7 at e7 hK ⊢
      subst e7
      have e9 : x 9 = .tuple #[.agg (pcel X N H), .int .i64 P, .int .i64 E] := hd 9 (by decide) (by decide)
      generalize x 9 = y9 at e9 hK ⊢
      subst e9
      exact wpOp_of rfl rfl (wp_store_row 42 (.tmp 4) (.tmp 18) rfl g (pcel X N H) rfl rfl 42 (pcel Z32 0 0) hr HPS.out HPO.out (pcel_one _ _ _) hK)
    · intro e he
      cases he
    · intro x tm wr htm hx hv hn hdis ho
      simp only [fillA, List.setIfInBounds_toArray, List.set_cons_zero, List.set_cons_succ] at htm
      subst htm
      obtain ⟨gn0, p0, q0, r0⟩ := hn ⟨13, 14, pcel Z32 0 0, pcel X N H, 42⟩ (.head _)
      replace p0 : x 13 = .pointer (some ⟨gn0, 0, none⟩) := p0
      rw [p0]
      have e0 : x 0 = .pointer (some ⟨r, 0, none⟩) := hv 0 (by decide) (by decide)
      rw [e0]
      have e1 : x 1 = .pointer (some ⟨r, 0, none⟩) := hv 1 (by decide) (by decide)
      rw [e1]
      have e2 : x 2 = .pointer (some ⟨r, 0, none⟩) := hv 2 (by decide) (by decide)
      rw [e2]
      have e3 : x 3 = .slice A l.length c := hv 3 (by decide) (by decide)
      rw [e3]
      have e4 : x 4 = .pointer (some ⟨r, 0, none⟩) := hv 4 (by decide) (by decide)
      rw [e4]
      have e5 : x 5 = .pointer (some ⟨r, 0, none⟩) := hv 5 (by decide) (by decide)
      rw [e5]
      have e6 : x 6 = .pointer (some ⟨r, 1, none⟩) := hv 6 (by decide) (by decide)
      rw [e6]
      have e7 : x 7 = .int .i64 at_ := hv 7 (by decide) (by decide)
      rw [e7]
      have e8 : x 8 = .tuple #[.agg (pcel X N H), .int .i64 P, .int .i64 E] := hv 8 (by decide) (by decide)
      rw [e8]
      have e9 : x 9 = .tuple #[.agg (pcel X N H), .int .i64 P, .int .i64 E] := hv 9 (by decide) (by decide)
      rw [e9]
      have e10 : x 10 = .agg (pcel X N H) := hv 10 (by decide) (by decide)
      rw [e10]
      have e11 : x 11 = .int .i64 P := hv 11 (by decide) (by decide)
      rw [e11]
      have e12 : x 12 = .int .i64 E := hv 12 (by decide) (by decide)
      rw [e12]
      have e15 : x 15 = .int .i64 P := hv 15 (by decide) (by decide)
      rw [e15]
      have e16 : x 16 = .int .i64 E := hv 16 (by decide) (by decide)
      rw [e16]
      have RW := Lib.hid (Row.nx RR.out (Kp.free hx))
      have RI := Lib.hid (Row.nx R2.out (Kp.free hx))
      have RP : Hid (Row wr gn0 (pcel X N H) 42) := Lib.hid r0
      have HGN : Hid (w.heap.size < gn0) := Lib.hid (by have := HHS.out; omega)
      have cb := RW.out.cell (i := 0) (v := .slice A l.length c) rfl
      have NW : Hid (Nx w wr) := Lib.hid (Below.trans N0.out (Below.mono (Kp.free hx) (by have := HHS.out; omega)))
      have HB2 := Lib.hid (HB.out.nx (Kp.free hx))
      clear hv hn hdis ho r0 p0 q0 e0 e1 e2 e3 e4 e5 e6 e7 e8 e9 e10 e11 e12 e15 e16 hx RR R2 N0 HHS HP HB
      have R3 := RW.out
      have K3 := RI.out
      clear RW RI RP HB2
      go_wp2_with (first | (refine wpList_val (some 23) rfl rfl (.agg (icel inZ (.slice none 0 0))) ?_ ?_; (focus kernel_rfl)) | (refine wpList_store_row rfl 45 (.tmp 2) (.tmp 23) rfl w.heap.size (icel inZ (.slice none 0 0)) rfl rfl 45 (icel inZ (.slice none 0 0)) K3 iz.out rfl i1 ?_))
      exact bodyPost_ret (results_cell_row2 Tryd.results41 _ _ w.heap.size 45 (icel inZ (.slice none 0 0)) (0, 0) _ rfl (K3.setRow _) Tryd.underlying45 rfl iz.out) rfl ⟨_, rfl, Own.nil _ _, R3.setRow_other _ (by omega), gr_of (NW.out.setRow _ (Nat.le_refl _))⟩
end Go.Proofs.YtpijehaciomkhaaDoor
end
