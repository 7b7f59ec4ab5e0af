/- LAYER 8: the walk of HeadPuts. -/
import Derived.Test.YtjbeemoobmagnaaDoorHead8
namespace Go.Proofs.YtjbeemoobmagnaaDoor
open Go Go.RowKit
set_option linter.unusedVariables false
set_option linter.unusedSimpArgs false
set_option linter.unusedVariables false
set_option linter.unusedSimpArgs false

theorem wp_eqb_of {P : Program} {o : Oper} {a : Act} {w : World} {K : Act → World → Prop} {Q : Exit → Act → World → Prop} (dst : Option Tmp) (hd : o.dst = dst) (T : TypeId) (x y : Operand) (T' : TypeId) (ho : o.op = .binOp .eql T x y T') (z : Bool)
    (hx : a.eval x = .bool z) (hy : a.eval y = .bool z) (heq : ∀ w, (Op.equal T (.bool z) (.bool z)).run P w = .ok true w) (h : K (a.put dst (.bool true)) w) : o.wp P a w K Q := by
  refine wp_val_of dst hd (.bool true) ?_ h
  unfold execOp
  simp only [ho, hx, hy]
  have e1 : (eqGuard .eql T x y (.bool z) (.bool z)).run P w = .ok () w := by
    simp [eqGuard]
  have e2 : (binOp .eql T (.bool z) (.bool z)).run P w = .ok (.bool true) w := by
    simp [binOp, heq]
  simp only [Sem.run_bind, e1, e2, Result.andThen_ok, Sem.run_pure]
theorem eqb_same (z : Bool) (w : World) : (Op.equal 4 (.bool z) (.bool z)).run Tryd.prog w = .ok true w := by cases z <;> kernel_rfl
theorem eqh_same (h : List UInt8) (hh : h.length = 32) (w : World) : (Op.equalIn 10000 30 (.agg (hcel h)) (.agg (hcel h))).run Tryd.prog w = .ok true w := by
  have := eq_ints (P := Tryd.prog) 9998 30 5 32 .u8 Tryd.underlying30 Tryd.underlying5 Tryd.isAgg5 Tryd.sizeOf5 (h.map fun x => (x.toNat : Int)) (h.map fun x => (x.toNat : Int)) (by simp [hh]) (by simp [hh]) w
  rw [← hc_asInts] at this
  simpa [hcel] using this
set_option maxRecDepth 100000 in
set_option maxHeartbeats 8000000 in
theorem headPuts_law {w : World} (p r : List UInt8) (t b n : Nat) (hp : p.length = 32) (hr : r.length = 32) (ht : t < 4294967296) (hb : b < 4294967296) (hn : n < 4294967296) (hk : KIs w) :
    Calls Tryd.prog 4 #[.agg (hdc p r t b n)] w fun e w' => e = .returned (.bool true) ∧ Nx w w' := by
  have H : HOk p r t b n := ⟨hp, hr, ht, hb, hn⟩
  have HP := Lib.hid (fun w => hput_any p r t b n hp hr ht hb hn w)
  have HRP := Lib.hid (fun w => rhput_any p r t b n H w)
  have HI : Hid (∀ W, Nx w W → Calls Tryd.prog 20 #[.agg (hdc p r t b n)] W fun e w' => e = .returned (.agg (hcel (hI p r t b n))) ∧ Nx W w') := Lib.hid fun W x => hid_any p r t b n H W (hk.nx x)
  have HRI := Lib.hid (fun w => rhid_any p r t b n H w)
  have HW : Hid (∀ W, Nx w W → Calls Tryd.prog 22 #[.agg (hdc p r t b n)] W fun e w' => e = .returned (.bool (meN (hI p r t b n) b)) ∧ Nx W w') := Lib.hid fun W x => hworks_any p r t b n H W (hk.nx x)
  have HRW := Lib.hid (fun w => rhworks_any p r t b n H w)
  have HWK : Hid (∀ W, Nx w W → Calls Tryd.prog 24 #[] W fun e w' => e = .returned (.bool true) ∧ Nx W w') := Lib.hid fun W x => hwork_any W
  have HEQ := Lib.hid (fun w => eqh_same (hI p r t b n) (hI_length _ _ _ _ _) w)
  have hsz := Lib.hid (headsz p r t b n hp hr)
  generalize meN (hI p r t b n) b = M at *
  generalize hI p r t b n = I at *
  generalize hdB p r t b n = L at *
  have R0 := Row.new w (hdc p r t b n) 32 _ rfl
  have N0 := Lib.hid ((Nx.refl w).alloc (.cells (hdc p r t b n) 32))
  clear hp hr ht hb hn hk H
  go_enter Tryd.func4, Tryd.ntmps4
  go_wp2_with fail
  generalize w.alloc (.cells (hdc p r t b n) 32) = W at *
  refine wp_region_nx 23 [[], [0], [], [2, 1], [1, 3, 3], [4, 4], [5], [6, 5, 5], [5], [8, 7, 5], [7, 9, 5], [5, 10], [11, 9], [12], [13, 12, 12], [12], [15, 14, 12], [14, 16, 12], [12, 17], [18, 16], [19, 19], [19, 20], [21, 20, 0, 1, 2, 3, 4, 5, 6, 7, 8, 9, 10, 11, 12, 13, 14, 15, 16, 17, 18, 19, 20, 21]] [some 3, some 4, some 5, some 6, some 7, some 8, some 9, some 10, some 11, some 12, some 13, some 14, some 15, some 16, some 17, some 18, some 19, some 20, some 21, some 22, some 23, some 24, some 2]
    [.eq (.agg (hdc p r t b n)), .rd (L), .eq (.agg (hdc p r t b n)), .rd (L), .eq (.bool true), .eq (.bool true), .eq (.agg (hdc p r t b n)), .eq (.agg (hcel I)), .eq (.agg (hdc p r t b n)), .eq (.agg (hcel I)), .eq (.bool true), .eq (.bool true), .eq (.bool true), .eq (.agg (hdc p r t b n)), .eq (.bool M), .eq (.agg (hdc p r t b n)), .eq (.bool M), .eq (.bool true), .eq (.bool true), .eq (.bool true), .eq (.bool true), .eq (.bool true), .eq (.bool true)]
    (by kernel_rfl) (by kernel_rfl) (hord_of (by decide)) (by kernel_rfl) (by decide) (by decide) (htail_of (by decide)) ?_ _ (by rfl) ?_
  · intro x tm wr htm hx i hi hd K hK
    simp only [fillA, List.setIfInBounds_toArray, List.set_cons_zero, List.set_cons_succ] at htm
    subst htm
    have hcs : i = 0 ∨ i = 1 ∨ i = 2 ∨ i = 3 ∨ i = 4 ∨ i = 5 ∨ i = 6 ∨ i = 7 ∨ i = 8 ∨ i = 9 ∨ i = 10 ∨ i = 11 ∨ i = 12 ∨ i = 13 ∨ i = 14 ∨ i = 15 ∨ i = 16 ∨ i = 17 ∨ i = 18 ∨ i = 19 ∨ i = 20 ∨ i = 21 ∨ i = 22 := by omega
    clear hi
    rcases hcs with rfl | rfl | rfl | rfl | rfl | rfl | rfl | rfl | rfl | rfl | rfl | rfl | rfl | rfl | rfl | rfl | rfl | rfl | rfl | rfl | rfl | rfl | rfl
    · exact wpOp_of rfl rfl (wp_load_row_of (some 3) rfl 32 (.tmp 1) rfl (w.heap.size) rfl 32 ((hdc p r t b n)) _ (R0.nx hx) Tryd.underlying32 rfl hsz.out (hK _ _ rfl (Nx.refl _)))
    · have e0 : x 0 = .agg (hdc p r t b n) := hd 0 (by decide)
      generalize x 0 = y0 at e0 hK ⊢
      subst e0
      refine wpOp_of rfl rfl (wp_callp_of (some 4) rfl 18 #[(.agg (hdc p r t b n))] (by kernel_rfl) (fun v w' => Rd w' v (L)) ?_ hK)
      exact (HP.out wr).mono fun _ _ ⟨v, h1, h2, h3⟩ => ⟨v, h1, h2.rd, h3⟩
    · exact wpOp_of rfl rfl (wp_load_row_of (some 5) rfl 32 (.tmp 1) rfl (w.heap.size) rfl 32 ((hdc p r t b n)) _ (R0.nx hx) Tryd.underlying32 rfl hsz.out (hK _ _ rfl (Nx.refl _)))
    · have e2 : x 2 = .agg (hdc p r t b n) := hd 2 (by decide)
      have r1 : Rd wr (x 1) (L) := hd 1 (by decide)
      generalize x 2 = y2 at e2 hK ⊢
      subst e2
      refine wpOp_of rfl rfl (wp_callp_of (some 6) rfl 19 #[(.agg (hdc p r t b n))] (by kernel_rfl) (fun v w' => Rd w' v (L)) ?_ hK)
      exact (HRP.out wr).mono fun _ _ ⟨v, h1, h2, h3⟩ => ⟨v, h1, h2.rd, h3⟩
    · have r1 : Rd wr (x 1) (L) := hd 1 (by decide)
      have r3 : Rd wr (x 3) (L) := hd 3 (by decide)
      refine wpOp_of rfl rfl (wp_call_of (some 7) rfl 17 #[x 1, x 3] (by kernel_rfl) (.bool true) ?_ (fun w' h => hK _ w' rfl h))
      exact same_yes _ _ L wr r1 r3
    · have e4 : x 4 = .bool true := hd 4 (by decide)
      generalize x 4 = y4 at e4 hK ⊢
      subst e4
      exact wpOp_of rfl rfl (wp_val_of (some 8) rfl (.bool true) (by kernel_rfl) (hK _ _ rfl (Nx.refl _)))
    · have e5 : x 5 = .bool true := hd 5 (by decide)
      generalize x 5 = y5 at e5 hK ⊢
      subst e5
      exact wpOp_g rfl (by rfl) (wp_load_row_of (some 9) rfl 32 (.tmp 1) rfl (w.heap.size) rfl 32 ((hdc p r t b n)) _ (R0.nx hx) Tryd.underlying32 rfl hsz.out (hK _ _ rfl (Nx.refl _)))
    · have e6 : x 6 = .agg (hdc p r t b n) := hd 6 (by decide)
      have e5 : x 5 = .bool true := hd 5 (by decide)
      generalize x 6 = y6 at e6 hK ⊢
      subst e6
      generalize x 5 = y5 at e5 hK ⊢
      subst e5
      refine wpOp_g rfl (by rfl) (wp_call_of (some 10) rfl 20 #[(.agg (hdc p r t b n))] (by kernel_rfl) (.agg (hcel I)) ?_ (fun w' h => hK _ w' rfl h))
      exact HI.out wr (N0.out.trans hx)
    · have e5 : x 5 = .bool true := hd 5 (by decide)
      generalize x 5 = y5 at e5 hK ⊢
      subst e5
      exact wpOp_g rfl (by rfl) (wp_load_row_of (some 11) rfl 32 (.tmp 1) rfl (w.heap.size) rfl 32 ((hdc p r t b n)) _ (R0.nx hx) Tryd.underlying32 rfl hsz.out (hK _ _ rfl (Nx.refl _)))
    · have e8 : x 8 = .agg (hdc p r t b n) := hd 8 (by decide)
      have e7 : x 7 = .agg (hcel I) := hd 7 (by decide)
      have e5 : x 5 = .bool true := hd 5 (by decide)
      generalize x 8 = y8 at e8 hK ⊢
      subst e8
      generalize x 7 = y7 at e7 hK ⊢
      subst e7
      generalize x 5 = y5 at e5 hK ⊢
      subst e5
      refine wpOp_g rfl (by rfl) (wp_call_of (some 12) rfl 21 #[(.agg (hdc p r t b n))] (by kernel_rfl) (.agg (hcel I)) ?_ (fun w' h => hK _ w' rfl h))
      exact HRI.out wr
    · have e7 : x 7 = .agg (hcel I) := hd 7 (by decide)
      have e9 : x 9 = .agg (hcel I) := hd 9 (by decide)
      have e5 : x 5 = .bool true := hd 5 (by decide)
      generalize x 7 = y7 at e7 hK ⊢
      subst e7
      generalize x 9 = y9 at e9 hK ⊢
      subst e9
      generalize x 5 = y5 at e5 hK ⊢
      subst e5
      exact wpOp_g rfl (by rfl) (wp_eql_of (some 13) rfl 30 _ _ _ rfl (hcel I) (hcel I) rfl rfl (by kernel_rfl) true (HEQ.out wr) (hK _ _ rfl (Nx.refl _)))
    · have e5 : x 5 = .bool true := hd 5 (by decide)
      have e10 : x 10 = .bool true := hd 10 (by decide)
      generalize x 5 = y5 at e5 hK ⊢
      subst e5
      generalize x 10 = y10 at e10 hK ⊢
      subst e10
      exact wpOp_of rfl rfl (wp_val_of (some 14) rfl (.bool true) (by kernel_rfl) (hK _ _ rfl (Nx.refl _)))
    · have e11 : x 11 = .bool true := hd 11 (by decide)
      have e9 : x 9 = .agg (hcel I) := hd 9 (by decide)
      generalize x 11 = y11 at e11 hK ⊢
      subst e11
      generalize x 9 = y9 at e9 hK ⊢
      subst e9
      exact wpOp_of rfl rfl (wp_val_of (some 15) rfl (.bool true) (by kernel_rfl) (hK _ _ rfl (Nx.refl _)))
    · have e12 : x 12 = .bool true := hd 12 (by decide)
      generalize x 12 = y12 at e12 hK ⊢
      subst e12
      exact wpOp_g rfl (by rfl) (wp_load_row_of (some 16) rfl 32 (.tmp 1) rfl (w.heap.size) rfl 32 ((hdc p r t b n)) _ (R0.nx hx) Tryd.underlying32 rfl hsz.out (hK _ _ rfl (Nx.refl _)))
    · have e13 : x 13 = .agg (hdc p r t b n) := hd 13 (by decide)
      have e12 : x 12 = .bool true := hd 12 (by decide)
      generalize x 13 = y13 at e13 hK ⊢
      subst e13
      generalize x 12 = y12 at e12 hK ⊢
      subst e12
      refine wpOp_g rfl (by rfl) (wp_call_of (some 17) rfl 22 #[(.agg (hdc p r t b n))] (by kernel_rfl) (.bool M) ?_ (fun w' h => hK _ w' rfl h))
      exact HW.out wr (N0.out.trans hx)
    · have e12 : x 12 = .bool true := hd 12 (by decide)
      generalize x 12 = y12 at e12 hK ⊢
      subst e12
      exact wpOp_g rfl (by rfl) (wp_load_row_of (some 18) rfl 32 (.tmp 1) rfl (w.heap.size) rfl 32 ((hdc p r t b n)) _ (R0.nx hx) Tryd.underlying32 rfl hsz.out (hK _ _ rfl (Nx.refl _)))
    · have e15 : x 15 = .agg (hdc p r t b n) := hd 15 (by decide)
      have e14 : x 14 = .bool M := hd 14 (by decide)
      have e12 : x 12 = .bool true := hd 12 (by decide)
      generalize x 15 = y15 at e15 hK ⊢
      subst e15
      generalize x 14 = y14 at e14 hK ⊢
      subst e14
      generalize x 12 = y12 at e12 hK ⊢
      subst e12
      refine wpOp_g rfl (by rfl) (wp_call_of (some 19) rfl 23 #[(.agg (hdc p r t b n))] (by kernel_rfl) (.bool M) ?_ (fun w' h => hK _ w' rfl h))
      exact HRW.out wr
    · have e14 : x 14 = .bool M := hd 14 (by decide)
      have e16 : x 16 = .bool M := hd 16 (by decide)
      have e12 : x 12 = .bool true := hd 12 (by decide)
      generalize x 14 = y14 at e14 hK ⊢
      subst e14
      generalize x 16 = y16 at e16 hK ⊢
      subst e16
      generalize x 12 = y12 at e12 hK ⊢
      subst e12
      exact wpOp_g rfl (by rfl) (wp_eqb_of (some 20) rfl _ _ _ _ rfl M rfl rfl (eqb_same M) (hK _ _ rfl (Nx.refl _)))
    · have e12 : x 12 = .bool true := hd 12 (by decide)
      have e17 : x 17 = .bool true := hd 17 (by decide)
      generalize x 12 = y12 at e12 hK ⊢
      subst e12
      generalize x 17 = y17 at e17 hK ⊢
      subst e17
      exact wpOp_of rfl rfl (wp_val_of (some 21) rfl (.bool true) (by kernel_rfl) (hK _ _ rfl (Nx.refl _)))
    · have e18 : x 18 = .bool true := hd 18 (by decide)
      have e16 : x 16 = .bool M := hd 16 (by decide)
      generalize x 18 = y18 at e18 hK ⊢
      subst e18
      generalize x 16 = y16 at e16 hK ⊢
      subst e16
      exact wpOp_of rfl rfl (wp_val_of (some 22) rfl (.bool true) (by kernel_rfl) (hK _ _ rfl (Nx.refl _)))
    · have e19 : x 19 = .bool true := hd 19 (by decide)
      generalize x 19 = y19 at e19 hK ⊢
      subst e19
      refine wpOp_g rfl (by rfl) (wp_call_of (some 23) rfl 24 #[] (by kernel_rfl) (.bool true) ?_ (fun w' h => hK _ w' rfl h))
      exact HWK.out wr (N0.out.trans hx)
    · have e19 : x 19 = .bool true := hd 19 (by decide)
      have e20 : x 20 = .bool true := hd 20 (by decide)
      generalize x 19 = y19 at e19 hK ⊢
      subst e19
      generalize x 20 = y20 at e20 hK ⊢
      subst e20
      exact wpOp_of rfl rfl (wp_val_of (some 24) rfl (.bool true) (by kernel_rfl) (hK _ _ rfl (Nx.refl _)))
    · have e21 : x 21 = .bool true := hd 21 (by decide)
      generalize x 21 = y21 at e21 hK ⊢
      subst e21
      exact wpOp_of rfl rfl (wp_val_of (some 2) rfl (.bool true) (by kernel_rfl) (hK _ _ rfl (Nx.refl _)))
  · intro x tm wr htm hx hv
    simp only [fillA, List.setIfInBounds_toArray, List.set_cons_zero, List.set_cons_succ] at htm
    subst htm
    have e22 : x 22 = .bool true := hv 22 (by decide)
    rw [e22]
    go_wp2_with fail
    go_ret
    exact ⟨rfl, N0.out.trans hx⟩
end Go.Proofs.YtjbeemoobmagnaaDoor
