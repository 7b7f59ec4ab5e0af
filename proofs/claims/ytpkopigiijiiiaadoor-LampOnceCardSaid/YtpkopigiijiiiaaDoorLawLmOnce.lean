/- THE LAW LampOnce. -/
import Derived.Test.YtpkopigiijiiiaaDoorLawLmSpoilt
import Derived.Test.YtpkopigiijiiiaaDoorLm10
namespace Go.Proofs.YtpkopigiijiiiaaDoor
open Go Go.RowKit
set_option linter.unusedVariables false
set_option linter.unusedSimpArgs false
set_option linter.unusedVariables false
set_option linter.unusedSimpArgs false

theorem wpOp_skip {P : Program} {ops : Array Oper} {Q : Exit → Act → World → Prop} {i : Nat} {o : Oper} {K : Act → World → Prop} {a : Act} {w : World} (dst : Option Tmp) (ho : ops[i]? = some o) (hd : o.dst = dst) (hg : Region.wanted o (yielded ops a.tmps) = false) (h : K (a.put dst undef) w) : wpOp P ops Q i K a w := by
  unfold wpOp
  rw [ho]
  show if Region.wanted o (yielded ops a.tmps) = true then _ else _
  rw [if_neg (by rw [hg]; decide), hd]
  exact h
theorem wp_eqd13 {P : Program} {o : Oper} {a : Act} {w : World} {K : Act → World → Prop} {Q : Exit → Act → World → Prop} (dst : Option Tmp) (hd : o.dst = dst) (T : TypeId) (x y : Operand) (T' : TypeId) (ho : o.op = .binOp .eql T x y T') (k : IntKind) (z u : Int)
    (hx : a.eval x = .int k z) (hy : a.eval y = .int k u) (b : Bool) (hb : decide (z = u) = b) (h : K (a.put dst (.bool b)) w) : o.wp P a w K Q := by
  refine wp_val_of dst hd (.bool b) ?_ h
  unfold execOp
  simp only [ho, hx, hy]
  have e1 : (eqGuard .eql T x y (.int k z) (.int k u)).run P w = .ok () w := by
    simp [eqGuard]
  have e2 : (binOp .eql T (.int k z) (.int k u)).run P w = .ok (.bool b) w := by
    subst hb
    simp [binOp, Op.intCmp]
    try (by_cases hh : z = u <;> simp [hh])
  simp only [Sem.run_bind, e1, e2, Result.andThen_ok, Sem.run_pure]
theorem run_ixu (t e : TypeId) {P : Program} (ht : P.underlying t = some (.slice e)) (k : Nat) (hsz : ∀ w, (sizeOf e).run P w = .ok k w) (b o n c j : Nat) (hj : j < n) (w : World) :
    (Instr.indexAt t (.slice (some ⟨b, o, none⟩) n c) (.int .u8 (j : Int))).run P w = .ok (.pointer (some ⟨b, o + j * k, none⟩)) w := by
  have hji : (j : Int) < (n : Int) := by omega
  simp [Instr.indexAt, asIntOf, run_underlying ht, hsz, hji, Instr.sureAddr, addr_add]
  try omega
theorem wp_ixu13 {P : Program} {o : Oper} {a : Act} {w : World} {K : Act → World → Prop} {Q : Exit → Act → World → Prop} (dst : Option Tmp) (hd : o.dst = dst) (t e : TypeId) (x ix : Operand) (ho : o.op = .indexAddr t x ix)
    (ht : P.underlying t = some (.slice e)) (k : Nat) (hsz : ∀ w, (sizeOf e).run P w = .ok k w) (b q n c j : Nat) (hx : a.eval x = .slice (some ⟨b, q, none⟩) n c) (hi : a.eval ix = .int .u8 (j : Int)) (hj : j < n)
    (h : K (a.put dst (.pointer (some ⟨b, q + j * k, none⟩))) w) : o.wp P a w K Q := by
  refine wp_val_of dst hd _ ?_ h
  unfold execOp
  simp only [ho, hx, hi]
  simp only [Sem.run_bind, run_ixu t e ht k hsz b q n c j hj w, Result.andThen_ok, Sem.run_pure]
theorem chkE_cases (key d g : Bs) : (chkE key d g = 0 ∧ g.length = 2048 ∧ shaL (flt (ckB d g) 32) = key) ∨ chkE key d g = 5 := by
  unfold chkE
  split
  · split
    · exact .inl ⟨rfl, by assumption, by assumption⟩
    · exact .inr rfl
  · exact .inr rfl
set_option maxRecDepth 100000 in
set_option maxHeartbeats 16000000 in
theorem lampOnce_law {w : World} (key : Bs) (hkey : key.length = 32) (d : Bs) (hd : d.length = 32) (ee : Bs) (he : ee.length = 32) (va : Value) (la : Bs) (ra : Rd w va la) (lea : la.length ≤ 140737488351232) (vb : Value) (lb : Bs) (rb : Rd w vb lb) (leb : lb.length ≤ 140737488351232) (k : Nat) (hk : (k : Int) ≤ 255) (hK : KIs w) :
    Calls Tryd.prog 7 #[.agg (hcel key), .agg (hcel d), .agg (hcel ee), va, vb, .int .u8 (k : Int)] w fun e w' => e = .returned (.bool true) ∧ Nx w w' := by
  have HKK := Lib.hid hK
  obtain ⟨kk, hkk⟩ : ∃ kk, k % 32 = kk := ⟨_, rfl⟩
  have hk32 : kk < 32 := by omega
  have e1 : IntKind.u8.wrap ((k : Int).tmod 32) = (kk : Int) := by rw [IntKind.wrap_u8', Int.tmod_eq_emod_of_nonneg (by omega)]; omega
  have e2 : (k : Int) % 32 = (kk : Int) := by omega
  obtain ⟨Aa, ma, ca, rfl⟩ := ra.sl
  obtain ⟨Ab, mb, cb, rfl⟩ := rb.sl
  have zk := Lib.hid (hashsz key hkey)
  have zd := Lib.hid (hashsz d hd)
  have ze := Lib.hid (hashsz ee he)
  have HKL := Lib.hid hkey
  have HDL := Lib.hid hd
  have HEL := Lib.hid he
  have RA := Lib.hid ra
  have RB := Lib.hid rb
  have R1 := Lib.hid (((Row.new w (hcel key) 23 _ rfl).alloc (.cells (hcel d) 23)).alloc (.cells (hcel ee) 23))
  have R2 := Lib.hid ((Row.new2 w (.cells (hcel key) 23) (hcel d) 23).alloc (.cells (hcel ee) 23))
  have R3 := Lib.hid (Row.new3 w (.cells (hcel key) 23) (.cells (hcel d) 23) (hcel ee) 23)
  have N0 := Lib.hid ((((Nx.refl w).alloc (.cells (hcel key) 23)).alloc (.cells (hcel d) 23)).alloc (.cells (hcel ee) 23))
  clear hK hkey hd he ra rb lea leb
  go_enter Tryd.func7, Tryd.ntmps7
  go_upto_region 2 with fail
  rw [e2]
  generalize ((w.alloc (.cells (hcel key) 23)).alloc (.cells (hcel d) 23)).alloc (.cells (hcel ee) 23) = W at *
  have HQ1 : Hid (∀ wr, Nx W wr → Calls Tryd.prog 20 #[.agg (hcel key), .agg (hcel d), .slice Aa ma ca] wr fun e w' => e = .returned (.int .i64 (chkE key d la : Int)) ∧ Nx wr w') := Lib.hid fun wr h => check_any _ key d la wr (RA.out.nx (N0.out.trans h)) HKL.out HDL.out (HKK.out.nx (N0.out.trans h))
  have HQ2 : Hid (∀ wr, Nx W wr → Calls Tryd.prog 20 #[.agg (hcel key), .agg (hcel ee), .slice Ab mb cb] wr fun e w' => e = .returned (.int .i64 (chkE key ee lb : Int)) ∧ Nx wr w') := Lib.hid fun wr h => check_any _ key ee lb wr (RB.out.nx (N0.out.trans h)) HKL.out HEL.out (HKK.out.nx (N0.out.trans h))
  rcases chkE_cases key d la with ⟨hE1, hla, hka⟩ | hE1
  · have HC1 := HQ1
    rw [hE1] at HC1
    rcases chkE_cases key ee lb with ⟨hE2, hlb, hkb⟩ | hE2
    · have HC2 := HQ2
      rw [hE2] at HC2
      have HB1 := Lib.hid (fun wr => bit_any d HDL.out kk (by omega) wr)
      have HB2 := Lib.hid (fun wr => bit_any ee HEL.out kk (by omega) wr)
      have hbn : bitN d kk ≠ bitN ee kk ∨ bitN d kk = bitN ee kk := by omega
      have HON := Lib.hid (fun h1 h2 => lamp_once d ee la lb hla hlb kk hk32 h1 h2)
      generalize hb1 : bitN d kk = b1 at *
      generalize hb2 : bitN ee kk = b2 at *
      clear HQ1 HQ2 hE1 hE2
      rcases hbn with hbn | hbn
      · have HBE : Hid (decide ((b1 : Int) = (b2 : Int)) = false) := Lib.hid (by rw [decide_eq_false_iff_not]; omega)
        refine wp_region_nx 21 [[], [], [], [0, 1, 2], [3], [4, 3], [5], [5], [5], [6, 7, 8, 5, 5], [9, 5], [5, 10], [11, 9], [12], [12], [13, 14, 12, 12], [12], [12], [16, 17, 15, 12], [15, 18, 12], [12, 19]] [some 21, some 22, some 23, some 24, some 25, some 26, some 27, some 28, some 29, some 30, some 31, some 32, some 33, some 34, some 35, some 36, some 37, some 38, some 39, some 40, some 41]
          [.eq (.agg (hcel key)), .eq (.agg (hcel d)), .eq (.slice Aa ma ca), .eq (.int .i64 0), .eq (.bool false), .eq (.bool false), .eq (.agg (hcel key)), .eq (.agg (hcel ee)), .eq (.slice Ab mb cb), .eq (.int .i64 0), .eq (.bool false), .eq (.bool false), .eq (.bool false), .eq (.agg (hcel d)), .eq (.int .u8 (kk : Int)), .eq (.int .u8 (b1 : Int)), .eq (.agg (hcel ee)), .eq (.int .u8 (kk : Int)), .eq (.int .u8 (b2 : Int)), .eq (.bool false), .eq (.bool false)]
          (by kernel_rfl) (by kernel_rfl) (hord_of (by decide)) (by kernel_rfl) (by decide) (by decide) (htail_of (by decide)) ?_ _ (by rfl) ?_
        · intro x tm wr htm hx i hi hd K hK
          simp only [fillA, List.setIfInBounds_toArray, List.set_cons_zero, List.set_cons_succ] at htm
          subst htm
          have hcs : i = 0 ∨ i = 1 ∨ i = 2 ∨ i = 3 ∨ i = 4 ∨ i = 5 ∨ i = 6 ∨ i = 7 ∨ i = 8 ∨ i = 9 ∨ i = 10 ∨ i = 11 ∨ i = 12 ∨ i = 13 ∨ i = 14 ∨ i = 15 ∨ i = 16 ∨ i = 17 ∨ i = 18 ∨ i = 19 ∨ i = 20 := by omega
          clear hi
          rcases hcs with rfl | rfl | rfl | rfl | rfl | rfl | rfl | rfl | rfl | rfl | rfl | rfl | rfl | rfl | rfl | rfl | rfl | rfl | rfl | rfl | rfl
          · exact wpOp_of rfl rfl (wp_load_row_of (some 21) rfl 23 (.tmp 6) rfl (w.heap.size) rfl 23 (hcel key) _ (R1.out.nx hx) Tryd.underlying23 rfl zk.out (hK _ _ rfl (Nx.refl _)))
          · exact wpOp_of rfl rfl (wp_load_row_of (some 22) rfl 23 (.tmp 7) rfl ((w.heap.size + 1)) rfl 23 (hcel d) _ (R2.out.nx hx) Tryd.underlying23 rfl zd.out (hK _ _ rfl (Nx.refl _)))
          · exact wpOp_of rfl rfl (wp_val_of (some 23) rfl (.slice Aa ma ca) (by kernel_rfl) (hK _ _ rfl (Nx.refl _)))
          · have e0 : x 0 = .agg (hcel key) := hd 0 (by decide)
            have e1 : x 1 = .agg (hcel d) := hd 1 (by decide)
            have e2 : x 2 = .slice Aa ma ca := hd 2 (by decide)
            generalize x 0 = y0 at e0 hK ⊢
            subst e0
            generalize x 1 = y1 at e1 hK ⊢
            subst e1
            generalize x 2 = y2 at e2 hK ⊢
            subst e2
            refine wpOp_of rfl rfl (wp_call_of (some 24) rfl 20 #[(.agg (hcel key)), (.agg (hcel d)), (.slice Aa ma ca)] (by kernel_rfl) (.int .i64 0) ?_ (fun w' h => hK _ w' rfl h))
            exact HC1.out wr hx
          · have e3 : x 3 = .int .i64 0 := hd 3 (by decide)
            generalize x 3 = y3 at e3 hK ⊢
            subst e3
            exact wpOp_of rfl rfl (wp_val_of (some 25) rfl (.bool false) (by kernel_rfl) (hK _ _ rfl (Nx.refl _)))
          · have e4 : x 4 = .bool false := hd 4 (by decide)
            have e3 : x 3 = .int .i64 0 := hd 3 (by decide)
            generalize x 4 = y4 at e4 hK ⊢
            subst e4
            generalize x 3 = y3 at e3 hK ⊢
            subst e3
            exact wpOp_of rfl rfl (wp_val_of (some 26) rfl (.bool false) (by kernel_rfl) (hK _ _ rfl (Nx.refl _)))
          · have e5 : x 5 = .bool false := hd 5 (by decide)
            generalize x 5 = y5 at e5 hK ⊢
            subst e5
            exact wpOp_g rfl (by rfl) (wp_load_row_of (some 27) rfl 23 (.tmp 6) rfl (w.heap.size) rfl 23 (hcel key) _ (R1.out.nx hx) Tryd.underlying23 rfl zk.out (hK _ _ rfl (Nx.refl _)))
          · have e5 : x 5 = .bool false := hd 5 (by decide)
            generalize x 5 = y5 at e5 hK ⊢
            subst e5
            exact wpOp_g rfl (by rfl) (wp_load_row_of (some 28) rfl 23 (.tmp 8) rfl ((w.heap.size + 1 + 1)) rfl 23 (hcel ee) _ (R3.out.nx hx) Tryd.underlying23 rfl ze.out (hK _ _ rfl (Nx.refl _)))
          · have e5 : x 5 = .bool false := hd 5 (by decide)
            generalize x 5 = y5 at e5 hK ⊢
            subst e5
            exact wpOp_g rfl (by rfl) (wp_val_of (some 29) rfl (.slice Ab mb cb) (by kernel_rfl) (hK _ _ rfl (Nx.refl _)))
          · have e6 : x 6 = .agg (hcel key) := hd 6 (by decide)
            have e7 : x 7 = .agg (hcel ee) := hd 7 (by decide)
            have e8 : x 8 = .slice Ab mb cb := hd 8 (by decide)
            have e5 : x 5 = .bool false := hd 5 (by decide)
            generalize x 6 = y6 at e6 hK ⊢
            subst e6
            generalize x 7 = y7 at e7 hK ⊢
            subst e7
            generalize x 8 = y8 at e8 hK ⊢
            subst e8
            generalize x 5 = y5 at e5 hK ⊢
            subst e5
            refine wpOp_g rfl (by rfl) (wp_call_of (some 30) rfl 20 #[(.agg (hcel key)), (.agg (hcel ee)), (.slice Ab mb cb)] (by kernel_rfl) (.int .i64 0) ?_ (fun w' h => hK _ w' rfl h))
            exact HC2.out wr hx
          · have e9 : x 9 = .int .i64 0 := hd 9 (by decide)
            have e5 : x 5 = .bool false := hd 5 (by decide)
            generalize x 9 = y9 at e9 hK ⊢
            subst e9
            generalize x 5 = y5 at e5 hK ⊢
            subst e5
            exact wpOp_g rfl (by rfl) (wp_val_of (some 31) rfl (.bool false) (by kernel_rfl) (hK _ _ rfl (Nx.refl _)))
          · have e5 : x 5 = .bool false := hd 5 (by decide)
            have e10 : x 10 = .bool false := hd 10 (by decide)
            generalize x 5 = y5 at e5 hK ⊢
            subst e5
            generalize x 10 = y10 at e10 hK ⊢
            subst e10
            exact wpOp_of rfl rfl (wp_val_of (some 32) rfl (.bool false) (by kernel_rfl) (hK _ _ rfl (Nx.refl _)))
          · have e11 : x 11 = .bool false := hd 11 (by decide)
            have e9 : x 9 = .int .i64 0 := hd 9 (by decide)
            generalize x 11 = y11 at e11 hK ⊢
            subst e11
            generalize x 9 = y9 at e9 hK ⊢
            subst e9
            exact wpOp_of rfl rfl (wp_val_of (some 33) rfl (.bool false) (by kernel_rfl) (hK _ _ rfl (Nx.refl _)))
          · have e12 : x 12 = .bool false := hd 12 (by decide)
            generalize x 12 = y12 at e12 hK ⊢
            subst e12
            exact wpOp_g rfl (by rfl) (wp_load_row_of (some 34) rfl 23 (.tmp 7) rfl ((w.heap.size + 1)) rfl 23 (hcel d) _ (R2.out.nx hx) Tryd.underlying23 rfl zd.out (hK _ _ rfl (Nx.refl _)))
          · have e12 : x 12 = .bool false := hd 12 (by decide)
            generalize x 12 = y12 at e12 hK ⊢
            subst e12
            exact wpOp_g rfl (by rfl) (wp_val_of (some 35) rfl (.int .u8 (kk : Int)) (by kernel_rfl) (hK _ _ rfl (Nx.refl _)))
          · have e13 : x 13 = .agg (hcel d) := hd 13 (by decide)
            have e14 : x 14 = .int .u8 (kk : Int) := hd 14 (by decide)
            have e12 : x 12 = .bool false := hd 12 (by decide)
            generalize x 13 = y13 at e13 hK ⊢
            subst e13
            generalize x 14 = y14 at e14 hK ⊢
            subst e14
            generalize x 12 = y12 at e12 hK ⊢
            subst e12
            refine wpOp_g rfl (by rfl) (wp_call_of (some 36) rfl 10 #[(.agg (hcel d)), (.int .u8 (kk : Int))] (by kernel_rfl) (.int .u8 (b1 : Int)) ?_ (fun w' h => hK _ w' rfl h))
            exact HB1.out wr
          · have e12 : x 12 = .bool false := hd 12 (by decide)
            generalize x 12 = y12 at e12 hK ⊢
            subst e12
            exact wpOp_g rfl (by rfl) (wp_load_row_of (some 37) rfl 23 (.tmp 8) rfl ((w.heap.size + 1 + 1)) rfl 23 (hcel ee) _ (R3.out.nx hx) Tryd.underlying23 rfl ze.out (hK _ _ rfl (Nx.refl _)))
          · have e12 : x 12 = .bool false := hd 12 (by decide)
            generalize x 12 = y12 at e12 hK ⊢
            subst e12
            exact wpOp_g rfl (by rfl) (wp_val_of (some 38) rfl (.int .u8 (kk : Int)) (by kernel_rfl) (hK _ _ rfl (Nx.refl _)))
          · have e16 : x 16 = .agg (hcel ee) := hd 16 (by decide)
            have e17 : x 17 = .int .u8 (kk : Int) := hd 17 (by decide)
            have e15 : x 15 = .int .u8 (b1 : Int) := hd 15 (by decide)
            have e12 : x 12 = .bool false := hd 12 (by decide)
            generalize x 16 = y16 at e16 hK ⊢
            subst e16
            generalize x 17 = y17 at e17 hK ⊢
            subst e17
            generalize x 15 = y15 at e15 hK ⊢
            subst e15
            generalize x 12 = y12 at e12 hK ⊢
            subst e12
            refine wpOp_g rfl (by rfl) (wp_call_of (some 39) rfl 10 #[(.agg (hcel ee)), (.int .u8 (kk : Int))] (by kernel_rfl) (.int .u8 (b2 : Int)) ?_ (fun w' h => hK _ w' rfl h))
            exact HB2.out wr
          · have e15 : x 15 = .int .u8 (b1 : Int) := hd 15 (by decide)
            have e18 : x 18 = .int .u8 (b2 : Int) := hd 18 (by decide)
            have e12 : x 12 = .bool false := hd 12 (by decide)
            generalize x 15 = y15 at e15 hK ⊢
            subst e15
            generalize x 18 = y18 at e18 hK ⊢
            subst e18
            generalize x 12 = y12 at e12 hK ⊢
            subst e12
            exact wpOp_g rfl (by rfl) (wp_eqd13 (some 40) rfl _ _ _ _ rfl .u8 (b1 : Int) (b2 : Int) rfl rfl false HBE.out (hK _ _ rfl (Nx.refl _)))
          · have e12 : x 12 = .bool false := hd 12 (by decide)
            have e19 : x 19 = .bool false := hd 19 (by decide)
            generalize x 12 = y12 at e12 hK ⊢
            subst e12
            generalize x 19 = y19 at e19 hK ⊢
            subst e19
            exact wpOp_of rfl rfl (wp_val_of (some 41) rfl (.bool false) (by kernel_rfl) (hK _ _ rfl (Nx.refl _)))
        · intro x tm wr htm hx hv
          simp only [fillA, List.setIfInBounds_toArray, List.set_cons_zero, List.set_cons_succ] at htm
          subst htm
          have e20 : x 20 = .bool false := hv 20 (by decide)
          rw [e20]
          simp only [List.drop_succ_cons, List.drop_nil, List.drop_zero]
          refine wpList_nil ?_
          have NW := Lib.hid (N0.out.trans hx)
          have R2a := R2.out.nx hx
          have R3a := R3.out.nx hx
          clear hx hv R1 HC1 HC2 HB1 HB2 HBE e1 e2
          have HS1 := Lib.hid (HON.out hbn)
          clear HON hbn hb1 hb2
          obtain ⟨A', c', hq, hcc, hmm, haa⟩ := RB.out
          obtain ⟨rfl, rfl, rfl⟩ : Ab = A' ∧ mb = lb.length ∧ cb = c' := by injection hq with h1 h2 h3; exact ⟨h1, h2, h3⟩
          obtain ⟨bB, qB, rfl, hbB, hcell⟩ := haa (by omega)
          have HAB := Lib.hid haa
          clear hcell haa hq
          have HLB := Lib.hid hlb
          rw [hlb] at hcc RB ⊢
          have HO1 := Lib.hid (open_ok _ la _ (RA.out.nx NW.out) hla)
          go_wp2_with fail
          refine HO1.out.mono ?_
          rintro e w3 ⟨v3, rfl, o3, n3⟩
          obtain ⟨A3, c3, rfl, -, -, -, hq3⟩ := o3.rd.h_parts
          have HOL := Lib.hid (opL_length la)
          obtain ⟨b3, q3, rfl, hb3, hcell3⟩ := hq3 (by rw [HOL.out]; decide)
          have hXC : ∀ Wz, Nx w3 Wz → ∀ i u, (hcel (opS la kk))[i]? = some u → Wz.cell? ⟨b3, q3 + kk * 32 + i, none⟩ = some u := fun Wz h i u hu => by
            rw [h.cell (p := ⟨b3, q3 + kk * 32 + i, none⟩) hb3]
            have hk2 : kk < (opL la).length := by rw [HOL.out]; exact hk32
            refine hcell3 kk hk2 i u ?_
            have := opL_get la kk hk32
            rw [List.getElem?_eq_getElem hk2] at this
            rw [Option.some.inj this]; exact hu
          have HXC0 := Lib.hid hXC
          rw [HOL.out]
          have N3 := Lib.hid (NW.out.trans n3)
          replace R2a := R2a.nx n3
          replace R3a := R3a.nx n3
          clear o3 n3 hq3 hcell3 HO1 hXC
          have HO2 := Lib.hid (open_ok _ lb _ (RB.out.nx N3.out) HLB.out)
          go_wp2_with fail
          refine HO2.out.mono ?_
          rintro e w4 ⟨v4, rfl, o4, n4⟩
          obtain ⟨A4, c4, rfl, -, -, -, -⟩ := o4.rd.h_parts
          have HOM := Lib.hid (opL_length lb)
          rw [HOM.out]
          have N4 := Lib.hid (N3.out.trans n4)
          have R2 := R2a.nx n4
          have R3 := R3a.nx n4
          have HXC4 : Hid (∀ Wz, Nx w4 Wz → ∀ i u, (hcel (opS la kk))[i]? = some u → Wz.cell? ⟨b3, q3 + kk * 32 + i, none⟩ = some u) := Lib.hid fun Wz h => HXC0.out Wz (n4.trans h)
          clear o4 n4 HO2 R2a R3a HXC0
          have HP1 : Hid (∀ wr, Nx w4 wr → Calls Tryd.prog 23 #[.agg (hcel d), .slice Aa ma ca] wr fun e w' => ∃ v, e = .returned v ∧ Rd w' v (flt (ckB d la) 32) ∧ Nx wr w') := Lib.hid fun wr h => parts_any _ d la wr (RA.out.nx (N4.out.trans h)) hla HDL.out
          have HP2 : Hid (∀ wr, Nx w4 wr → Calls Tryd.prog 23 #[.agg (hcel ee), .slice (some ⟨bB, qB, none⟩) 2048 cb] wr fun e w' => ∃ v, e = .returned v ∧ Rd w' v (flt (ckB ee lb) 32) ∧ Nx wr w') := Lib.hid fun wr h => parts_any _ ee lb wr (RB.out.nx (N4.out.trans h)) HLB.out HEL.out
          have hfl1 : (flt (ckB d la) 32).length = 2048 := (flt_cut2 (ckB d la) 32 (fun j hj => ckB_length d la hla j hj)).1
          have hfl2 : (flt (ckB ee lb) 32).length = 2048 := (flt_cut2 (ckB ee lb) 32 (fun j hj => ckB_length ee lb HLB.out j hj)).1
          have HF1 := Lib.hid hfl1
          have HF2 := Lib.hid hfl2
          have HKA := Lib.hid hka
          have HKB := Lib.hid hkb
          have HXL := Lib.hid (opS_length la hla kk hk32)
          have HRS : Hid (∀ Wz, Nx w Wz → Rd Wz (.slice (some ⟨bB, qB + (64 * kk + 32), none⟩) 32 (cb - (64 * kk + 32))) (shS lb kk)) := Lib.hid fun Wz h => by
            have := (Rd.cut HAB.out (c := cb - (64 * kk + 32)) (i := 64 * kk + 32) (m := 32) (by have := HLB.out; omega) (by omega) (by omega)).nx h
            rwa [Option.map_some, addr_add] at this
          clear hfl1 hfl2 hka hkb
          generalize flt (ckB d la) 32 = FL at *
          generalize flt (ckB ee lb) 32 = FM at *
          go_wp2_with fail
          refine wp_region_nx 8 [[], [], [0, 1], [], [], [3, 4, 2], [2, 5, 0, 1, 2], [5, 6, 0, 1, 2, 3, 4, 5, 6]] [some 69, some 70, some 71, some 72, some 73, some 74, some 17, some 18]
            [.eq (.agg (hcel d)), .eq (.slice Aa ma ca), .rd FL, .eq (.agg (hcel ee)), .eq (.slice (some ⟨bB, qB, none⟩) 2048 cb), .rd FM, .rd FL, .rd FM]
            (by kernel_rfl) (by kernel_rfl) (hord_of (by decide)) (by kernel_rfl) (by decide) (by decide) (htail_of (by decide)) ?_ _ (by rfl) ?_
          · intro x tm wr htm hx i hi hd K hK
            simp only [fillA, List.setIfInBounds_toArray, List.set_cons_zero, List.set_cons_succ] at htm
            subst htm
            have hcs : i = 0 ∨ i = 1 ∨ i = 2 ∨ i = 3 ∨ i = 4 ∨ i = 5 ∨ i = 6 ∨ i = 7 := by omega
            clear hi
            rcases hcs with rfl | rfl | rfl | rfl | rfl | rfl | rfl | rfl
            · exact wpOp_of rfl rfl (wp_load_row_of (some 69) rfl 23 (.tmp 7) rfl ((w.heap.size + 1)) rfl 23 (hcel d) _ (R2.nx hx) Tryd.underlying23 rfl zd.out (hK _ _ rfl (Nx.refl _)))
            · exact wpOp_of rfl rfl (wp_val_of (some 70) rfl (.slice Aa ma ca) (by kernel_rfl) (hK _ _ rfl (Nx.refl _)))
            · have e0 : x 0 = .agg (hcel d) := hd 0 (by decide)
              have e1 : x 1 = .slice Aa ma ca := hd 1 (by decide)
              generalize x 0 = y0 at e0 hK ⊢
              subst e0
              generalize x 1 = y1 at e1 hK ⊢
              subst e1
              refine wpOp_of rfl rfl (wp_callp_of (some 71) rfl 23 #[(.agg (hcel d)), (.slice Aa ma ca)] (by kernel_rfl) (fun v w' => Rd w' v (FL)) ?_ hK)
              exact HP1.out wr hx
            · exact wpOp_of rfl rfl (wp_load_row_of (some 72) rfl 23 (.tmp 8) rfl ((w.heap.size + 1 + 1)) rfl 23 (hcel ee) _ (R3.nx hx) Tryd.underlying23 rfl ze.out (hK _ _ rfl (Nx.refl _)))
            · exact wpOp_of rfl rfl (wp_val_of (some 73) rfl (.slice (some ⟨bB, qB, none⟩) 2048 cb) (by kernel_rfl) (hK _ _ rfl (Nx.refl _)))
            · have e3 : x 3 = .agg (hcel ee) := hd 3 (by decide)
              have e4 : x 4 = .slice (some ⟨bB, qB, none⟩) 2048 cb := hd 4 (by decide)
              generalize x 3 = y3 at e3 hK ⊢
              subst e3
              generalize x 4 = y4 at e4 hK ⊢
              subst e4
              refine wpOp_of rfl rfl (wp_callp_of (some 74) rfl 23 #[(.agg (hcel ee)), (.slice (some ⟨bB, qB, none⟩) 2048 cb)] (by kernel_rfl) (fun v w' => Rd w' v (FM)) ?_ hK)
              exact HP2.out wr hx
            · have r2 := hd 2 (by decide)
              exact wpOp_of rfl rfl (wp_val_of (some 17) rfl (x 2) (by kernel_rfl) (hK _ _ r2 (Nx.refl _)))
            · have r5 := hd 5 (by decide)
              exact wpOp_of rfl rfl (wp_val_of (some 18) rfl (x 5) (by kernel_rfl) (hK _ _ r5 (Nx.refl _)))
          · intro x tm wr htm hx hv
            simp only [fillA, List.setIfInBounds_toArray, List.set_cons_zero, List.set_cons_succ] at htm
            subst htm
            have r6 := hv 6 (by decide)
            have r7 := hv 7 (by decide)
            simp only [List.drop_succ_cons, List.drop_nil, List.drop_zero]
            refine wpList_nil ?_
            have r6 : Rd wr (x 6) FL := r6
            have r7 : Rd wr (x 7) FM := r7
            generalize x 6 = y6 at *
            generalize x 7 = y7 at *
            obtain ⟨A6, m6, c6, rfl⟩ := r6.sl
            obtain ⟨A7, m7, c7, rfl⟩ := r7.sl
            have N5 := Lib.hid (N4.out.trans hx)
            have HXC5 : Hid (∀ Wz, Nx wr Wz → ∀ i u, (hcel (opS la kk))[i]? = some u → Wz.cell? ⟨b3, q3 + kk * 32 + i, none⟩ = some u) := Lib.hid fun Wz h => HXC4.out Wz (hx.trans h)
            clear hx hv R2 R3 HXC4 HP1 HP2
            by_cases hFL : FL = FM
            · have HS2 := Lib.hid (HS1.out hFL)
              clear HS1
              subst hFL
              have HSM := Lib.hid (same_yes _ _ FL wr r6 r7)
              go_wp2_with fail
              refine HSM.out.mono ?_
              rintro e w6 ⟨rfl, n6⟩
              have hS2 := HS2.out
              have N6 := Lib.hid (N5.out.trans n6)
              have HXC : Hid (∀ Wz, Nx w6 Wz → ∀ i u, (hcel (opS la kk))[i]? = some u → Wz.cell? ⟨b3, q3 + kk * 32 + i, none⟩ = some u) := Lib.hid fun Wz h => HXC5.out Wz (n6.trans h)
              have hxl := HXL.out
              have hsx := shaL_length (opS la kk)
              have HK32 := Lib.hid hk32
              have HCUT := Lib.hid (fun W => slice_in (P := Tryd.prog) 28 5 Tryd.underlying28 Tryd.sizeOf5 bB qB 2048 cb (64 * kk + 32) (64 * kk + 64) (64 * (kk : Int) + 32) (64 * (kk : Int) + 64) (by omega) (by omega) (by omega) (by omega) (by omega) W)
              rw [show 64 * kk + 64 - (64 * kk + 32) = 32 by omega] at HCUT
              have HCR : Hid (∀ wr, Nx w6 wr → Rd wr (.slice (some ⟨bB, qB + (64 * kk + 32), none⟩) 32 (cb - (64 * kk + 32))) (shaL (opS la kk))) := Lib.hid fun wr h => by
                rw [hS2]
                exact HRS.out wr (N6.out.trans h)
              have HL1 := Lib.hid (fun wr => rlist_any (opS la kk) wr hxl)
              have HL2 := Lib.hid (fun wr => rlist_any (shaL (opS la kk)) wr hsx)
              have HSX := Lib.hid (fun wr v (hr : Rd wr v (opS la kk)) => rhsum_any v (opS la kk) wr hr (by rw [hxl]; decide))
              have zX := Lib.hid (hashsz (opS la kk) hxl)
              have HLV : Hid (∀ wr, Nx w6 wr → Calls Tryd.prog 17 #[] wr fun e w' => e = .returned (.bool true) ∧ Nx wr w') := Lib.hid fun wr h => lives_any wr (HKK.out.nx (N6.out.trans h))
              have HW0 : Hid (IntKind.i64.wrap (kk : Int) = (kk : Int)) := Lib.hid (by rw [IntWalk.i64_in _ (by omega)])
              have HM : Hid (IntKind.i64.wrap (64 * (kk : Int)) = 64 * (kk : Int)) := Lib.hid (by rw [IntWalk.i64_in _ (by omega)])
              have HM32 : Hid (IntKind.i64.wrap (64 * (kk : Int) + 32) = 64 * (kk : Int) + 32) := Lib.hid (by rw [IntWalk.i64_in _ (by omega)])
              have HM64 : Hid (IntKind.i64.wrap (64 * (kk : Int) + 64) = 64 * (kk : Int) + 64) := Lib.hid (by rw [IntWalk.i64_in _ (by omega)])
              clear hS2 HS2 n6 HSM r6 r7 HXC5 HRS
              generalize shaL (opS la kk) = SX at *
              generalize opS la kk = X at *
              go_wp2_with fail
              refine wp_region_nx 22 [[], [], [0, 1], [2], [3], [4, 4], [5, 5], [], [], [8], [9], [10], [], [12], [13], [14], [7, 11, 15], [6, 16, 6], [17, 17], [18, 18], [18, 19], [20, 19, 0, 1, 2, 3, 4, 5, 6, 7, 8, 9, 10, 11, 12, 13, 14, 15, 16, 17, 18, 19, 20]] [some 87, some 88, some 89, some 90, some 91, some 92, some 93, some 94, some 95, some 96, some 97, some 98, some 99, some 100, some 101, some 102, some 103, some 104, some 105, some 106, some 107, some 12]
                [.eq (.slice (some ⟨b3, q3, none⟩) 32 c3), .eq (.int .u8 (kk : Int)), .eq (.pointer (some ⟨b3, q3 + kk * 32, none⟩)), .eq (.agg (hcel X)), .rd X, .eq (.agg (hcel SX)), .rd SX, .eq (.slice (some ⟨bB, qB, none⟩) 2048 cb), .eq (.int .u8 (kk : Int)), .eq (.int .i64 (kk : Int)), .eq (.int .i64 (64 * (kk : Int))), .eq (.int .i64 (64 * (kk : Int) + 32)), .eq (.int .u8 (kk : Int)), .eq (.int .i64 (kk : Int)), .eq (.int .i64 (64 * (kk : Int))), .eq (.int .i64 (64 * (kk : Int) + 64)), .eq (.slice (some ⟨bB, qB + (64 * kk + 32), none⟩) 32 (cb - (64 * kk + 32))), .eq (.bool true), .eq (.bool true), .eq (.bool true), .eq (.bool true), .eq (.bool true)]
                (by kernel_rfl) (by kernel_rfl) (hord_of (by decide)) (by kernel_rfl) (by decide) (by decide) (htail_of (by decide)) ?_ _ (by rfl) ?_
              · intro x tm wr htm hx i hi hd K hK
                simp only [fillA, List.setIfInBounds_toArray, List.set_cons_zero, List.set_cons_succ] at htm
                subst htm
                have hcs : i = 0 ∨ i = 1 ∨ i = 2 ∨ i = 3 ∨ i = 4 ∨ i = 5 ∨ i = 6 ∨ i = 7 ∨ i = 8 ∨ i = 9 ∨ i = 10 ∨ i = 11 ∨ i = 12 ∨ i = 13 ∨ i = 14 ∨ i = 15 ∨ i = 16 ∨ i = 17 ∨ i = 18 ∨ i = 19 ∨ i = 20 ∨ i = 21 := by omega
                clear hi
                rcases hcs with rfl | rfl | rfl | rfl | rfl | rfl | rfl | rfl | rfl | rfl | rfl | rfl | rfl | rfl | rfl | rfl | rfl | rfl | rfl | rfl | rfl | rfl
                · exact wpOp_of rfl rfl (wp_val_of (some 87) rfl (.slice (some ⟨b3, q3, none⟩) 32 c3) (by kernel_rfl) (hK _ _ rfl (Nx.refl _)))
                · exact wpOp_of rfl rfl (wp_val_of (some 88) rfl (.int .u8 (kk : Int)) (by kernel_rfl) (hK _ _ rfl (Nx.refl _)))
                · have e0 : x 0 = .slice (some ⟨b3, q3, none⟩) 32 c3 := hd 0 (by decide)
                  have e1 : x 1 = .int .u8 (kk : Int) := hd 1 (by decide)
                  generalize x 0 = y0 at e0 hK ⊢
                  subst e0
                  generalize x 1 = y1 at e1 hK ⊢
                  subst e1
                  exact wpOp_of rfl rfl (wp_ixu13 (some 89) rfl 32 23 (.tmp 87) (.tmp 88) rfl Tryd.underlying32 32 Tryd.sizeOf23 b3 q3 32 c3 kk rfl rfl HK32.out (hK _ _ rfl (Nx.refl _)))
                · have e2 : x 2 = .pointer (some ⟨b3, q3 + kk * 32, none⟩) := hd 2 (by decide)
                  generalize x 2 = y2 at e2 hK ⊢
                  subst e2
                  exact wpOp_of rfl rfl (wp_load_at (some 90) rfl 23 (.tmp 89) rfl b3 (q3 + kk * 32) rfl (hcel X) _ (HXC.out wr hx) Tryd.underlying23 rfl zX.out (hK _ _ rfl (Nx.refl _)))
                · have e3 : x 3 = .agg (hcel X) := hd 3 (by decide)
                  generalize x 3 = y3 at e3 hK ⊢
                  subst e3
                  refine wpOp_of rfl rfl (wp_callp_of (some 91) rfl 25 #[(.agg (hcel X))] (by kernel_rfl) (fun v w' => Rd w' v (X)) ?_ hK)
                  exact (HL1.out wr).mono fun _ _ ⟨v, h1, h2, h3⟩ => ⟨v, h1, h2.rd, h3⟩
                · have r4 := hd 4 (by decide)
                  refine wpOp_of rfl rfl (wp_call_of (some 92) rfl 24 #[x 4] (by kernel_rfl) (.agg (hcel SX)) ?_ (fun w' h => hK _ w' rfl h))
                  exact HSX.out wr _ r4
                · have e5 : x 5 = .agg (hcel SX) := hd 5 (by decide)
                  generalize x 5 = y5 at e5 hK ⊢
                  subst e5
                  refine wpOp_of rfl rfl (wp_callp_of (some 93) rfl 25 #[(.agg (hcel SX))] (by kernel_rfl) (fun v w' => Rd w' v (SX)) ?_ hK)
                  exact (HL2.out wr).mono fun _ _ ⟨v, h1, h2, h3⟩ => ⟨v, h1, h2.rd, h3⟩
                · exact wpOp_of rfl rfl (wp_val_of (some 94) rfl (.slice (some ⟨bB, qB, none⟩) 2048 cb) (by kernel_rfl) (hK _ _ rfl (Nx.refl _)))
                · exact wpOp_of rfl rfl (wp_val_of (some 95) rfl (.int .u8 (kk : Int)) (by kernel_rfl) (hK _ _ rfl (Nx.refl _)))
                · have e8 : x 8 = .int .u8 (kk : Int) := hd 8 (by decide)
                  generalize x 8 = y8 at e8 hK ⊢
                  subst e8
                  exact wpOp_of rfl rfl (wp_val_of (some 96) rfl (.int .i64 (IntKind.i64.wrap (kk : Int))) (by kernel_rfl) (hK _ _ (show _ = _ by rw [HW0.out]) (Nx.refl _)))
                · have e9 : x 9 = .int .i64 (kk : Int) := hd 9 (by decide)
                  generalize x 9 = y9 at e9 hK ⊢
                  subst e9
                  exact wpOp_of rfl rfl (wp_val_of (some 97) rfl (.int .i64 (IntKind.i64.wrap (64 * (kk : Int)))) (by kernel_rfl) (hK _ _ (show _ = _ by rw [HM.out]) (Nx.refl _)))
                · have e10 : x 10 = .int .i64 (64 * (kk : Int)) := hd 10 (by decide)
                  generalize x 10 = y10 at e10 hK ⊢
                  subst e10
                  exact wpOp_of rfl rfl (wp_val_of (some 98) rfl (.int .i64 (IntKind.i64.wrap (64 * (kk : Int) + 32))) (by kernel_rfl) (hK _ _ (show _ = _ by rw [HM32.out]) (Nx.refl _)))
                · exact wpOp_of rfl rfl (wp_val_of (some 99) rfl (.int .u8 (kk : Int)) (by kernel_rfl) (hK _ _ rfl (Nx.refl _)))
                · have e12 : x 12 = .int .u8 (kk : Int) := hd 12 (by decide)
                  generalize x 12 = y12 at e12 hK ⊢
                  subst e12
                  exact wpOp_of rfl rfl (wp_val_of (some 100) rfl (.int .i64 (IntKind.i64.wrap (kk : Int))) (by kernel_rfl) (hK _ _ (show _ = _ by rw [HW0.out]) (Nx.refl _)))
                · have e13 : x 13 = .int .i64 (kk : Int) := hd 13 (by decide)
                  generalize x 13 = y13 at e13 hK ⊢
                  subst e13
                  exact wpOp_of rfl rfl (wp_val_of (some 101) rfl (.int .i64 (IntKind.i64.wrap (64 * (kk : Int)))) (by kernel_rfl) (hK _ _ (show _ = _ by rw [HM.out]) (Nx.refl _)))
                · have e14 : x 14 = .int .i64 (64 * (kk : Int)) := hd 14 (by decide)
                  generalize x 14 = y14 at e14 hK ⊢
                  subst e14
                  exact wpOp_of rfl rfl (wp_val_of (some 102) rfl (.int .i64 (IntKind.i64.wrap (64 * (kk : Int) + 64))) (by kernel_rfl) (hK _ _ (show _ = _ by rw [HM64.out]) (Nx.refl _)))
                · have e7 : x 7 = .slice (some ⟨bB, qB, none⟩) 2048 cb := hd 7 (by decide)
                  have e11 : x 11 = .int .i64 (64 * (kk : Int) + 32) := hd 11 (by decide)
                  have e15 : x 15 = .int .i64 (64 * (kk : Int) + 64) := hd 15 (by decide)
                  generalize x 7 = y7 at e7 hK ⊢
                  subst e7
                  generalize x 11 = y11 at e11 hK ⊢
                  subst e11
                  generalize x 15 = y15 at e15 hK ⊢
                  subst e15
                  exact wpOp_of rfl rfl (wp_slice_of (some 103) rfl 28 (.tmp 94) (some (.tmp 98)) (some (.tmp 102)) none rfl _ (HCUT.out wr) (hK _ _ rfl (Nx.refl _)))
                · have r6 := hd 6 (by decide)
                  have e16 : x 16 = .slice (some ⟨bB, qB + (64 * kk + 32), none⟩) 32 (cb - (64 * kk + 32)) := hd 16 (by decide)
                  generalize x 16 = y16 at e16 hK ⊢
                  subst e16
                  refine wpOp_of rfl rfl (wp_call_of (some 104) rfl 14 #[x 6, (.slice (some ⟨bB, qB + (64 * kk + 32), none⟩) 32 (cb - (64 * kk + 32)))] (by kernel_rfl) (.bool true) ?_ (fun w' h => hK _ w' rfl h))
                  exact same_yes _ _ SX wr r6 (HCR.out wr hx)
                · have e17 : x 17 = .bool true := hd 17 (by decide)
                  generalize x 17 = y17 at e17 hK ⊢
                  subst e17
                  exact wpOp_of rfl rfl (wp_val_of (some 105) rfl (.bool true) (by kernel_rfl) (hK _ _ rfl (Nx.refl _)))
                · have e18 : x 18 = .bool true := hd 18 (by decide)
                  generalize x 18 = y18 at e18 hK ⊢
                  subst e18
                  refine wpOp_g rfl (by rfl) (wp_call_of (some 106) rfl 17 #[] (by kernel_rfl) (.bool true) ?_ (fun w' h => hK _ w' rfl h))
                  exact HLV.out wr hx
                · have e18 : x 18 = .bool true := hd 18 (by decide)
                  have e19 : x 19 = .bool true := hd 19 (by decide)
                  generalize x 18 = y18 at e18 hK ⊢
                  subst e18
                  generalize x 19 = y19 at e19 hK ⊢
                  subst e19
                  exact wpOp_of rfl rfl (wp_val_of (some 107) rfl (.bool true) (by kernel_rfl) (hK _ _ rfl (Nx.refl _)))
                · have e20 : x 20 = .bool true := hd 20 (by decide)
                  have e19 : x 19 = .bool true := hd 19 (by decide)
                  have e0 : x 0 = .slice (some ⟨b3, q3, none⟩) 32 c3 := hd 0 (by decide)
                  have e1 : x 1 = .int .u8 (kk : Int) := hd 1 (by decide)
                  have e2 : x 2 = .pointer (some ⟨b3, q3 + kk * 32, none⟩) := hd 2 (by decide)
                  have e3 : x 3 = .agg (hcel X) := hd 3 (by decide)
                  have r4 := hd 4 (by decide)
                  have e5 : x 5 = .agg (hcel SX) := hd 5 (by decide)
                  have r6 := hd 6 (by decide)
                  have e7 : x 7 = .slice (some ⟨bB, qB, none⟩) 2048 cb := hd 7 (by decide)
                  have e8 : x 8 = .int .u8 (kk : Int) := hd 8 (by decide)
                  have e9 : x 9 = .int .i64 (kk : Int) := hd 9 (by decide)
                  have e10 : x 10 = .int .i64 (64 * (kk : Int)) := hd 10 (by decide)
                  have e11 : x 11 = .int .i64 (64 * (kk : Int) + 32) := hd 11 (by decide)
                  have e12 : x 12 = .int .u8 (kk : Int) := hd 12 (by decide)
                  have e13 : x 13 = .int .i64 (kk : Int) := hd 13 (by decide)
                  have e14 : x 14 = .int .i64 (64 * (kk : Int)) := hd 14 (by decide)
                  have e15 : x 15 = .int .i64 (64 * (kk : Int) + 64) := hd 15 (by decide)
                  have e16 : x 16 = .slice (some ⟨bB, qB + (64 * kk + 32), none⟩) 32 (cb - (64 * kk + 32)) := hd 16 (by decide)
                  have e17 : x 17 = .bool true := hd 17 (by decide)
                  have e18 : x 18 = .bool true := hd 18 (by decide)
                  generalize x 20 = y20 at e20 hK ⊢
                  subst e20
                  generalize x 19 = y19 at e19 hK ⊢
                  subst e19
                  generalize x 0 = y0 at e0 hK ⊢
                  subst e0
                  generalize x 1 = y1 at e1 hK ⊢
                  subst e1
                  generalize x 2 = y2 at e2 hK ⊢
                  subst e2
                  generalize x 3 = y3 at e3 hK ⊢
                  subst e3
                  generalize x 5 = y5 at e5 hK ⊢
                  subst e5
                  generalize x 7 = y7 at e7 hK ⊢
                  subst e7
                  generalize x 8 = y8 at e8 hK ⊢
                  subst e8
                  generalize x 9 = y9 at e9 hK ⊢
                  subst e9
                  generalize x 10 = y10 at e10 hK ⊢
                  subst e10
                  generalize x 11 = y11 at e11 hK ⊢
                  subst e11
                  generalize x 12 = y12 at e12 hK ⊢
                  subst e12
                  generalize x 13 = y13 at e13 hK ⊢
                  subst e13
                  generalize x 14 = y14 at e14 hK ⊢
                  subst e14
                  generalize x 15 = y15 at e15 hK ⊢
                  subst e15
                  generalize x 16 = y16 at e16 hK ⊢
                  subst e16
                  generalize x 17 = y17 at e17 hK ⊢
                  subst e17
                  generalize x 18 = y18 at e18 hK ⊢
                  subst e18
                  exact wpOp_of rfl rfl (wp_val_of (some 12) rfl (.bool true) (by kernel_rfl) (hK _ _ rfl (Nx.refl _)))
              · intro x tm wr htm hx hv
                simp only [fillA, List.setIfInBounds_toArray, List.set_cons_zero, List.set_cons_succ] at htm
                subst htm
                have e21 : x 21 = .bool true := hv 21 (by decide)
                rw [e21]
                simp only [List.drop_succ_cons, List.drop_nil, List.drop_zero]
                refine wpList_nil ?_
                have NZ := Lib.hid (N6.out.trans hx)
                clear hx hv
                go_wp2_with fail
                go_ret
                exact ⟨rfl, NZ.out⟩
            · have HSM := Lib.hid (same_no _ _ FL FM wr r6 r7 hFL)
              go_wp2_with fail
              refine HSM.out.mono ?_
              rintro e w6 ⟨rfl, n6⟩
              have N6 := Lib.hid (N5.out.trans n6)
              have r6b := Lib.hid (r6.nx n6)
              have r7b := Lib.hid (r7.nx n6)
              clear n6 HSM r6 r7 HXC5
              have HQ6 := Lib.hid (rhsum_any _ FL w6 r6b.out (by rw [HF1.out]; decide))
              rw [HKA.out] at HQ6
              go_wp2_with fail
              refine HQ6.out.mono ?_
              rintro e w7 ⟨rfl, n7⟩
              have HQ7 := Lib.hid (rhsum_any _ FM w7 (r7b.out.nx n7) (by rw [HF2.out]; decide))
              rw [HKB.out] at HQ7
              go_wp2_with fail
              refine HQ7.out.mono ?_
              rintro e w8 ⟨rfl, n8⟩
              have N8 := Lib.hid ((N6.out.trans n7).trans n8)
              have EQ := eq_hash' key HKL.out
              go_wp2_with fail
              refine (lives_any _ (HKK.out.nx N8.out)).mono ?_
              rintro e w9 ⟨rfl, n9⟩
              have N9 := Lib.hid (N8.out.trans n9)
              go_wp2_with fail
              go_ret
              exact ⟨rfl, N9.out⟩
      · have HBE : Hid (decide ((b1 : Int) = (b2 : Int)) = true) := Lib.hid (by rw [decide_eq_true_iff]; omega)
        refine wp_region_nx 21 [[], [], [], [0, 1, 2], [3], [4, 3], [5], [5], [5], [6, 7, 8, 5, 5], [9, 5], [5, 10], [11, 9], [12], [12], [13, 14, 12, 12], [12], [12], [16, 17, 15, 12], [15, 18, 12], [12, 19]] [some 21, some 22, some 23, some 24, some 25, some 26, some 27, some 28, some 29, some 30, some 31, some 32, some 33, some 34, some 35, some 36, some 37, some 38, some 39, some 40, some 41]
          [.eq (.agg (hcel key)), .eq (.agg (hcel d)), .eq (.slice Aa ma ca), .eq (.int .i64 0), .eq (.bool false), .eq (.bool false), .eq (.agg (hcel key)), .eq (.agg (hcel ee)), .eq (.slice Ab mb cb), .eq (.int .i64 0), .eq (.bool false), .eq (.bool false), .eq (.bool false), .eq (.agg (hcel d)), .eq (.int .u8 (kk : Int)), .eq (.int .u8 (b1 : Int)), .eq (.agg (hcel ee)), .eq (.int .u8 (kk : Int)), .eq (.int .u8 (b2 : Int)), .eq (.bool true), .eq (.bool true)]
          (by kernel_rfl) (by kernel_rfl) (hord_of (by decide)) (by kernel_rfl) (by decide) (by decide) (htail_of (by decide)) ?_ _ (by rfl) ?_
        · intro x tm wr htm hx i hi hd K hK
          simp only [fillA, List.setIfInBounds_toArray, List.set_cons_zero, List.set_cons_succ] at htm
          subst htm
          have hcs : i = 0 ∨ i = 1 ∨ i = 2 ∨ i = 3 ∨ i = 4 ∨ i = 5 ∨ i = 6 ∨ i = 7 ∨ i = 8 ∨ i = 9 ∨ i = 10 ∨ i = 11 ∨ i = 12 ∨ i = 13 ∨ i = 14 ∨ i = 15 ∨ i = 16 ∨ i = 17 ∨ i = 18 ∨ i = 19 ∨ i = 20 := by omega
          clear hi
          rcases hcs with rfl | rfl | rfl | rfl | rfl | rfl | rfl | rfl | rfl | rfl | rfl | rfl | rfl | rfl | rfl | rfl | rfl | rfl | rfl | rfl | rfl
          · exact wpOp_of rfl rfl (wp_load_row_of (some 21) rfl 23 (.tmp 6) rfl (w.heap.size) rfl 23 (hcel key) _ (R1.out.nx hx) Tryd.underlying23 rfl zk.out (hK _ _ rfl (Nx.refl _)))
          · exact wpOp_of rfl rfl (wp_load_row_of (some 22) rfl 23 (.tmp 7) rfl ((w.heap.size + 1)) rfl 23 (hcel d) _ (R2.out.nx hx) Tryd.underlying23 rfl zd.out (hK _ _ rfl (Nx.refl _)))
          · exact wpOp_of rfl rfl (wp_val_of (some 23) rfl (.slice Aa ma ca) (by kernel_rfl) (hK _ _ rfl (Nx.refl _)))
          · have e0 : x 0 = .agg (hcel key) := hd 0 (by decide)
            have e1 : x 1 = .agg (hcel d) := hd 1 (by decide)
            have e2 : x 2 = .slice Aa ma ca := hd 2 (by decide)
            generalize x 0 = y0 at e0 hK ⊢
            subst e0
            generalize x 1 = y1 at e1 hK ⊢
            subst e1
            generalize x 2 = y2 at e2 hK ⊢
            subst e2
            refine wpOp_of rfl rfl (wp_call_of (some 24) rfl 20 #[(.agg (hcel key)), (.agg (hcel d)), (.slice Aa ma ca)] (by kernel_rfl) (.int .i64 0) ?_ (fun w' h => hK _ w' rfl h))
            exact HC1.out wr hx
          · have e3 : x 3 = .int .i64 0 := hd 3 (by decide)
            generalize x 3 = y3 at e3 hK ⊢
            subst e3
            exact wpOp_of rfl rfl (wp_val_of (some 25) rfl (.bool false) (by kernel_rfl) (hK _ _ rfl (Nx.refl _)))
          · have e4 : x 4 = .bool false := hd 4 (by decide)
            have e3 : x 3 = .int .i64 0 := hd 3 (by decide)
            generalize x 4 = y4 at e4 hK ⊢
            subst e4
            generalize x 3 = y3 at e3 hK ⊢
            subst e3
            exact wpOp_of rfl rfl (wp_val_of (some 26) rfl (.bool false) (by kernel_rfl) (hK _ _ rfl (Nx.refl _)))
          · have e5 : x 5 = .bool false := hd 5 (by decide)
            generalize x 5 = y5 at e5 hK ⊢
            subst e5
            exact wpOp_g rfl (by rfl) (wp_load_row_of (some 27) rfl 23 (.tmp 6) rfl (w.heap.size) rfl 23 (hcel key) _ (R1.out.nx hx) Tryd.underlying23 rfl zk.out (hK _ _ rfl (Nx.refl _)))
          · have e5 : x 5 = .bool false := hd 5 (by decide)
            generalize x 5 = y5 at e5 hK ⊢
            subst e5
            exact wpOp_g rfl (by rfl) (wp_load_row_of (some 28) rfl 23 (.tmp 8) rfl ((w.heap.size + 1 + 1)) rfl 23 (hcel ee) _ (R3.out.nx hx) Tryd.underlying23 rfl ze.out (hK _ _ rfl (Nx.refl _)))
          · have e5 : x 5 = .bool false := hd 5 (by decide)
            generalize x 5 = y5 at e5 hK ⊢
            subst e5
            exact wpOp_g rfl (by rfl) (wp_val_of (some 29) rfl (.slice Ab mb cb) (by kernel_rfl) (hK _ _ rfl (Nx.refl _)))
          · have e6 : x 6 = .agg (hcel key) := hd 6 (by decide)
            have e7 : x 7 = .agg (hcel ee) := hd 7 (by decide)
            have e8 : x 8 = .slice Ab mb cb := hd 8 (by decide)
            have e5 : x 5 = .bool false := hd 5 (by decide)
            generalize x 6 = y6 at e6 hK ⊢
            subst e6
            generalize x 7 = y7 at e7 hK ⊢
            subst e7
            generalize x 8 = y8 at e8 hK ⊢
            subst e8
            generalize x 5 = y5 at e5 hK ⊢
            subst e5
            refine wpOp_g rfl (by rfl) (wp_call_of (some 30) rfl 20 #[(.agg (hcel key)), (.agg (hcel ee)), (.slice Ab mb cb)] (by kernel_rfl) (.int .i64 0) ?_ (fun w' h => hK _ w' rfl h))
            exact HC2.out wr hx
          · have e9 : x 9 = .int .i64 0 := hd 9 (by decide)
            have e5 : x 5 = .bool false := hd 5 (by decide)
            generalize x 9 = y9 at e9 hK ⊢
            subst e9
            generalize x 5 = y5 at e5 hK ⊢
            subst e5
            exact wpOp_g rfl (by rfl) (wp_val_of (some 31) rfl (.bool false) (by kernel_rfl) (hK _ _ rfl (Nx.refl _)))
          · have e5 : x 5 = .bool false := hd 5 (by decide)
            have e10 : x 10 = .bool false := hd 10 (by decide)
            generalize x 5 = y5 at e5 hK ⊢
            subst e5
            generalize x 10 = y10 at e10 hK ⊢
            subst e10
            exact wpOp_of rfl rfl (wp_val_of (some 32) rfl (.bool false) (by kernel_rfl) (hK _ _ rfl (Nx.refl _)))
          · have e11 : x 11 = .bool false := hd 11 (by decide)
            have e9 : x 9 = .int .i64 0 := hd 9 (by decide)
            generalize x 11 = y11 at e11 hK ⊢
            subst e11
            generalize x 9 = y9 at e9 hK ⊢
            subst e9
            exact wpOp_of rfl rfl (wp_val_of (some 33) rfl (.bool false) (by kernel_rfl) (hK _ _ rfl (Nx.refl _)))
          · have e12 : x 12 = .bool false := hd 12 (by decide)
            generalize x 12 = y12 at e12 hK ⊢
            subst e12
            exact wpOp_g rfl (by rfl) (wp_load_row_of (some 34) rfl 23 (.tmp 7) rfl ((w.heap.size + 1)) rfl 23 (hcel d) _ (R2.out.nx hx) Tryd.underlying23 rfl zd.out (hK _ _ rfl (Nx.refl _)))
          · have e12 : x 12 = .bool false := hd 12 (by decide)
            generalize x 12 = y12 at e12 hK ⊢
            subst e12
            exact wpOp_g rfl (by rfl) (wp_val_of (some 35) rfl (.int .u8 (kk : Int)) (by kernel_rfl) (hK _ _ rfl (Nx.refl _)))
          · have e13 : x 13 = .agg (hcel d) := hd 13 (by decide)
            have e14 : x 14 = .int .u8 (kk : Int) := hd 14 (by decide)
            have e12 : x 12 = .bool false := hd 12 (by decide)
            generalize x 13 = y13 at e13 hK ⊢
            subst e13
            generalize x 14 = y14 at e14 hK ⊢
            subst e14
            generalize x 12 = y12 at e12 hK ⊢
            subst e12
            refine wpOp_g rfl (by rfl) (wp_call_of (some 36) rfl 10 #[(.agg (hcel d)), (.int .u8 (kk : Int))] (by kernel_rfl) (.int .u8 (b1 : Int)) ?_ (fun w' h => hK _ w' rfl h))
            exact HB1.out wr
          · have e12 : x 12 = .bool false := hd 12 (by decide)
            generalize x 12 = y12 at e12 hK ⊢
            subst e12
            exact wpOp_g rfl (by rfl) (wp_load_row_of (some 37) rfl 23 (.tmp 8) rfl ((w.heap.size + 1 + 1)) rfl 23 (hcel ee) _ (R3.out.nx hx) Tryd.underlying23 rfl ze.out (hK _ _ rfl (Nx.refl _)))
          · have e12 : x 12 = .bool false := hd 12 (by decide)
            generalize x 12 = y12 at e12 hK ⊢
            subst e12
            exact wpOp_g rfl (by rfl) (wp_val_of (some 38) rfl (.int .u8 (kk : Int)) (by kernel_rfl) (hK _ _ rfl (Nx.refl _)))
          · have e16 : x 16 = .agg (hcel ee) := hd 16 (by decide)
            have e17 : x 17 = .int .u8 (kk : Int) := hd 17 (by decide)
            have e15 : x 15 = .int .u8 (b1 : Int) := hd 15 (by decide)
            have e12 : x 12 = .bool false := hd 12 (by decide)
            generalize x 16 = y16 at e16 hK ⊢
            subst e16
            generalize x 17 = y17 at e17 hK ⊢
            subst e17
            generalize x 15 = y15 at e15 hK ⊢
            subst e15
            generalize x 12 = y12 at e12 hK ⊢
            subst e12
            refine wpOp_g rfl (by rfl) (wp_call_of (some 39) rfl 10 #[(.agg (hcel ee)), (.int .u8 (kk : Int))] (by kernel_rfl) (.int .u8 (b2 : Int)) ?_ (fun w' h => hK _ w' rfl h))
            exact HB2.out wr
          · have e15 : x 15 = .int .u8 (b1 : Int) := hd 15 (by decide)
            have e18 : x 18 = .int .u8 (b2 : Int) := hd 18 (by decide)
            have e12 : x 12 = .bool false := hd 12 (by decide)
            generalize x 15 = y15 at e15 hK ⊢
            subst e15
            generalize x 18 = y18 at e18 hK ⊢
            subst e18
            generalize x 12 = y12 at e12 hK ⊢
            subst e12
            exact wpOp_g rfl (by rfl) (wp_eqd13 (some 40) rfl _ _ _ _ rfl .u8 (b1 : Int) (b2 : Int) rfl rfl true HBE.out (hK _ _ rfl (Nx.refl _)))
          · have e12 : x 12 = .bool false := hd 12 (by decide)
            have e19 : x 19 = .bool true := hd 19 (by decide)
            generalize x 12 = y12 at e12 hK ⊢
            subst e12
            generalize x 19 = y19 at e19 hK ⊢
            subst e19
            exact wpOp_of rfl rfl (wp_val_of (some 41) rfl (.bool true) (by kernel_rfl) (hK _ _ rfl (Nx.refl _)))
        · intro x tm wr htm hx hv
          simp only [fillA, List.setIfInBounds_toArray, List.set_cons_zero, List.set_cons_succ] at htm
          subst htm
          have e20 : x 20 = .bool true := hv 20 (by decide)
          rw [e20]
          simp only [List.drop_succ_cons, List.drop_nil, List.drop_zero]
          refine wpList_nil ?_
          have NZ := Lib.hid (N0.out.trans hx)
          clear hx hv
          go_wp2_with fail
          refine (lives_any _ (HKK.out.nx NZ.out)).mono ?_
          rintro e9 w9 ⟨rfl, n9⟩
          have NY := Lib.hid (NZ.out.trans n9)
          go_wp2_with fail
          go_ret
          exact ⟨rfl, NY.out⟩
    · have HC2 := HQ2
      rw [hE2] at HC2
      clear HQ1 HQ2 hE1 hE2
      refine wp_region_nx 21 [[], [], [], [0, 1, 2], [3], [4, 3], [5], [5], [5], [6, 7, 8, 5, 5], [9, 5], [5, 10], [11, 9], [12], [12], [13, 14, 12, 12], [12], [12], [16, 17, 15, 12], [15, 18, 12], [12, 19]] [some 21, some 22, some 23, some 24, some 25, some 26, some 27, some 28, some 29, some 30, some 31, some 32, some 33, some 34, some 35, some 36, some 37, some 38, some 39, some 40, some 41]
        [.eq (.agg (hcel key)), .eq (.agg (hcel d)), .eq (.slice Aa ma ca), .eq (.int .i64 0), .eq (.bool false), .eq (.bool false), .eq (.agg (hcel key)), .eq (.agg (hcel ee)), .eq (.slice Ab mb cb), .eq (.int .i64 5), .eq (.bool true), .eq (.bool true), .eq (.bool true), .eq (undef), .eq (undef), .eq (undef), .eq (undef), .eq (undef), .eq (undef), .eq (undef), .eq (.bool true)]
        (by kernel_rfl) (by kernel_rfl) (hord_of (by decide)) (by kernel_rfl) (by decide) (by decide) (htail_of (by decide)) ?_ _ (by rfl) ?_
      · intro x tm wr htm hx i hi hd K hK
        simp only [fillA, List.setIfInBounds_toArray, List.set_cons_zero, List.set_cons_succ] at htm
        subst htm
        have hcs : i = 0 ∨ i = 1 ∨ i = 2 ∨ i = 3 ∨ i = 4 ∨ i = 5 ∨ i = 6 ∨ i = 7 ∨ i = 8 ∨ i = 9 ∨ i = 10 ∨ i = 11 ∨ i = 12 ∨ i = 13 ∨ i = 14 ∨ i = 15 ∨ i = 16 ∨ i = 17 ∨ i = 18 ∨ i = 19 ∨ i = 20 := by omega
        clear hi
        rcases hcs with rfl | rfl | rfl | rfl | rfl | rfl | rfl | rfl | rfl | rfl | rfl | rfl | rfl | rfl | rfl | rfl | rfl | rfl | rfl | rfl | rfl
        · exact wpOp_of rfl rfl (wp_load_row_of (some 21) rfl 23 (.tmp 6) rfl (w.heap.size) rfl 23 (hcel key) _ (R1.out.nx hx) Tryd.underlying23 rfl zk.out (hK _ _ rfl (Nx.refl _)))
        · exact wpOp_of rfl rfl (wp_load_row_of (some 22) rfl 23 (.tmp 7) rfl ((w.heap.size + 1)) rfl 23 (hcel d) _ (R2.out.nx hx) Tryd.underlying23 rfl zd.out (hK _ _ rfl (Nx.refl _)))
        · exact wpOp_of rfl rfl (wp_val_of (some 23) rfl (.slice Aa ma ca) (by kernel_rfl) (hK _ _ rfl (Nx.refl _)))
        · have e0 : x 0 = .agg (hcel key) := hd 0 (by decide)
          have e1 : x 1 = .agg (hcel d) := hd 1 (by decide)
          have e2 : x 2 = .slice Aa ma ca := hd 2 (by decide)
          generalize x 0 = y0 at e0 hK ⊢
          subst e0
          generalize x 1 = y1 at e1 hK ⊢
          subst e1
          generalize x 2 = y2 at e2 hK ⊢
          subst e2
          refine wpOp_of rfl rfl (wp_call_of (some 24) rfl 20 #[(.agg (hcel key)), (.agg (hcel d)), (.slice Aa ma ca)] (by kernel_rfl) (.int .i64 0) ?_ (fun w' h => hK _ w' rfl h))
          exact HC1.out wr hx
        · have e3 : x 3 = .int .i64 0 := hd 3 (by decide)
          generalize x 3 = y3 at e3 hK ⊢
          subst e3
          exact wpOp_of rfl rfl (wp_val_of (some 25) rfl (.bool false) (by kernel_rfl) (hK _ _ rfl (Nx.refl _)))
        · have e4 : x 4 = .bool false := hd 4 (by decide)
          have e3 : x 3 = .int .i64 0 := hd 3 (by decide)
          generalize x 4 = y4 at e4 hK ⊢
          subst e4
          generalize x 3 = y3 at e3 hK ⊢
          subst e3
          exact wpOp_of rfl rfl (wp_val_of (some 26) rfl (.bool false) (by kernel_rfl) (hK _ _ rfl (Nx.refl _)))
        · have e5 : x 5 = .bool false := hd 5 (by decide)
          generalize x 5 = y5 at e5 hK ⊢
          subst e5
          exact wpOp_g rfl (by rfl) (wp_load_row_of (some 27) rfl 23 (.tmp 6) rfl (w.heap.size) rfl 23 (hcel key) _ (R1.out.nx hx) Tryd.underlying23 rfl zk.out (hK _ _ rfl (Nx.refl _)))
        · have e5 : x 5 = .bool false := hd 5 (by decide)
          generalize x 5 = y5 at e5 hK ⊢
          subst e5
          exact wpOp_g rfl (by rfl) (wp_load_row_of (some 28) rfl 23 (.tmp 8) rfl ((w.heap.size + 1 + 1)) rfl 23 (hcel ee) _ (R3.out.nx hx) Tryd.underlying23 rfl ze.out (hK _ _ rfl (Nx.refl _)))
        · have e5 : x 5 = .bool false := hd 5 (by decide)
          generalize x 5 = y5 at e5 hK ⊢
          subst e5
          exact wpOp_g rfl (by rfl) (wp_val_of (some 29) rfl (.slice Ab mb cb) (by kernel_rfl) (hK _ _ rfl (Nx.refl _)))
        · have e6 : x 6 = .agg (hcel key) := hd 6 (by decide)
          have e7 : x 7 = .agg (hcel ee) := hd 7 (by decide)
          have e8 : x 8 = .slice Ab mb cb := hd 8 (by decide)
          have e5 : x 5 = .bool false := hd 5 (by decide)
          generalize x 6 = y6 at e6 hK ⊢
          subst e6
          generalize x 7 = y7 at e7 hK ⊢
          subst e7
          generalize x 8 = y8 at e8 hK ⊢
          subst e8
          generalize x 5 = y5 at e5 hK ⊢
          subst e5
          refine wpOp_g rfl (by rfl) (wp_call_of (some 30) rfl 20 #[(.agg (hcel key)), (.agg (hcel ee)), (.slice Ab mb cb)] (by kernel_rfl) (.int .i64 5) ?_ (fun w' h => hK _ w' rfl h))
          exact HC2.out wr hx
        · have e9 : x 9 = .int .i64 5 := hd 9 (by decide)
          have e5 : x 5 = .bool false := hd 5 (by decide)
          generalize x 9 = y9 at e9 hK ⊢
          subst e9
          generalize x 5 = y5 at e5 hK ⊢
          subst e5
          exact wpOp_g rfl (by rfl) (wp_val_of (some 31) rfl (.bool true) (by kernel_rfl) (hK _ _ rfl (Nx.refl _)))
        · have e5 : x 5 = .bool false := hd 5 (by decide)
          have e10 : x 10 = .bool true := hd 10 (by decide)
          generalize x 5 = y5 at e5 hK ⊢
          subst e5
          generalize x 10 = y10 at e10 hK ⊢
          subst e10
          exact wpOp_of rfl rfl (wp_val_of (some 32) rfl (.bool true) (by kernel_rfl) (hK _ _ rfl (Nx.refl _)))
        · have e11 : x 11 = .bool true := hd 11 (by decide)
          have e9 : x 9 = .int .i64 5 := hd 9 (by decide)
          generalize x 11 = y11 at e11 hK ⊢
          subst e11
          generalize x 9 = y9 at e9 hK ⊢
          subst e9
          exact wpOp_of rfl rfl (wp_val_of (some 33) rfl (.bool true) (by kernel_rfl) (hK _ _ rfl (Nx.refl _)))
        · have e12 : x 12 = .bool true := hd 12 (by decide)
          generalize x 12 = y12 at e12 hK ⊢
          subst e12
          exact wpOp_skip (some 34) rfl rfl (by rfl) (hK undef wr rfl (Nx.refl _))
        · have e12 : x 12 = .bool true := hd 12 (by decide)
          generalize x 12 = y12 at e12 hK ⊢
          subst e12
          exact wpOp_skip (some 35) rfl rfl (by rfl) (hK undef wr rfl (Nx.refl _))
        · have e12 : x 12 = .bool true := hd 12 (by decide)
          generalize x 12 = y12 at e12 hK ⊢
          subst e12
          exact wpOp_skip (some 36) rfl rfl (by rfl) (hK undef wr rfl (Nx.refl _))
        · have e12 : x 12 = .bool true := hd 12 (by decide)
          generalize x 12 = y12 at e12 hK ⊢
          subst e12
          exact wpOp_skip (some 37) rfl rfl (by rfl) (hK undef wr rfl (Nx.refl _))
        · have e12 : x 12 = .bool true := hd 12 (by decide)
          generalize x 12 = y12 at e12 hK ⊢
          subst e12
          exact wpOp_skip (some 38) rfl rfl (by rfl) (hK undef wr rfl (Nx.refl _))
        · have e12 : x 12 = .bool true := hd 12 (by decide)
          generalize x 12 = y12 at e12 hK ⊢
          subst e12
          exact wpOp_skip (some 39) rfl rfl (by rfl) (hK undef wr rfl (Nx.refl _))
        · have e12 : x 12 = .bool true := hd 12 (by decide)
          generalize x 12 = y12 at e12 hK ⊢
          subst e12
          exact wpOp_skip (some 40) rfl rfl (by rfl) (hK undef wr rfl (Nx.refl _))
        · have e12 : x 12 = .bool true := hd 12 (by decide)
          generalize x 12 = y12 at e12 hK ⊢
          subst e12
          exact wpOp_of rfl rfl (wp_val_of (some 41) rfl (.bool true) (by kernel_rfl) (hK _ _ rfl (Nx.refl _)))
      · intro x tm wr htm hx hv
        simp only [fillA, List.setIfInBounds_toArray, List.set_cons_zero, List.set_cons_succ] at htm
        subst htm
        have e20 : x 20 = .bool true := hv 20 (by decide)
        rw [e20]
        simp only [List.drop_succ_cons, List.drop_nil, List.drop_zero]
        refine wpList_nil ?_
        have NZ := Lib.hid (N0.out.trans hx)
        clear hx hv
        go_wp2_with fail
        refine (lives_any _ (HKK.out.nx NZ.out)).mono ?_
        rintro e9 w9 ⟨rfl, n9⟩
        have NY := Lib.hid (NZ.out.trans n9)
        go_wp2_with fail
        go_ret
        exact ⟨rfl, NY.out⟩
  · have HC1 := HQ1
    rw [hE1] at HC1
    clear HQ1 HQ2 hE1
    refine wp_region_nx 21 [[], [], [], [0, 1, 2], [3], [4, 3], [5], [5], [5], [6, 7, 8, 5, 5], [9, 5], [5, 10], [11, 9], [12], [12], [13, 14, 12, 12], [12], [12], [16, 17, 15, 12], [15, 18, 12], [12, 19]] [some 21, some 22, some 23, some 24, some 25, some 26, some 27, some 28, some 29, some 30, some 31, some 32, some 33, some 34, some 35, some 36, some 37, some 38, some 39, some 40, some 41]
      [.eq (.agg (hcel key)), .eq (.agg (hcel d)), .eq (.slice Aa ma ca), .eq (.int .i64 5), .eq (.bool true), .eq (.bool true), .eq (undef), .eq (undef), .eq (undef), .eq (undef), .eq (undef), .eq (.bool true), .eq (.bool true), .eq (undef), .eq (undef), .eq (undef), .eq (undef), .eq (undef), .eq (undef), .eq (undef), .eq (.bool true)]
      (by kernel_rfl) (by kernel_rfl) (hord_of (by decide)) (by kernel_rfl) (by decide) (by decide) (htail_of (by decide)) ?_ _ (by rfl) ?_
    · intro x tm wr htm hx i hi hd K hK
      simp only [fillA, List.setIfInBounds_toArray, List.set_cons_zero, List.set_cons_succ] at htm
      subst htm
      have hcs : i = 0 ∨ i = 1 ∨ i = 2 ∨ i = 3 ∨ i = 4 ∨ i = 5 ∨ i = 6 ∨ i = 7 ∨ i = 8 ∨ i = 9 ∨ i = 10 ∨ i = 11 ∨ i = 12 ∨ i = 13 ∨ i = 14 ∨ i = 15 ∨ i = 16 ∨ i = 17 ∨ i = 18 ∨ i = 19 ∨ i = 20 := by omega
      clear hi
      rcases hcs with rfl | rfl | rfl | rfl | rfl | rfl | rfl | rfl | rfl | rfl | rfl | rfl | rfl | rfl | rfl | rfl | rfl | rfl | rfl | rfl | rfl
      · exact wpOp_of rfl rfl (wp_load_row_of (some 21) rfl 23 (.tmp 6) rfl (w.heap.size) rfl 23 (hcel key) _ (R1.out.nx hx) Tryd.underlying23 rfl zk.out (hK _ _ rfl (Nx.refl _)))
      · exact wpOp_of rfl rfl (wp_load_row_of (some 22) rfl 23 (.tmp 7) rfl ((w.heap.size + 1)) rfl 23 (hcel d) _ (R2.out.nx hx) Tryd.underlying23 rfl zd.out (hK _ _ rfl (Nx.refl _)))
      · exact wpOp_of rfl rfl (wp_val_of (some 23) rfl (.slice Aa ma ca) (by kernel_rfl) (hK _ _ rfl (Nx.refl _)))
      · have e0 : x 0 = .agg (hcel key) := hd 0 (by decide)
        have e1 : x 1 = .agg (hcel d) := hd 1 (by decide)
        have e2 : x 2 = .slice Aa ma ca := hd 2 (by decide)
        generalize x 0 = y0 at e0 hK ⊢
        subst e0
        generalize x 1 = y1 at e1 hK ⊢
        subst e1
        generalize x 2 = y2 at e2 hK ⊢
        subst e2
        refine wpOp_of rfl rfl (wp_call_of (some 24) rfl 20 #[(.agg (hcel key)), (.agg (hcel d)), (.slice Aa ma ca)] (by kernel_rfl) (.int .i64 5) ?_ (fun w' h => hK _ w' rfl h))
        exact HC1.out wr hx
      · have e3 : x 3 = .int .i64 5 := hd 3 (by decide)
        generalize x 3 = y3 at e3 hK ⊢
        subst e3
        exact wpOp_of rfl rfl (wp_val_of (some 25) rfl (.bool true) (by kernel_rfl) (hK _ _ rfl (Nx.refl _)))
      · have e4 : x 4 = .bool true := hd 4 (by decide)
        have e3 : x 3 = .int .i64 5 := hd 3 (by decide)
        generalize x 4 = y4 at e4 hK ⊢
        subst e4
        generalize x 3 = y3 at e3 hK ⊢
        subst e3
        exact wpOp_of rfl rfl (wp_val_of (some 26) rfl (.bool true) (by kernel_rfl) (hK _ _ rfl (Nx.refl _)))
      · have e5 : x 5 = .bool true := hd 5 (by decide)
        generalize x 5 = y5 at e5 hK ⊢
        subst e5
        exact wpOp_skip (some 27) rfl rfl (by rfl) (hK undef wr rfl (Nx.refl _))
      · have e5 : x 5 = .bool true := hd 5 (by decide)
        generalize x 5 = y5 at e5 hK ⊢
        subst e5
        exact wpOp_skip (some 28) rfl rfl (by rfl) (hK undef wr rfl (Nx.refl _))
      · have e5 : x 5 = .bool true := hd 5 (by decide)
        generalize x 5 = y5 at e5 hK ⊢
        subst e5
        exact wpOp_skip (some 29) rfl rfl (by rfl) (hK undef wr rfl (Nx.refl _))
      · have e5 : x 5 = .bool true := hd 5 (by decide)
        generalize x 5 = y5 at e5 hK ⊢
        subst e5
        exact wpOp_skip (some 30) rfl rfl (by rfl) (hK undef wr rfl (Nx.refl _))
      · have e5 : x 5 = .bool true := hd 5 (by decide)
        generalize x 5 = y5 at e5 hK ⊢
        subst e5
        exact wpOp_skip (some 31) rfl rfl (by rfl) (hK undef wr rfl (Nx.refl _))
      · have e5 : x 5 = .bool true := hd 5 (by decide)
        generalize x 5 = y5 at e5 hK ⊢
        subst e5
        exact wpOp_of rfl rfl (wp_val_of (some 32) rfl (.bool true) (by kernel_rfl) (hK _ _ rfl (Nx.refl _)))
      · have e11 : x 11 = .bool true := hd 11 (by decide)
        have e9 : x 9 = undef := hd 9 (by decide)
        generalize x 11 = y11 at e11 hK ⊢
        subst e11
        generalize x 9 = y9 at e9 hK ⊢
        subst e9
        exact wpOp_of rfl rfl (wp_val_of (some 33) rfl (.bool true) (by kernel_rfl) (hK _ _ rfl (Nx.refl _)))
      · have e12 : x 12 = .bool true := hd 12 (by decide)
        generalize x 12 = y12 at e12 hK ⊢
        subst e12
        exact wpOp_skip (some 34) rfl rfl (by rfl) (hK undef wr rfl (Nx.refl _))
      · have e12 : x 12 = .bool true := hd 12 (by decide)
        generalize x 12 = y12 at e12 hK ⊢
        subst e12
        exact wpOp_skip (some 35) rfl rfl (by rfl) (hK undef wr rfl (Nx.refl _))
      · have e12 : x 12 = .bool true := hd 12 (by decide)
        generalize x 12 = y12 at e12 hK ⊢
        subst e12
        exact wpOp_skip (some 36) rfl rfl (by rfl) (hK undef wr rfl (Nx.refl _))
      · have e12 : x 12 = .bool true := hd 12 (by decide)
        generalize x 12 = y12 at e12 hK ⊢
        subst e12
        exact wpOp_skip (some 37) rfl rfl (by rfl) (hK undef wr rfl (Nx.refl _))
      · have e12 : x 12 = .bool true := hd 12 (by decide)
        generalize x 12 = y12 at e12 hK ⊢
        subst e12
        exact wpOp_skip (some 38) rfl rfl (by rfl) (hK undef wr rfl (Nx.refl _))
      · have e12 : x 12 = .bool true := hd 12 (by decide)
        generalize x 12 = y12 at e12 hK ⊢
        subst e12
        exact wpOp_skip (some 39) rfl rfl (by rfl) (hK undef wr rfl (Nx.refl _))
      · have e12 : x 12 = .bool true := hd 12 (by decide)
        generalize x 12 = y12 at e12 hK ⊢
        subst e12
        exact wpOp_skip (some 40) rfl rfl (by rfl) (hK undef wr rfl (Nx.refl _))
      · have e12 : x 12 = .bool true := hd 12 (by decide)
        generalize x 12 = y12 at e12 hK ⊢
        subst e12
        exact wpOp_of rfl rfl (wp_val_of (some 41) rfl (.bool true) (by kernel_rfl) (hK _ _ rfl (Nx.refl _)))
    · intro x tm wr htm hx hv
      simp only [fillA, List.setIfInBounds_toArray, List.set_cons_zero, List.set_cons_succ] at htm
      subst htm
      have e20 : x 20 = .bool true := hv 20 (by decide)
      rw [e20]
      simp only [List.drop_succ_cons, List.drop_nil, List.drop_zero]
      refine wpList_nil ?_
      have NZ := Lib.hid (N0.out.trans hx)
      clear hx hv
      go_wp2_with fail
      refine (lives_any _ (HKK.out.nx NZ.out)).mono ?_
      rintro e9 w9 ⟨rfl, n9⟩
      have NY := Lib.hid (NZ.out.trans n9)
      go_wp2_with fail
      go_ret
      exact ⟨rfl, NY.out⟩
end Go.Proofs.YtpkopigiijiiiaaDoor
