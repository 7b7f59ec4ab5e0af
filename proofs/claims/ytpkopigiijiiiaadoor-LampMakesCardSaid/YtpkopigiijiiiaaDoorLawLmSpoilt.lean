/- THE LAW LampSpoilt. -/
import Derived.Test.YtpkopigiijiiiaaDoorLawLmBack
import Derived.Test.YtpkopigiijiiiaaDoorLm9
namespace Go.Proofs.YtpkopigiijiiiaaDoor
open Go Go.RowKit
set_option linter.unusedVariables false
set_option linter.unusedSimpArgs false
set_option linter.unusedVariables false
set_option linter.unusedSimpArgs false

theorem wp_eqi13 {P : Program} {o : Oper} {a : Act} {w : World} {K : Act → World → Prop} {Q : Exit → Act → World → Prop} (dst : Option Tmp) (hd : o.dst = dst) (T : TypeId) (x y : Operand) (T' : TypeId) (ho : o.op = .binOp .eql T x y T') (k : IntKind) (z : Int)
    (hx : a.eval x = .int k z) (hy : a.eval y = .int k z) (h : K (a.put dst (.bool true)) w) : o.wp P a w K Q := by
  refine wp_val_of dst hd (.bool true) ?_ h
  unfold execOp
  simp only [ho, hx, hy]
  have e1 : (eqGuard .eql T x y (.int k z) (.int k z)).run P w = .ok () w := by
    simp [eqGuard]
  have e2 : (binOp .eql T (.int k z) (.int k z)).run P w = .ok (.bool true) w := by
    simp [binOp, Op.intCmp]
  simp only [Sem.run_bind, e1, e2, Result.andThen_ok, Sem.run_pure]
/-- A byte laid into bytes of one's own. -/
theorem own_put {B : Nat} {w : World} {v : Value} {l : Bs} (h : Own B w v l) (j : Nat) (hj : j < l.length) (x : UInt8) :
    ∃ g c, v = .slice (some ⟨g, 0, none⟩) l.length c ∧ B ≤ g ∧ g < w.heap.size ∧ (∃ u, w.cell? ⟨g, j, none⟩ = some u) ∧ w.frozen? ⟨g, j, none⟩ = false ∧ Own B (w.setCell ⟨g, j, none⟩ (bv x)) v (l.set j x) := by
  rcases h with ⟨rfl, rfl⟩ | ⟨g, full, rfl, hb, hh, hc, hm, ht⟩
  · simp at hj
  · have hR : Row w g (bvs full).toArray 5 := hh
    have hjf : j < full.length := by omega
    refine ⟨g, full.length, rfl, hb, hR.lt, ⟨bv full[j], hR.cell (by simp [bvs, hjf])⟩, hR.frozen j, .inr ⟨g, full.set j x, by rw [List.length_set, List.length_set], hb, ?_, by rw [List.length_set, List.length_set]; exact hc, by rw [List.length_set]; exact hm, ?_⟩⟩
    · have := hR.set j (bv x)
      rw [show (bvs full).toArray.setIfInBounds j (bv x) = (bvs (full.set j x)).toArray by simp [bvs, List.map_set]] at this
      exact this
    · rw [List.length_set, List.take_set, ht]
set_option maxRecDepth 100000 in
set_option maxHeartbeats 8000000 in
theorem lampSpoilt_law {w : World} (s : Bs) (hs : s.length = 32) (d : Bs) (hd : d.length = 32) (a : Int) (ha1 : -9223372036854775808 ≤ a) (ha2 : a ≤ 9223372036854775807) (n : Nat) (hn : (n : Int) ≤ 255) (hK : KIs w) :
    Calls Tryd.prog 6 #[.agg (hcel s), .agg (hcel d), .int .i64 a, .int .u8 (n : Int)] w fun e w' => e = .returned (.bool true) ∧ Nx w w' := by
  obtain ⟨q, rfl⟩ := u8_nat n (by omega)
  have HKK := Lib.hid hK
  have HSGN := Lib.hid (fun W hk => sign_any s d hs hd W hk)
  have HSL : Hid ((sigL s d).length = 2048) := Lib.hid (sigL_length _ _)
  have HKL : Hid ((keyL s).length = 32) := Lib.hid (keyL_length _)
  have HKEY := Lib.hid (fun W hk => key_any s hs W hk)
  obtain ⟨U, hU⟩ : ∃ U : Nat, a % 18446744073709551616 = (U : Int) := ⟨(a % 18446744073709551616).toNat, by omega⟩
  have e1 : IntKind.u64.wrap a = (U : Int) := by rw [IntKind.wrap_u64]; exact hU
  have hUl : U < 18446744073709551616 := by omega
  obtain ⟨j, hj⟩ : ∃ j : Nat, U % 2048 = j := ⟨_, rfl⟩
  have hjl : j < 2048 := by omega
  have hji : (j : Int) < 2048 := by omega
  have e2 : IntKind.u64.wrap ((U : Int).tmod 2048) = (j : Int) := by rw [IntKind.wrap_u64, Int.tmod_eq_emod_of_nonneg (by omega)]; omega
  have e3 : (U : Int) % 2048 = (j : Int) := by omega
  have zs := Lib.hid (hashsz s hs)
  have zd := Lib.hid (hashsz d hd)
  have HDL := Lib.hid hd
  have HZL : Hid ((List.replicate 32 (0 : UInt8)).length = 32) := Lib.hid List.length_replicate
  obtain ⟨hz, hzs⟩ := zero_of_info info_hash'
  generalize List.replicate 32 (0 : UInt8) = Z at *
  have zk := Lib.hid (hashsz (keyL s) HKL.out)
  have zzk := Lib.hid (hashsame Z (keyL s) HZL.out HKL.out)
  have Q1 := (Row.new w (hcel s) 23 _ rfl).alloc (.cells (hcel d) 23)
  have Q2 := Row.new2 w (.cells (hcel s) 23) (hcel d) 23
  have N0 := Lib.hid (((Nx.refl w).alloc (.cells (hcel s) 23)).alloc (.cells (hcel d) 23))
  clear hK hs hd
  go_enter Tryd.func6, Tryd.ntmps6
  go_wp2_with (first | (refine wpList_load_row rfl 23 (.tmp 4) rfl w.heap.size rfl 23 (hcel s) (0, 0) _ Q1 Tryd.underlying23 rfl zs.out ?_) | (refine wpList_load_row rfl 23 (.tmp 5) rfl (w.heap.size + 1) rfl 23 (hcel d) (0, 0) _ Q2 Tryd.underlying23 rfl zd.out ?_))
  refine (HSGN.out _ (HKK.out.nx N0.out)).mono ?_
  rintro e w1 ⟨v3, rfl, o3, n3⟩
  replace Q1 := Q1.nx n3
  replace Q2 := Q2.nx n3
  have N1 := Lib.hid (N0.out.trans n3)
  have O3 := o3.mono (B' := w.heap.size + 1 + 1) (by rw [alloc_size, alloc_size]; exact Nat.le_refl _)
  obtain ⟨g3, c3, hv, hg3, hg3l, ⟨u, hu⟩, hf3, hput⟩ := own_put O3 j (by rw [HSL.out]; exact hjl) q
  subst hv
  rw [HSL.out] at O3 hput ⊢
  have P1 := Q1.other g3 j (bv q) (by omega)
  have P2 := Q2.other g3 j (bv q) (by omega)
  have NP := Lib.hid (N1.out.setAt (k := g3) (i := j) (bv q) (by omega))
  have RDP := Lib.hid hput.rd
  clear o3 n3 N0 HSGN O3 hput Q1 Q2
  go_upto_region 5 with fail
  rw [show Value.int .u8 (q.toNat : Int) = bv q from rfl]
  generalize w1.setCell ⟨g3, j, none⟩ (bv q) = W2 at *
  clear hu hf3 e1 e2 e3 hU
  go_wp2_with (refine wpList_load_row rfl 23 (.tmp 4) rfl w.heap.size rfl 23 (hcel s) (0, 0) _ P1 Tryd.underlying23 rfl zs.out ?_)
  refine (HKEY.out _ (HKK.out.nx NP.out)).mono ?_
  rintro e w4 ⟨rfl, n4⟩
  have RN := Row.new w4 (hcel Z) 23 _ rfl
  go_upto_region 6 with (refine wpList_store_row rfl 23 (.tmp 10) (.tmp 28) rfl w4.heap.size (hcel (keyL s)) rfl rfl 23 (hcel Z) RN zk.out zzk.out (hcel_one _) ?_)
  have NB : Nx W2 ((w4.alloc (.cells (hcel Z) 23)).setRow w4.heap.size (hcel (keyL s))) := (n4.alloc _).setRow (g := w4.heap.size) _ n4.size
  have R4 := Lib.hid (RN.setRow (hcel (keyL s)))
  have R2 := Lib.hid (P2.nx NB)
  have N2 := Lib.hid (NP.out.trans NB)
  have RD := Lib.hid (RDP.out.nx NB)
  have hSL : ((sigL s d).set j q).length = 2048 := by rw [List.length_set]; exact HSL.out
  have HKYL := HKL.out
  generalize (w4.alloc (.cells (hcel Z) 23)).setRow w4.heap.size (hcel (keyL s)) = W at *
  generalize w4.heap.size = g10 at *
  generalize keyL s = KY at *
  obtain ⟨E, hE⟩ : ∃ E, chkE KY d ((sigL s d).set j q) = E := ⟨_, rfl⟩
  have HC1 : Hid (∀ wr, Nx W wr → Calls Tryd.prog 20 #[.agg (hcel KY), .agg (hcel d), .slice (some ⟨g3, 0, none⟩) 2048 c3] wr fun e w' => e = .returned (.int .i64 (E : Int)) ∧ Nx wr w') := Lib.hid fun wr h => by
    have := check_any _ KY d _ wr (RD.out.nx h) HKL.out HDL.out (HKK.out.nx (N2.out.trans h))
    rwa [hE] at this
  have HC2 : Hid (∀ wr, Nx W wr → Calls Tryd.prog 21 #[.agg (hcel KY), .agg (hcel d), .slice (some ⟨g3, 0, none⟩) 2048 c3] wr fun e w' => e = .returned (.int .i64 (E : Int)) ∧ Nx wr w') := Lib.hid fun wr h => by
    have := rcheck_any _ KY d _ wr (RD.out.nx h) HKL.out HDL.out
    rwa [hE] at this
  have HLV : Hid (∀ wr, Nx W wr → Calls Tryd.prog 17 #[] wr fun e w' => e = .returned (.bool true) ∧ Nx wr w') := Lib.hid fun wr h => lives_any wr (HKK.out.nx (N2.out.trans h))
  clear RN NB n4 P1 P2 RDP NP HKEY hE hSL RD HKYL
  refine wp_region_nx 13 [[], [], [], [0, 1, 2], [], [], [], [4, 5, 6, 3], [3, 7], [8, 7], [9, 9], [9, 10], [11, 10, 0, 1, 2, 3, 4, 5, 6, 7, 8, 9, 10, 11]] [some 29, some 30, some 31, some 32, some 33, some 34, some 35, some 36, some 37, some 38, some 39, some 40, some 8]
    [.eq (.agg (hcel KY)), .eq (.agg (hcel d)), .eq (.slice (some ⟨g3, 0, none⟩) 2048 c3), .eq (.int .i64 (E : Int)), .eq (.agg (hcel KY)), .eq (.agg (hcel d)), .eq (.slice (some ⟨g3, 0, none⟩) 2048 c3), .eq (.int .i64 (E : Int)), .eq (.bool true), .eq (.bool true), .eq (.bool true), .eq (.bool true), .eq (.bool true)]
    (by kernel_rfl) (by kernel_rfl) (hord_of (by decide)) (by kernel_rfl) (by decide) (by decide) (htail_of (by decide)) ?_ _ (by rfl) ?_
  · intro x tm wr htm hx i hi hd K hK
    simp only [fillA, List.setIfInBounds_toArray, List.set_cons_zero, List.set_cons_succ] at htm
    subst htm
    have hcs : i = 0 ∨ i = 1 ∨ i = 2 ∨ i = 3 ∨ i = 4 ∨ i = 5 ∨ i = 6 ∨ i = 7 ∨ i = 8 ∨ i = 9 ∨ i = 10 ∨ i = 11 ∨ i = 12 := by omega
    clear hi
    rcases hcs with rfl | rfl | rfl | rfl | rfl | rfl | rfl | rfl | rfl | rfl | rfl | rfl | rfl
    · exact wpOp_of rfl rfl (wp_load_row_of (some 29) rfl 23 (.tmp 10) rfl (g10) rfl 23 (hcel KY) _ (R4.out.nx hx) Tryd.underlying23 rfl zk.out (hK _ _ rfl (Nx.refl _)))
    · exact wpOp_of rfl rfl (wp_load_row_of (some 30) rfl 23 (.tmp 5) rfl ((w.heap.size + 1)) rfl 23 (hcel d) _ (R2.out.nx hx) Tryd.underlying23 rfl zd.out (hK _ _ rfl (Nx.refl _)))
    · exact wpOp_of rfl rfl (wp_val_of (some 31) rfl (.slice (some ⟨g3, 0, none⟩) 2048 c3) (by kernel_rfl) (hK _ _ rfl (Nx.refl _)))
    · have e0 : x 0 = .agg (hcel KY) := hd 0 (by decide)
      have e1 : x 1 = .agg (hcel d) := hd 1 (by decide)
      have e2 : x 2 = .slice (some ⟨g3, 0, none⟩) 2048 c3 := hd 2 (by decide)
      generalize x 0 = y0 at e0 hK ⊢
      subst e0
      generalize x 1 = y1 at e1 hK ⊢
      subst e1
      generalize x 2 = y2 at e2 hK ⊢
      subst e2
      refine wpOp_of rfl rfl (wp_call_of (some 32) rfl 20 #[(.agg (hcel KY)), (.agg (hcel d)), (.slice (some ⟨g3, 0, none⟩) 2048 c3)] (by kernel_rfl) (.int .i64 (E : Int)) ?_ (fun w' h => hK _ w' rfl h))
      exact HC1.out wr hx
    · exact wpOp_of rfl rfl (wp_load_row_of (some 33) rfl 23 (.tmp 10) rfl (g10) rfl 23 (hcel KY) _ (R4.out.nx hx) Tryd.underlying23 rfl zk.out (hK _ _ rfl (Nx.refl _)))
    · exact wpOp_of rfl rfl (wp_load_row_of (some 34) rfl 23 (.tmp 5) rfl ((w.heap.size + 1)) rfl 23 (hcel d) _ (R2.out.nx hx) Tryd.underlying23 rfl zd.out (hK _ _ rfl (Nx.refl _)))
    · exact wpOp_of rfl rfl (wp_val_of (some 35) rfl (.slice (some ⟨g3, 0, none⟩) 2048 c3) (by kernel_rfl) (hK _ _ rfl (Nx.refl _)))
    · have e4 : x 4 = .agg (hcel KY) := hd 4 (by decide)
      have e5 : x 5 = .agg (hcel d) := hd 5 (by decide)
      have e6 : x 6 = .slice (some ⟨g3, 0, none⟩) 2048 c3 := hd 6 (by decide)
      have e3 : x 3 = .int .i64 (E : Int) := hd 3 (by decide)
      generalize x 4 = y4 at e4 hK ⊢
      subst e4
      generalize x 5 = y5 at e5 hK ⊢
      subst e5
      generalize x 6 = y6 at e6 hK ⊢
      subst e6
      generalize x 3 = y3 at e3 hK ⊢
      subst e3
      refine wpOp_of rfl rfl (wp_call_of (some 36) rfl 21 #[(.agg (hcel KY)), (.agg (hcel d)), (.slice (some ⟨g3, 0, none⟩) 2048 c3)] (by kernel_rfl) (.int .i64 (E : Int)) ?_ (fun w' h => hK _ w' rfl h))
      exact HC2.out wr hx
    · have e3 : x 3 = .int .i64 (E : Int) := hd 3 (by decide)
      have e7 : x 7 = .int .i64 (E : Int) := hd 7 (by decide)
      generalize x 3 = y3 at e3 hK ⊢
      subst e3
      generalize x 7 = y7 at e7 hK ⊢
      subst e7
      exact wpOp_of rfl rfl (wp_eqi13 (some 37) rfl _ _ _ _ rfl .i64 (E : Int) rfl rfl (hK _ _ rfl (Nx.refl _)))
    · have e8 : x 8 = .bool true := hd 8 (by decide)
      have e7 : x 7 = .int .i64 (E : Int) := hd 7 (by decide)
      generalize x 8 = y8 at e8 hK ⊢
      subst e8
      generalize x 7 = y7 at e7 hK ⊢
      subst e7
      exact wpOp_of rfl rfl (wp_val_of (some 38) rfl (.bool true) (by kernel_rfl) (hK _ _ rfl (Nx.refl _)))
    · have e9 : x 9 = .bool true := hd 9 (by decide)
      generalize x 9 = y9 at e9 hK ⊢
      subst e9
      refine wpOp_g rfl (by rfl) (wp_call_of (some 39) rfl 17 #[] (by kernel_rfl) (.bool true) ?_ (fun w' h => hK _ w' rfl h))
      exact HLV.out wr hx
    · have e9 : x 9 = .bool true := hd 9 (by decide)
      have e10 : x 10 = .bool true := hd 10 (by decide)
      generalize x 9 = y9 at e9 hK ⊢
      subst e9
      generalize x 10 = y10 at e10 hK ⊢
      subst e10
      exact wpOp_of rfl rfl (wp_val_of (some 40) rfl (.bool true) (by kernel_rfl) (hK _ _ rfl (Nx.refl _)))
    · have e11 : x 11 = .bool true := hd 11 (by decide)
      have e10 : x 10 = .bool true := hd 10 (by decide)
      have e0 : x 0 = .agg (hcel KY) := hd 0 (by decide)
      have e1 : x 1 = .agg (hcel d) := hd 1 (by decide)
      have e2 : x 2 = .slice (some ⟨g3, 0, none⟩) 2048 c3 := hd 2 (by decide)
      have e3 : x 3 = .int .i64 (E : Int) := hd 3 (by decide)
      have e4 : x 4 = .agg (hcel KY) := hd 4 (by decide)
      have e5 : x 5 = .agg (hcel d) := hd 5 (by decide)
      have e6 : x 6 = .slice (some ⟨g3, 0, none⟩) 2048 c3 := hd 6 (by decide)
      have e7 : x 7 = .int .i64 (E : Int) := hd 7 (by decide)
      have e8 : x 8 = .bool true := hd 8 (by decide)
      have e9 : x 9 = .bool true := hd 9 (by decide)
      generalize x 11 = y11 at e11 hK ⊢
      subst e11
      generalize x 10 = y10 at e10 hK ⊢
      subst e10
      generalize x 0 = y0 at e0 hK ⊢
      subst e0
      generalize x 1 = y1 at e1 hK ⊢
      subst e1
      generalize x 2 = y2 at e2 hK ⊢
      subst e2
      generalize x 3 = y3 at e3 hK ⊢
      subst e3
      generalize x 4 = y4 at e4 hK ⊢
      subst e4
      generalize x 5 = y5 at e5 hK ⊢
      subst e5
      generalize x 6 = y6 at e6 hK ⊢
      subst e6
      generalize x 7 = y7 at e7 hK ⊢
      subst e7
      generalize x 8 = y8 at e8 hK ⊢
      subst e8
      generalize x 9 = y9 at e9 hK ⊢
      subst e9
      exact wpOp_of rfl rfl (wp_val_of (some 8) rfl (.bool true) (by kernel_rfl) (hK _ _ rfl (Nx.refl _)))
  · intro x tm wr htm hx hv
    simp only [fillA, List.setIfInBounds_toArray, List.set_cons_zero, List.set_cons_succ] at htm
    subst htm
    have e12 : x 12 = .bool true := hv 12 (by decide)
    rw [e12]
    simp only [List.drop_succ_cons, List.drop_nil, List.drop_zero]
    refine wpList_nil ?_
    have NZ := Lib.hid (N2.out.trans hx)
    clear hx hv
    go_wp2_with fail
    go_ret
    exact ⟨rfl, NZ.out⟩
end Go.Proofs.YtpkopigiijiiiaaDoor
