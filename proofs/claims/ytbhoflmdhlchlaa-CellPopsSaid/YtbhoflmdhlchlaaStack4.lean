/- LAYER 12: Push of the program, Pop of both. -/
import Derived.Test.YtbhoflmdhlchlaaStack2
import Derived.Test.YtbhoflmdhlchlaaStack3
import Derived.Test.YtbhoflmdhlchlaaRegMore
import Derived.Test.YtbhoflmdhlchlaaRegNx
import Derived.IntWalk
import Derived.Test.YtbhoflmdhlchlaaShaSl
namespace Go.Proofs.Ytbhoflmdhlchlaa
open Go Go.RowKit
set_option linter.unusedVariables false
set_option linter.unusedSimpArgs false
set_option linter.unusedVariables false
set_option linter.unusedSimpArgs false

theorem wp_subi_of {P : Program} {o : Oper} {a : Act} {w : World} {K : Act → World → Prop} {Q : Exit → Act → World → Prop} (dst : Option Tmp) (hd : o.dst = dst) (T : TypeId) (x y : Operand) (T' : TypeId) (ho : o.op = .binOp .sub T x y T') (z y' : Int)
    (hx : a.eval x = .int .i64 z) (hy : a.eval y = .int .i64 y') (r : Int) (hr : IntKind.i64.wrap (z - y') = r) (h : K (a.put dst (.int .i64 r)) w) : o.wp P a w K Q := by
  refine wp_val_of dst hd (.int .i64 r) ?_ h
  unfold execOp
  simp only [ho, hx, hy]
  have e1 : (eqGuard .sub T x y (.int .i64 z) (.int .i64 y')).run P w = .ok () w := by
    simp [eqGuard]
  have e2 : (binOp .sub T (.int .i64 z) (.int .i64 y')).run P w = .ok (.int .i64 r) w := by
    show Result.ok (Value.int .i64 (IntKind.i64.wrap (z - y'))) w = _
    rw [hr]
  simp only [Sem.run_bind, e1, e2, Result.andThen_ok, Sem.run_pure]
theorem slice_hm {P : Program} (t e : TypeId) (ht : P.underlying t = some (.slice e)) (hsz : ∀ w, (sizeOf e).run P w = .ok 1 w) (A : Option Addr) (n c hi : Nat) (h2 : hi ≤ c) (w : World) :
    (Instr.sliceAt t (.slice A n c) none (some (.int .i64 (hi : Int))) (some (.int .i64 (hi : Int)))).run P w = .ok (.slice A hi hi) w := by
  have e2 : (hi : Int) ≤ (c : Int) := by omega
  rcases A with _ | ⟨b, o, q⟩
  · simp [Instr.sliceAt, Instr.slice, Instr.sureAddr, run_underlying ht, Instr.sliceBounds, run_sliceBound, hsz, e2, h2]
  · simp [Instr.sliceAt, Instr.slice, Instr.sureAddr, run_underlying ht, Instr.sliceBounds, run_sliceBound, hsz, e2, h2]
    intro _
    unfold Addr.add
    simp
theorem slice_lhm {P : Program} (t e : TypeId) (ht : P.underlying t = some (.slice e)) (hsz : ∀ w, (sizeOf e).run P w = .ok 1 w) (A : Option Addr) (n c lo hi : Nat) (h1 : lo ≤ hi) (h2 : hi ≤ c) (w : World) :
    (Instr.sliceAt t (.slice A n c) (some (.int .i64 (lo : Int))) (some (.int .i64 (hi : Int))) (some (.int .i64 (hi : Int)))).run P w = .ok (.slice (if hi = lo then A else A.map (·.add lo)) (hi - lo) (hi - lo)) w := by
  have e1 : (lo : Int) ≤ (hi : Int) := by omega
  have e2 : (hi : Int) ≤ (c : Int) := by omega
  simp [Instr.sliceAt, Instr.slice, Instr.sureAddr, run_underlying ht, Instr.sliceBounds, run_sliceBound, hsz, e1, e2, h1, h2]
theorem RdL.pre {w : World} {A : Option Addr} {c : Nat} {ls : List (List UInt8)} (h : RdL w (.slice A ls.length c) ls) (m c' : Nat) (hm : m ≤ ls.length) (h1 : m ≤ c') (h2 : c' ≤ maxLen) : RdL w (.slice A m c') (ls.take m) := by
  obtain ⟨vs, ⟨A0, c0, e, q1, q2, q3, q4⟩, hv⟩ := h
  injection e with e1 e2 e3
  subst e1
  have hl : (vs.take m).length = m := by rw [List.length_take, hv.1]; omega
  refine ⟨vs.take m, ⟨A, c', by rw [hl], by rw [hl]; exact h1, h2, fun u hu => q3 u (List.mem_of_mem_take hu), fun hp => ?_⟩, by rw [hl, List.length_take]; omega, fun j u l g1 g2 => ?_⟩
  · obtain ⟨b, o, rfl, hb, hc⟩ := q4 (by rw [hl] at hp; rw [hv.1]; omega)
    exact ⟨b, o, rfl, hb, fun j hj => by rw [List.getElem_take]; exact hc j (by rw [hl] at hj; rw [hv.1]; omega)⟩
  · have hj : j < m := by have := (List.getElem?_eq_some_iff.1 g1).1; omega
    rw [List.getElem?_take_of_lt hj] at g1 g2
    exact hv.2 j u l g1 g2
theorem RdL.from {w : World} {A : Option Addr} {c : Nat} {ls : List (List UInt8)} (h : RdL w (.slice A ls.length c) ls) (lo q : Nat) (hm : lo ≤ ls.length) (h1 : ls.length ≤ q) (h2 : q ≤ maxLen) : RdL w (.slice (if q = lo then A else A.map (·.add lo)) (ls.length - lo) (q - lo)) (ls.drop lo) := by
  obtain ⟨vs, ⟨A0, c0, e, q1, q2, q3, q4⟩, hv⟩ := h
  injection e with e1 e2 e3
  subst e1
  have hl : (vs.drop lo).length = ls.length - lo := by rw [List.length_drop, hv.1]
  refine ⟨vs.drop lo, ⟨_, q - lo, by rw [hl], by rw [hl]; omega, by omega, fun u hu => q3 u (List.mem_of_mem_drop hu), fun hp => ?_⟩, by rw [hl, List.length_drop], fun j u l g1 g2 => ?_⟩
  · rw [hl] at hp
    obtain ⟨b, o, rfl, hb, hc⟩ := q4 (by rw [hv.1]; omega)
    rw [if_neg (by omega)]
    exact ⟨b, o + lo, by simp [addr_add], hb, fun j hj => by rw [List.getElem_drop, Nat.add_assoc]; exact hc (lo + j) (by rw [hl] at hj; rw [hv.1]; omega)⟩
  · rw [List.getElem?_drop] at g1 g2
    exact hv.2 _ u l g1 g2
/-- What a pop answers. -/
def ppE (ls : List (List UInt8)) (n : Int) : Int := if n < 0 then 2 else if (ls.length : Int) < n then 6 else 0
def ppA (ls : List (List UInt8)) (n : Int) : List (List UInt8) := if ppE ls n = 0 then ls.take (ls.length - n.toNat) else []
def ppB (ls : List (List UInt8)) (n : Int) : List (List UInt8) := if ppE ls n = 0 then ls.drop (ls.length - n.toNat) else []

set_option maxRecDepth 100000 in
set_option maxHeartbeats 2000000 in
theorem rpop_any (v : Value) (ls : List (List UInt8)) (n : Int) (w : World) (h : RdL w v ls) (hn : ls.length ≤ 1000) (hl : ∀ l ∈ ls, l.length ≤ 140737488355328) :
    Calls Try.prog 39 #[v, .int .i64 n] w fun e w' => ∃ ra rb, e = .returned (.tuple #[ra, rb, .int .i64 (ppE ls n)]) ∧ OwnL w.heap.size w' ra (ppA ls n) ∧ OwnL w.heap.size w' rb (ppB ls n) ∧ Nx w w' := by
  have HR := Lib.hid h
  obtain ⟨A, c, vs, rfl, hc, hm, -, -⟩ := h.parts
  by_cases h1 : n < 0
  · have e1 : ppE ls n = 2 := by unfold ppE; rw [if_pos h1]
    unfold ppA ppB
    rw [e1, if_neg (by decide), if_neg (by decide)]
    clear e1 h hc hm hn hl
    go_enter Try.func39, Try.ntmps39
    go_wp2_with fail
    go_ret3
    exact ⟨_, _, rfl, OwnL.nil _ _, OwnL.nil _ _, Nx.refl _⟩
  by_cases h2 : (ls.length : Int) < n
  · have e1 : ppE ls n = 6 := by unfold ppE; rw [if_neg h1, if_pos h2]
    unfold ppA ppB
    rw [e1, if_neg (by decide), if_neg (by decide)]
    clear e1 h hc hm hn hl
    go_enter Try.func39, Try.ntmps39
    go_wp2_with fail
    go_ret3
    exact ⟨_, _, rfl, OwnL.nil _ _, OwnL.nil _ _, Nx.refl _⟩
  have e1 : ppE ls n = 0 := by unfold ppE; rw [if_neg h1, if_neg h2]
  unfold ppA ppB
  rw [e1, if_pos rfl, if_pos rfl]
  obtain ⟨m, rfl⟩ := Int.eq_ofNat_of_zero_le (show 0 ≤ n by omega)
  rw [Int.toNat_natCast]
  have h0 : ¬ (m : Int) < 0 := by omega
  have hcl : ls.length ≤ c := hc
  obtain ⟨a, hA⟩ : ∃ a, a = ls.length - m := ⟨_, rfl⟩
  have hal : ls.length = a + m := by omega
  rw [← hA]
  have HWR : Hid (wrap64 ((ls.length : Int) - (m : Int)) = (a : Int)) := Lib.hid (by unfold wrap64; omega)
  have HWI : Hid (IntKind.i64.wrap ((ls.length : Int) - (m : Int)) = (a : Int)) := Lib.hid (by rw [IntWalk.i64_in _ (by omega)]; omega)
  have HS1 := Lib.hid (fun w => slice_to (P := Try.prog) 40 23 Try.underlying40 Try.sizeOf23 A ls.length c a (a : Int) rfl (by omega) w)
  have HS2 := Lib.hid (fun w => slice_fromV (P := Try.prog) 40 23 Try.underlying40 Try.sizeOf23 A ls.length c a (a : Int) rfl (by omega) hcl w)
  have HR1 := Lib.hid (h.pre a c (by omega) (by omega) hm)
  have HR2 := Lib.hid (show RdL w (fromV A ls.length c a) (ls.drop a) from h.from a c (by omega) hcl hm)
  have HC1 := Lib.hid (fun w hh => rcopied_any (.slice A a c) (ls.take a) w hh (by rw [List.length_take]; omega) (fun l hq => hl l (List.mem_of_mem_take hq)))
  have HC2 := Lib.hid (fun w hh => rcopied_any (fromV A ls.length c a) (ls.drop a) w hh (by rw [List.length_drop]; omega) (fun l hq => hl l (List.mem_of_mem_drop hq)))
  have hwr := HWR.out
  clear e1 h hc hm hn hl h1 hcl hA hal vs
  go_enter Try.func39, Try.ntmps39
  go_wp2_with fail
  refine wp_region_nx 17 [[], [], [1], [], [2, 3], [0, 4], [5], [], [], [8], [], [9, 10], [7, 11], [12, 6], [6, 13, 0, 1, 2, 3, 4, 5, 6], [13, 14, 0, 1, 2, 3, 4, 5, 6, 7, 8, 9, 10, 11, 12, 13, 14], [15, 0, 1, 2, 3, 4, 5, 6, 7, 8, 9, 10, 11, 12, 13, 14, 15]] [some 13, some 14, some 15, some 16, some 17, some 18, some 19, some 20, some 21, some 22, some 23, some 24, some 25, some 26, some 4, some 5, some 6]
    [.eq (.slice A ls.length c), .eq (.slice A ls.length c), .eq (.int .i64 (ls.length : Int)), .eq (.int .i64 (m : Int)), .eq (.int .i64 (a : Int)), .eq (.slice A a c), ⟨fun v w1 => OwnL w.heap.size w1 v (ls.take a), fun _ _ _ h k => h.nx k⟩, .eq (.slice A ls.length c), .eq (.slice A ls.length c), .eq (.int .i64 (ls.length : Int)), .eq (.int .i64 (m : Int)), .eq (.int .i64 (a : Int)), .eq (fromV A ls.length c a), ⟨fun v w1 => OwnL w.heap.size w1 v (ls.drop a), fun _ _ _ h k => h.nx k⟩, ⟨fun v w1 => OwnL w.heap.size w1 v (ls.take a), fun _ _ _ h k => h.nx k⟩, ⟨fun v w1 => OwnL w.heap.size w1 v (ls.drop a), fun _ _ _ h k => h.nx k⟩, .eq (.int .i64 0)]
    (by kernel_rfl) (by kernel_rfl) (hord_of (by decide)) (by kernel_rfl) (by decide) (by decide) (htail_of (by decide)) ?_ _ (by rfl) ?_
  · intro x tm wr htm hx i hi hd K hK
    simp only [fillA, List.setIfInBounds_toArray, List.set_cons_zero, List.set_cons_succ] at htm
    subst htm
    have hcs : i = 0 ∨ i = 1 ∨ i = 2 ∨ i = 3 ∨ i = 4 ∨ i = 5 ∨ i = 6 ∨ i = 7 ∨ i = 8 ∨ i = 9 ∨ i = 10 ∨ i = 11 ∨ i = 12 ∨ i = 13 ∨ i = 14 ∨ i = 15 ∨ i = 16 := by omega
    clear hi
    rcases hcs with rfl | rfl | rfl | rfl | rfl | rfl | rfl | rfl | rfl | rfl | rfl | rfl | rfl | rfl | rfl | rfl | rfl
    · exact wpOp_of rfl rfl (wp_val_of (some 13) rfl (.slice A ls.length c) (by kernel_rfl) (hK _ _ rfl (Nx.refl _)))
    · exact wpOp_of rfl rfl (wp_val_of (some 14) rfl (.slice A ls.length c) (by kernel_rfl) (hK _ _ rfl (Nx.refl _)))
    · have e1 : x 1 = .slice A ls.length c := hd 1 (by decide)
      generalize x 1 = y1 at e1 hK ⊢
      subst e1
      exact wpOp_of rfl rfl (wp_val_of (some 15) rfl (.int .i64 (ls.length : Int)) (by kernel_rfl) (hK _ _ rfl (Nx.refl _)))
    · exact wpOp_of rfl rfl (wp_val_of (some 16) rfl (.int .i64 (m : Int)) (by kernel_rfl) (hK _ _ rfl (Nx.refl _)))
    · have e2 : x 2 = .int .i64 (ls.length : Int) := hd 2 (by decide)
      have e3 : x 3 = .int .i64 (m : Int) := hd 3 (by decide)
      generalize x 2 = y2 at e2 hK ⊢
      subst e2
      generalize x 3 = y3 at e3 hK ⊢
      subst e3
      exact wpOp_of rfl rfl (wp_subi_of (some 17) rfl _ _ _ _ rfl (ls.length : Int) (m : Int) rfl rfl (a : Int) HWI.out (hK _ _ rfl (Nx.refl _)))
    · have e0 : x 0 = .slice A ls.length c := hd 0 (by decide)
      have e4 : x 4 = .int .i64 (a : Int) := hd 4 (by decide)
      generalize x 0 = y0 at e0 hK ⊢
      subst e0
      generalize x 4 = y4 at e4 hK ⊢
      subst e4
      exact wpOp_of rfl rfl (wp_slice_of (some 18) rfl 40 (.tmp 13) none (some (.tmp 17)) none rfl (.slice A a c) (HS1.out wr) (hK _ _ rfl (Nx.refl _)))
    · have e5 : x 5 = .slice A a c := hd 5 (by decide)
      generalize x 5 = y5 at e5 hK ⊢
      subst e5
      exact wpOp_of rfl rfl (wp_callp_of (some 19) rfl 60 #[.slice A a c] (by kernel_rfl) (fun v w1 => OwnL w.heap.size w1 v (ls.take a)) ((HC1.out wr (HR1.out.nx hx)).mono fun _ _ ⟨v, h1, h2, h3⟩ => ⟨v, h1, h2.mono hx.size, h3⟩) hK)
    · exact wpOp_of rfl rfl (wp_val_of (some 20) rfl (.slice A ls.length c) (by kernel_rfl) (hK _ _ rfl (Nx.refl _)))
    · exact wpOp_of rfl rfl (wp_val_of (some 21) rfl (.slice A ls.length c) (by kernel_rfl) (hK _ _ rfl (Nx.refl _)))
    · have e8 : x 8 = .slice A ls.length c := hd 8 (by decide)
      generalize x 8 = y8 at e8 hK ⊢
      subst e8
      exact wpOp_of rfl rfl (wp_val_of (some 22) rfl (.int .i64 (ls.length : Int)) (by kernel_rfl) (hK _ _ rfl (Nx.refl _)))
    · exact wpOp_of rfl rfl (wp_val_of (some 23) rfl (.int .i64 (m : Int)) (by kernel_rfl) (hK _ _ rfl (Nx.refl _)))
    · have e9 : x 9 = .int .i64 (ls.length : Int) := hd 9 (by decide)
      have e10 : x 10 = .int .i64 (m : Int) := hd 10 (by decide)
      generalize x 9 = y9 at e9 hK ⊢
      subst e9
      generalize x 10 = y10 at e10 hK ⊢
      subst e10
      exact wpOp_of rfl rfl (wp_subi_of (some 24) rfl _ _ _ _ rfl (ls.length : Int) (m : Int) rfl rfl (a : Int) HWI.out (hK _ _ rfl (Nx.refl _)))
    · have e7 : x 7 = .slice A ls.length c := hd 7 (by decide)
      have e11 : x 11 = .int .i64 (a : Int) := hd 11 (by decide)
      generalize x 7 = y7 at e7 hK ⊢
      subst e7
      generalize x 11 = y11 at e11 hK ⊢
      subst e11
      exact wpOp_of rfl rfl (wp_slice_of (some 25) rfl 40 (.tmp 20) (some (.tmp 24)) none none rfl (fromV A ls.length c a) (HS2.out wr) (hK _ _ rfl (Nx.refl _)))
    · have e12 : x 12 = fromV A ls.length c a := hd 12 (by decide)
      have r6 := hd 6 (by decide)
      generalize x 12 = y12 at e12 hK ⊢
      subst e12
      exact wpOp_of rfl rfl (wp_callp_of (some 26) rfl 60 #[fromV A ls.length c a] (by kernel_rfl) (fun v w1 => OwnL w.heap.size w1 v (ls.drop a)) ((HC2.out wr (HR2.out.nx hx)).mono fun _ _ ⟨v, h1, h2, h3⟩ => ⟨v, h1, h2.mono hx.size, h3⟩) hK)
    · have r6 := hd 6 (by decide)
      exact wpOp_of rfl rfl (wp_val_of (some 4) rfl (x 6) (by kernel_rfl) (hK _ _ r6 (Nx.refl _)))
    · have r13 := hd 13 (by decide)
      exact wpOp_of rfl rfl (wp_val_of (some 5) rfl (x 13) (by kernel_rfl) (hK _ _ r13 (Nx.refl _)))
    · exact wpOp_of rfl rfl (wp_val_of (some 6) rfl (.int .i64 0) (by kernel_rfl) (hK _ _ rfl (Nx.refl _)))
  · intro x tm wr htm hx hv
    simp only [fillA, List.setIfInBounds_toArray, List.set_cons_zero, List.set_cons_succ] at htm
    subst htm
    have r14 := hv 14 (by decide)
    have r15 := hv 15 (by decide)
    have e16 : x 16 = .int .i64 0 := hv 16 (by decide)
    rw [e16]
    refine wpList_nil ?_
    clear hv
    go_wp2_with fail
    go_ret3
    exact ⟨_, _, rfl, r14, r15, hx⟩

set_option maxRecDepth 100000 in
set_option maxHeartbeats 2000000 in
theorem cpop_any (v : Value) (ls : List (List UInt8)) (n : Int) (w : World) (h : RdL w v ls) (hn : ls.length ≤ 1000) (hl : ∀ l ∈ ls, l.length ≤ 140737488355328) :
    Calls Try.prog 38 #[v, .int .i64 n] w fun e w' => ∃ ra rb, e = .returned (.tuple #[ra, rb, .int .i64 (ppE ls n)]) ∧ OwnL w.heap.size w' ra (ppA ls n) ∧ OwnL w.heap.size w' rb (ppB ls n) ∧ Nx w w' := by
  have HR := Lib.hid h
  obtain ⟨A, c, vs, rfl, hc, hm, -, -⟩ := h.parts
  by_cases h1 : n < 0
  · have e1 : ppE ls n = 2 := by unfold ppE; rw [if_pos h1]
    unfold ppA ppB
    rw [e1, if_neg (by decide), if_neg (by decide)]
    clear e1 h hc hm hn hl
    go_enter Try.func38, Try.ntmps38
    go_wp2_with fail
    go_ret3
    exact ⟨_, _, rfl, OwnL.nil _ _, OwnL.nil _ _, Nx.refl _⟩
  by_cases h2 : (ls.length : Int) < n
  · have e1 : ppE ls n = 6 := by unfold ppE; rw [if_neg h1, if_pos h2]
    unfold ppA ppB
    rw [e1, if_neg (by decide), if_neg (by decide)]
    clear e1 h hc hm hn hl
    go_enter Try.func38, Try.ntmps38
    go_wp2_with fail
    go_ret3
    exact ⟨_, _, rfl, OwnL.nil _ _, OwnL.nil _ _, Nx.refl _⟩
  have e1 : ppE ls n = 0 := by unfold ppE; rw [if_neg h1, if_neg h2]
  unfold ppA ppB
  rw [e1, if_pos rfl, if_pos rfl]
  obtain ⟨m, rfl⟩ := Int.eq_ofNat_of_zero_le (show 0 ≤ n by omega)
  rw [Int.toNat_natCast]
  have h0 : ¬ (m : Int) < 0 := by omega
  have hcl : ls.length ≤ c := hc
  obtain ⟨a, hA⟩ : ∃ a, a = ls.length - m := ⟨_, rfl⟩
  have hal : ls.length = a + m := by omega
  rw [← hA]
  have HWR : Hid (wrap64 ((ls.length : Int) - (m : Int)) = (a : Int)) := Lib.hid (by unfold wrap64; omega)
  have HWI : Hid (IntKind.i64.wrap ((ls.length : Int) - (m : Int)) = (a : Int)) := Lib.hid (by rw [IntWalk.i64_in _ (by omega)]; omega)
  have HS1 := Lib.hid (fun w => slice_hm (P := Try.prog) 40 23 Try.underlying40 Try.sizeOf23 A ls.length c a (by omega) w)
  have HS2 := Lib.hid (fun w => slice_lhm (P := Try.prog) 40 23 Try.underlying40 Try.sizeOf23 A ls.length c a ls.length (by omega) hcl w)
  have HR1 := Lib.hid (h.pre a a (by omega) (by omega) (by omega))
  have HR2 := Lib.hid (h.from a ls.length (by omega) (Nat.le_refl _) (by omega))
  have HC1 := Lib.hid (fun w hh => ccopied_any (.slice A a a) (ls.take a) w hh (by rw [List.length_take]; omega) (fun l hq => hl l (List.mem_of_mem_take hq)))
  have HC2 := Lib.hid (fun w hh => ccopied_any (.slice (if ls.length = a then A else A.map (·.add a)) (ls.length - a) (ls.length - a)) (ls.drop a) w hh (by rw [List.length_drop]; omega) (fun l hq => hl l (List.mem_of_mem_drop hq)))
  have hwr := HWR.out
  clear e1 h hc hm hn hl h1 hcl hA hal vs
  go_enter Try.func38, Try.ntmps38
  go_wp2_with fail
  refine wp_region_nx 16 [[], [], [], [0, 1, 2], [3], [], [], [], [7], [], [9], [5, 6, 8, 10], [11, 4], [4, 12, 0, 1, 2, 3, 4], [12, 13, 0, 1, 2, 3, 4, 5, 6, 7, 8, 9, 10, 11, 12, 13], [14, 0, 1, 2, 3, 4, 5, 6, 7, 8, 9, 10, 11, 12, 13, 14]] [some 18, some 19, some 20, some 21, some 22, some 23, some 24, some 25, some 26, some 27, some 28, some 29, some 30, some 4, some 5, some 6]
    [.eq (.slice A ls.length c), .eq (.int .i64 (a : Int)), .eq (.int .i64 (a : Int)), .eq (.slice A a a), ⟨fun v w1 => OwnL w.heap.size w1 v (ls.take a), fun _ _ _ h k => h.nx k⟩, .eq (.slice A ls.length c), .eq (.int .i64 (a : Int)), .eq (.slice A ls.length c), .eq (.int .i64 (ls.length : Int)), .eq (.slice A ls.length c), .eq (.int .i64 (ls.length : Int)), .eq (.slice (if ls.length = a then A else A.map (·.add a)) (ls.length - a) (ls.length - a)), ⟨fun v w1 => OwnL w.heap.size w1 v (ls.drop a), fun _ _ _ h k => h.nx k⟩, ⟨fun v w1 => OwnL w.heap.size w1 v (ls.take a), fun _ _ _ h k => h.nx k⟩, ⟨fun v w1 => OwnL w.heap.size w1 v (ls.drop a), fun _ _ _ h k => h.nx k⟩, .eq (.int .i64 0)]
    (by kernel_rfl) (by kernel_rfl) (hord_of (by decide)) (by kernel_rfl) (by decide) (by decide) (htail_of (by decide)) ?_ _ (by rfl) ?_
  · intro x tm wr htm hx i hi hd K hK
    simp only [fillA, List.setIfInBounds_toArray, List.set_cons_zero, List.set_cons_succ] at htm
    subst htm
    have hcs : i = 0 ∨ i = 1 ∨ i = 2 ∨ i = 3 ∨ i = 4 ∨ i = 5 ∨ i = 6 ∨ i = 7 ∨ i = 8 ∨ i = 9 ∨ i = 10 ∨ i = 11 ∨ i = 12 ∨ i = 13 ∨ i = 14 ∨ i = 15 := by omega
    clear hi
    rcases hcs with rfl | rfl | rfl | rfl | rfl | rfl | rfl | rfl | rfl | rfl | rfl | rfl | rfl | rfl | rfl | rfl
    · exact wpOp_of rfl rfl (wp_val_of (some 18) rfl (.slice A ls.length c) (by kernel_rfl) (hK _ _ rfl (Nx.refl _)))
    · exact wpOp_of rfl rfl (wp_val_of (some 19) rfl (.int .i64 (a : Int)) (by kernel_rfl) (hK _ _ rfl (Nx.refl _)))
    · exact wpOp_of rfl rfl (wp_val_of (some 20) rfl (.int .i64 (a : Int)) (by kernel_rfl) (hK _ _ rfl (Nx.refl _)))
    · have e0 : x 0 = .slice A ls.length c := hd 0 (by decide)
      have e1 : x 1 = .int .i64 (a : Int) := hd 1 (by decide)
      have e2 : x 2 = .int .i64 (a : Int) := hd 2 (by decide)
      generalize x 0 = y0 at e0 hK ⊢
      subst e0
      generalize x 1 = y1 at e1 hK ⊢
      subst e1
      generalize x 2 = y2 at e2 hK ⊢
      subst e2
      exact wpOp_of rfl rfl (wp_slice_of (some 21) rfl 40 (.tmp 18) none (some (.tmp 19)) (some (.tmp 20)) rfl (.slice A a a) (HS1.out wr) (hK _ _ rfl (Nx.refl _)))
    · have e3 : x 3 = .slice A a a := hd 3 (by decide)
      generalize x 3 = y3 at e3 hK ⊢
      subst e3
      exact wpOp_of rfl rfl (wp_callp_of (some 22) rfl 58 #[.slice A a a] (by kernel_rfl) (fun v w1 => OwnL w.heap.size w1 v (ls.take a)) ((HC1.out wr (HR1.out.nx hx)).mono fun _ _ ⟨v, h1, h2, h3⟩ => ⟨v, h1, h2.mono hx.size, h3⟩) hK)
    · exact wpOp_of rfl rfl (wp_val_of (some 23) rfl (.slice A ls.length c) (by kernel_rfl) (hK _ _ rfl (Nx.refl _)))
    · exact wpOp_of rfl rfl (wp_val_of (some 24) rfl (.int .i64 (a : Int)) (by kernel_rfl) (hK _ _ rfl (Nx.refl _)))
    · exact wpOp_of rfl rfl (wp_val_of (some 25) rfl (.slice A ls.length c) (by kernel_rfl) (hK _ _ rfl (Nx.refl _)))
    · have e7 : x 7 = .slice A ls.length c := hd 7 (by decide)
      generalize x 7 = y7 at e7 hK ⊢
      subst e7
      exact wpOp_of rfl rfl (wp_val_of (some 26) rfl (.int .i64 (ls.length : Int)) (by kernel_rfl) (hK _ _ rfl (Nx.refl _)))
    · exact wpOp_of rfl rfl (wp_val_of (some 27) rfl (.slice A ls.length c) (by kernel_rfl) (hK _ _ rfl (Nx.refl _)))
    · have e9 : x 9 = .slice A ls.length c := hd 9 (by decide)
      generalize x 9 = y9 at e9 hK ⊢
      subst e9
      exact wpOp_of rfl rfl (wp_val_of (some 28) rfl (.int .i64 (ls.length : Int)) (by kernel_rfl) (hK _ _ rfl (Nx.refl _)))
    · have e5 : x 5 = .slice A ls.length c := hd 5 (by decide)
      have e6 : x 6 = .int .i64 (a : Int) := hd 6 (by decide)
      have e8 : x 8 = .int .i64 (ls.length : Int) := hd 8 (by decide)
      have e10 : x 10 = .int .i64 (ls.length : Int) := hd 10 (by decide)
      generalize x 5 = y5 at e5 hK ⊢
      subst e5
      generalize x 6 = y6 at e6 hK ⊢
      subst e6
      generalize x 8 = y8 at e8 hK ⊢
      subst e8
      generalize x 10 = y10 at e10 hK ⊢
      subst e10
      exact wpOp_of rfl rfl (wp_slice_of (some 29) rfl 40 (.tmp 23) (some (.tmp 24)) (some (.tmp 26)) (some (.tmp 28)) rfl (.slice (if ls.length = a then A else A.map (·.add a)) (ls.length - a) (ls.length - a)) (HS2.out wr) (hK _ _ rfl (Nx.refl _)))
    · have e11 : x 11 = .slice (if ls.length = a then A else A.map (·.add a)) (ls.length - a) (ls.length - a) := hd 11 (by decide)
      have r4 := hd 4 (by decide)
      generalize x 11 = y11 at e11 hK ⊢
      subst e11
      exact wpOp_of rfl rfl (wp_callp_of (some 30) rfl 58 #[.slice (if ls.length = a then A else A.map (·.add a)) (ls.length - a) (ls.length - a)] (by kernel_rfl) (fun v w1 => OwnL w.heap.size w1 v (ls.drop a)) ((HC2.out wr (HR2.out.nx hx)).mono fun _ _ ⟨v, h1, h2, h3⟩ => ⟨v, h1, h2.mono hx.size, h3⟩) hK)
    · have r4 := hd 4 (by decide)
      exact wpOp_of rfl rfl (wp_val_of (some 4) rfl (x 4) (by kernel_rfl) (hK _ _ r4 (Nx.refl _)))
    · have r12 := hd 12 (by decide)
      exact wpOp_of rfl rfl (wp_val_of (some 5) rfl (x 12) (by kernel_rfl) (hK _ _ r12 (Nx.refl _)))
    · exact wpOp_of rfl rfl (wp_val_of (some 6) rfl (.int .i64 0) (by kernel_rfl) (hK _ _ rfl (Nx.refl _)))
  · intro x tm wr htm hx hv
    simp only [fillA, List.setIfInBounds_toArray, List.set_cons_zero, List.set_cons_succ] at htm
    subst htm
    have r13 := hv 13 (by decide)
    have r14 := hv 14 (by decide)
    have e15 : x 15 = .int .i64 0 := hv 15 (by decide)
    rw [e15]
    refine wpList_nil ?_
    clear hv
    go_wp2_with fail
    go_ret3
    exact ⟨_, _, rfl, r13, r14, hx⟩

end Go.Proofs.Ytbhoflmdhlchlaa