/- LAYER 13: what goes through both secrets of each bit. -/
import Derived.RangeFuncNested
import Derived.RangeFuncBound
import Derived.RangeFuncCalls
import Derived.RangeFuncLeaves
import Derived.RangeFuncFrom
import Derived.Shelf.Abstract
import Derived.Shelf.RegionOpen
import Derived.WalkKit
import Derived.OwnWalkIn
import Derived.TacticsInMore
import Derived.LoopNIn
import Derived.LoopIn
import Derived.Test.YtpkopigiijiiiaaDoorRegIn
import Derived.Test.YtpkopigiijiiiaaDoorLm1
import Derived.Test.YtpkopigiijiiiaaDoorHs2
namespace Go.Proofs.YtpkopigiijiiiaaDoor
open Go Go.RowKit Go.Shelf
set_option linter.unusedVariables false
set_option linter.unusedSimpArgs false
set_option linter.unusedVariables false
set_option linter.unusedSimpArgs false
attribute [local go_sem] Oper.semAt_some

abbrev N5 := { x : Nat // x < 32 }
def nth5 (k : Nat) : N5 := ⟨k % 32, Nat.mod_lt _ (by decide)⟩
def upto5 (k : Nat) : List N5 := (List.range k).map nth5
theorem upto5_succ (k : Nat) : upto5 (k + 1) = upto5 k ++ [nth5 k] := by simp [upto5, List.range_succ]
theorem upto5_length (k : Nat) : (upto5 k).length = k := by simp [upto5]
theorem nth5_val (k : Nat) (h : k < 32) : (nth5 k).1 = k := Nat.mod_eq_of_lt h
/-- Both secrets of a bit. -/
def twoC (s : Bs) (k : Nat) : Array Value := hcel (secL s k 0 ++ secL s k 1)
def encL (s : Bs) (x : N5) : Array Value := #[.int .u8 (x.1 : Int), .agg (twoC s x.1)]
/-- A block stays, and the table. -/
def KpL (G : Nat) (W W' : World) : Prop := W'.heap[G]? = W.heap[G]? ∧ (KIs W → KIs W')
theorem KpL.trans {G : Nat} {A B C : World} (h : KpL G A B) (x : KpL G B C) : KpL G A C := ⟨x.1.trans h.1, fun k => x.2 (h.2 k)⟩
theorem KpL.nx {G : Nat} {A B : World} (h : Nx A B) (hG : G < A.heap.size) : KpL G A B := ⟨h.block G hG, fun k => k.nx h⟩
theorem Row.kpl {G : Nat} {A B : World} {cs : Array Value} {t : TypeId} (h : Row A G cs t) (k : KpL G A B) : Row B G cs t := by
  unfold Row at *
  rw [k.1]; exact h
theorem grown_of_nx {A B : World} (h : Nx A B) : A.grownBy B none := ⟨h.os, h.tape, h.output, h.size, fun k hk _ => h.block k hk⟩
theorem KIs.putObj {W : World} {l : Nat} {o : Obj} (o' : Obj) (h : KIs W) (hl : W.heap[l]? = some o) (ho : o.isCells = false) : KIs (W.putObj l o') := fun i hi => by
  have h1 := h i hi
  have hc : ∃ q : Obj, W.heap[0]? = some q ∧ q.isCells = true := by
    unfold World.cell? at h1
    cases hq : W.heap[0]? with
    | none => simp [hq] at h1
    | some q =>
      refine ⟨q, rfl, ?_⟩
      cases q <;> first | rfl | (simp [hq] at h1)
  obtain ⟨q, hq, hqc⟩ := hc
  have hb := grownBy_keeps_cells (grownBy_putObj' W l o') (fun r e => by cases e; exact ⟨o, hl, ho⟩) hq hqc
  rw [← h1]
  exact World.cell?_of_block hb
theorem KpL.putObj {G : Nat} {W : World} {l : Nat} {o : Obj} (o' : Obj) (hl : W.heap[l]? = some o) (ho : o.isCells = false) (hG : G < l) : KpL G W (W.putObj l o') :=
  ⟨World.putObj_heap_other (by omega), fun k => k.putObj o' hl ho⟩
theorem run_two (a b : Bs) (ha : a.length = 32) (hb : b.length = 32) (w : World) : (Instr.build 50 #[(0, .agg (hcel a)), (1, .agg (hcel b))]).run Tryd.prog w = .ok (.agg (hcel (a ++ b))) w := by
  obtain ⟨x0, x1, x2, x3, x4, x5, x6, x7, x8, x9, x10, x11, x12, x13, x14, x15, x16, x17, x18, x19, x20, x21, x22, x23, x24, x25, x26, x27, x28, x29, x30, x31, rfl⟩ := list32 a ha
  obtain ⟨y0, y1, y2, y3, y4, y5, y6, y7, y8, y9, y10, y11, y12, y13, y14, y15, y16, y17, y18, y19, y20, y21, y22, y23, y24, y25, y26, y27, y28, y29, y30, y31, rfl⟩ := list32 b hb
  kernel_rfl
theorem run_ix0 (a b : Bs) (ha : a.length = 32) (hb : b.length = 32) (w : World) : (Instr.index 50 (.agg (hcel (a ++ b))) (.int .i64 0)).run Tryd.prog w = .ok (.agg (hcel a)) w := by
  obtain ⟨x0, x1, x2, x3, x4, x5, x6, x7, x8, x9, x10, x11, x12, x13, x14, x15, x16, x17, x18, x19, x20, x21, x22, x23, x24, x25, x26, x27, x28, x29, x30, x31, rfl⟩ := list32 a ha
  obtain ⟨y0, y1, y2, y3, y4, y5, y6, y7, y8, y9, y10, y11, y12, y13, y14, y15, y16, y17, y18, y19, y20, y21, y22, y23, y24, y25, y26, y27, y28, y29, y30, y31, rfl⟩ := list32 b hb
  kernel_rfl
theorem run_ix1 (a b : Bs) (ha : a.length = 32) (hb : b.length = 32) (w : World) : (Instr.index 50 (.agg (hcel (a ++ b))) (.int .i64 1)).run Tryd.prog w = .ok (.agg (hcel b)) w := by
  obtain ⟨x0, x1, x2, x3, x4, x5, x6, x7, x8, x9, x10, x11, x12, x13, x14, x15, x16, x17, x18, x19, x20, x21, x22, x23, x24, x25, x26, x27, x28, x29, x30, x31, rfl⟩ := list32 a ha
  obtain ⟨y0, y1, y2, y3, y4, y5, y6, y7, y8, y9, y10, y11, y12, y13, y14, y15, y16, y17, y18, y19, y20, y21, y22, y23, y24, y25, y26, y27, y28, y29, y30, y31, rfl⟩ := list32 b hb
  kernel_rfl
theorem wp_build13 {P : Program} {o : Oper} {a : Act} {w : World} {K : Act → World → Prop} {Q : Exit → Act → World → Prop} (dst : Option Tmp) (hd : o.dst = dst) (ty : TypeId) (parts : Array (Nat × Operand)) (ho : o.op = .build ty parts) (vals : Array (Nat × Value)) (hv : (parts.map fun (i, x) => (i, a.eval x)) = vals) (v : Value)
    (hrun : (Instr.build ty vals).run P w = .ok v w) (h : K (a.put dst v) w) : o.wp P a w K Q := by
  subst hd
  subst hv
  unfold Oper.wp execOp
  simp only [ho]
  simp only [Sem.run_bind, hrun, Result.andThen_ok, Sem.run_pure, Oper.upon_value]
  exact h
set_option maxRecDepth 100000 in
set_option maxHeartbeats 2000000 in
theorem allf1_in (n : Nat) (hn : 1 ≤ n) (s : Bs) (hs : s.length = 32) (l G : Nat) (J Jx : List N5 → World → Prop) (hJ : ∀ pre A B, J pre A → Nx A B → J pre B)
    (hY : ∀ pre x W, J pre W → pre.length < 32 → YieldAt Fence.wide (n - 1) Tryd.prog l (encL s x) W fun e W' =>
      (e = .returned (.bool true) ∧ J (pre ++ [x]) W' ∧ KpL G W W') ∨ (e = .returned (.bool false) ∧ Jx (pre ++ [x]) W'))
    (W : World) (R0 : Row W G (hcel s) 23) (hK : KIs W) (h0 : J [] W) :
    CallsIn Fence.wide n Tryd.prog 39 #[.func (.yield l) #[] #[], .pointer (some ⟨G, 0, none⟩)] W fun e W' => (∃ v, e = .returned v) ∧
      ((∃ ys, ys = upto5 32 ∧ J ys W') ∨ (∃ pre, True ∧ Jx pre W')) := by
  have hsz := Lib.hid (hashsz s hs)
  have HSEC0 := Lib.hid (fun k (hk : k < 256) v (hv : v < 256) w hw => secret_any s hs k v hk hv w hw)
  refine callsIn_of_wp Tryd.func39 rfl trivial ?_ rfl
  simp only [Tryd.ntmps39, List.size_toArray, List.length_cons, List.length_nil, Nat.reduceAdd, Nat.reduceSub, Array.replicate_succ, Array.replicate_zero, List.push_toArray, List.append_toArray, List.nil_append, List.cons_append]
  gi_wp2
  gi_loopw [4] (fun i wr => ∃ k : Nat, k ≤ 32 ∧ i = .int .u8 (k : Int) ∧ J (upto5 k) wr ∧ Row wr G (hcel s) 23 ∧ KIs wr)
    (fun i _ => 32 - (intOf i).toNat)
  case atStart => exact ⟨0, Nat.zero_le _, rfl, h0, R0, hK⟩
  case round =>
    clear R0 hK h0
    obtain ⟨k, hk, rfl, hJs, R, hK⟩ := hrel
    have HK := Lib.hid hK
    by_cases hlt : k < 32
    · have hlti : (k : Int) < 32 := by omega
      have hw1 : IntKind.u8.wrap ((k : Int) + 1) = (k : Int) + 1 := by rw [IntKind.wrap_u8']; omega
      have HS0 : Hid (∀ w, KIs w → Calls Tryd.prog 8 #[.agg (hcel s), .int .u8 (k : Int), .int .u8 0] w fun e w' => e = .returned (.agg (hcel (secL s k 0))) ∧ Nx w w') := Lib.hid fun w hw => HSEC0.out k (by omega) 0 (by decide) w hw
      have HS1 : Hid (∀ w, KIs w → Calls Tryd.prog 8 #[.agg (hcel s), .int .u8 (k : Int), .int .u8 1] w fun e w' => e = .returned (.agg (hcel (secL s k 1))) ∧ Nx w w') := Lib.hid fun w hw => HSEC0.out k (by omega) 1 (by decide) w hw
      have HEN : encL s (nth5 k) = #[.int .u8 (k : Int), .agg (hcel (secL s k 0 ++ secL s k 1))] := by unfold encL twoC; rw [nth5_val k hlt]
      have BLD := Lib.hid (fun w => run_two (secL s k 0) (secL s k 1) (secL_length _ _ _) (secL_length _ _ _) w)
      have hY2 := Lib.hid (fun W2 (h : Nx wr W2) => hY _ (nth5 k) W2 (hJ _ _ _ hJs h) (by rw [upto5_length]; exact hlt))
      rw [HEN] at hY2
      clear HEN HSEC0
      generalize secL s k 0 = A0 at *
      generalize secL s k 1 = A1 at *
      gi_wp2
      refine wpIn_region_cl 9 [[], [], [], [], [2, 3], [], [], [5, 6, 4], [4, 7], [0, 1, 8, 7], [9]] [some 7, some 8, some 9, some 10, some 11, some 12, some 13, some 14, some 15]
        [.eq (.func (.yield l) #[] #[]), .eq (.int .u8 (k : Int)), .eq (.agg (hcel s)), .eq (.int .u8 (k : Int)), .eq (.agg (hcel A0)), .eq (.agg (hcel s)), .eq (.int .u8 (k : Int)), .eq (.agg (hcel A1)), .eq (.agg (hcel (A0 ++ A1)))]
        (by kernel_rfl) (by kernel_rfl) (hord_of (by decide)) (by kernel_rfl) (by decide) (by decide) (htail_cl 5 (hord_of (by decide)) (by decide)) ?_ _ (by rfl) ?_
      · intro x tm wr htm hx i hi hd K hK
        simp only [fillA, List.setIfInBounds_toArray, List.set_cons_zero, List.set_cons_succ] at htm
        subst htm
        have hcs : i = 0 ∨ i = 1 ∨ i = 2 ∨ i = 3 ∨ i = 4 ∨ i = 5 ∨ i = 6 ∨ i = 7 ∨ i = 8 := by omega
        clear hi
        rcases hcs with rfl | rfl | rfl | rfl | rfl | rfl | rfl | rfl | rfl
        · exact wpOpI_of none rfl (fun _ h => by cases h) rfl (wp_val_of (some 7) rfl (.func (.yield l) #[] #[]) (by kernel_rfl) (hK _ _ rfl (Nx.refl _)))
        · exact wpOpI_of none rfl (fun _ h => by cases h) rfl (wp_val_of (some 8) rfl (.int .u8 (k : Int)) (by kernel_rfl) (hK _ _ rfl (Nx.refl _)))
        · exact wpOpI_of none rfl (fun _ h => by cases h) rfl (wp_load_row_of (some 9) rfl 23 (.tmp 1) rfl (G) rfl 23 (hcel s) _ (R.nx hx) Tryd.underlying23 rfl hsz.out (hK _ _ rfl (Nx.refl _)))
        · exact wpOpI_of none rfl (fun _ h => by cases h) rfl (wp_val_of (some 10) rfl (.int .u8 (k : Int)) (by kernel_rfl) (hK _ _ rfl (Nx.refl _)))
        · have e2 : x 2 = .agg (hcel s) := hd 2 (by decide)
          have e3 : x 3 = .int .u8 (k : Int) := hd 3 (by decide)
          generalize x 2 = y2 at e2 hK ⊢
          subst e2
          generalize x 3 = y3 at e3 hK ⊢
          subst e3
          refine wpOpI_of none rfl (fun _ h => by cases h) rfl (wp_call_of (some 11) rfl 8 #[(.agg (hcel s)), (.int .u8 (k : Int)), .int .u8 0] (by kernel_rfl) (.agg (hcel A0)) ?_ (fun w' h => hK _ w' rfl h))
          exact HS0.out wr (HK.out.nx hx)
        · exact wpOpI_of none rfl (fun _ h => by cases h) rfl (wp_load_row_of (some 12) rfl 23 (.tmp 1) rfl (G) rfl 23 (hcel s) _ (R.nx hx) Tryd.underlying23 rfl hsz.out (hK _ _ rfl (Nx.refl _)))
        · exact wpOpI_of none rfl (fun _ h => by cases h) rfl (wp_val_of (some 13) rfl (.int .u8 (k : Int)) (by kernel_rfl) (hK _ _ rfl (Nx.refl _)))
        · have e5 : x 5 = .agg (hcel s) := hd 5 (by decide)
          have e6 : x 6 = .int .u8 (k : Int) := hd 6 (by decide)
          have e4 : x 4 = .agg (hcel A0) := hd 4 (by decide)
          generalize x 5 = y5 at e5 hK ⊢
          subst e5
          generalize x 6 = y6 at e6 hK ⊢
          subst e6
          generalize x 4 = y4 at e4 hK ⊢
          subst e4
          refine wpOpI_of none rfl (fun _ h => by cases h) rfl (wp_call_of (some 14) rfl 8 #[(.agg (hcel s)), (.int .u8 (k : Int)), .int .u8 1] (by kernel_rfl) (.agg (hcel A1)) ?_ (fun w' h => hK _ w' rfl h))
          exact HS1.out wr (HK.out.nx hx)
        · have e4 : x 4 = .agg (hcel A0) := hd 4 (by decide)
          have e7 : x 7 = .agg (hcel A1) := hd 7 (by decide)
          generalize x 4 = y4 at e4 hK ⊢
          subst e4
          generalize x 7 = y7 at e7 hK ⊢
          subst e7
          exact wpOpI_of none rfl (fun _ h => by cases h) rfl (wp_build13 (some 15) rfl 50 #[(0, .tmp 11), (1, .tmp 14)] rfl #[(0, .agg (hcel A0)), (1, .agg (hcel A1))] (by kernel_rfl) (.agg (hcel (A0 ++ A1))) (BLD.out wr) (hK _ _ rfl (Nx.refl _)))
      · intro x tm wr htm hx hv
        simp only [fillA, List.setIfInBounds_toArray, List.set_cons_zero, List.set_cons_succ] at htm
        subst htm
        have e0 : x 0 = .func (.yield l) #[] #[] := hv 0 (by decide)
        rw [e0]
        have e1 : x 1 = .int .u8 (k : Int) := hv 1 (by decide)
        rw [e1]
        have e8 : x 8 = .agg (hcel (A0 ++ A1)) := hv 8 (by decide)
        rw [e8]
        obtain ⟨fn, tmps, assign, body, hy, hR⟩ := hY2.out wr hx
        have NX := Lib.hid hx
        have RR := R.nx hx
        clear hx hv e0 e1 e8 R HS0 HS1 BLD hY2
        gi_wp2
        refine hR.mono ?_
        rintro e W3 (⟨rfl, hJ3, hk3⟩ | ⟨rfl, hJx3⟩)
        · gi_wp2
          go_roundw
          case rel => exact ⟨k + 1, by omega, by simp, by rw [upto5_succ]; exact hJ3, RR.kpl hk3, hk3.2 (HK.out.nx NX.out)⟩
          case measure => simp [intOf]; omega
        · gi_wp2
          refine bodyPost_ret (results_none rfl _ _ _) rfl ?_
          exact ⟨⟨_, rfl⟩, .inr ⟨_, trivial, hJx3⟩⟩
    · obtain rfl : k = 32 := by omega
      gi_wp2
      go_end0
      exact ⟨⟨_, rfl⟩, .inl ⟨_, rfl, hJs⟩⟩
/-- The maker lays a box. -/
theorem all_in (n : Nat) (s : Bs) (w : World) :
    CallsIn Fence.wide n Tryd.prog 29 #[.agg (hcel s)] w fun e w' => e = .returned (.func (.func 39) #[] #[.pointer (some ⟨w.heap.size, 0, none⟩)]) ∧ w' = w.alloc (.cells (hcel s) 23) := by
  refine callsIn_of_wp Tryd.func29 rfl trivial ?_ rfl
  simp only [Tryd.ntmps29, List.size_toArray, List.length_cons, List.length_nil, Nat.reduceAdd, Nat.reduceSub, Array.replicate_succ, Array.replicate_zero, List.push_toArray, List.append_toArray, List.nil_append, List.cons_append]
  gi_wp2
  go_ret
  exact ⟨rfl, rfl⟩
theorem all_stops (n : Nat) (hn : 1 ≤ n) (s : Bs) (hs : s.length = 32) (G : Nat) (w : World) (hG : G < w.heap.size) (R : Row w G (hcel s) 23) (hK : KIs w) :
    SeqStopsK Fence.wide n Tryd.prog 39 #[.pointer (some ⟨G, 0, none⟩)] (encL s) (KpL G) (fun ys => ys = upto5 32) (fun _ => True) 32 w := fun l J Jx W hW hJ _ hY h0 =>
  allf1_in n hn s hs l G J Jx (fun pre A B hA hn => hJ pre A B none hA (grown_of_nx hn) (fun r e => by cases e)) hY W (R.nx hW) (hK.nx hW) h0
end Go.Proofs.YtpkopigiijiiiaaDoor
