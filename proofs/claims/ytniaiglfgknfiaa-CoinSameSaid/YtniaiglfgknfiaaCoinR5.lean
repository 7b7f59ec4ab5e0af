/- THE DOCUMENT'S ANSWERS OF LAYER 6: Same, of like coins. -/
import Derived.Test.YtniaiglfgknfiaaCoinEq
import Derived.Test.YtniaiglfgknfiaaSame
namespace Go.Proofs.Ytniaiglfgknfiaa
open Go Go.RowKit
set_option linter.unusedVariables false
set_option linter.unusedSimpArgs false

theorem run_neqp {P : Program} {w : World} {a : Act} {o : Oper} (T : TypeId) (x y : Operand) (T' : TypeId) (ho : o.op = .binOp .neq T x y T') (X Y : Array Value)
    (hx : a.eval x = .agg X) (hy : a.eval y = .agg Y) (hgt : P.eqGuardType P.depth T = false) (b : Bool) (heq : (Op.equalIn 10000 T (.agg X) (.agg Y)).run P w = .ok b w) : (execOp a.eval o).run P w = .ok (.value (.bool (!b))) w := by
  unfold execOp
  simp only [ho]
  have e1 : (eqGuard .neq T x y (a.eval x) (a.eval y)).run P w = .ok () w := by
    rw [hx, hy, run_eqGuard_agg w .neq T x y X Y hgt]
  have e2 : (binOp .neq T (a.eval x) (a.eval y)).run P w = .ok (.bool (!b)) w := by
    rw [hx, hy, run_neq_struct w T X Y, heq]
    rfl
  simp only [Sem.run_bind, e1, e2, Result.andThen_ok, Sem.run_pure]

set_option maxRecDepth 100000 in
set_option maxHeartbeats 2000000 in
theorem rsame_yes (tx : List UInt8) (n h v : Nat) (b : Bool) (v1 v2 : Value) (l : List UInt8) (w : World) (ht : tx.length = 32) (h1 : Rd w v1 l) (h2 : Rd w v2 l) :
    Calls Try.prog 25 #[.agg (ccel tx n h v b v1), .agg (ccel tx n h v b v2)] w fun e w' => e = .returned (.bool true) ∧ Nx w w' := by
  obtain ⟨A1, c1, rfl, hc1, hm1, ha1⟩ := h1
  obtain ⟨A2, c2, rfl, hc2, hm2, ha2⟩ := h2
  unfold maxLen at hm1
  have NN := Lib.hid (((Nx.refl w).alloc (.cells (ccel tx n h v b (.slice A1 l.length c1)) 31)).alloc (.cells (ccel tx n h v b (.slice A2 l.length c2)) 31))
  have K0 := (Row.new w (ccel tx n h v b (.slice A1 l.length c1)) 31 _ rfl).alloc (.cells (ccel tx n h v b (.slice A2 l.length c2)) 31)
  have K1 := Row.new2 w (.cells (ccel tx n h v b (.slice A1 l.length c1)) 31) (ccel tx n h v b (.slice A2 l.length c2)) 31
  have HA1 := ha1.nx NN.out
  have HA2 := ha2.nx NN.out
  have HPS := Lib.hid (pointsz tx n h ht)
  have HEQ := Lib.hid (fun w => eq_point2 tx tx n h n h ht ht w)
  have a34 := K0.cell (ccel_v tx n h v b (.slice A1 l.length c1) ht)
  have b34 := K1.cell (ccel_v tx n h v b (.slice A2 l.length c2) ht)
  have a35 := K0.cell (ccel_b tx n h v b (.slice A1 l.length c1) ht)
  have b35 := K1.cell (ccel_b tx n h v b (.slice A2 l.length c2) ht)
  have a36 := K0.cell (ccel_l tx n h v b (.slice A1 l.length c1) ht)
  have b36 := K1.cell (ccel_l tx n h v b (.slice A2 l.length c2) ht)
  have HC0 := Lib.hid (fun j x hj => K0.cell (ccel_p tx n h v b (.slice A1 l.length c1) j x hj))
  have HC1 := Lib.hid (fun j x hj => K1.cell (ccel_p tx n h v b (.slice A2 l.length c2) j x hj))
  have hne : ((l.length : Int) != (l.length : Int)) = false := by simp
  have hnv : ((v : Int) != (v : Int)) = false := by simp
  have hnb : (b != b) = false := by simp
  clear ha1 ha2 K0 K1 ht
  go_enter Try.func25, Try.ntmps25
  go_wp2_with (first | (refine wpList_load_at rfl 27 (.tmp 6) rfl w.heap.size 0 rfl (pcel tx n h) _ (fun j x hj => by rw [Nat.zero_add]; exact HC0.out j x hj) Try.underlying27 rfl HPS.out ?_) | (refine wpList_load_at rfl 27 (.tmp 8) rfl (w.heap.size + 1) 0 rfl (pcel tx n h) _ (fun j x hj => by rw [Nat.zero_add]; exact HC1.out j x hj) Try.underlying27 rfl HPS.out ?_) | (refine wpList_val (some 10) rfl rfl (.bool (!(decide (tx = tx) && (decide (n = n) && decide (h = h))))) (run_neqp 27 (.tmp 7) (.tmp 9) _ rfl _ _ rfl rfl (by kernel_rfl) _ (HEQ.out _)) ?_))
  generalize (w.alloc (.cells (ccel tx n h v b (.slice A1 l.length c1)) 31)).alloc (.cells (ccel tx n h v b (.slice A2 l.length c2)) 31) = W at *
  go_loopw [5] (fun i wr => ∃ k : Nat, k ≤ l.length ∧ i = .int .i64 k ∧ ∃ n, wr = W.drewN n) (fun i _ => l.length - (intOf i).toNat)
  case atStart => exact ⟨0, by omega, rfl, 0, rfl⟩
  case round =>
    obtain ⟨k, hk, rfl, n, rfl⟩ := hrel
    by_cases hlt : k < l.length
    · obtain ⟨b1, o1, rfl, hb1, hc1⟩ := HA1 (by omega)
      obtain ⟨b2, o2, rfl, hb2, hc2⟩ := HA2 (by omega)
      have g1 := hc1 k hlt
      have g2 := hc2 k hlt
      clear hc1 hc2 hne
      have hlt' : (k : Int) < (l.length : Int) := by omega
      have hne2 : ((l[k].toNat : Int) != (l[k].toNat : Int)) = false := by simp
      go_wp2
      go_quiet (fail)
      go_wp2
      go_roundw
      case rel => exact ⟨k + 1, by omega, by go_num, _, rfl⟩
      case measure => simp [intOf]; omega
    · go_wp2
      go_ret
      exact ⟨rfl, NN.out.drewN n⟩
end Go.Proofs.Ytniaiglfgknfiaa
