/- LAYER 7: Same of the program, of like transactions. -/
import Derived.Test.YtnbonmkecmgphaaDoorTx19
import Derived.Test.YtnbonmkecmgphaaDoorBCmp
namespace Go.Proofs.YtnbonmkecmgphaaDoor
open Go Go.RowKit
set_option linter.unusedVariables false
set_option linter.unusedSimpArgs false
set_option linter.unusedVariables false
set_option linter.unusedSimpArgs false

theorem wpList_eqlT {P : Program} {ops : Array Oper} {Q : Exit → Act → World → Prop} {o : Oper} {rest : List Oper} {a : Act} {w : World} (hgd : o.guard = none) (T : TypeId) (x y : Operand) (T' : TypeId) (ho : o.op = .binOp .eql T x y T') (X Y : Array Value)
    (hx : a.eval x = .agg X) (hy : a.eval y = .agg Y) (hgt : P.eqGuardType P.depth T = false) (b : Bool) (heq : (Op.equalIn 10000 T (.agg X) (.agg Y)).run P w = .ok b w) (h : wpList P ops Q rest (a.put o.dst (.bool b)) w) : wpList P ops Q (o :: rest) a w :=
  wpList_plain hgd fun _ hK => wp_eql_of _ rfl T x y T' ho X Y hx hy hgt b heq (hK _ _ h)
theorem bequal_yes (v1 v2 : Value) (l : List UInt8) (w : World) (h1 : Rd w v1 l) (h2 : Rd w v2 l) : Calls Tryd.prog 89 #[v1, v2] w fun e w' => e = .returned (.bool true) ∧ Nx w w' := by
  have := bequal_any v1 v2 l l w h1 h2
  rw [show (l == l) = true by simp] at this
  exact this
set_option maxRecDepth 100000 in
set_option maxHeartbeats 4000000 in
theorem sameIn_yes (a : Inp) (u v : Value) (w : World) (hok : InOk a) (h1 : Rd w u a.u) (h2 : Rd w v a.u) :
    Calls Tryd.prog 59 #[.agg (icel a u), .agg (icel a v)] w fun e w' => e = .returned (.bool true) ∧ Nx w w' := by
  have HBE := Lib.hid (fun w h1 h2 => bequal_yes u v a.u w h1 h2)
  have N0 := ((Nx.refl w).alloc (.cells (icel a u) 55)).alloc (.cells (icel a v) 55)
  have H1 := Lib.hid (h1.nx N0)
  have H2 := Lib.hid (h2.nx N0)
  have NN := Lib.hid N0
  have R1 := (Row.new w (icel a u) 55 _ rfl).alloc (.cells (icel a v) 55)
  have R2 := Row.new2 w (.cells (icel a u) 55) (icel a v) 55
  have HPS := Lib.hid (pointsz a.x a.n a.h hok.1)
  have HEQ := Lib.hid (fun w => eq_point_yes a.x a.n a.h hok.1 w)
  have HG0 := Lib.hid (fun i x (h : (pcel a.x a.n a.h)[i]? = some x) => (show ((w.alloc (.cells (icel a u) 55)).alloc (.cells (icel a v) 55)).cell? ⟨w.heap.size, 0 + i, none⟩ = some x by rw [Nat.zero_add]; exact R1.cell (icel_p a u i x h)))
  have HF0 := Lib.hid (fun i x (h : (pcel a.x a.n a.h)[i]? = some x) => (show ((w.alloc (.cells (icel a u) 55)).alloc (.cells (icel a v) 55)).cell? ⟨w.heap.size + 1, 0 + i, none⟩ = some x by rw [Nat.zero_add]; exact R2.cell (icel_p a v i x h)))
  have k1 := R1.cell (icel_u a u hok)
  have k2 := R2.cell (icel_u a v hok)
  obtain ⟨A1, c1, rfl, -⟩ := h1
  obtain ⟨A2, c2, rfl, -⟩ := h2
  clear N0 R1 R2 hok
  go_enter Tryd.func59, Tryd.ntmps59
  go_upto_region 1 with fail
  generalize (w.alloc (.cells (icel a (.slice A1 a.u.length c1)) 55)).alloc (.cells (icel a (.slice A2 a.u.length c2)) 55) = W at *
  go_wp2_with (first
    | (refine wpList_load_at rfl 31 (.tmp 5) rfl w.heap.size 0 rfl (pcel a.x a.n a.h) _ HG0.out Tryd.underlying31 rfl HPS.out ?_)
    | (refine wpList_load_at rfl 31 (.tmp 7) rfl (w.heap.size + 1) 0 rfl (pcel a.x a.n a.h) _ HF0.out Tryd.underlying31 rfl HPS.out ?_)
    | (refine wpList_eqlT rfl 31 (.tmp 6) (.tmp 8) _ rfl _ _ rfl rfl (by kernel_rfl) true (HEQ.out _) ?_))
  refine (HBE.out _ H1.out H2.out).mono ?_
  rintro e w1 ⟨rfl, n1⟩
  replace NN := Lib.hid (NN.out.trans n1)
  clear n1 HG0 HF0 k1 k2
  go_wp2_with fail
  go_ret
  exact ⟨rfl, NN.out⟩
set_option maxRecDepth 100000 in
set_option maxHeartbeats 4000000 in
theorem sameOut_yes (a : Outp) (u v : Value) (w : World) (h1 : Rd w u a.l) (h2 : Rd w v a.l) :
    Calls Tryd.prog 61 #[.agg #[.int .u64 (a.v : Int), u], .agg #[.int .u64 (a.v : Int), v]] w fun e w' => e = .returned (.bool true) ∧ Nx w w' := by
  have HBE := Lib.hid (fun w h1 h2 => bequal_yes u v a.l w h1 h2)
  have N0 := ((Nx.refl w).alloc (.cells #[.int .u64 (a.v : Int), u] 60)).alloc (.cells #[.int .u64 (a.v : Int), v] 60)
  have H1 := Lib.hid (h1.nx N0)
  have H2 := Lib.hid (h2.nx N0)
  have NN := Lib.hid N0
  have R1 := (Row.new w #[.int .u64 (a.v : Int), u] 60 _ rfl).alloc (.cells #[.int .u64 (a.v : Int), v] 60)
  have R2 := Row.new2 w (.cells #[.int .u64 (a.v : Int), u] 60) #[.int .u64 (a.v : Int), v] 60
  have k0 := R1.cell (i := 0) (v := .int .u64 (a.v : Int)) rfl
  have k1 := R1.cell (i := 1) (v := u) rfl
  have k2 := R2.cell (i := 0) (v := .int .u64 (a.v : Int)) rfl
  have k3 := R2.cell (i := 1) (v := v) rfl
  have e1 : ((a.v : Int) == (a.v : Int)) = true := by simp
  obtain ⟨A1, c1, rfl, -⟩ := h1
  obtain ⟨A2, c2, rfl, -⟩ := h2
  clear N0 R1 R2
  go_enter Tryd.func61, Tryd.ntmps61
  go_wp2_with fail
  refine (HBE.out _ H1.out H2.out).mono ?_
  rintro e w1 ⟨rfl, n1⟩
  replace NN := Lib.hid (NN.out.trans n1)
  clear n1 k0 k1 k2 k3
  go_wp2_with fail
  go_ret
  exact ⟨rfl, NN.out⟩
end Go.Proofs.YtnbonmkecmgphaaDoor
