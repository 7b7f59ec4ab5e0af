/- LAYER 8: the walk of HeadMines. -/
import Derived.Test.YtjbeemoobmagnaaDoorHead8
import Derived.Test.YtjbeemoobmagnaaDoorHead11
namespace Go.Proofs.YtjbeemoobmagnaaDoor
open Go Go.RowKit
set_option linter.unusedVariables false
set_option linter.unusedSimpArgs false
set_option linter.unusedVariables false
set_option linter.unusedSimpArgs false

theorem wpList_eqlH {P : Program} {ops : Array Oper} {Q : Exit → Act → World → Prop} {o : Oper} {rest : List Oper} {a : Act} {w : World} (hgd : o.guard = none) (T : TypeId) (x y : Operand) (T' : TypeId) (ho : o.op = .binOp .eql T x y T') (X Y : Array Value)
    (hx : a.eval x = .agg X) (hy : a.eval y = .agg Y) (hgt : P.eqGuardType P.depth T = false) (b : Bool) (heq : (Op.equalIn 10000 T (.agg X) (.agg Y)).run P w = .ok b w) (h : wpList P ops Q rest (a.put o.dst (.bool b)) w) : wpList P ops Q (o :: rest) a w :=
  wpList_plain hgd fun _ hK => wp_eql_of _ rfl T x y T' ho X Y hx hy hgt b heq (hK _ _ h)
theorem mines_any (p r : List UInt8) (t b n m : Nat) (H : HOk p r t b n) (hm : m < 4294967296) : ∃ (P R : List UInt8) (T B N : Nat) (e : Int), P.length = 32 ∧ R.length = 32 ∧
    (∀ W, KIs W → Calls Tryd.prog 29 #[.agg (hdc p r t b n), .int .u32 (m : Int)] W fun e' w' => e' = .returned (.tuple #[.agg (hdc P R T B N), .int .i64 e]) ∧ Nx W w') ∧
    (∀ W, Calls Tryd.prog 30 #[.agg (hdc p r t b n), .int .u32 (m : Int)] W fun e' w' => e' = .returned (.tuple #[.agg (hdc P R T B N), .int .i64 e]) ∧ Nx W w') := by
  by_cases hE : ofE b = 0
  · have h1 := fun W hk => hmine_ok p r t b n m H hE hm W hk
    have h2 := fun W => rmine_ok p r t b n m H hE hm W
    unfold mineR at h1 h2
    cases hK : mineK p r t b n m with
    | none =>
      rw [hK] at h1 h2
      exact ⟨Z32, Z32, 0, 0, 0, 6, Z32_length, Z32_length, h1, h2⟩
    | some k =>
      rw [hK] at h1 h2
      exact ⟨p, r, t, b, (nth32 n k).1, 0, H.p, H.r, h1, h2⟩
  · exact ⟨Z32, Z32, 0, 0, 0, 5, Z32_length, Z32_length, fun W _ => hmine_bad p r t b n m H hE W, fun W => rmine_bad p r t b n m H hE W⟩
set_option maxRecDepth 100000 in
set_option maxHeartbeats 8000000 in
theorem headMines_law {w : World} (p r : List UInt8) (t b n : Nat) (hp : p.length = 32) (hr : r.length = 32) (ht : t < 4294967296) (hb : b < 4294967296) (hn : n < 4294967296) (a0 : Nat) (ha2 : (a0 : Int) ≤ 255) (hk : KIs w) :
    Calls Tryd.prog 6 #[.agg (hdc p r t b n), .int .u8 (a0 : Int)] w fun e w' => e = .returned (.bool true) ∧ Nx w w' := by
  have ha1 : 0 ≤ (a0 : Int) := by omega
  generalize (a0 : Int) = a at *
  have H : HOk p r t b n := ⟨hp, hr, ht, hb, hn⟩
  obtain ⟨hz2, hzs2⟩ := zero_of_info info_head
  obtain ⟨m, hm⟩ : ∃ m : Nat, a % 21 = (m : Int) := ⟨(a % 21).toNat, by omega⟩
  have hm2 : a.tmod 21 = (m : Int) := by rw [Int.tmod_eq_emod_of_nonneg ha1]; exact hm
  have hm3 : IntKind.u32.wrap (m : Int) = (m : Int) := by rw [IntKind.wrap_u32]; omega
  obtain ⟨P, R, T, B, N, e0, lP, lR, h1, h2⟩ := mines_any p r t b n m H (by omega)
  have HA := Lib.hid (fun W (x : Nx w W) => h1 W (hk.nx x))
  have HB := Lib.hid h2
  have HWK := Lib.hid (fun W (x : Nx w W) => hwork_any W)
  have hsz := Lib.hid (headsz p r t b n hp hr)
  have csz := Lib.hid (headsz P R T B N lP lR)
  have cso := Lib.hid (show (hdc Z32 Z32 0 0 0).size = (hdc P R T B N).size by rw [hd_size _ _ _ _ _ Z32_length Z32_length, hd_size _ _ _ _ _ lP lR])
  have EQ : Hid (∀ w, (Op.equalIn 10000 32 (.agg (hdc P R T B N)) (.agg (hdc P R T B N))).run Tryd.prog w = .ok true w) := Lib.hid fun w => by
    have := eq_head P R P R T B N T B N lP lR lP lR w
    simpa using this
  have HOn := Lib.hid (hd_one P R T B N)
  have R0 := Row.new w (hdc p r t b n) 32 _ rfl
  have N0 := (Nx.refl w).alloc (.cells (hdc p r t b n) 32)
  clear hp hr ht hb hn hk H h1 h2 lP lR
  generalize hdc P R T B N = HD at *
  go_enter Tryd.func6, Tryd.ntmps6
  go_wp2_with (refine wpList_load_row rfl 32 (.tmp 2) rfl w.heap.size rfl 32 (hdc p r t b n) (0, 0) _ R0 Tryd.underlying32 rfl hsz.out ?_)
  generalize w.alloc (.cells (hdc p r t b n) 32) = W at *
  refine (HA.out _ N0).mono ?_
  rintro e w1 ⟨rfl, n1⟩
  have Z1 := Row.new w1 (hdc Z32 Z32 0 0 0) 32 _ rfl
  have A1 := Z1.setRow HD
  have R1 := ((R0.nx n1).alloc (.cells (hdc Z32 Z32 0 0 0) 32)).setRow_other (k := w1.heap.size) HD (by have := (R0.nx n1).lt; omega)
  have N1 := ((N0.trans n1).alloc (.cells (hdc Z32 Z32 0 0 0) 32)).setRow (g := w1.heap.size) HD (N0.trans n1).size
  go_wp2_with (first | (refine wpList_store_row rfl 32 (.tmp 6) (.tmp 17) rfl w1.heap.size HD rfl rfl 32 (hdc Z32 Z32 0 0 0) Z1 csz.out cso.out HOn.out ?_) | (refine wpList_load_row rfl 32 (.tmp 2) rfl w.heap.size rfl 32 (hdc p r t b n) (0, 0) _ R1 Tryd.underlying32 rfl hsz.out ?_))
  generalize (w1.alloc (.cells (hdc Z32 Z32 0 0 0) 32)).setRow w1.heap.size HD = W1 at *
  clear n1 Z1 R0 N0 R1
  refine (HB.out _).mono ?_
  rintro e w2 ⟨rfl, n2⟩
  have Z2 := Row.new w2 (hdc Z32 Z32 0 0 0) 32 _ rfl
  have B2 := Z2.setRow HD
  have A2 := ((A1.nx n2).alloc (.cells (hdc Z32 Z32 0 0 0) 32)).setRow_other (k := w2.heap.size) HD (by have := (A1.nx n2).lt; omega)
  have N2 := ((N1.trans n2).alloc (.cells (hdc Z32 Z32 0 0 0) 32)).setRow (g := w2.heap.size) HD (N1.trans n2).size
  go_wp2_with (first | (refine wpList_store_row rfl 32 (.tmp 8) (.tmp 23) rfl w2.heap.size HD rfl rfl 32 (hdc Z32 Z32 0 0 0) Z2 csz.out cso.out HOn.out ?_) | (refine wpList_load_row rfl 32 (.tmp 6) rfl w1.heap.size rfl 32 HD (0, 0) _ A2 Tryd.underlying32 rfl csz.out ?_) | (refine wpList_load_row rfl 32 (.tmp 8) rfl w2.heap.size rfl 32 HD (0, 0) _ B2 Tryd.underlying32 rfl csz.out ?_) | (refine wpList_eqlH rfl 32 (.tmp 25) (.tmp 26) _ rfl HD HD rfl rfl (by kernel_rfl) true (EQ.out _) ?_))
  refine (HWK.out _ N2).mono ?_
  rintro e w3 ⟨rfl, n3⟩
  go_wp2_with fail
  go_ret
  exact ⟨rfl, N2.trans n3⟩
end Go.Proofs.YtjbeemoobmagnaaDoor
