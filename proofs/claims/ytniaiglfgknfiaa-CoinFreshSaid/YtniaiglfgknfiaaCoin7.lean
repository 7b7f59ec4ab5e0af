/- CONTRACTS OF LAYER 6: PutPoint. -/
import Derived.Test.YtniaiglfgknfiaaCoin6
namespace Go.Proofs.Ytniaiglfgknfiaa
open Go Go.RowKit
set_option linter.unusedVariables false
set_option linter.unusedSimpArgs false

theorem wp_conv_of {P : Program} {o : Oper} {a : Act} {w : World} {K : Act → World → Prop} {Q : Exit → Act → World → Prop} (dst : Option Tmp) (hd : o.dst = dst) (s d : TypeId) (x : Operand) (ho : o.op = .convert s d x) (v : Value)
    (hrun : (Go.convert s d (a.eval x)).run P w = .ok v w) (h : K (a.put dst v) w) : o.wp P a w K Q := by
  refine wp_val_of dst hd v ?_ h
  unfold execOp
  simp only [ho]
  simp only [Sem.run_bind, hrun, Result.andThen_ok, Sem.run_pure]
theorem conv16 (n : Nat) (h : n < 65536) (w : World) : (Go.convert 24 28 (.int .u16 (n : Int))).run Try.prog w = .ok (.int .u64 (n : Int)) w := by
  have e : (Go.convert 24 28 (.int .u16 (n : Int))).run Try.prog w = .ok (.int .u64 (IntKind.u64.wrap (n : Int))) w := by kernel_rfl
  rw [e, IntKind.wrap_u64, Int.emod_eq_of_lt (by omega) (by omega)]
theorem conv32 (n : Nat) (h : n < 4294967296) (w : World) : (Go.convert 25 28 (.int .u32 (n : Int))).run Try.prog w = .ok (.int .u64 (n : Int)) w := by
  have e : (Go.convert 25 28 (.int .u32 (n : Int))).run Try.prog w = .ok (.int .u64 (IntKind.u64.wrap (n : Int))) w := by kernel_rfl
  rw [e, IntKind.wrap_u64, Int.emod_eq_of_lt (by omega) (by omega)]
theorem putL_short (n : Nat) (s : Int) : (putL n s).length ≤ 8 := by
  rcases part_of_put n s with ⟨-, -, h⟩ | ⟨k, -, hk, -, ⟨-, -, h⟩ | ⟨-, -, h⟩⟩
  · rw [h]; decide
  · rw [h, low_length]; omega
  · rw [h]; decide
theorem pcel_rd {w : World} {g : Nat} {tx : List UInt8} {n h : Nat} {t : TypeId} (r : Row w g (pcel tx n h) t) (ht : tx.length = 32) : Rd w (.slice (some ⟨g, 0, none⟩) 32 32) tx :=
  ⟨some ⟨g, 0, none⟩, 32, by rw [ht], by omega, by simp only [maxLen]; omega, At.of_cells r.lt fun j hj => by rw [Nat.zero_add]; exact r.cell (pcel_tx tx n h j hj)⟩
/-- A point's bytes. -/
def ptL (tx : List UInt8) (n h : Nat) : List UInt8 := tx ++ (putL n 2 ++ putL h 4)
set_option maxRecDepth 100000 in
set_option maxHeartbeats 4000000 in
theorem putPoint_any (tx : List UInt8) (n h : Nat) (ht : tx.length = 32) (hn : n < 65536) (hh : h < 4294967296) (w : World) :
    Calls Try.prog 14 #[.agg (pcel tx n h)] w fun e w' => ∃ v, e = .returned v ∧ Own w.heap.size w' v (ptL tx n h) ∧ Nx w w' := by
  have HN1 := Lib.hid (fun w => cnumb_any n 2 w)
  have HN2 := Lib.hid (fun w => cnumb_any h 4 w)
  have HL1 := Lib.hid (putL_short n 2)
  have HL2 := Lib.hid (putL_short h 4)
  unfold ptL
  generalize putL n 2 = B1 at *
  generalize putL h 4 = B2 at *
  have HT := Lib.hid ht
  have HCN := Lib.hid (pcel_n tx n h ht)
  have HCH := Lib.hid (pcel_h tx n h ht)
  have HC1 := Lib.hid (fun w => conv16 n hn w)
  have HC2 := Lib.hid (fun w => conv32 h hh w)
  have HSL := Lib.hid (fun w' => slice_arr_all (P := Try.prog) 23 5 32 Try.underlying23 Try.sizeOf5 w.heap.size (by omega) w')
  have HCC : Hid (∀ (wr : World) (x : Value), CatAt x [tx, B1, B2] wr → w.heap.size ≤ wr.heap.size → Calls Try.prog 33 #[x] wr fun e w' => ∃ v, e = .returned v ∧ Own w.heap.size w' v (tx ++ (B1 ++ B2)) ∧ Nx wr w') := Lib.hid fun wr x h hB => by
    have := concat_at wr h (by simp) (by have := HL1.out; have := HL2.out; have := HT.out; simp only [List.flatten_cons, List.flatten_nil, List.append_nil, List.length_append]; omega) _ hB
    simpa only [List.flatten_cons, List.flatten_nil, List.append_nil] using this
  have RP0 := Row.new w (pcel tx n h) 27 _ rfl
  have NW := Lib.hid ((Nx.refl w).alloc (.cells (pcel tx n h) 27))
  generalize tx ++ (B1 ++ B2) = L at *
  clear ht hn hh
  go_enter Try.func14, Try.ntmps14
  go_wp2_with fail
  have RT := Lib.hid (pcel_rd RP0 HT.out)
  have HWS := NW.out.size
  generalize w.alloc (.cells (pcel tx n h) 27) = W at *
  refine wp_region_nx 13 [[], [0], [], [2], [3], [4], [], [6], [7], [8, 5], [1, 5, 9], [10, 9], [11, 11, 0, 1, 2, 3, 4, 5, 6, 7, 8, 9, 10, 11]] [some 3, some 4, some 5, some 6, some 7, some 8, some 9, some 10, some 11, some 12, some 13, some 14, some 2]
    [.eq (.pointer (some ⟨w.heap.size, 0, none⟩)), .eq (.slice (some ⟨w.heap.size, 0, none⟩) 32 32), .eq (.pointer (some ⟨w.heap.size, 32, none⟩)), .eq (.int .u16 (n : Int)), .eq (.int .u64 (n : Int)), .rd (B1), .eq (.pointer (some ⟨w.heap.size, 33, none⟩)), .eq (.int .u32 (h : Int)), .eq (.int .u64 (h : Int)), .rd (B2), ⟨fun v w => CatAt v [tx, B1, B2] w, fun _ _ _ h k => h.nx k⟩, .own w.heap.size L, .own w.heap.size L]
    (by kernel_rfl) (by kernel_rfl) (hord_of (by decide)) (by kernel_rfl) (by decide) (by decide) (htail_of (by decide)) ?_ _ (by rfl) ?_
  · intro x tm wr htm hx i hi hd K hK
    simp only [fillA, List.setIfInBounds_toArray, List.set_cons_zero, List.set_cons_succ] at htm
    subst htm
    have hcs : i = 0 ∨ i = 1 ∨ i = 2 ∨ i = 3 ∨ i = 4 ∨ i = 5 ∨ i = 6 ∨ i = 7 ∨ i = 8 ∨ i = 9 ∨ i = 10 ∨ i = 11 ∨ i = 12 := by omega
    clear hi
    rcases hcs with rfl | rfl | rfl | rfl | rfl | rfl | rfl | rfl | rfl | rfl | rfl | rfl | rfl
    · exact wpOp_of rfl rfl (wp_val_of (some 3) rfl (.pointer (some ⟨w.heap.size, 0, none⟩)) (by kernel_rfl) (hK _ _ rfl (Nx.refl _)))
    · have e0 : x 0 = .pointer (some ⟨w.heap.size, 0, none⟩) := hd 0 (by decide)
      generalize x 0 = y0 at e0 hK ⊢
      subst e0
      exact wpOp_of rfl rfl (wp_slice_of (some 4) rfl 23 (.tmp 3) none none none rfl (.slice (some ⟨w.heap.size, 0, none⟩) 32 32) (HSL.out wr) (hK _ _ rfl (Nx.refl _)))
    · exact wpOp_of rfl rfl (wp_val_of (some 5) rfl (.pointer (some ⟨w.heap.size, 32, none⟩)) (by kernel_rfl) (hK _ _ rfl (Nx.refl _)))
    · have e2 : x 2 = .pointer (some ⟨w.heap.size, 32, none⟩) := hd 2 (by decide)
      generalize x 2 = y2 at e2 hK ⊢
      subst e2
      exact wpOp_of rfl rfl (wp_load_cell (some 6) rfl 24 (.tmp 5) rfl (w.heap.size) 32 rfl (.int .u16 (n : Int)) _ ((RP0.nx hx).cell HCN.out) Try.underlying24 rfl (hK _ _ rfl (Nx.refl _)))
    · have e3 : x 3 = .int .u16 (n : Int) := hd 3 (by decide)
      generalize x 3 = y3 at e3 hK ⊢
      subst e3
      exact wpOp_of rfl rfl (wp_conv_of (some 7) rfl 24 28 (.tmp 6) rfl (.int .u64 (n : Int)) (HC1.out wr) (hK _ _ rfl (Nx.refl _)))
    · have e4 : x 4 = .int .u64 (n : Int) := hd 4 (by decide)
      generalize x 4 = y4 at e4 hK ⊢
      subst e4
      refine wpOp_of rfl rfl (wp_callp_of (some 8) rfl 34 #[(.int .u64 (n : Int)), .int .i64 2] (by kernel_rfl) (fun v w' => Rd w' v (B1)) ?_ hK)
      exact (HN1.out wr).mono fun _ _ ⟨v, h1, h2, h3⟩ => ⟨v, h1, h2.rd, h3⟩
    · exact wpOp_of rfl rfl (wp_val_of (some 9) rfl (.pointer (some ⟨w.heap.size, 33, none⟩)) (by kernel_rfl) (hK _ _ rfl (Nx.refl _)))
    · have e6 : x 6 = .pointer (some ⟨w.heap.size, 33, none⟩) := hd 6 (by decide)
      generalize x 6 = y6 at e6 hK ⊢
      subst e6
      exact wpOp_of rfl rfl (wp_load_cell (some 10) rfl 25 (.tmp 9) rfl (w.heap.size) 33 rfl (.int .u32 (h : Int)) _ ((RP0.nx hx).cell HCH.out) Try.underlying25 rfl (hK _ _ rfl (Nx.refl _)))
    · have e7 : x 7 = .int .u32 (h : Int) := hd 7 (by decide)
      generalize x 7 = y7 at e7 hK ⊢
      subst e7
      exact wpOp_of rfl rfl (wp_conv_of (some 11) rfl 25 28 (.tmp 10) rfl (.int .u64 (h : Int)) (HC2.out wr) (hK _ _ rfl (Nx.refl _)))
    · have e8 : x 8 = .int .u64 (h : Int) := hd 8 (by decide)
      have r5 : Rd wr (x 5) (B1) := hd 5 (by decide)
      generalize x 8 = y8 at e8 hK ⊢
      subst e8
      refine wpOp_of rfl rfl (wp_callp_of (some 12) rfl 34 #[(.int .u64 (h : Int)), .int .i64 4] (by kernel_rfl) (fun v w' => Rd w' v (B2)) ?_ hK)
      exact (HN2.out wr).mono fun _ _ ⟨v, h1, h2, h3⟩ => ⟨v, h1, h2.rd, h3⟩
    · have e1 : x 1 = .slice (some ⟨w.heap.size, 0, none⟩) 32 32 := hd 1 (by decide)
      have r5 : Rd wr (x 5) (B1) := hd 5 (by decide)
      have r9 : Rd wr (x 9) (B2) := hd 9 (by decide)
      generalize x 1 = y1 at e1 hK ⊢
      subst e1
      have RA := (RT.out.nx hx)
      refine wpOp_of rfl rfl (wp_mk_of (some 13) rfl 73 3 _ rfl (#[(0, .slice (some ⟨w.heap.size, 0, none⟩) 32 32), (1, x 5), (2, x 9)]) (by kernel_rfl) _ _ (run_mk3 RA.sl r5.sl r9.sl wr) (hK _ _ ?_ ((Nx.refl wr).alloc _)))
      exact catAt3 RA r5 r9
    · have r10 := hd 10 (by decide)
      have r9 : Rd wr (x 9) (B2) := hd 9 (by decide)
      refine wpOp_of rfl rfl (wp_callp_of (some 14) rfl 33 #[x 10] (by kernel_rfl) (fun v w1 => Own w.heap.size w1 v L) (HCC.out wr _ r10 (Nat.le_trans HWS hx.size)) hK)
    · have r11 := hd 11 (by decide)
      exact wpOp_of rfl rfl (wp_val_of (some 2) rfl (x 11) (by kernel_rfl) (hK _ _ r11 (Nx.refl _)))
  · intro x tm wr htm hx hv
    simp only [fillA, List.setIfInBounds_toArray, List.set_cons_zero, List.set_cons_succ] at htm
    subst htm
    have r12 := hv 12 (by decide)
    go_wp2_with fail
    go_ret
    exact ⟨_, rfl, r12, NW.out.trans hx⟩
end Go.Proofs.Ytniaiglfgknfiaa
