/- TEXTS OF OUR OWN, IN ONE FILE. -/
import Derived.Test.YtpijehaciomkhaaDoorTe
import Derived.Test.YtpijehaciomkhaaDoorTb
section
namespace Go.Proofs.YtpijehaciomkhaaDoor
open Go Go.RowKit
set_option linter.unusedVariables false
set_option linter.unusedSimpArgs false

theorem run_mk4 {v1 v2 v3 v4 : Value} (h1 : Sl v1) (h2 : Sl v2) (h3 : Sl v3) (h4 : Sl v4) (w : World) :
    (Instr.buildSlice 57 4 #[(0, v1), (1, v2), (2, v3), (3, v4)]).run Tryd.prog w = .ok (.slice (some ⟨w.heap.size, 0, none⟩) 4 4) (w.alloc (.cells #[v1, v2, v3, v4] 43)) := by
  obtain ⟨A, n, c, rfl⟩ := h1
  obtain ⟨A', n', c', rfl⟩ := h2
  obtain ⟨A'', n'', c'', rfl⟩ := h3
  obtain ⟨A3, n3, c3, rfl⟩ := h4
  kernel_rfl
theorem catAt4 {v1 v2 v3 v4 : Value} {l1 l2 l3 l4 : List UInt8} {w : World} (h1 : Rd w v1 l1) (h2 : Rd w v2 l2) (h3 : Rd w v3 l3) (h4 : Rd w v4 l4) : CatAt (.slice (some ⟨w.heap.size, 0, none⟩) 4 4) [l1, l2, l3, l4] (w.alloc (.cells #[v1, v2, v3, v4] 43)) :=
  ⟨w.heap.size, [v1, v2, v3, v4], rfl, heap_alloc_new w _, (Vs.cons (h1.alloc _) (Vs.cons (h2.alloc _) (Vs.cons (h3.alloc _) (Vs.cons (h4.alloc _) (Vs.nil _)))))⟩
theorem rowL_short (l : List UInt8) (h : l.length ≤ 100) : (rowL l).length ≤ 109 := by
  have := countL_le l.length
  unfold rowL
  rw [List.length_append]
  omega
theorem ptL_short (tx : List UInt8) (n h : Nat) (ht : tx.length = 32) : (ptL tx n h).length ≤ 48 := by
  have := putL_short n 2
  have := putL_short h 4
  unfold ptL
  rw [List.length_append, List.length_append]
  omega
theorem mayB_true {v n : Nat} (h : mayB v n = true) : v ≤ 1125899906842624 ∧ n ≤ 100 := by simpa [mayB] using h
/-- An output's bytes, if it may be. -/
def outB (v : Nat) (l : List UInt8) : List UInt8 := if mayB v l.length = true then putL v 8 ++ rowL l else []
def outE (v : Nat) (l : List UInt8) : Int := if mayB v l.length = true then 0 else 2
/-- A coin's bytes, if it may be. -/
def coinB (tx : List UInt8) (n h v : Nat) (b : Bool) (l : List UInt8) : List UInt8 := if mayB v l.length = true then ptL tx n h ++ (putL v 8 ++ (putL (if b = true then 1 else 0) 1 ++ rowL l)) else []
theorem ccel_v (tx : List UInt8) (n h v : Nat) (b : Bool) (lk : Value) (ht : tx.length = 32) : (ccel tx n h v b lk)[34]? = some (.int .u64 (v : Int)) := by
  simp [ccel, pcl, bvs, ht, List.getElem?_append_right]
theorem ccel_b (tx : List UInt8) (n h v : Nat) (b : Bool) (lk : Value) (ht : tx.length = 32) : (ccel tx n h v b lk)[35]? = some (.bool b) := by
  simp [ccel, pcl, bvs, ht, List.getElem?_append_right]
theorem ccel_l (tx : List UInt8) (n h v : Nat) (b : Bool) (lk : Value) (ht : tx.length = 32) : (ccel tx n h v b lk)[36]? = some lk := by
  simp [ccel, pcl, bvs, ht, List.getElem?_append_right]
theorem ccel_p (tx : List UInt8) (n h v : Nat) (b : Bool) (lk : Value) (j : Nat) (x : Value) (hj : (pcel tx n h)[j]? = some x) : (ccel tx n h v b lk)[j]? = some x := by
  simp only [pcel, ccel, List.getElem?_toArray] at *
  rw [List.getElem?_append_left (List.getElem?_eq_some_iff.1 hj).1]
  exact hj

set_option maxRecDepth 100000 in
set_option maxHeartbeats 4000000 in
theorem putOut_any (v : Nat) (lk : Value) (l : List UInt8) (w : World) (hl : Rd w lk l) (hr : l.length ≤ 140737488355328) :
    Calls Tryd.prog 23 #[.agg #[.int .u64 (v : Int), lk]] w fun e w' => ∃ r, e = .returned (.tuple #[r, .int .i64 (outE v l)]) ∧ Own w.heap.size w' r (outB v l) ∧ Nx w w' := by
  have HM := Lib.hid (fun w h => mayBe_any v lk l w h hr)
  have RL := Lib.hid hl
  obtain ⟨A, c, rfl, -⟩ := hl
  unfold outE outB
  rcases hb : mayB v l.length with _ | _
  · rw [hb] at HM
    rw [if_neg (by simp), if_neg (by simp)]
    have NW := Lib.hid ((Nx.refl w).alloc (.cells #[.int .u64 (v : Int), .slice A l.length c] 48))
    go_enter Tryd.func23, Tryd.ntmps23
    go_wp2_with fail
    refine (HM.out _ (RL.out.alloc _)).mono ?_
    rintro e w1 ⟨rfl, rfl⟩
    go_wp2_with fail
    go_ret2
    exact ⟨_, rfl, Own.nil _ _, NW.out⟩
  · obtain ⟨hv, hn⟩ := mayB_true hb
    rw [hb] at HM
    rw [if_pos rfl, if_pos rfl]
    have HN1 := Lib.hid (fun w => cnumb_any v 8 w)
    have HRW := Lib.hid (fun w lv h => row_any lv l w h (by omega))
    have HL1 := Lib.hid (putL_short v 8)
    have HL2 := Lib.hid (rowL_short l hn)
    generalize putL v 8 = B1 at *
    generalize rowL l = B2 at *
    have HC0 : Hid ((#[.int .u64 (v : Int), .slice A l.length c] : Array Value)[0]? = some (.int .u64 (v : Int))) := Lib.hid rfl
    have HC1 : Hid ((#[.int .u64 (v : Int), .slice A l.length c] : Array Value)[1]? = some (.slice A l.length c)) := Lib.hid rfl
    have HCC : Hid (∀ (wr : World) (x : Value), CatAt x [B1, B2] wr → w.heap.size ≤ wr.heap.size → Calls Tryd.prog 15 #[x] wr fun e w' => ∃ v, e = .returned v ∧ Own w.heap.size w' v (B1 ++ B2) ∧ Nx wr w') := Lib.hid fun wr x h hB => by
      have := concat_at wr h (by simp) (by have := HL1.out; have := HL2.out; simp only [List.flatten_cons, List.flatten_nil, List.append_nil, List.length_append]; omega) _ hB
      simpa only [List.flatten_cons, List.flatten_nil, List.append_nil] using this
    have RP0 := Row.new w #[.int .u64 (v : Int), .slice A l.length c] 48 _ rfl
    have NW := Lib.hid ((Nx.refl w).alloc (.cells #[.int .u64 (v : Int), .slice A l.length c] 48))
    generalize B1 ++ B2 = L at *
    clear hv hn hr hb
    go_enter Tryd.func23, Tryd.ntmps23
    go_wp2_with fail
    refine (HM.out _ (RL.out.alloc _)).mono ?_
    rintro e w1 ⟨rfl, rfl⟩
    go_wp2_with fail
    have HWS := NW.out.size
    replace RL := Lib.hid (RL.out.nx NW.out)
    generalize w.alloc (.cells #[.int .u64 (v : Int), .slice A l.length c] 48) = W at *
    refine wp_region_nx 10 [[], [0], [1], [], [3], [4, 2], [2, 5], [6, 5], [7, 7, 0, 1, 2, 3, 4, 5, 6, 7], [8, 0, 1, 2, 3, 4, 5, 6, 7, 8]] [some 10, some 11, some 12, some 13, some 14, some 15, some 16, some 17, some 2, some 3]
      [.eq (.pointer (some ⟨w.heap.size, 0, none⟩)), .eq (.int .u64 (v : Int)), .rd (B1), .eq (.pointer (some ⟨w.heap.size, 1, none⟩)), .eq (.slice A l.length c), .rd (B2), ⟨fun v w => CatAt v [B1, B2] w, fun _ _ _ h k => h.nx k⟩, .own w.heap.size L, .own w.heap.size L, .eq (.int .i64 0)]
      (by kernel_rfl) (by kernel_rfl) (hord_of (by decide)) (by kernel_rfl) (by decide) (by decide) (htail_of (by decide)) ?_ _ (by rfl) ?_
    · intro x tm wr htm hx i hi hd K hK
      simp only [fillA, List.setIfInBounds_toArray, List.set_cons_zero, List.set_cons_succ] at htm
      subst htm
      have hcs : i = 0 ∨ i = 1 ∨ i = 2 ∨ i = 3 ∨ i = 4 ∨ i = 5 ∨ i = 6 ∨ i = 7 ∨ i = 8 ∨ i = 9 := by omega
      clear hi
      rcases hcs with rfl | rfl | rfl | rfl | rfl | rfl | rfl | rfl | rfl | rfl
      · exact wpOp_of rfl rfl (wp_val_of (some 10) rfl (.pointer (some ⟨w.heap.size, 0, none⟩)) (by kernel_rfl) (hK _ _ rfl (Nx.refl _)))
      · have e0 : x 0 = .pointer (some ⟨w.heap.size, 0, none⟩) := hd 0 (by decide)
        generalize x 0 = y0 at e0 hK ⊢
        subst e0
        exact wpOp_of rfl rfl (wp_load_cell (some 11) rfl 46 (.tmp 10) rfl (w.heap.size) 0 rfl (.int .u64 (v : Int)) _ ((RP0.nx hx).cell HC0.out) Tryd.underlying46 rfl (hK _ _ rfl (Nx.refl _)))
      · have e1 : x 1 = .int .u64 (v : Int) := hd 1 (by decide)
        generalize x 1 = y1 at e1 hK ⊢
        subst e1
        refine wpOp_of rfl rfl (wp_callp_of (some 12) rfl 37 #[(.int .u64 (v : Int)), .int .i64 8] (by kernel_rfl) (fun v w' => Rd w' v (B1)) ?_ hK)
        exact (HN1.out wr).mono fun _ _ ⟨v, h1, h2, h3⟩ => ⟨v, h1, h2.rd, h3⟩
      · exact wpOp_of rfl rfl (wp_val_of (some 13) rfl (.pointer (some ⟨w.heap.size, 1, none⟩)) (by kernel_rfl) (hK _ _ rfl (Nx.refl _)))
      · have e3 : x 3 = .pointer (some ⟨w.heap.size, 1, none⟩) := hd 3 (by decide)
        generalize x 3 = y3 at e3 hK ⊢
        subst e3
        exact wpOp_of rfl rfl (wp_load_cell (some 14) rfl 43 (.tmp 13) rfl (w.heap.size) 1 rfl (.slice A l.length c) _ ((RP0.nx hx).cell HC1.out) Tryd.underlying43 rfl (hK _ _ rfl (Nx.refl _)))
      · have e4 : x 4 = .slice A l.length c := hd 4 (by decide)
        have r2 : Rd wr (x 2) (B1) := hd 2 (by decide)
        generalize x 4 = y4 at e4 hK ⊢
        subst e4
        refine wpOp_of rfl rfl (wp_callp_of (some 15) rfl 22 #[(.slice A l.length c)] (by kernel_rfl) (fun v w' => Rd w' v (B2)) ?_ hK)
        exact (HRW.out wr _ (RL.out.nx hx)).mono fun _ _ ⟨v, h1, h2, h3⟩ => ⟨v, h1, h2.rd, h3⟩
      · have r2 : Rd wr (x 2) (B1) := hd 2 (by decide)
        have r5 : Rd wr (x 5) (B2) := hd 5 (by decide)
        refine wpOp_of rfl rfl (wp_mk_of (some 16) rfl 57 2 _ rfl (#[(0, x 2), (1, x 5)]) (by kernel_rfl) _ _ (run_mk2 r2.sl r5.sl wr) (hK _ _ ?_ ((Nx.refl wr).alloc _)))
        exact catAt2 r2 r5
      · have r6 := hd 6 (by decide)
        have r5 : Rd wr (x 5) (B2) := hd 5 (by decide)
        exact wpOp_of rfl rfl (wp_callp_of (some 17) rfl 15 #[x 6] (by kernel_rfl) (fun v w1 => Own w.heap.size w1 v L) (HCC.out wr _ r6 (Nat.le_trans HWS hx.size)) hK)
      · have r7 := hd 7 (by decide)
        exact wpOp_of rfl rfl (wp_val_of (some 2) rfl (x 7) (by kernel_rfl) (hK _ _ r7 (Nx.refl _)))
      · exact wpOp_of rfl rfl (wp_val_of (some 3) rfl (.int .i64 0) (by kernel_rfl) (hK _ _ rfl (Nx.refl _)))
    · intro x tm wr htm hx hv
      simp only [fillA, List.setIfInBounds_toArray, List.set_cons_zero, List.set_cons_succ] at htm
      subst htm
      have r8 := hv 8 (by decide)
      have e9 : x 9 = .int .i64 0 := hv 9 (by decide)
      rw [e9]
      go_wp2_with fail
      go_ret2
      exact ⟨_, rfl, r8, NW.out.trans hx⟩

end Go.Proofs.YtpijehaciomkhaaDoor
end

section
namespace Go.Proofs.YtpijehaciomkhaaDoor
open Go Go.RowKit
set_option linter.unusedVariables false
set_option linter.unusedSimpArgs false

theorem gcT_out (l : List UInt8) (at_ : Int) (E : Int) (h : gpE l at_ = E) (hE : E ≠ 0) : gcT l at_ = .bad E := by
  unfold gcT
  rw [h, if_pos hE]
end Go.Proofs.YtpijehaciomkhaaDoor
end
