/- LAYER 6: the walk of CoinSame. -/
import Derived.Deep.DeepCutAuto
import Derived.Test.YtniaiglfgknfiaaCoinS
import Derived.Test.YtniaiglfgknfiaaCoinB
import Derived.Test.YtniaiglfgknfiaaRegG
namespace Go.Proofs.Ytniaiglfgknfiaa
open Go Go.RowKit
set_option linter.unusedVariables false
set_option linter.unusedSimpArgs false
set_option linter.unusedVariables false
set_option linter.unusedSimpArgs false

theorem sameC_self (tx : List UInt8) (n h v : Nat) (b : Bool) (l : List UInt8) : sameC tx n h v b l tx n h v b l = true := by simp [sameC]
/-- Two coins are alike just if their bytes are, where they may be. -/
theorem sameC_bytes (tx : List UInt8) (n h v : Nat) (b : Bool) (l ty : List UInt8) (m k u : Nat) (d : Bool) (r : List UInt8) (ht : tx.length = 32) (hn : n < 65536) (hh : h < 4294967296) (hy : ty.length = 32) (hm : m < 65536) (hk : k < 4294967296)
    (h1 : mayB v l.length = true) (h2 : mayB u r.length = true) : (coinB tx n h v b l == coinB ty m k u d r) = sameC tx n h v b l ty m k u d r := by
  have a := coin_back tx n h v b l [] [] ht hn hh h1
  have c := coin_back ty m k u d r [] [] hy hm hk h2
  by_cases he : coinB tx n h v b l = coinB ty m k u d r
  · rw [he] at a
    rw [c] at a
    simp only [GC.mk.injEq] at a
    obtain ⟨e1, e2, e3, e4, e5, e6, -⟩ := a
    subst e1 e2 e3 e4 e5 e6
    rw [sameC_self, beq_self_eq_true]
  · rw [beq_false_of_ne he]
    cases hs : sameC tx n h v b l ty m k u d r
    · rfl
    · unfold sameC at hs
      simp only [Bool.and_eq_true, decide_eq_true_eq, beq_iff_eq] at hs
      obtain ⟨⟨e1, e2, e3⟩, e4, e5, e6⟩ := hs
      subst e1 e2 e3 e4 e5 e6
      exact absurd rfl he

set_option maxRecDepth 100000 in
set_option maxHeartbeats 8000000 in
theorem coinSame_law {w : World} (tx : List UInt8) (n h v : Nat) (b : Bool) (A : Option Addr) (l : List UInt8) (c : Nat) (ht : tx.length = 32) (hn : n < 65536) (hh : h < 4294967296) (hvv : (v : Int) ≤ 18446744073709551615) (hl : Rd w (.slice A l.length c) l) (hlr : l.length ≤ 140737488351232)
    (ty : List UInt8) (m k u : Nat) (d : Bool) (B : Option Addr) (r : List UInt8) (e : Nat) (hy : ty.length = 32) (hm : m < 65536) (hk : k < 4294967296) (huu : (u : Int) ≤ 18446744073709551615) (hr : Rd w (.slice B r.length e) r) (hrr : r.length ≤ 140737488351232) :
    Calls Try.prog 7 #[.agg (ccel tx n h v b (.slice A l.length c)), .agg (ccel ty m k u d (.slice B r.length e))] w fun e w' => e = .returned (.bool true) ∧ Nx w w' := by
  have HPA := Lib.hid (fun w hl => put_coin_any tx n h v b (.slice A l.length c) l w ht hn hh hl (by omega))
  have HPB := Lib.hid (fun w hl => put_coin_any ty m k u d (.slice B r.length e) r w hy hm hk hl (by omega))
  have HS := Lib.hid (fun w h1 h2 => csame_any tx n h v b (.slice A l.length c) l ty m k u d (.slice B r.length e) r w ht hy h1 h2)
  have HRS := Lib.hid (fun w h1 h2 => rsame_any tx n h v b (.slice A l.length c) l ty m k u d (.slice B r.length e) r w ht hy h1 h2)
  have HSA : Hid (∀ w, Rd w (.slice A l.length c) l → Calls Try.prog 28 #[.agg (ccel tx n h v b (.slice A l.length c)), .agg (ccel tx n h v b (.slice A l.length c))] w fun e w' => e = .returned (.bool true) ∧ Nx w w') := Lib.hid (fun w h1 => by
    have := csame_any tx n h v b (.slice A l.length c) l tx n h v b (.slice A l.length c) l w ht ht h1 h1
    rwa [sameC_self] at this)
  have HEQ := Lib.hid (fun h1 h2 => sameC_bytes tx n h v b l ty m k u d r ht hn hh hy hm hk h1 h2)
  have za := Lib.hid (coinsz tx n h v b (.slice A l.length c) ht)
  have zb := Lib.hid (coinsz ty m k u d (.slice B r.length e) hy)
  obtain ⟨EA, hEA⟩ : ∃ E, E = outE v l := ⟨_, rfl⟩
  obtain ⟨EB, hEB⟩ : ∃ E, E = outE u r := ⟨_, rfl⟩
  rw [← hEA] at HPA
  rw [← hEB] at HPB
  have HE1 : Hid ((EA = 2 ∧ mayB v l.length = false) ∨ (EA = 0 ∧ mayB v l.length = true)) := Lib.hid (by rw [hEA]; unfold outE; cases mayB v l.length <;> simp)
  have HE2 : Hid ((EB = 2 ∧ mayB u r.length = false) ∨ (EB = 0 ∧ mayB u r.length = true)) := Lib.hid (by rw [hEB]; unfold outE; cases mayB u r.length <;> simp)
  have R0 := Lib.hid ((Row.new w (ccel tx n h v b (.slice A l.length c)) 31 _ rfl).alloc (.cells (ccel ty m k u d (.slice B r.length e)) 31))
  have R1 := Lib.hid (Row.new2 w (.cells (ccel tx n h v b (.slice A l.length c)) 31) (ccel ty m k u d (.slice B r.length e)) 31)
  have NW := Lib.hid (((Nx.refl w).alloc (.cells (ccel tx n h v b (.slice A l.length c)) 31)).alloc (.cells (ccel ty m k u d (.slice B r.length e)) 31))
  have RL := Lib.hid (hl.nx NW.out)
  have RR := Lib.hid (hr.nx NW.out)
  clear ht hn hh hvv hl hlr hy hm hk huu hr hrr hEA hEB
  generalize coinB tx n h v b l = LA at *
  generalize coinB ty m k u d r = LB at *
  generalize sameC tx n h v b l ty m k u d r = S at *
  have RA := R0.out
  have RB := R1.out
  clear R0 R1
  go_enter Try.func7, Try.ntmps7
  go_wp2_with (first | (refine wpList_load_row rfl 31 (.tmp 2) rfl (w.heap.size) rfl 31 (ccel tx n h v b (.slice A l.length c)) (0, 0) _ RA Try.underlying31 rfl za.out ?_))
  generalize ((w.alloc (.cells (ccel tx n h v b (.slice A l.length c)) 31)).alloc (.cells (ccel ty m k u d (.slice B r.length e)) 31)) = W at *
  refine (HPA.out _ RL.out).mono ?_
  rintro e1 w1 ⟨va, rfl, o1, n1⟩
  have OA := Lib.hid o1.rd
  replace RA := RA.nx n1
  replace RB := RB.nx n1
  replace RL := Lib.hid (RL.out.nx n1)
  replace RR := Lib.hid (RR.out.nx n1)
  replace NW := Lib.hid (NW.out.trans n1)
  clear n1 o1
  go_wp2_with (first | (refine wpList_load_row rfl 31 (.tmp 3) rfl (w.heap.size + 1) rfl 31 (ccel ty m k u d (.slice B r.length e)) (0, 0) _ RB Try.underlying31 rfl zb.out ?_))
  refine (HPB.out _ RR.out).mono ?_
  rintro e2 w2 ⟨vb, rfl, o2, n2⟩
  have OB := Lib.hid o2.rd
  replace OA := Lib.hid (OA.out.nx n2)
  replace RA := RA.nx n2
  replace RB := RB.nx n2
  replace RL := Lib.hid (RL.out.nx n2)
  replace RR := Lib.hid (RR.out.nx n2)
  replace NW := Lib.hid (NW.out.trans n2)
  clear n2 o2
  obtain ⟨A5, c5, hva, -, -, -⟩ := OA.out
  obtain ⟨B5, e5, hvb, -, -, -⟩ := OB.out
  subst hva hvb
  go_wp2_with fail
  clear HPA HPB
  rcases S with _ | _
  · refine wp_region_nx 13 [[], [], [0, 1], [], [], [3, 4, 2], [2, 5], [6, 5], [7], [7], [8, 9, 7, 7], [10, 7], [7, 11]] [some 19, some 20, some 21, some 22, some 23, some 24, some 25, some 26, some 27, some 28, some 29, some 30, some 31]
      [.eq (.agg (ccel tx n h v b (.slice A l.length c))), .eq (.agg (ccel ty m k u d (.slice B r.length e))), .eq (.bool false), .eq (.agg (ccel tx n h v b (.slice A l.length c))), .eq (.agg (ccel ty m k u d (.slice B r.length e))), .eq (.bool false), .eq (.bool false), .eq (.bool false), .eq (.agg (ccel tx n h v b (.slice A l.length c))), .eq (.agg (ccel tx n h v b (.slice A l.length c))), .eq (.bool true), .eq (.bool false), .eq (.bool false)]
      (by kernel_rfl) (by kernel_rfl) (hord_of (by decide)) (by kernel_rfl) (by decide) (by decide) (htail_of (by decide)) ?_ _ (by rfl) ?_
    · intro x tm wr htm hx i hi hd K hK
      simp only [fillA, List.setIfInBounds_toArray, List.set_cons_zero, List.set_cons_succ] at htm
      subst htm
      have hcs : i = 0 ∨ i = 1 ∨ i = 2 ∨ i = 3 ∨ i = 4 ∨ i = 5 ∨ i = 6 ∨ i = 7 ∨ i = 8 ∨ i = 9 ∨ i = 10 ∨ i = 11 ∨ i = 12 := by omega
      clear hi
      rcases hcs with rfl | rfl | rfl | rfl | rfl | rfl | rfl | rfl | rfl | rfl | rfl | rfl | rfl
      · exact wpOp_of rfl rfl (wp_load_row_of (some 19) rfl 31 (.tmp 2) rfl (w.heap.size) rfl 31 (ccel tx n h v b (.slice A l.length c)) _ (RA.nx hx) Try.underlying31 rfl za.out (hK _ _ rfl (Nx.refl _)))
      · exact wpOp_of rfl rfl (wp_load_row_of (some 20) rfl 31 (.tmp 3) rfl (w.heap.size + 1) rfl 31 (ccel ty m k u d (.slice B r.length e)) _ (RB.nx hx) Try.underlying31 rfl zb.out (hK _ _ rfl (Nx.refl _)))
      · have e0 : x 0 = .agg (ccel tx n h v b (.slice A l.length c)) := hd 0 (by decide)
        have e1 : x 1 = .agg (ccel ty m k u d (.slice B r.length e)) := hd 1 (by decide)
        generalize x 0 = y0 at e0 hK ⊢
        subst e0
        generalize x 1 = y1 at e1 hK ⊢
        subst e1
        refine wpOp_of rfl rfl (wp_call_of (some 21) rfl 28 #[(.agg (ccel tx n h v b (.slice A l.length c))), (.agg (ccel ty m k u d (.slice B r.length e)))] (by kernel_rfl) (.bool false) ?_ (fun w' h => hK _ w' rfl h))
        exact HS.out wr (RL.out.nx hx) (RR.out.nx hx)
      · exact wpOp_of rfl rfl (wp_load_row_of (some 22) rfl 31 (.tmp 2) rfl (w.heap.size) rfl 31 (ccel tx n h v b (.slice A l.length c)) _ (RA.nx hx) Try.underlying31 rfl za.out (hK _ _ rfl (Nx.refl _)))
      · exact wpOp_of rfl rfl (wp_load_row_of (some 23) rfl 31 (.tmp 3) rfl (w.heap.size + 1) rfl 31 (ccel ty m k u d (.slice B r.length e)) _ (RB.nx hx) Try.underlying31 rfl zb.out (hK _ _ rfl (Nx.refl _)))
      · have e3 : x 3 = .agg (ccel tx n h v b (.slice A l.length c)) := hd 3 (by decide)
        have e4 : x 4 = .agg (ccel ty m k u d (.slice B r.length e)) := hd 4 (by decide)
        have e2 : x 2 = .bool false := hd 2 (by decide)
        generalize x 3 = y3 at e3 hK ⊢
        subst e3
        generalize x 4 = y4 at e4 hK ⊢
        subst e4
        generalize x 2 = y2 at e2 hK ⊢
        subst e2
        refine wpOp_of rfl rfl (wp_call_of (some 24) rfl 25 #[(.agg (ccel tx n h v b (.slice A l.length c))), (.agg (ccel ty m k u d (.slice B r.length e)))] (by kernel_rfl) (.bool false) ?_ (fun w' h => hK _ w' rfl h))
        exact HRS.out wr (RL.out.nx hx) (RR.out.nx hx)
      · have e2 : x 2 = .bool false := hd 2 (by decide)
        have e5 : x 5 = .bool false := hd 5 (by decide)
        generalize x 2 = y2 at e2 hK ⊢
        subst e2
        generalize x 5 = y5 at e5 hK ⊢
        subst e5
        exact wpOp_of rfl rfl (wp_val_of (some 25) rfl (.bool false) (by kernel_rfl) (hK _ _ rfl (Nx.refl _)))
      · have e6 : x 6 = .bool false := hd 6 (by decide)
        have e5 : x 5 = .bool false := hd 5 (by decide)
        generalize x 6 = y6 at e6 hK ⊢
        subst e6
        generalize x 5 = y5 at e5 hK ⊢
        subst e5
        exact wpOp_of rfl rfl (wp_val_of (some 26) rfl (.bool false) (by kernel_rfl) (hK _ _ rfl (Nx.refl _)))
      · have e7 : x 7 = .bool false := hd 7 (by decide)
        generalize x 7 = y7 at e7 hK ⊢
        subst e7
        exact wpOp_g rfl (by rfl) (wp_load_row_of (some 27) rfl 31 (.tmp 2) rfl (w.heap.size) rfl 31 (ccel tx n h v b (.slice A l.length c)) _ (RA.nx hx) Try.underlying31 rfl za.out (hK _ _ rfl (Nx.refl _)))
      · have e7 : x 7 = .bool false := hd 7 (by decide)
        generalize x 7 = y7 at e7 hK ⊢
        subst e7
        exact wpOp_g rfl (by rfl) (wp_load_row_of (some 28) rfl 31 (.tmp 2) rfl (w.heap.size) rfl 31 (ccel tx n h v b (.slice A l.length c)) _ (RA.nx hx) Try.underlying31 rfl za.out (hK _ _ rfl (Nx.refl _)))
      · have e8 : x 8 = .agg (ccel tx n h v b (.slice A l.length c)) := hd 8 (by decide)
        have e9 : x 9 = .agg (ccel tx n h v b (.slice A l.length c)) := hd 9 (by decide)
        have e7 : x 7 = .bool false := hd 7 (by decide)
        generalize x 8 = y8 at e8 hK ⊢
        subst e8
        generalize x 9 = y9 at e9 hK ⊢
        subst e9
        generalize x 7 = y7 at e7 hK ⊢
        subst e7
        refine wpOp_g rfl (by rfl) (wp_call_of (some 29) rfl 28 #[(.agg (ccel tx n h v b (.slice A l.length c))), (.agg (ccel tx n h v b (.slice A l.length c)))] (by kernel_rfl) (.bool true) ?_ (fun w' h => hK _ w' rfl h))
        exact HSA.out wr (RL.out.nx hx)
      · have e10 : x 10 = .bool true := hd 10 (by decide)
        have e7 : x 7 = .bool false := hd 7 (by decide)
        generalize x 10 = y10 at e10 hK ⊢
        subst e10
        generalize x 7 = y7 at e7 hK ⊢
        subst e7
        exact wpOp_g rfl (by rfl) (wp_val_of (some 30) rfl (.bool false) (by kernel_rfl) (hK _ _ rfl (Nx.refl _)))
      · have e7 : x 7 = .bool false := hd 7 (by decide)
        have e11 : x 11 = .bool false := hd 11 (by decide)
        generalize x 7 = y7 at e7 hK ⊢
        subst e7
        generalize x 11 = y11 at e11 hK ⊢
        subst e11
        exact wpOp_of rfl rfl (wp_val_of (some 31) rfl (.bool false) (by kernel_rfl) (hK _ _ rfl (Nx.refl _)))
    · intro x tm wr htm hx hv
      simp only [fillA, List.setIfInBounds_toArray, List.set_cons_zero, List.set_cons_succ] at htm
      subst htm
      have e12 : x 12 = .bool false := hv 12 (by decide)
      rw [e12]
      refine wpList_nil ?_
      clear hv
      replace OA := Lib.hid (OA.out.nx hx)
      replace OB := Lib.hid (OB.out.nx hx)
      replace RA := RA.nx hx
      replace RB := RB.nx hx
      replace RL := Lib.hid (RL.out.nx hx)
      replace RR := Lib.hid (RR.out.nx hx)
      replace NW := Lib.hid (NW.out.trans hx)
      clear hx
      rcases HE1.out with ⟨rfl, h1⟩ | ⟨rfl, h1⟩
      · clear h1 HE1 HE2
        go_wp2_with fail
        refine (works_any _).mono ?_
        rintro e9 w9 ⟨rfl, n9⟩
        replace NW := Lib.hid (NW.out.trans n9)
        clear n9
        go_wp2_with fail
        go_ret
        exact ⟨rfl, NW.out⟩
      rcases HE2.out with ⟨rfl, h2⟩ | ⟨rfl, h2⟩
      · clear h1 h2 HE1 HE2
        go_wp2_with fail
        refine (works_any _).mono ?_
        rintro e9 w9 ⟨rfl, n9⟩
        replace NW := Lib.hid (NW.out.trans n9)
        clear n9
        go_wp2_with fail
        go_ret
        exact ⟨rfl, NW.out⟩
      have HX := Lib.hid (HEQ.out h1 h2)
      clear h1 h2 HE1 HE2 HEQ
      go_wp2_with (first | go_skip | (refine wpList_g (by rfl) fun K hK => wp_load_row_of (some 39) rfl 31 (.tmp 2) rfl (w.heap.size) rfl 31 (ccel tx n h v b (.slice A l.length c)) _ RA Try.underlying31 rfl za.out (hK _ _ ?_)) | (refine wpList_g (by rfl) fun K hK => wp_load_row_of (some 40) rfl 31 (.tmp 3) rfl (w.heap.size + 1) rfl 31 (ccel ty m k u d (.slice B r.length e)) _ RB Try.underlying31 rfl zb.out (hK _ _ ?_)))
      refine (HS.out _ RL.out RR.out).mono ?_
      rintro e3 w3 ⟨rfl, n3⟩
      replace OA := Lib.hid (OA.out.nx n3)
      replace OB := Lib.hid (OB.out.nx n3)
      replace RA := RA.nx n3
      replace RB := RB.nx n3
      replace RL := Lib.hid (RL.out.nx n3)
      replace RR := Lib.hid (RR.out.nx n3)
      replace NW := Lib.hid (NW.out.trans n3)
      clear n3
      go_wp2_with fail
      refine (same_dec _ _ LA LB _ OA.out OB.out).mono ?_
      rintro e4 w4 ⟨rfl, n4⟩
      replace OA := Lib.hid (OA.out.nx n4)
      replace OB := Lib.hid (OB.out.nx n4)
      replace RA := RA.nx n4
      replace RB := RB.nx n4
      replace RL := Lib.hid (RL.out.nx n4)
      replace RR := Lib.hid (RR.out.nx n4)
      replace NW := Lib.hid (NW.out.trans n4)
      clear n4
      rw [HX.out]
      go_wp2_with fail
      refine (works_any _).mono ?_
      rintro e9 w9 ⟨rfl, n9⟩
      replace NW := Lib.hid (NW.out.trans n9)
      clear n9
      go_wp2_with fail
      go_ret
      exact ⟨rfl, NW.out⟩
  · refine wp_region_nx 13 [[], [], [0, 1], [], [], [3, 4, 2], [2, 5], [6, 5], [7], [7], [8, 9, 7, 7], [10, 7], [7, 11]] [some 19, some 20, some 21, some 22, some 23, some 24, some 25, some 26, some 27, some 28, some 29, some 30, some 31]
      [.eq (.agg (ccel tx n h v b (.slice A l.length c))), .eq (.agg (ccel ty m k u d (.slice B r.length e))), .eq (.bool true), .eq (.agg (ccel tx n h v b (.slice A l.length c))), .eq (.agg (ccel ty m k u d (.slice B r.length e))), .eq (.bool true), .eq (.bool false), .eq (.bool false), .eq (.agg (ccel tx n h v b (.slice A l.length c))), .eq (.agg (ccel tx n h v b (.slice A l.length c))), .eq (.bool true), .eq (.bool false), .eq (.bool false)]
      (by kernel_rfl) (by kernel_rfl) (hord_of (by decide)) (by kernel_rfl) (by decide) (by decide) (htail_of (by decide)) ?_ _ (by rfl) ?_
    · intro x tm wr htm hx i hi hd K hK
      simp only [fillA, List.setIfInBounds_toArray, List.set_cons_zero, List.set_cons_succ] at htm
      subst htm
      have hcs : i = 0 ∨ i = 1 ∨ i = 2 ∨ i = 3 ∨ i = 4 ∨ i = 5 ∨ i = 6 ∨ i = 7 ∨ i = 8 ∨ i = 9 ∨ i = 10 ∨ i = 11 ∨ i = 12 := by omega
      clear hi
      rcases hcs with rfl | rfl | rfl | rfl | rfl | rfl | rfl | rfl | rfl | rfl | rfl | rfl | rfl
      · exact wpOp_of rfl rfl (wp_load_row_of (some 19) rfl 31 (.tmp 2) rfl (w.heap.size) rfl 31 (ccel tx n h v b (.slice A l.length c)) _ (RA.nx hx) Try.underlying31 rfl za.out (hK _ _ rfl (Nx.refl _)))
      · exact wpOp_of rfl rfl (wp_load_row_of (some 20) rfl 31 (.tmp 3) rfl (w.heap.size + 1) rfl 31 (ccel ty m k u d (.slice B r.length e)) _ (RB.nx hx) Try.underlying31 rfl zb.out (hK _ _ rfl (Nx.refl _)))
      · have e0 : x 0 = .agg (ccel tx n h v b (.slice A l.length c)) := hd 0 (by decide)
        have e1 : x 1 = .agg (ccel ty m k u d (.slice B r.length e)) := hd 1 (by decide)
        generalize x 0 = y0 at e0 hK ⊢
        subst e0
        generalize x 1 = y1 at e1 hK ⊢
        subst e1
        refine wpOp_of rfl rfl (wp_call_of (some 21) rfl 28 #[(.agg (ccel tx n h v b (.slice A l.length c))), (.agg (ccel ty m k u d (.slice B r.length e)))] (by kernel_rfl) (.bool true) ?_ (fun w' h => hK _ w' rfl h))
        exact HS.out wr (RL.out.nx hx) (RR.out.nx hx)
      · exact wpOp_of rfl rfl (wp_load_row_of (some 22) rfl 31 (.tmp 2) rfl (w.heap.size) rfl 31 (ccel tx n h v b (.slice A l.length c)) _ (RA.nx hx) Try.underlying31 rfl za.out (hK _ _ rfl (Nx.refl _)))
      · exact wpOp_of rfl rfl (wp_load_row_of (some 23) rfl 31 (.tmp 3) rfl (w.heap.size + 1) rfl 31 (ccel ty m k u d (.slice B r.length e)) _ (RB.nx hx) Try.underlying31 rfl zb.out (hK _ _ rfl (Nx.refl _)))
      · have e3 : x 3 = .agg (ccel tx n h v b (.slice A l.length c)) := hd 3 (by decide)
        have e4 : x 4 = .agg (ccel ty m k u d (.slice B r.length e)) := hd 4 (by decide)
        have e2 : x 2 = .bool true := hd 2 (by decide)
        generalize x 3 = y3 at e3 hK ⊢
        subst e3
        generalize x 4 = y4 at e4 hK ⊢
        subst e4
        generalize x 2 = y2 at e2 hK ⊢
        subst e2
        refine wpOp_of rfl rfl (wp_call_of (some 24) rfl 25 #[(.agg (ccel tx n h v b (.slice A l.length c))), (.agg (ccel ty m k u d (.slice B r.length e)))] (by kernel_rfl) (.bool true) ?_ (fun w' h => hK _ w' rfl h))
        exact HRS.out wr (RL.out.nx hx) (RR.out.nx hx)
      · have e2 : x 2 = .bool true := hd 2 (by decide)
        have e5 : x 5 = .bool true := hd 5 (by decide)
        generalize x 2 = y2 at e2 hK ⊢
        subst e2
        generalize x 5 = y5 at e5 hK ⊢
        subst e5
        exact wpOp_of rfl rfl (wp_val_of (some 25) rfl (.bool false) (by kernel_rfl) (hK _ _ rfl (Nx.refl _)))
      · have e6 : x 6 = .bool false := hd 6 (by decide)
        have e5 : x 5 = .bool true := hd 5 (by decide)
        generalize x 6 = y6 at e6 hK ⊢
        subst e6
        generalize x 5 = y5 at e5 hK ⊢
        subst e5
        exact wpOp_of rfl rfl (wp_val_of (some 26) rfl (.bool false) (by kernel_rfl) (hK _ _ rfl (Nx.refl _)))
      · have e7 : x 7 = .bool false := hd 7 (by decide)
        generalize x 7 = y7 at e7 hK ⊢
        subst e7
        exact wpOp_g rfl (by rfl) (wp_load_row_of (some 27) rfl 31 (.tmp 2) rfl (w.heap.size) rfl 31 (ccel tx n h v b (.slice A l.length c)) _ (RA.nx hx) Try.underlying31 rfl za.out (hK _ _ rfl (Nx.refl _)))
      · have e7 : x 7 = .bool false := hd 7 (by decide)
        generalize x 7 = y7 at e7 hK ⊢
        subst e7
        exact wpOp_g rfl (by rfl) (wp_load_row_of (some 28) rfl 31 (.tmp 2) rfl (w.heap.size) rfl 31 (ccel tx n h v b (.slice A l.length c)) _ (RA.nx hx) Try.underlying31 rfl za.out (hK _ _ rfl (Nx.refl _)))
      · have e8 : x 8 = .agg (ccel tx n h v b (.slice A l.length c)) := hd 8 (by decide)
        have e9 : x 9 = .agg (ccel tx n h v b (.slice A l.length c)) := hd 9 (by decide)
        have e7 : x 7 = .bool false := hd 7 (by decide)
        generalize x 8 = y8 at e8 hK ⊢
        subst e8
        generalize x 9 = y9 at e9 hK ⊢
        subst e9
        generalize x 7 = y7 at e7 hK ⊢
        subst e7
        refine wpOp_g rfl (by rfl) (wp_call_of (some 29) rfl 28 #[(.agg (ccel tx n h v b (.slice A l.length c))), (.agg (ccel tx n h v b (.slice A l.length c)))] (by kernel_rfl) (.bool true) ?_ (fun w' h => hK _ w' rfl h))
        exact HSA.out wr (RL.out.nx hx)
      · have e10 : x 10 = .bool true := hd 10 (by decide)
        have e7 : x 7 = .bool false := hd 7 (by decide)
        generalize x 10 = y10 at e10 hK ⊢
        subst e10
        generalize x 7 = y7 at e7 hK ⊢
        subst e7
        exact wpOp_g rfl (by rfl) (wp_val_of (some 30) rfl (.bool false) (by kernel_rfl) (hK _ _ rfl (Nx.refl _)))
      · have e7 : x 7 = .bool false := hd 7 (by decide)
        have e11 : x 11 = .bool false := hd 11 (by decide)
        generalize x 7 = y7 at e7 hK ⊢
        subst e7
        generalize x 11 = y11 at e11 hK ⊢
        subst e11
        exact wpOp_of rfl rfl (wp_val_of (some 31) rfl (.bool false) (by kernel_rfl) (hK _ _ rfl (Nx.refl _)))
    · intro x tm wr htm hx hv
      simp only [fillA, List.setIfInBounds_toArray, List.set_cons_zero, List.set_cons_succ] at htm
      subst htm
      have e12 : x 12 = .bool false := hv 12 (by decide)
      rw [e12]
      refine wpList_nil ?_
      clear hv
      replace OA := Lib.hid (OA.out.nx hx)
      replace OB := Lib.hid (OB.out.nx hx)
      replace RA := RA.nx hx
      replace RB := RB.nx hx
      replace RL := Lib.hid (RL.out.nx hx)
      replace RR := Lib.hid (RR.out.nx hx)
      replace NW := Lib.hid (NW.out.trans hx)
      clear hx
      rcases HE1.out with ⟨rfl, h1⟩ | ⟨rfl, h1⟩
      · clear h1 HE1 HE2
        go_wp2_with fail
        refine (works_any _).mono ?_
        rintro e9 w9 ⟨rfl, n9⟩
        replace NW := Lib.hid (NW.out.trans n9)
        clear n9
        go_wp2_with fail
        go_ret
        exact ⟨rfl, NW.out⟩
      rcases HE2.out with ⟨rfl, h2⟩ | ⟨rfl, h2⟩
      · clear h1 h2 HE1 HE2
        go_wp2_with fail
        refine (works_any _).mono ?_
        rintro e9 w9 ⟨rfl, n9⟩
        replace NW := Lib.hid (NW.out.trans n9)
        clear n9
        go_wp2_with fail
        go_ret
        exact ⟨rfl, NW.out⟩
      have HX := Lib.hid (HEQ.out h1 h2)
      clear h1 h2 HE1 HE2 HEQ
      go_wp2_with (first | go_skip | (refine wpList_g (by rfl) fun K hK => wp_load_row_of (some 39) rfl 31 (.tmp 2) rfl (w.heap.size) rfl 31 (ccel tx n h v b (.slice A l.length c)) _ RA Try.underlying31 rfl za.out (hK _ _ ?_)) | (refine wpList_g (by rfl) fun K hK => wp_load_row_of (some 40) rfl 31 (.tmp 3) rfl (w.heap.size + 1) rfl 31 (ccel ty m k u d (.slice B r.length e)) _ RB Try.underlying31 rfl zb.out (hK _ _ ?_)))
      refine (HS.out _ RL.out RR.out).mono ?_
      rintro e3 w3 ⟨rfl, n3⟩
      replace OA := Lib.hid (OA.out.nx n3)
      replace OB := Lib.hid (OB.out.nx n3)
      replace RA := RA.nx n3
      replace RB := RB.nx n3
      replace RL := Lib.hid (RL.out.nx n3)
      replace RR := Lib.hid (RR.out.nx n3)
      replace NW := Lib.hid (NW.out.trans n3)
      clear n3
      go_wp2_with fail
      refine (same_dec _ _ LA LB _ OA.out OB.out).mono ?_
      rintro e4 w4 ⟨rfl, n4⟩
      replace OA := Lib.hid (OA.out.nx n4)
      replace OB := Lib.hid (OB.out.nx n4)
      replace RA := RA.nx n4
      replace RB := RB.nx n4
      replace RL := Lib.hid (RL.out.nx n4)
      replace RR := Lib.hid (RR.out.nx n4)
      replace NW := Lib.hid (NW.out.trans n4)
      clear n4
      rw [HX.out]
      go_wp2_with fail
      refine (works_any _).mono ?_
      rintro e9 w9 ⟨rfl, n9⟩
      replace NW := Lib.hid (NW.out.trans n9)
      clear n9
      go_wp2_with fail
      go_ret
      exact ⟨rfl, NW.out⟩
end Go.Proofs.Ytniaiglfgknfiaa