/- THE REFERENCE OF LAYER 3: Over of nothing; Div. -/
import Derived.Test.YtggemncdnclhnaaRefOver
import Derived.Test.YtggemncdnclhnaaRefOf
import Derived.BigRegion
namespace Go.Proofs.Ytggemncdnclhnaa
open Go.RowKit
set_option linter.unusedVariables false
set_option linter.unusedSimpArgs false

set_option maxHeartbeats 4000000 in
set_option maxRecDepth 100000 in
theorem refOver_no (a : Nat) (w : World) :
    Calls Try.prog 33 #[.agg #[.int .u64 (lim a 0 : Int), .int .u64 (lim a 1 : Int), .int .u64 (lim a 2 : Int), .int .u64 (lim a 3 : Int)], .agg #[.int .u64 0, .int .u64 0, .int .u64 0, .int .u64 0]] w fun e w' => e = .returned (.tuple #[.agg #[.int .u64 0, .int .u64 0, .int .u64 0, .int .u64 0], .agg #[.int .u64 0, .int .u64 0, .int .u64 0, .int .u64 0], .int .i64 2]) ∧ Nx w w' := by
  have heq0 : ∀ w, (Op.equalIn 10000 24 (.agg #[.int .u64 0, .int .u64 0, .int .u64 0, .int .u64 0]) (.agg #[.int .u64 0, .int .u64 0, .int .u64 0, .int .u64 0])).run Try.prog w = .ok true w := fun w => by
    have h := eqU 0 0 (by decide) (by decide) w
    obtain ⟨z0, z1, z2, z3⟩ := lim_nought
    rw [z0, z1, z2, z3] at h
    exact h
  go_enter Try.func33, Try.ntmps33
  go_wp2
  go_region
  all_goals
    go_wp2
  all_goals
    exact bodyPost_ret (v := .tuple #[.agg #[.int .u64 0, .int .u64 0, .int .u64 0, .int .u64 0], .agg #[.int .u64 0, .int .u64 0, .int .u64 0, .int .u64 0], .int .i64 2]) (by simp [results, Try.results33, go_sem]) rfl
      ⟨rfl, by repeat (first | exact Nx.refl _ | with_reducible apply Nx.drew | with_reducible apply Nx.alloc | with_reducible refine Nx.setAt ?_ _ (by omega))⟩
theorem refOver_any (a b : Nat) (w : World) (ha : a < top) (hb : b < top) :
    Calls Try.prog 33 #[.agg #[.int .u64 (lim a 0 : Int), .int .u64 (lim a 1 : Int), .int .u64 (lim a 2 : Int), .int .u64 (lim a 3 : Int)], .agg #[.int .u64 (lim b 0 : Int), .int .u64 (lim b 1 : Int), .int .u64 (lim b 2 : Int), .int .u64 (lim b 3 : Int)]] w fun e w' => e = .returned (.tuple #[.agg #[.int .u64 (lim (overQ a b) 0 : Int), .int .u64 (lim (overQ a b) 1 : Int), .int .u64 (lim (overQ a b) 2 : Int), .int .u64 (lim (overQ a b) 3 : Int)], .agg #[.int .u64 (lim (overR a b) 0 : Int), .int .u64 (lim (overR a b) 1 : Int), .int .u64 (lim (overR a b) 2 : Int), .int .u64 (lim (overR a b) 3 : Int)], .int .i64 (overE b)]) ∧ Nx w w' := by
  rcases Nat.eq_zero_or_pos b with rfl | hp
  · obtain ⟨z0, z1, z2, z3⟩ := lim_nought
    have e1 : overQ a 0 = 0 := rfl
    have e2 : overR a 0 = 0 := rfl
    rw [e1, e2, z0, z1, z2, z3]
    exact refOver_no a w
  · have e1 : overQ a b = a / b := if_neg (by omega)
    have e2 : overR a b = a % b := if_neg (by omega)
    have e3 : overE b = 0 := if_neg (by omega)
    rw [e1, e2, e3]
    exact refOver_yes a b w ha hb hp

def Div1 (a n q r : Nat) (er : Int) (gA gZ : Nat) (w W : World) (_u : Value) (L : Nat → Bool) (ac : Act) (wr : World) : Prop :=
  ∃ x0 x1 x2 x3 x4 x5 x6 x7 x8 x9 x12 : Value, ac = ⟨#[Value.agg #[Value.int IntKind.u64 ↑(lim a 0), Value.int IntKind.u64 ↑(lim a 1), Value.int IntKind.u64 ↑(lim a 2), Value.int IntKind.u64 ↑(lim a 3)], Value.int IntKind.u64 ↑n, Value.pointer (some { block := gA, off := 0 }), undef, Value.pointer (some { block := gZ, off := 0 }), Value.int IntKind.u64 0, Value.int IntKind.i64 0, x8, x9, x12, x4, x0, x1, x2, x3, x5, x6, x7, undef, undef, undef, undef], []⟩ ∧ Nx w wr ∧ W.heap.size ≤ wr.heap.size ∧ Row wr gA #[.int .u64 (lim a 0 : Int), .int .u64 (lim a 1 : Int), .int .u64 (lim a 2 : Int), .int .u64 (lim a 3 : Int)] 24 ∧ Row wr gZ #[.int .u64 0, .int .u64 0, .int .u64 0, .int .u64 0] 24 ∧ (L 0 = true → x0 = .agg #[.int .u64 (lim a 0 : Int), .int .u64 (lim a 1 : Int), .int .u64 (lim a 2 : Int), .int .u64 (lim a 3 : Int)]) ∧ (L 1 = true → x1 = .int .u64 (n : Int)) ∧ (L 2 = true → x2 = .agg #[.int .u64 (lim n 0 : Int), .int .u64 (lim n 1 : Int), .int .u64 (lim n 2 : Int), .int .u64 (lim n 3 : Int)]) ∧ (L 3 = true → x3 = .tuple #[.agg #[.int .u64 (lim q 0 : Int), .int .u64 (lim q 1 : Int), .int .u64 (lim q 2 : Int), .int .u64 (lim q 3 : Int)], .agg #[.int .u64 (lim r 0 : Int), .int .u64 (lim r 1 : Int), .int .u64 (lim r 2 : Int), .int .u64 (lim r 3 : Int)], .int .i64 er]) ∧ (L 4 = true → x4 = .tuple #[.agg #[.int .u64 (lim q 0 : Int), .int .u64 (lim q 1 : Int), .int .u64 (lim q 2 : Int), .int .u64 (lim q 3 : Int)], .agg #[.int .u64 (lim r 0 : Int), .int .u64 (lim r 1 : Int), .int .u64 (lim r 2 : Int), .int .u64 (lim r 3 : Int)], .int .i64 er]) ∧ (L 5 = true → x5 = .agg #[.int .u64 (lim q 0 : Int), .int .u64 (lim q 1 : Int), .int .u64 (lim q 2 : Int), .int .u64 (lim q 3 : Int)]) ∧ (L 6 = true → x6 = .agg #[.int .u64 (lim r 0 : Int), .int .u64 (lim r 1 : Int), .int .u64 (lim r 2 : Int), .int .u64 (lim r 3 : Int)]) ∧ (L 7 = true → x7 = .int .i64 er) ∧ (L 8 = true → ∃ g, x8 = .pointer (some ⟨g, 0, none⟩) ∧ W.heap.size ≤ g ∧ Row wr g (if L 10 = true then #[.int .u64 (lim q 0 : Int), .int .u64 (lim q 1 : Int), .int .u64 (lim q 2 : Int), .int .u64 (lim q 3 : Int)] else #[.int .u64 0, .int .u64 0, .int .u64 0, .int .u64 0]) 24) ∧ (L 9 = true → ∃ g, x9 = .pointer (some ⟨g, 0, none⟩) ∧ W.heap.size ≤ g ∧ Row wr g (if L 11 = true then #[.int .u64 (lim r 0 : Int), .int .u64 (lim r 1 : Int), .int .u64 (lim r 2 : Int), .int .u64 (lim r 3 : Int)] else #[.int .u64 0, .int .u64 0, .int .u64 0, .int .u64 0]) 24) ∧ (L 12 = true → x12 = .int .i64 er) ∧ (L 8 = true → L 9 = true → x8 ≠ x9) ∧ (L 10 = true → L 8 = true) ∧ (L 11 = true → L 9 = true)

set_option maxHeartbeats 4000000 in
set_option maxRecDepth 100000 in
theorem refDiv_any (a n : Nat) (w : World) (ha : a < top) (hn : (n : Int) ≤ 18446744073709551615) :
    Calls Try.prog 35 #[.agg #[.int .u64 (lim a 0 : Int), .int .u64 (lim a 1 : Int), .int .u64 (lim a 2 : Int), .int .u64 (lim a 3 : Int)], .int .u64 (n : Int)] w fun e w' => e = .returned (.tuple #[.agg #[.int .u64 (lim (overQ a n) 0 : Int), .int .u64 (lim (overQ a n) 1 : Int), .int .u64 (lim (overQ a n) 2 : Int), .int .u64 (lim (overQ a n) 3 : Int)], .int .u64 ((lim (overR a n) 0 : Nat) : Int), .int .i64 (overE n)]) ∧ Nx w w' := by
  have hnt : n < top := Nat.lt_of_lt_of_le (show n < 18446744073709551616 by omega) (by decide)
  have HOV := Lib.hid (fun w => refOver_any a n w ha hnt)
  have HOF := Lib.hid (fun w => refOf_any n w hn)
  generalize hq : overQ a n = q at *
  generalize hr : overR a n = r at *
  generalize he : overE n = er at *
  replace hq := Lib.hid hq
  replace hr := Lib.hid hr
  replace he := Lib.hid he
  clear ha hnt
  go_enter Try.func35, Try.ntmps35
  go_wp2_with fail
  have K00 := (Row.new w #[.int .u64 (lim a 0 : Int), .int .u64 (lim a 1 : Int), .int .u64 (lim a 2 : Int), .int .u64 (lim a 3 : Int)] 24 _ rfl).alloc (.cells #[.int .u64 0, .int .u64 0, .int .u64 0, .int .u64 0] 24)
  have K10 := Row.new2 w (.cells #[.int .u64 (lim a 0 : Int), .int .u64 (lim a 1 : Int), .int .u64 (lim a 2 : Int), .int .u64 (lim a 3 : Int)] 24) #[.int .u64 0, .int .u64 0, .int .u64 0, .int .u64 0] 24
  have HN0 := Lib.hid (((Nx.refl w).alloc (.cells #[.int .u64 (lim a 0 : Int), .int .u64 (lim a 1 : Int), .int .u64 (lim a 2 : Int), .int .u64 (lim a 3 : Int)] 24)).alloc (.cells #[.int .u64 0, .int .u64 0, .int .u64 0, .int .u64 0] 24))
  have HG1 := Lib.hid (show w.heap.size ≤ w.heap.size + 1 from Nat.le_succ _)
  generalize ((w.alloc (.cells #[.int .u64 (lim a 0 : Int), .int .u64 (lim a 1 : Int), .int .u64 (lim a 2 : Int), .int .u64 (lim a 3 : Int)] 24)).alloc (.cells #[.int .u64 0, .int .u64 0, .int .u64 0, .int .u64 0] 24)) = W at *
  generalize w.heap.size + 1 = gZ at *
  obtain ⟨gA, hgA⟩ : ∃ gA, w.heap.size = gA := ⟨_, rfl⟩
  have hgA' := Lib.hid hgA
  rw [hgA] at K00 ⊢
  clear hgA
  have HW0 := HN0.out.size
  have HK0 := K00.lt
  have HK1 := K10.lt
  refine wp_region_inv [[], [], [1], [0, 2, 2], [3], [4], [4], [4], [], [], [8, 5, 3, 0, 1, 2, 3, 4, 5, 8, 9], [9, 6, 10, 0, 1, 2, 3, 4, 5, 6, 8, 9, 10], [7, 11, 0, 1, 2, 3, 4, 5, 6, 7, 8, 9, 10, 11]] (Div1 a n q r er gA gZ w W undef) (by kernel_rfl) (by kernel_rfl) (hord_of (by decide)) ?_ ?_ ?_
  · exact ⟨_, _, _, _, _, _, _, _, _, _, _, rfl, HN0.out.drew, Nat.le_refl _, K00.drew, K10.drew, (fun h => by cases h), (fun h => by cases h), (fun h => by cases h), (fun h => by cases h), (fun h => by cases h), (fun h => by cases h), (fun h => by cases h), (fun h => by cases h), (fun h => by cases h), (fun h => by cases h), (fun h => by cases h), (fun h => by cases h), (fun h => by cases h), (fun h => by cases h)⟩
  · rintro L ac wr ⟨x0, x1, x2, x3, x4, x5, x6, x7, x8, x9, x12, rfl, HN, HZ, K0, K1, F0, F1, F2, F3, F4, F5, F6, F7, F8, F9, F12, D8_9, S10, S11⟩ i hi hL hd K hK
    have hi' : i < 13 := hi
    have hcs : i = 0 ∨ i = 1 ∨ i = 2 ∨ i = 3 ∨ i = 4 ∨ i = 5 ∨ i = 6 ∨ i = 7 ∨ i = 8 ∨ i = 9 ∨ i = 10 ∨ i = 11 ∨ i = 12 := by omega
    clear hi hi'
    rcases hcs with rfl | rfl | rfl | rfl | rfl | rfl | rfl | rfl | rfl | rfl | rfl | rfl | rfl
    · refine wpOp_of rfl rfl (wp_load_row 24 (.tmp 2) rfl gA rfl 24 #[.int .u64 (lim a 0 : Int), .int .u64 (lim a 1 : Int), .int .u64 (lim a 2 : Int), .int .u64 (lim a 3 : Int)] (0, 0) _ K0 Try.underlying24 rfl (hsU a) (hK _ _ ?_))
      exact ⟨_, x1, x2, x3, x4, x5, x6, x7, x8, x9, x12, rfl, HN, HZ, K0, K1, (fun _ => rfl), F1, F2, F3, F4, F5, F6, F7, F8, F9, F12, D8_9, S10, S11⟩
    · refine wpOp_of rfl rfl (wp_val_of (some 12) rfl (.int .u64 (n : Int)) (by kernel_rfl) (hK _ _ ?_))
      exact ⟨x0, _, x2, x3, x4, x5, x6, x7, x8, x9, x12, rfl, HN, HZ, K0, K1, F0, (fun _ => rfl), F2, F3, F4, F5, F6, F7, F8, F9, F12, D8_9, S10, S11⟩
    · have e1 := F1 (hd 1 (by decide))
      subst e1
      refine wpOp_of rfl rfl (wp_call_of (some 13) rfl 16 #[.int .u64 (n : Int)] (by kernel_rfl) _ (HOF.out wr) (fun w' hn => hK _ _ ?_))
      exact ⟨x0, _, _, x3, x4, x5, x6, x7, x8, x9, x12, rfl, HN.trans hn, Nat.le_trans HZ hn.size, K0.nx hn, K1.nx hn, F0, F1, (fun _ => rfl), F3, F4, F5, F6, F7, (fun h => by obtain ⟨g, e, hg, r⟩ := F8 h; exact ⟨g, e, hg, r.nx hn⟩), (fun h => by obtain ⟨g, e, hg, r⟩ := F9 h; exact ⟨g, e, hg, r.nx hn⟩), F12, D8_9, S10, S11⟩
    · have e0 := F0 (hd 0 (by decide))
      subst e0
      have e2 := F2 (hd 2 (by decide))
      subst e2
      refine wpOp_of rfl rfl (wp_call_of (some 14) rfl 33 #[.agg #[.int .u64 (lim a 0 : Int), .int .u64 (lim a 1 : Int), .int .u64 (lim a 2 : Int), .int .u64 (lim a 3 : Int)], .agg #[.int .u64 (lim n 0 : Int), .int .u64 (lim n 1 : Int), .int .u64 (lim n 2 : Int), .int .u64 (lim n 3 : Int)]] (by kernel_rfl) _ (HOV.out wr) (fun w' hn => hK _ _ ?_))
      exact ⟨_, x1, _, _, x4, x5, x6, x7, x8, x9, x12, rfl, HN.trans hn, Nat.le_trans HZ hn.size, K0.nx hn, K1.nx hn, F0, F1, F2, (fun _ => rfl), F4, F5, F6, F7, (fun h => by obtain ⟨g, e, hg, r⟩ := F8 h; exact ⟨g, e, hg, r.nx hn⟩), (fun h => by obtain ⟨g, e, hg, r⟩ := F9 h; exact ⟨g, e, hg, r.nx hn⟩), F12, D8_9, S10, S11⟩
    · have e3 := F3 (hd 3 (by decide))
      subst e3
      refine wpOp_of rfl rfl (wp_val_of (some 10) rfl (.tuple #[.agg #[.int .u64 (lim q 0 : Int), .int .u64 (lim q 1 : Int), .int .u64 (lim q 2 : Int), .int .u64 (lim q 3 : Int)], .agg #[.int .u64 (lim r 0 : Int), .int .u64 (lim r 1 : Int), .int .u64 (lim r 2 : Int), .int .u64 (lim r 3 : Int)], .int .i64 er]) (by kernel_rfl) (hK _ _ ?_))
      exact ⟨x0, x1, x2, _, _, x5, x6, x7, x8, x9, x12, rfl, HN, HZ, K0, K1, F0, F1, F2, F3, (fun _ => rfl), F5, F6, F7, F8, F9, F12, D8_9, S10, S11⟩
    · have e4 := F4 (hd 4 (by decide))
      subst e4
      refine wpOp_of rfl rfl (wp_val_of (some 15) rfl (.agg #[.int .u64 (lim q 0 : Int), .int .u64 (lim q 1 : Int), .int .u64 (lim q 2 : Int), .int .u64 (lim q 3 : Int)]) (by kernel_rfl) (hK _ _ ?_))
      exact ⟨x0, x1, x2, x3, _, _, x6, x7, x8, x9, x12, rfl, HN, HZ, K0, K1, F0, F1, F2, F3, F4, (fun _ => rfl), F6, F7, F8, F9, F12, D8_9, S10, S11⟩
    · have e4 := F4 (hd 4 (by decide))
      subst e4
      refine wpOp_of rfl rfl (wp_val_of (some 16) rfl (.agg #[.int .u64 (lim r 0 : Int), .int .u64 (lim r 1 : Int), .int .u64 (lim r 2 : Int), .int .u64 (lim r 3 : Int)]) (by kernel_rfl) (hK _ _ ?_))
      exact ⟨x0, x1, x2, x3, _, x5, _, x7, x8, x9, x12, rfl, HN, HZ, K0, K1, F0, F1, F2, F3, F4, F5, (fun _ => rfl), F7, F8, F9, F12, D8_9, S10, S11⟩
    · have e4 := F4 (hd 4 (by decide))
      subst e4
      refine wpOp_of rfl rfl (wp_val_of (some 17) rfl (.int .i64 er) (by kernel_rfl) (hK _ _ ?_))
      exact ⟨x0, x1, x2, x3, _, x5, x6, _, x8, x9, x12, rfl, HN, HZ, K0, K1, F0, F1, F2, F3, F4, F5, F6, (fun _ => rfl), F8, F9, F12, D8_9, S10, S11⟩
    · have hs : L 10 = false := by
          rcases h : L 10 with _ | _
          · rfl
          · rw [S10 h] at hL; cases hL
      refine wpOp_of rfl rfl (wp_alloc_of (some 7) rfl 24 rfl (#[.int .u64 0, .int .u64 0, .int .u64 0, .int .u64 0]) hzU (hK _ _ ?_))
      exact ⟨x0, x1, x2, x3, x4, x5, x6, x7, _, x9, x12, rfl, HN.alloc _, Nat.le_trans HZ (by rw [alloc_size]; exact Nat.le_succ _), K0.alloc _, K1.alloc _, F0, F1, F2, F3, F4, F5, F6, F7, (fun _ => ⟨_, rfl, HZ, by show Row _ _ (if L 10 = true then _ else _) _; rw [hs]; exact Row.new _ _ _ _ rfl⟩), (fun h => by obtain ⟨g, e, hg, r⟩ := F9 h; exact ⟨g, e, hg, r.alloc _⟩), F12, (fun _ h => by obtain ⟨g, e, hg, r⟩ := F9 h; rw [e]; exact ptr_ne (Nat.ne_of_lt r.lt)), (fun _ => rfl), S11⟩
    · have hs : L 11 = false := by
          rcases h : L 11 with _ | _
          · rfl
          · rw [S11 h] at hL; cases hL
      refine wpOp_of rfl rfl (wp_alloc_of (some 8) rfl 24 rfl (#[.int .u64 0, .int .u64 0, .int .u64 0, .int .u64 0]) hzU (hK _ _ ?_))
      exact ⟨x0, x1, x2, x3, x4, x5, x6, x7, x8, _, x12, rfl, HN.alloc _, Nat.le_trans HZ (by rw [alloc_size]; exact Nat.le_succ _), K0.alloc _, K1.alloc _, F0, F1, F2, F3, F4, F5, F6, F7, (fun h => by obtain ⟨g, e, hg, r⟩ := F8 h; exact ⟨g, e, hg, r.alloc _⟩), (fun _ => ⟨_, rfl, HZ, by show Row _ _ (if L 11 = true then _ else _) _; rw [hs]; exact Row.new _ _ _ _ rfl⟩), F12, (fun h _ => by obtain ⟨g, e, hg, r⟩ := F8 h; rw [e]; exact ptr_ne (Nat.ne_of_gt r.lt)), S10, (fun _ => rfl)⟩
    · have e5 := F5 (hd 5 (by decide))
      subst e5
      obtain ⟨ga, ea, hga, ra⟩ := F8 (hd 8 (by decide))
      obtain ⟨g9, e9', hg9, r9⟩ := F9 (hd 9 (by decide))
      have hne9 : ga ≠ g9 := fun h => D8_9 (hd 8 (by decide)) (hd 9 (by decide)) (by rw [ea, e9', h])
      subst ea e9'
      rw [if_neg (by rw [hL]; decide)] at ra
      refine wpOp_of rfl rfl (wp_store_row 24 (.tmp 7) (.tmp 15) rfl ga (#[.int .u64 (lim q 0 : Int), .int .u64 (lim q 1 : Int), .int .u64 (lim q 2 : Int), .int .u64 (lim q 3 : Int)]) rfl rfl 24 (#[.int .u64 0, .int .u64 0, .int .u64 0, .int .u64 0]) ra (hsU q) rfl (oneU q) (hK _ _ ?_))
      exact ⟨x0, x1, x2, x3, x4, _, x6, x7, _, _, x12, rfl, HN.setRow _ (Nat.le_trans HW0 hga), (by rw [size_setRow]; exact HZ), K0.setRow_other _ (Nat.ne_of_lt (Nat.lt_of_lt_of_le HK0 hga)), K1.setRow_other _ (Nat.ne_of_lt (Nat.lt_of_lt_of_le HK1 hga)), F0, F1, F2, F3, F4, F5, F6, F7, (fun _ => ⟨ga, rfl, hga, ra.setRow _⟩), (fun _ => ⟨g9, rfl, hg9, r9.setRow_other _ (Ne.symm hne9)⟩), F12, D8_9, (fun _ => hd 8 (by decide)), S11⟩
    · have e6 := F6 (hd 6 (by decide))
      subst e6
      obtain ⟨ga, ea, hga, ra⟩ := F9 (hd 9 (by decide))
      obtain ⟨g8, e8', hg8, r8⟩ := F8 (hd 8 (by decide))
      have hne8 : ga ≠ g8 := fun h => D8_9 (hd 8 (by decide)) (hd 9 (by decide)) (by rw [ea, e8', h])
      subst ea e8'
      rw [if_neg (by rw [hL]; decide)] at ra
      refine wpOp_of rfl rfl (wp_store_row 24 (.tmp 8) (.tmp 16) rfl ga (#[.int .u64 (lim r 0 : Int), .int .u64 (lim r 1 : Int), .int .u64 (lim r 2 : Int), .int .u64 (lim r 3 : Int)]) rfl rfl 24 (#[.int .u64 0, .int .u64 0, .int .u64 0, .int .u64 0]) ra (hsU r) rfl (oneU r) (hK _ _ ?_))
      exact ⟨x0, x1, x2, x3, x4, x5, _, x7, _, _, x12, rfl, HN.setRow _ (Nat.le_trans HW0 hga), (by rw [size_setRow]; exact HZ), K0.setRow_other _ (Nat.ne_of_lt (Nat.lt_of_lt_of_le HK0 hga)), K1.setRow_other _ (Nat.ne_of_lt (Nat.lt_of_lt_of_le HK1 hga)), F0, F1, F2, F3, F4, F5, F6, F7, (fun _ => ⟨g8, rfl, hg8, r8.setRow_other _ (Ne.symm hne8)⟩), (fun _ => ⟨ga, rfl, hga, ra.setRow _⟩), F12, D8_9, S10, (fun _ => hd 9 (by decide))⟩
    · have e7 := F7 (hd 7 (by decide))
      subst e7
      refine wpOp_of rfl rfl (wp_val_of (some 9) rfl (.int .i64 er) (by kernel_rfl) (hK _ _ ?_))
      exact ⟨x0, x1, x2, x3, x4, x5, x6, _, x8, x9, _, rfl, HN, HZ, K0, K1, F0, F1, F2, F3, F4, F5, F6, F7, F8, F9, (fun _ => rfl), D8_9, S10, S11⟩
  · rintro L ac wr ⟨x0, x1, x2, x3, x4, x5, x6, x7, x8, x9, x12, rfl, HN, HZ, K0, K1, F0, F1, F2, F3, F4, F5, F6, F7, F8, F9, F12, D8_9, S10, S11⟩ hall
    have hall' : ∀ i, i < 13 → L i = true := hall
    have e0 := F0 (hall' 0 (by decide))
    have e1 := F1 (hall' 1 (by decide))
    have e2 := F2 (hall' 2 (by decide))
    have e3 := F3 (hall' 3 (by decide))
    have e4 := F4 (hall' 4 (by decide))
    have e5 := F5 (hall' 5 (by decide))
    have e6 := F6 (hall' 6 (by decide))
    have e7 := F7 (hall' 7 (by decide))
    obtain ⟨g8, e8, hg8, r8⟩ := F8 (hall' 8 (by decide))
    obtain ⟨g9, e9, hg9, r9⟩ := F9 (hall' 9 (by decide))
    have e12 := F12 (hall' 12 (by decide))
    rw [if_pos (hall' 10 (by decide))] at r8
    rw [if_pos (hall' 11 (by decide))] at r9
    subst e0 e1 e2 e3 e4 e5 e6 e7 e8 e9 e12
    clear F0 F1 F2 F3 F4 F5 F6 F7 F8 F9 F12 D8_9 S10 S11 hall hall'
    obtain ⟨a0, a1, a2, a3⟩ := r8.four
    obtain ⟨b0, b1, b2, b3⟩ := r9.four
    obtain ⟨z0, z1, z2, z3⟩ := K1.zero4
    have fz := K1.frozen
    have NF := Lib.hid HN
    have hGZ := HG1.out
    have hne : ¬ gZ = g9 := by omega
    have hne2 : ¬ g9 = gZ := by omega
    have b0' : ∀ v, (wr.setCell ⟨gZ, 0, none⟩ v).cell? ⟨g9, 0, none⟩ = some (.int .u64 (lim r 0 : Int)) := fun v => (r9.other gZ 0 v hne2).four.1
    clear HN K0 K1 K00 K10 HK0 HK1 HW0 HN0 r8 r9 HZ HOV HOF
    go_wp2_with fail
    go_region
    all_goals
      go_wp2
      exact bodyPost_ret (v := .tuple #[.agg #[.int .u64 (lim q 0 : Int), .int .u64 (lim q 1 : Int), .int .u64 (lim q 2 : Int), .int .u64 (lim q 3 : Int)], .int .u64 ((lim r 0 : Nat) : Int), .int .i64 er]) (by simp [results, Try.results35, go_sem, z0, z1, z2, z3, fz]) rfl
        ⟨rfl, by repeat (first | with_reducible exact NF.out | with_reducible apply Nx.drew | with_reducible refine Nx.setAt ?_ _ hGZ)⟩
end Go.Proofs.Ytggemncdnclhnaa
