/- CONTRACTS OF LAYER 4: scaled. -/
import Derived.Test.YtggemncdnclhnaaTar4
import Derived.Test.YtggemncdnclhnaaBigDiv
namespace Go.Proofs.Ytggemncdnclhnaa
open Go.RowKit
set_option linter.unusedVariables false
set_option linter.unusedSimpArgs false

/-- A target, times a span, divided by the one that is wanted; and whether that is above. -/
def scN (t sp : Nat) : Nat := addN (mulN (t / 480) sp) (t % 480 * sp / 480)
def scB (t sp : Nat) : Bool := mulH (t / 480) sp != 0 || addB (mulN (t / 480) sp) (t % 480 * sp / 480)
theorem div_480 (t : Nat) (w : World) (ht : t < top) : Calls Try.prog 34 #[.agg #[.int .u64 (lim t 0 : Int), .int .u64 (lim t 1 : Int), .int .u64 (lim t 2 : Int), .int .u64 (lim t 3 : Int)], .int .u64 480] w fun e w' => e = .returned (.tuple #[.agg #[.int .u64 (lim (t / 480) 0 : Int), .int .u64 (lim (t / 480) 1 : Int), .int .u64 (lim (t / 480) 2 : Int), .int .u64 (lim (t / 480) 3 : Int)], .int .u64 ((t % 480 : Nat) : Int), .int .i64 0]) ∧ Nx w w' :=
  div_yes t 480 w ht (by omega) (by omega)
theorem mulN_lt' (a n : Nat) : mulN a n < top := Nat.mod_lt _ (by decide)
def Scaled3 (t sp q r p h s x : Nat) (v : Bool) (gA gZ gQ gP : Nat) (w W : World) (_u : Value) (L : Nat → Bool) (ac : Act) (wr : World) : Prop :=
  ∃ x0 x1 x2 x3 x4 x5 x6 x7 x8 x9 x10 x12 : Value, ac = ⟨#[Value.agg #[Value.int IntKind.u64 ↑(lim t 0), Value.int IntKind.u64 ↑(lim t 1), Value.int IntKind.u64 ↑(lim t 2), Value.int IntKind.u64 ↑(lim t 3)], Value.int IntKind.u64 ↑sp, Value.pointer (some { block := gA, off := 0 }), undef, Value.pointer (some { block := gZ, off := 0 }), Value.bool false, Value.pointer (some { block := gQ, off := 0 }), Value.int IntKind.u64 ↑r, Value.int IntKind.i64 0, Value.pointer (some { block := gP, off := 0 }), Value.int IntKind.u64 ↑h, x10, x12, Value.tuple #[Value.agg #[Value.int IntKind.u64 ↑(lim q 0), Value.int IntKind.u64 ↑(lim q 1), Value.int IntKind.u64 ↑(lim q 2), Value.int IntKind.u64 ↑(lim q 3)], Value.int IntKind.u64 ↑r, Value.int IntKind.i64 0], Value.agg #[Value.int IntKind.u64 ↑(lim t 0), Value.int IntKind.u64 ↑(lim t 1), Value.int IntKind.u64 ↑(lim t 2), Value.int IntKind.u64 ↑(lim t 3)], Value.tuple #[Value.agg #[Value.int IntKind.u64 ↑(lim q 0), Value.int IntKind.u64 ↑(lim q 1), Value.int IntKind.u64 ↑(lim q 2), Value.int IntKind.u64 ↑(lim q 3)], Value.int IntKind.u64 ↑r, Value.int IntKind.i64 0], Value.agg #[Value.int IntKind.u64 ↑(lim q 0), Value.int IntKind.u64 ↑(lim q 1), Value.int IntKind.u64 ↑(lim q 2), Value.int IntKind.u64 ↑(lim q 3)], Value.int IntKind.u64 ↑r, Value.int IntKind.i64 0, Value.tuple #[Value.agg #[Value.int IntKind.u64 ↑(lim p 0), Value.int IntKind.u64 ↑(lim p 1), Value.int IntKind.u64 ↑(lim p 2), Value.int IntKind.u64 ↑(lim p 3)], Value.int IntKind.u64 ↑h], Value.agg #[Value.int IntKind.u64 ↑(lim q 0), Value.int IntKind.u64 ↑(lim q 1), Value.int IntKind.u64 ↑(lim q 2), Value.int IntKind.u64 ↑(lim q 3)], Value.int IntKind.u64 ↑sp, Value.tuple #[Value.agg #[Value.int IntKind.u64 ↑(lim p 0), Value.int IntKind.u64 ↑(lim p 1), Value.int IntKind.u64 ↑(lim p 2), Value.int IntKind.u64 ↑(lim p 3)], Value.int IntKind.u64 ↑h], Value.agg #[Value.int IntKind.u64 ↑(lim p 0), Value.int IntKind.u64 ↑(lim p 1), Value.int IntKind.u64 ↑(lim p 2), Value.int IntKind.u64 ↑(lim p 3)], Value.int IntKind.u64 ↑h, x7, x0, x1, x2, x3, x4, x5, x6, x8, x9, undef, undef, undef, undef, undef, undef], []⟩ ∧ Nx w wr ∧ W.heap.size ≤ wr.heap.size ∧ Row wr gP #[.int .u64 (lim p 0 : Int), .int .u64 (lim p 1 : Int), .int .u64 (lim p 2 : Int), .int .u64 (lim p 3 : Int)] 24 ∧ Row wr gZ #[.int .u64 0, .int .u64 0, .int .u64 0, .int .u64 0] 24 ∧ (L 0 = true → x0 = .agg #[.int .u64 (lim p 0 : Int), .int .u64 (lim p 1 : Int), .int .u64 (lim p 2 : Int), .int .u64 (lim p 3 : Int)]) ∧ (L 1 = true → x1 = .int .u64 (r : Int)) ∧ (L 2 = true → x2 = .int .u64 (sp : Int)) ∧ (L 3 = true → x3 = .int .u64 (IntKind.u64.wrap ((r : Int) * (sp : Int)))) ∧ (L 4 = true → x4 = .int .u64 (IntKind.u64.wrap ((IntKind.u64.wrap ((r : Int) * (sp : Int))).tdiv 480))) ∧ (L 5 = true → x5 = .agg #[.int .u64 (lim x 0 : Int), .int .u64 (lim x 1 : Int), .int .u64 (lim x 2 : Int), .int .u64 (lim x 3 : Int)]) ∧ (L 6 = true → x6 = .tuple #[.agg #[.int .u64 (lim s 0 : Int), .int .u64 (lim s 1 : Int), .int .u64 (lim s 2 : Int), .int .u64 (lim s 3 : Int)], .bool v]) ∧ (L 7 = true → x7 = .tuple #[.agg #[.int .u64 (lim s 0 : Int), .int .u64 (lim s 1 : Int), .int .u64 (lim s 2 : Int), .int .u64 (lim s 3 : Int)], .bool v]) ∧ (L 8 = true → x8 = .agg #[.int .u64 (lim s 0 : Int), .int .u64 (lim s 1 : Int), .int .u64 (lim s 2 : Int), .int .u64 (lim s 3 : Int)]) ∧ (L 9 = true → x9 = .bool v) ∧ (L 10 = true → ∃ g, x10 = .pointer (some ⟨g, 0, none⟩) ∧ W.heap.size ≤ g ∧ Row wr g (if L 11 = true then #[.int .u64 (lim s 0 : Int), .int .u64 (lim s 1 : Int), .int .u64 (lim s 2 : Int), .int .u64 (lim s 3 : Int)] else #[.int .u64 0, .int .u64 0, .int .u64 0, .int .u64 0]) 24) ∧ (L 12 = true → x12 = .bool v) ∧ (L 11 = true → L 10 = true)

set_option maxHeartbeats 8000000 in
set_option maxRecDepth 100000 in
theorem scaled_any (t sp : Nat) (w : World) (ht : t < top) (hs : sp ≤ 1920) :
    Calls Try.prog 63 #[.agg #[.int .u64 (lim t 0 : Int), .int .u64 (lim t 1 : Int), .int .u64 (lim t 2 : Int), .int .u64 (lim t 3 : Int)], .int .u64 (sp : Int)] w fun e w' => e = .returned (.tuple #[.agg #[.int .u64 (lim (scN t sp) 0 : Int), .int .u64 (lim (scN t sp) 1 : Int), .int .u64 (lim (scN t sp) 2 : Int), .int .u64 (lim (scN t sp) 3 : Int)], .bool (scB t sp)]) ∧ Nx w w' := by
  have HDIV := Lib.hid (fun w => div_480 t w ht)
  have HMUL := Lib.hid (fun w => mul_any (t / 480) sp w (Nat.lt_of_le_of_lt (Nat.div_le_self _ _) ht) (by omega))
  have hrs : t % 480 * sp ≤ 479 * 1920 := Nat.mul_le_mul (by omega) hs
  have hx : IntKind.u64.wrap ((IntKind.u64.wrap (((t % 480 : Nat) : Int) * (sp : Int))).tdiv 480) = ((t % 480 * sp / 480 : Nat) : Int) := by
    have hm : (((t % 480 : Nat) : Int) * (sp : Int)) = ((t % 480 * sp : Nat) : Int) := rfl
    rw [hm]
    generalize t % 480 * sp = z at *
    rw [wrap_small z (by omega), Int.tdiv_eq_ediv_of_nonneg (by omega)]
    have : (z : Int) / 480 = ((z / 480 : Nat) : Int) := rfl
    rw [this, wrap_small _ (by omega)]
  have HOF : Hid (∀ w, Calls Try.prog 15 #[.int .u64 (IntKind.u64.wrap ((IntKind.u64.wrap (((t % 480 : Nat) : Int) * (sp : Int))).tdiv 480))] w fun e w' => e = .returned (.agg #[.int .u64 (lim (t % 480 * sp / 480) 0 : Int), .int .u64 (lim (t % 480 * sp / 480) 1 : Int), .int .u64 (lim (t % 480 * sp / 480) 2 : Int), .int .u64 (lim (t % 480 * sp / 480) 3 : Int)]) ∧ Nx w w') := Lib.hid (fun w => by
    rw [hx]
    exact of_any _ w (by generalize t % 480 * sp = z at *; omega))
  have HADD := Lib.hid (fun w => add_any (mulN (t / 480) sp) (t % 480 * sp / 480) w (mulN_lt' _ _) (Nat.lt_of_lt_of_le (show t % 480 * sp / 480 < 18446744073709551616 by generalize t % 480 * sp = z at *; omega) (by decide)))
  have HS1 : Hid (addN (mulN (t / 480) sp) (t % 480 * sp / 480) = scN t sp) := Lib.hid rfl
  have HS2 : Hid ((mulH (t / 480) sp != 0 || addB (mulN (t / 480) sp) (t % 480 * sp / 480)) = scB t sp) := Lib.hid rfl
  rw [HS1.out] at HADD
  clear HS1 ht hrs hx
  generalize scN t sp = s at *
  generalize addB (mulN (t / 480) sp) (t % 480 * sp / 480) = v at *
  generalize t % 480 * sp / 480 = x at *
  generalize mulN (t / 480) sp = p at *
  generalize mulH (t / 480) sp = h at *
  generalize t / 480 = q at *
  generalize t % 480 = r at *
  have hsp := Lib.hid hs
  clear hs
  go_enter Try.func63, Try.ntmps63
  go_wp2_with fail
  refine (HDIV.out _).mono ?_
  rintro e w1 ⟨rfl, hb1⟩
  have RZ := ((Row.new2 w (.cells #[.int .u64 (lim t 0 : Int), .int .u64 (lim t 1 : Int), .int .u64 (lim t 2 : Int), .int .u64 (lim t 3 : Int)] 24) #[.int .u64 0, .int .u64 0, .int .u64 0, .int .u64 0] 24).nx hb1).alloc (.cells #[.int .u64 (lim q 0 : Int), .int .u64 (lim q 1 : Int), .int .u64 (lim q 2 : Int), .int .u64 (lim q 3 : Int)] 24)
  have HN0 := Lib.hid (((((Nx.refl w).alloc (.cells #[.int .u64 (lim t 0 : Int), .int .u64 (lim t 1 : Int), .int .u64 (lim t 2 : Int), .int .u64 (lim t 3 : Int)] 24)).alloc (.cells #[.int .u64 0, .int .u64 0, .int .u64 0, .int .u64 0] 24)).trans hb1).alloc (.cells #[.int .u64 (lim q 0 : Int), .int .u64 (lim q 1 : Int), .int .u64 (lim q 2 : Int), .int .u64 (lim q 3 : Int)] 24))
  clear hb1
  go_wp2_with fail
  refine (HMUL.out _).mono ?_
  rintro e w2 ⟨rfl, hb2⟩
  have K10 := (RZ.nx hb2).alloc (.cells #[.int .u64 (lim p 0 : Int), .int .u64 (lim p 1 : Int), .int .u64 (lim p 2 : Int), .int .u64 (lim p 3 : Int)] 24)
  have K00 : Row (w2.alloc (.cells #[.int .u64 (lim p 0 : Int), .int .u64 (lim p 1 : Int), .int .u64 (lim p 2 : Int), .int .u64 (lim p 3 : Int)] 24)) w2.heap.size #[.int .u64 (lim p 0 : Int), .int .u64 (lim p 1 : Int), .int .u64 (lim p 2 : Int), .int .u64 (lim p 3 : Int)] 24 := Row.new w2 _ _ _ rfl
  replace HN0 := Lib.hid ((HN0.out.trans hb2).alloc (.cells #[.int .u64 (lim p 0 : Int), .int .u64 (lim p 1 : Int), .int .u64 (lim p 2 : Int), .int .u64 (lim p 3 : Int)] 24))
  clear hb2 RZ HDIV HMUL
  go_wp2_with fail
  generalize w2.heap.size = gP at *
  generalize w1.heap.size = gQ at *
  generalize (w2.alloc (.cells #[.int .u64 (lim p 0 : Int), .int .u64 (lim p 1 : Int), .int .u64 (lim p 2 : Int), .int .u64 (lim p 3 : Int)] 24)) = W at *
  generalize hgZ : w.heap.size + 1 = gZ at *
  have HG1 := Lib.hid (show w.heap.size ≤ gZ by omega)
  generalize hgA : w.heap.size = gA at *
  clear hgZ
  replace hgA := Lib.hid hgA
  have HW0 := HN0.out.size
  rw [hgA.out] at HW0
  have HK0 := K00.lt
  have HK1 := K10.lt
  refine wp_region_inv [[], [], [], [1, 2], [3], [4], [0, 5, 5], [6], [7], [7], [], [10, 8, 6, 0, 1, 2, 3, 4, 5, 6, 7, 8, 10], [9, 11, 0, 1, 2, 3, 4, 5, 6, 7, 8, 9, 10, 11]] (Scaled3 t sp q r p h s x v gA gZ gQ gP w W undef) (by kernel_rfl) (by kernel_rfl) (hord_of (by decide)) ?_ ?_ ?_
  · exact ⟨_, _, _, _, _, _, _, _, _, _, _, _, rfl, HN0.out.drew, Nat.le_refl _, K00.drew, K10.drew, (fun h => by cases h), (fun h => by cases h), (fun h => by cases h), (fun h => by cases h), (fun h => by cases h), (fun h => by cases h), (fun h => by cases h), (fun h => by cases h), (fun h => by cases h), (fun h => by cases h), (fun h => by cases h), (fun h => by cases h), (fun h => by cases h)⟩
  · rintro L ac wr ⟨x0, x1, x2, x3, x4, x5, x6, x7, x8, x9, x10, x12, rfl, HN, HZ, K0, K1, F0, F1, F2, F3, F4, F5, F6, F7, F8, F9, F10, F12, S11⟩ i hi hL hd K hK
    have hi' : i < 13 := hi
    have hcs : i = 0 ∨ i = 1 ∨ i = 2 ∨ i = 3 ∨ i = 4 ∨ i = 5 ∨ i = 6 ∨ i = 7 ∨ i = 8 ∨ i = 9 ∨ i = 10 ∨ i = 11 ∨ i = 12 := by omega
    clear hi hi'
    rcases hcs with rfl | rfl | rfl | rfl | rfl | rfl | rfl | rfl | rfl | rfl | rfl | rfl | rfl
    · refine wpOp_of rfl rfl (wp_load_row 24 (.tmp 9) rfl gP rfl 24 #[.int .u64 (lim p 0 : Int), .int .u64 (lim p 1 : Int), .int .u64 (lim p 2 : Int), .int .u64 (lim p 3 : Int)] (0, 0) _ K0 Try.underlying24 rfl (hsU p) (hK _ _ ?_))
      exact ⟨_, x1, x2, x3, x4, x5, x6, x7, x8, x9, x10, x12, rfl, HN, HZ, K0, K1, (fun _ => rfl), F1, F2, F3, F4, F5, F6, F7, F8, F9, F10, F12, S11⟩
    · refine wpOp_of rfl rfl (wp_val_of (some 27) rfl (.int .u64 (r : Int)) (by kernel_rfl) (hK _ _ ?_))
      exact ⟨x0, _, x2, x3, x4, x5, x6, x7, x8, x9, x10, x12, rfl, HN, HZ, K0, K1, F0, (fun _ => rfl), F2, F3, F4, F5, F6, F7, F8, F9, F10, F12, S11⟩
    · refine wpOp_of rfl rfl (wp_val_of (some 28) rfl (.int .u64 (sp : Int)) (by kernel_rfl) (hK _ _ ?_))
      exact ⟨x0, x1, _, x3, x4, x5, x6, x7, x8, x9, x10, x12, rfl, HN, HZ, K0, K1, F0, F1, (fun _ => rfl), F3, F4, F5, F6, F7, F8, F9, F10, F12, S11⟩
    · have e1 := F1 (hd 1 (by decide))
      subst e1
      have e2 := F2 (hd 2 (by decide))
      subst e2
      refine wpOp_of rfl rfl (wp_val_of (some 29) rfl (.int .u64 (IntKind.u64.wrap ((r : Int) * (sp : Int)))) (by kernel_rfl) (hK _ _ ?_))
      exact ⟨x0, _, _, _, x4, x5, x6, x7, x8, x9, x10, x12, rfl, HN, HZ, K0, K1, F0, F1, F2, (fun _ => rfl), F4, F5, F6, F7, F8, F9, F10, F12, S11⟩
    · have e3 := F3 (hd 3 (by decide))
      subst e3
      refine wpOp_of rfl rfl (wp_val_of (some 30) rfl (.int .u64 (IntKind.u64.wrap ((IntKind.u64.wrap ((r : Int) * (sp : Int))).tdiv 480))) (by kernel_rfl) (hK _ _ ?_))
      exact ⟨x0, x1, x2, _, _, x5, x6, x7, x8, x9, x10, x12, rfl, HN, HZ, K0, K1, F0, F1, F2, F3, (fun _ => rfl), F5, F6, F7, F8, F9, F10, F12, S11⟩
    · have e4 := F4 (hd 4 (by decide))
      subst e4
      refine wpOp_of rfl rfl (wp_call_of (some 31) rfl 15 #[.int .u64 (IntKind.u64.wrap ((IntKind.u64.wrap ((r : Int) * (sp : Int))).tdiv 480))] (by kernel_rfl) _ (HOF.out wr) (fun w' hn => hK _ _ ?_))
      exact ⟨x0, x1, x2, x3, _, _, x6, x7, x8, x9, x10, x12, rfl, HN.trans hn, Nat.le_trans HZ hn.size, K0.nx hn, K1.nx hn, F0, F1, F2, F3, F4, (fun _ => rfl), F6, F7, F8, F9, (fun h => by obtain ⟨g, e, hg, r⟩ := F10 h; exact ⟨g, e, hg, r.nx hn⟩), F12, S11⟩
    · have e0 := F0 (hd 0 (by decide))
      subst e0
      have e5 := F5 (hd 5 (by decide))
      subst e5
      refine wpOp_of rfl rfl (wp_call_of (some 32) rfl 26 #[.agg #[.int .u64 (lim p 0 : Int), .int .u64 (lim p 1 : Int), .int .u64 (lim p 2 : Int), .int .u64 (lim p 3 : Int)], .agg #[.int .u64 (lim x 0 : Int), .int .u64 (lim x 1 : Int), .int .u64 (lim x 2 : Int), .int .u64 (lim x 3 : Int)]] (by kernel_rfl) _ (HADD.out wr) (fun w' hn => hK _ _ ?_))
      exact ⟨_, x1, x2, x3, x4, _, _, x7, x8, x9, x10, x12, rfl, HN.trans hn, Nat.le_trans HZ hn.size, K0.nx hn, K1.nx hn, F0, F1, F2, F3, F4, F5, (fun _ => rfl), F7, F8, F9, (fun h => by obtain ⟨g, e, hg, r⟩ := F10 h; exact ⟨g, e, hg, r.nx hn⟩), F12, S11⟩
    · have e6 := F6 (hd 6 (by decide))
      subst e6
      refine wpOp_of rfl rfl (wp_val_of (some 25) rfl (.tuple #[.agg #[.int .u64 (lim s 0 : Int), .int .u64 (lim s 1 : Int), .int .u64 (lim s 2 : Int), .int .u64 (lim s 3 : Int)], .bool v]) (by kernel_rfl) (hK _ _ ?_))
      exact ⟨x0, x1, x2, x3, x4, x5, _, _, x8, x9, x10, x12, rfl, HN, HZ, K0, K1, F0, F1, F2, F3, F4, F5, F6, (fun _ => rfl), F8, F9, F10, F12, S11⟩
    · have e7 := F7 (hd 7 (by decide))
      subst e7
      refine wpOp_of rfl rfl (wp_val_of (some 33) rfl (.agg #[.int .u64 (lim s 0 : Int), .int .u64 (lim s 1 : Int), .int .u64 (lim s 2 : Int), .int .u64 (lim s 3 : Int)]) (by kernel_rfl) (hK _ _ ?_))
      exact ⟨x0, x1, x2, x3, x4, x5, x6, _, _, x9, x10, x12, rfl, HN, HZ, K0, K1, F0, F1, F2, F3, F4, F5, F6, F7, (fun _ => rfl), F9, F10, F12, S11⟩
    · have e7 := F7 (hd 7 (by decide))
      subst e7
      refine wpOp_of rfl rfl (wp_val_of (some 34) rfl (.bool v) (by kernel_rfl) (hK _ _ ?_))
      exact ⟨x0, x1, x2, x3, x4, x5, x6, _, x8, _, x10, x12, rfl, HN, HZ, K0, K1, F0, F1, F2, F3, F4, F5, F6, F7, F8, (fun _ => rfl), F10, F12, S11⟩
    · have hs : L 11 = false := by
          rcases h : L 11 with _ | _
          · rfl
          · rw [S11 h] at hL; cases hL
      refine wpOp_of rfl rfl (wp_alloc_of (some 11) rfl 24 rfl (#[.int .u64 0, .int .u64 0, .int .u64 0, .int .u64 0]) hzU (hK _ _ ?_))
      exact ⟨x0, x1, x2, x3, x4, x5, x6, x7, x8, x9, _, x12, rfl, HN.alloc _, Nat.le_trans HZ (by rw [alloc_size]; exact Nat.le_succ _), K0.alloc _, K1.alloc _, F0, F1, F2, F3, F4, F5, F6, F7, F8, F9, (fun _ => ⟨_, rfl, HZ, by show Row _ _ (if L 11 = true then _ else _) _; rw [hs]; exact Row.new _ _ _ _ rfl⟩), F12, (fun _ => rfl)⟩
    · have e8 := F8 (hd 8 (by decide))
      subst e8
      obtain ⟨ga, ea, hga, ra⟩ := F10 (hd 10 (by decide))
      subst ea
      rw [if_neg (by rw [hL]; decide)] at ra
      refine wpOp_of rfl rfl (wp_store_row 24 (.tmp 11) (.tmp 33) rfl ga (#[.int .u64 (lim s 0 : Int), .int .u64 (lim s 1 : Int), .int .u64 (lim s 2 : Int), .int .u64 (lim s 3 : Int)]) rfl rfl 24 (#[.int .u64 0, .int .u64 0, .int .u64 0, .int .u64 0]) ra (hsU s) rfl (oneU s) (hK _ _ ?_))
      exact ⟨x0, x1, x2, x3, x4, x5, x6, x7, _, x9, _, x12, rfl, HN.setRow _ (by rw [hgA.out]; exact Nat.le_trans HW0 hga), (by rw [size_setRow]; exact HZ), K0.setRow_other _ (Nat.ne_of_lt (Nat.lt_of_lt_of_le HK0 hga)), K1.setRow_other _ (Nat.ne_of_lt (Nat.lt_of_lt_of_le HK1 hga)), F0, F1, F2, F3, F4, F5, F6, F7, F8, F9, (fun _ => ⟨ga, rfl, hga, ra.setRow _⟩), F12, (fun _ => hd 10 (by decide))⟩
    · have e9 := F9 (hd 9 (by decide))
      subst e9
      refine wpOp_of rfl rfl (wp_val_of (some 12) rfl (.bool v) (by kernel_rfl) (hK _ _ ?_))
      exact ⟨x0, x1, x2, x3, x4, x5, x6, x7, x8, _, x10, _, rfl, HN, HZ, K0, K1, F0, F1, F2, F3, F4, F5, F6, F7, F8, F9, F10, (fun _ => rfl), S11⟩
  · rintro L ac wr ⟨x0, x1, x2, x3, x4, x5, x6, x7, x8, x9, x10, x12, rfl, HN, HZ, K0, K1, F0, F1, F2, F3, F4, F5, F6, F7, F8, F9, F10, F12, S11⟩ hall
    have hall' : ∀ i, i < 13 → L i = true := hall
    have e0 := F0 (hall' 0 (by decide))
    have e1 := F1 (hall' 1 (by decide))
    have e2 := F2 (hall' 2 (by decide))
    have e3 := F3 (hall' 3 (by decide))
    have e4 := F4 (hall' 4 (by decide))
    have e5 := F5 (hall' 5 (by decide))
    have e6 := F6 (hall' 6 (by decide))
    have e7 := F7 (hall' 7 (by decide))
    have e8 := F8 (hall' 8 (by decide))
    have e9 := F9 (hall' 9 (by decide))
    obtain ⟨g10, e10, hg10, r10⟩ := F10 (hall' 10 (by decide))
    have e12 := F12 (hall' 12 (by decide))
    rw [if_pos (hall' 11 (by decide))] at r10
    subst e0 e1 e2 e3 e4 e5 e6 e7 e8 e9 e10 e12
    clear F0 F1 F2 F3 F4 F5 F6 F7 F8 F9 F10 F12 S11 hall hall'
    obtain ⟨s0, s1, s2, s3⟩ := r10.four
    obtain ⟨z0, z1, z2, z3⟩ := K1.zero4
    have fz := K1.frozen
    have NF := Lib.hid HN
    have hgz := HG1.out
    rw [← hgA.out] at hgz
    clear K0 K1 HN HZ K00 K10 HK0 HK1 HW0 r10 HOF HADD
    by_cases hh : h = 0
    · subst hh
      go_wp2
      exact bodyPost_ret (v := .tuple #[.agg #[.int .u64 (lim s 0 : Int), .int .u64 (lim s 1 : Int), .int .u64 (lim s 2 : Int), .int .u64 (lim s 3 : Int)], .bool v]) (by simp [results, Try.results63, go_sem, z0, z1, z2, z3, fz]) rfl
        ⟨by rw [← HS2.out]; rfl, by repeat (first | with_reducible exact NF.out | with_reducible refine Nx.setAt ?_ _ hgz)⟩
    · have hhi : ((h : Int) != 0) = true := by simp; omega
      have hhn : (h != 0) = true := by simp; omega
      have HHN := Lib.hid hhn
      clear hhn hh
      go_wp2
      exact bodyPost_ret (v := .tuple #[.agg #[.int .u64 (lim s 0 : Int), .int .u64 (lim s 1 : Int), .int .u64 (lim s 2 : Int), .int .u64 (lim s 3 : Int)], .bool true]) (by simp [results, Try.results63, go_sem, z0, z1, z2, z3, fz]) rfl
        ⟨by rw [← HS2.out, HHN.out]; rfl, by repeat (first | with_reducible exact NF.out | with_reducible refine Nx.setAt ?_ _ hgz)⟩
end Go.Proofs.Ytggemncdnclhnaa
