/- CONTRACTS OF LAYER 1: Row and GetRow of both. -/
import Derived.Test.YtniaiglfgknfiaaEnds6
namespace Go.Proofs.Ytniaiglfgknfiaa
open Go.RowKit

def rowL (l : List UInt8) : List UInt8 := countL l.length ++ l

theorem countL_le (n : Nat) : (countL n).length ≤ 9 := by
  rw [countL_length]
  rcases behind_cases n with ⟨_, h⟩ | ⟨_, _, h⟩ | ⟨_, _, h⟩ | ⟨_, h⟩ <;> omega

set_option maxHeartbeats 400000 in
theorem row_any (v : Value) (l : List UInt8) (w : World) (h : Rd w v l) (hr : l.length ≤ 140737488351232) :
    Calls Try.prog 35 #[v] w fun e w' => ∃ v', e = .returned v' ∧ Own w.heap.size w' v' (rowL l) ∧ Nx w w' := by
  have hrd := h
  obtain ⟨A, c, rfl, hc, hm, ha⟩ := h
  have hl := countL_le l.length
  unfold rowL
  go_enter Try.func35, Try.ntmps35
  go_wp2_with fail
  refine (count_any l.length w).mono ?_
  rintro e w1 ⟨v1, rfl, hown, hb⟩
  go_wp2_with (at_builtin; refine wpList_app rfl (.tmp 6) (.tmp 7) _ rfl Try.underlying29 info_u8 w.heap.size v1 _ (countL l.length) l rfl rfl hown (hrd.nx hb) ?c2 ?c3 ?_)
  case c2 => omega
  case c3 => exact hb.size
  intro v2 w2 hown2 hb2 _
  go_wp2
  go_ret
  exact ⟨_, rfl, hown2, hb.app hb2⟩

set_option maxHeartbeats 400000 in
theorem refRow_any (v : Value) (l : List UInt8) (w : World) (h : Rd w v l) (hr : l.length ≤ 140737488351232) :
    Calls Try.prog 38 #[v] w fun e w' => ∃ v', e = .returned v' ∧ Own w.heap.size w' v' (rowL l) ∧ Nx w w' := by
  have hrd := h
  obtain ⟨A, c, rfl, hc, hm, ha⟩ := h
  have hl := countL_le l.length
  unfold rowL
  go_enter Try.func38, Try.ntmps38
  go_wp2_with fail
  refine (refCount_any l.length w (by omega)).mono ?_
  rintro e w1 ⟨v1, rfl, hown, hb⟩
  go_wp2_with (at_builtin; refine wpList_app rfl (.tmp 6) (.tmp 7) _ rfl Try.underlying29 info_u8 w.heap.size v1 _ (countL l.length) l rfl rfl hown (hrd.nx hb) ?c2 ?c3 ?_)
  case c2 => omega
  case c3 => exact hb.size
  intro v2 w2 hown2 hb2 _
  go_wp2
  go_ret
  exact ⟨_, rfl, hown2, hb.app hb2⟩

/-- What GetRow tells: the bytes, the place behind them, the error. -/
def gr (l : List UInt8) (at_ most : Int) : List UInt8 × Int × Int :=
  if (gc l at_).2.2 ≠ 0 then ([], 0, (gc l at_).2.2)
  else if most < 0 ∨ most < ((gc l at_).1 : Int) then ([], 0, 3)
  else if cutE l.length (gc l at_).2.1 ((gc l at_).1 : Int) ≠ 0 then ([], 0, cutE l.length (gc l at_).2.1 ((gc l at_).1 : Int))
  else (cutL l (gc l at_).2.1 ((gc l at_).1 : Int), (gc l at_).2.1 + ((gc l at_).1 : Int), 0)

theorem gr_cases (l : List UInt8) (at_ most : Int) : ∃ (n : Nat) (p E : Int), gc l at_ = (n, p, E) ∧
    ((E ≠ 0 ∧ gr l at_ most = ([], 0, E)) ∨ (E = 0 ∧
      ((most < 0 ∧ gr l at_ most = ([], 0, 3)) ∨
       (0 ≤ most ∧ most < (n : Int) ∧ gr l at_ most = ([], 0, 3)) ∨
       (0 ≤ most ∧ (n : Int) ≤ most ∧ cutE l.length p n ≠ 0 ∧ gr l at_ most = ([], 0, cutE l.length p n)) ∨
       (0 ≤ most ∧ (n : Int) ≤ most ∧ ∃ i : Nat, p = i ∧ i + n ≤ l.length ∧ gr l at_ most = ((l.drop i).take n, (i : Int) + (n : Int), 0))))) := by
  rcases hg : gc l at_ with ⟨n, p, E⟩
  refine ⟨n, p, E, rfl, ?_⟩
  unfold gr
  rw [hg]
  show (E ≠ 0 ∧ (if E ≠ 0 then _ else _) = _) ∨ _
  by_cases h1 : E = 0
  · refine .inr ⟨h1, ?_⟩
    simp only []
    rw [if_neg (by omega)]
    by_cases h2 : most < 0
    · exact .inl ⟨h2, by rw [if_pos (.inl h2)]⟩
    · by_cases h3 : most < (n : Int)
      · exact .inr (.inl ⟨by omega, h3, by rw [if_pos (.inr h3)]⟩)
      · rw [if_neg (by omega)]
        rcases cutE_cases l.length p (n : Int) with ⟨_, h4⟩ | ⟨_, h4⟩ | ⟨i, m, hp, hn, h5, h4⟩
        · exact .inr (.inr (.inl ⟨by omega, by omega, by omega, by rw [if_pos (by omega)]⟩))
        · exact .inr (.inr (.inl ⟨by omega, by omega, by omega, by rw [if_pos (by omega)]⟩))
        · obtain rfl : n = m := by omega
          refine .inr (.inr (.inr ⟨by omega, by omega, i, hp, h5, ?_⟩))
          rw [if_neg (by omega), hp, cutL_ok h5]
  · exact .inl ⟨h1, by rw [if_pos h1]⟩

set_option maxHeartbeats 1000000 in
theorem getRow_any (v : Value) (l : List UInt8) (at_ most : Int) (w : World) (h : Rd w v l) (hr : l.length ≤ 140737488355328) (hmo : most ≤ 9223372036854775807) :
    Calls Try.prog 45 #[v, .int .i64 at_, .int .i64 most] w fun e w' => ∃ v', e = .returned (.tuple #[v', .int .i64 (gr l at_ most).2.1, .int .i64 (gr l at_ most).2.2]) ∧ Own w.heap.size w' v' (gr l at_ most).1 ∧ Nx w w' := by
  have HG := getCount_any v l at_ w h hr
  obtain ⟨n, p, E, hg, ⟨h1, h2⟩ | ⟨rfl, ⟨h1, h2⟩ | ⟨h1, h3, h2⟩ | ⟨h1, h3, h4, h2⟩ | ⟨h1, h3, i, rfl, h4, h2⟩⟩⟩ := gr_cases l at_ most
  all_goals
    rw [hg] at HG
    have HG := Lib.hid HG
    rw [h2]
    clear h2 hg
  · have ht : (E != 0) = true := by simpa using h1
    clear h1
    go_enter Try.func45, Try.ntmps45
    go_wp2_with fail
    refine HG.out.mono ?_
    rintro e w' ⟨rfl, rfl⟩
    go_wp2
    go_ret3
    exact ⟨_, rfl, Own.nil _ _, Nx.refl _⟩
  · go_enter Try.func45, Try.ntmps45
    go_wp2_with fail
    refine HG.out.mono ?_
    rintro e w' ⟨rfl, rfl⟩
    go_wp2
    go_ret3
    exact ⟨_, rfl, Own.nil _ _, Nx.refl _⟩
  · go_enter Try.func45, Try.ntmps45
    go_wp2_with fail
    refine HG.out.mono ?_
    rintro e w' ⟨rfl, rfl⟩
    go_wp2
    go_ret3
    exact ⟨_, rfl, Own.nil _ _, Nx.refl _⟩
  · have HP := part_any v l p n w h hr
    rw [cutL_bad h4] at HP
    have HP := Lib.hid HP
    have ht := bne_iff_ne.2 h4
    clear h4
    show Calls _ _ _ _ fun e w' => ∃ v', e = .returned (.tuple #[v', .int .i64 0, .int .i64 (cutE l.length p n)]) ∧ Own w.heap.size w' v' [] ∧ Nx w w'
    generalize cutE l.length p n = E at *
    go_enter Try.func45, Try.ntmps45
    go_wp2_with fail
    refine HG.out.mono ?_
    rintro e w' ⟨rfl, rfl⟩
    go_wp2_with fail
    refine HP.out.mono ?_
    rintro e w1 ⟨v1, rfl, hown, hb⟩
    go_wp2
    go_ret3
    exact ⟨_, rfl, Own.nil _ _, hb⟩
  · have HP := part_any v l i n w h hr
    rw [cutL_ok h4, cutE_ok h4] at HP
    have HP := Lib.hid HP
    have HL := Lib.hid (cutL_len h4)
    have hin : (i : Int) + (n : Int) ≤ 140737488355328 := by omega
    show Calls _ _ _ _ fun e w' => ∃ v', e = .returned (.tuple #[v', .int .i64 ((i : Int) + (n : Int)), .int .i64 0]) ∧ Own w.heap.size w' v' ((l.drop i).take n) ∧ Nx w w'
    generalize (l.drop i).take n = L at *
    go_enter Try.func45, Try.ntmps45
    go_wp2_with fail
    refine HG.out.mono ?_
    rintro e w' ⟨rfl, rfl⟩
    go_wp2_with fail
    refine HP.out.mono ?_
    rintro e w1 ⟨v1, rfl, hown, hb⟩
    obtain ⟨A1, c1, rfl, _, _, _⟩ := hown.rd
    have hLn := HL.out
    rw [hLn] at hown
    go_wp2
    go_ret3
    exact ⟨_, rfl, hown, hb⟩

set_option maxHeartbeats 1000000 in
theorem refGetRow_any (v : Value) (l : List UInt8) (at_ most : Int) (w : World) (h : Rd w v l) (hr : l.length ≤ 140737488355328) (hmo : most ≤ 9223372036854775807) :
    Calls Try.prog 46 #[v, .int .i64 at_, .int .i64 most] w fun e w' => ∃ v', e = .returned (.tuple #[v', .int .i64 (gr l at_ most).2.1, .int .i64 (gr l at_ most).2.2]) ∧ Own w.heap.size w' v' (gr l at_ most).1 ∧ Nx w w' := by
  have HG := refGetCount_any v l at_ w h hr
  obtain ⟨n, p, E, hg, ⟨h1, h2⟩ | ⟨rfl, ⟨h1, h2⟩ | ⟨h1, h3, h2⟩ | ⟨h1, h3, h4, h2⟩ | ⟨h1, h3, i, rfl, h4, h2⟩⟩⟩ := gr_cases l at_ most
  all_goals
    rw [hg] at HG
    have HG := Lib.hid HG
    rw [h2]
    clear h2 hg
  · have ht : (E != 0) = true := by simpa using h1
    clear h1
    go_enter Try.func46, Try.ntmps46
    go_wp2_with fail
    refine HG.out.mono ?_
    rintro e w0 ⟨rfl, hb0⟩
    go_wp2
    go_ret3
    exact ⟨_, rfl, Own.nil _ _, hb0⟩
  · go_enter Try.func46, Try.ntmps46
    go_wp2_with fail
    refine HG.out.mono ?_
    rintro e w0 ⟨rfl, hb0⟩
    go_wp2
    go_ret3
    exact ⟨_, rfl, Own.nil _ _, hb0⟩
  · go_enter Try.func46, Try.ntmps46
    go_wp2_with fail
    refine HG.out.mono ?_
    rintro e w0 ⟨rfl, hb0⟩
    go_wp2
    go_ret3
    exact ⟨_, rfl, Own.nil _ _, hb0⟩
  · have HP := Lib.hid (fun w0 (h0 : Rd w0 v l) => refPart_any v l p n w0 h0 hr)
    have ht := bne_iff_ne.2 h4
    clear h4
    show Calls _ _ _ _ fun e w' => ∃ v', e = .returned (.tuple #[v', .int .i64 0, .int .i64 (cutE l.length p n)]) ∧ Own w.heap.size w' v' [] ∧ Nx w w'
    generalize cutE l.length p n = E at *
    go_enter Try.func46, Try.ntmps46
    go_wp2_with fail
    refine HG.out.mono ?_
    rintro e w0 ⟨rfl, hb0⟩
    go_wp2_with fail
    refine (HP.out w0 (h.nx hb0)).mono ?_
    rintro e w1 ⟨v1, rfl, hown, hb⟩
    go_wp2
    go_ret3
    exact ⟨_, rfl, Own.nil _ _, hb0.trans hb⟩
  · have HP := fun w0 (h0 : Rd w0 v l) => refPart_any v l i n w0 h0 hr
    rw [cutL_ok h4, cutE_ok h4] at HP
    have HP := Lib.hid HP
    have HL := Lib.hid (cutL_len h4)
    have hin : (i : Int) + (n : Int) ≤ 140737488355328 := by omega
    show Calls _ _ _ _ fun e w' => ∃ v', e = .returned (.tuple #[v', .int .i64 ((i : Int) + (n : Int)), .int .i64 0]) ∧ Own w.heap.size w' v' ((l.drop i).take n) ∧ Nx w w'
    generalize (l.drop i).take n = L at *
    go_enter Try.func46, Try.ntmps46
    go_wp2_with fail
    refine HG.out.mono ?_
    rintro e w0 ⟨rfl, hb0⟩
    go_wp2_with fail
    refine (HP.out w0 (h.nx hb0)).mono ?_
    rintro e w1 ⟨v1, rfl, hown, hb⟩
    go_wp2
    go_ret3
    exact ⟨_, rfl, hown.mono hb0.size, hb0.trans hb⟩
end Go.Proofs.Ytniaiglfgknfiaa
