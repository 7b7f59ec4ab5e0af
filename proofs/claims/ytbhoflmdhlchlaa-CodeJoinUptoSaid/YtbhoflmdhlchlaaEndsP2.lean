/- CONTRACTS OF LAYER 1: low, piece, Part, Put. -/
import Derived.Test.YtbhoflmdhlchlaaEndsP1
namespace Go.Proofs.Ytbhoflmdhlchlaa
open Go.RowKit
set_option linter.unusedVariables false
set_option linter.unusedSimpArgs false

def cutE (L : Nat) (at_ n : Int) : Int := if at_ < 0 ∨ (L : Int) < at_ ∨ n < 0 then 2 else if (L : Int) - at_ < n then 4 else 0
def cutL (l : List UInt8) (at_ n : Int) : List UInt8 := if cutE l.length at_ n = 0 then (l.drop at_.toNat).take n.toNat else []
theorem cutE_cases (L : Nat) (at_ n : Int) : ((at_ < 0 ∨ (L : Int) < at_ ∨ n < 0) ∧ cutE L at_ n = 2) ∨ ((0 ≤ at_ ∧ at_ ≤ L ∧ 0 ≤ n ∧ (L : Int) - at_ < n) ∧ cutE L at_ n = 4) ∨
    (∃ i m : Nat, at_ = i ∧ n = m ∧ i + m ≤ L ∧ cutE L at_ n = 0) := by
  unfold cutE
  by_cases h1 : at_ < 0 ∨ (L : Int) < at_ ∨ n < 0
  · exact .inl ⟨h1, by rw [if_pos h1]⟩
  · by_cases h2 : (L : Int) - at_ < n
    · exact .inr (.inl ⟨by omega, by rw [if_neg h1, if_pos h2]⟩)
    · exact .inr (.inr ⟨at_.toNat, n.toNat, by omega, by omega, by omega, by rw [if_neg h1, if_neg h2]⟩)
theorem cutL_bad {l : List UInt8} {at_ n : Int} (h : cutE l.length at_ n ≠ 0) : cutL l at_ n = [] := by unfold cutL; rw [if_neg h]
theorem cutL_ok {l : List UInt8} {i m : Nat} (h : i + m ≤ l.length) : cutL l (i : Int) (m : Int) = (l.drop i).take m := by
  have : cutE l.length (i : Int) (m : Int) = 0 := by unfold cutE; rw [if_neg (by omega), if_neg (by omega)]
  unfold cutL
  rw [if_pos this]
  simp
theorem cutE_ok {L i m : Nat} (h : i + m ≤ L) : cutE L (i : Int) (m : Int) = 0 := by unfold cutE; rw [if_neg (by omega), if_neg (by omega)]
theorem cutL_len {l : List UInt8} {i m : Nat} (h : i + m ≤ l.length) : ((l.drop i).take m).length = m := by simp; omega

theorem piece_ok (v : Value) (l : List UInt8) (i m : Nat) (w : World) (h : Rd w v l) (hi : i + m ≤ l.length) :
    Calls Try.prog 69 #[v, .int .i64 (i : Int), .int .i64 (m : Int)] w fun e w' => ∃ v', e = .returned (.tuple #[v', .int .i64 0]) ∧ Rd w v' ((l.drop i).take m) ∧ w = w' := by
  obtain ⟨A, c, rfl, hc, hm, ha⟩ := h
  have hmx := hm
  unfold maxLen at hm
  by_cases h0 : m = 0
  · subst h0
    go_enter Try.func69, Try.ntmps69
    go_wp2
    all_goals go_ret2
    all_goals exact ⟨_, rfl, by simpa using Rd.none0 _ _ _ (by simp [maxLen]), rfl⟩
  · have hne : ¬ i + m = i := by omega
    go_enter Try.func69, Try.ntmps69
    go_wp2
    all_goals go_ret2
    all_goals refine ⟨_, rfl, ?_, rfl⟩
    all_goals show Rd w (.slice (A.map (·.add i)) (i + m - i) (i + m - i)) _
    all_goals rw [Nat.add_sub_cancel_left]
    all_goals exact Rd.cut ha hi (Nat.le_refl _) (by unfold maxLen; omega)

theorem piece_arg (v : Value) (l : List UInt8) (at_ n : Int) (w : World) (h : Rd w v l) (hi : at_ < 0 ∨ (l.length : Int) < at_ ∨ n < 0) :
    Calls Try.prog 69 #[v, .int .i64 at_, .int .i64 n] w fun e w' => e = .returned (.tuple #[.slice none 0 0, .int .i64 2]) ∧ w = w' := by
  obtain ⟨A, c, rfl, hc, hm, ha⟩ := h
  unfold maxLen at hm
  by_cases h1 : at_ < 0
  · go_enter Try.func69, Try.ntmps69
    go_wp2
    go_ret2
    exact ⟨rfl, rfl⟩
  · by_cases h2 : (l.length : Int) < at_
    · go_enter Try.func69, Try.ntmps69
      go_wp2
      go_ret2
      exact ⟨rfl, rfl⟩
    · have h3 : n < 0 := by omega
      go_enter Try.func69, Try.ntmps69
      go_wp2
      go_ret2
      exact ⟨rfl, rfl⟩

theorem piece_short (v : Value) (l : List UInt8) (at_ n : Int) (w : World) (h : Rd w v l) (hi : 0 ≤ at_ ∧ at_ ≤ (l.length : Int) ∧ 0 ≤ n ∧ (l.length : Int) - at_ < n) :
    Calls Try.prog 69 #[v, .int .i64 at_, .int .i64 n] w fun e w' => e = .returned (.tuple #[.slice none 0 0, .int .i64 4]) ∧ w = w' := by
  obtain ⟨A, c, rfl, hc, hm, ha⟩ := h
  obtain ⟨h1, h2, h3, h4⟩ := hi
  unfold maxLen at hm
  go_enter Try.func69, Try.ntmps69
  go_wp2
  go_ret2
  exact ⟨rfl, rfl⟩

set_option maxHeartbeats 400000 in
theorem part_any (v : Value) (l : List UInt8) (at_ n : Int) (w : World) (h : Rd w v l) (hr : l.length ≤ 140737488355328) :
    Calls Try.prog 53 #[v, .int .i64 at_, .int .i64 n] w fun e w' => ∃ v', e = .returned (.tuple #[v', .int .i64 (cutE l.length at_ n)]) ∧ Own w.heap.size w' v' (cutL l at_ n) ∧ Nx w w' := by
  rcases cutE_cases l.length at_ n with ⟨h1, h2⟩ | ⟨h1, h2⟩ | ⟨i, m, rfl, rfl, h1, h2⟩
  · have hL : cutL l at_ n = [] := cutL_bad (by rw [h2]; omega)
    rw [h2, hL]
    clear h2 hL
    go_enter Try.func53, Try.ntmps53
    go_wp2_with fail
    refine (piece_arg v l at_ n w h h1).mono ?_
    rintro e w' ⟨rfl, rfl⟩
    go_wp2
    go_ret2
    exact ⟨_, rfl, Own.nil _ _, Nx.refl _⟩
  · have hL : cutL l at_ n = [] := cutL_bad (by rw [h2]; omega)
    rw [h2, hL]
    clear h2 hL
    go_enter Try.func53, Try.ntmps53
    go_wp2_with fail
    refine (piece_short v l at_ n w h h1).mono ?_
    rintro e w' ⟨rfl, rfl⟩
    go_wp2
    go_ret2
    exact ⟨_, rfl, Own.nil _ _, Nx.refl _⟩
  · have HP := Lib.hid (piece_ok v l i m w h h1)
    have HL := Lib.hid (cutL_len h1)
    rw [h2, cutL_ok h1]
    generalize (l.drop i).take m = L at *
    clear h2
    go_enter Try.func53, Try.ntmps53
    go_wp2_with fail
    refine HP.out.mono ?_
    rintro e w' ⟨v', rfl, hv, rfl⟩
    have hm0 : m ≤ 281474976710656 := by omega
    have hmk := run_mk (P := Try.prog) 23 Try.underlying23 info_u8 .i64 .i64 m hm0
    go_wp2_with (with_reducible refine wpList_cpy_all rfl (.tmp 23) (.tmp 24) _ _ rfl Try.underlying23 info_u8 w.heap.size (.slice (some ⟨w.heap.size, 0, none⟩) m m) v' (zeros m) L rfl rfl ?c1 (hv.alloc _) ?c2 ?_)
    case c1 => exact Own.made _ _ (by simp only [maxLen]; omega)
    case c2 => rw [HL.out, zeros_length]
    intro w2 hown2 hg2
    have hn2 : Nx w w2 := ((Nx.refl w).alloc (.cells (zer m) 5)).grown hg2 (by simp [Value.ownBlock])
    clear hmk hg2
    go_wp2
    go_ret2
    exact ⟨_, rfl, hown2, hn2⟩

def putOk (n : Nat) (s : Int) : Bool := isSz s && decide (n < 256 ^ s.toNat)
def putE (n : Nat) (s : Int) : Int := if putOk n s = true then 0 else 2
def putL (n : Nat) (s : Int) : List UInt8 := if putOk n s = true then low n s.toNat else []

theorem shr_zero (n k : Nat) : ((n : Int) / 2 ^ (8 * k) = 0) ↔ n < 256 ^ k := by
  have e2 : (2 : Nat) ^ (8 * k) = 256 ^ k := by rw [Nat.pow_mul]
  have e3 : ((n : Int) / 2 ^ (8 * k)) = ((n / 256 ^ k : Nat) : Int) := by
    rw [← e2]; simp
  have hp : 0 < 256 ^ k := Nat.pow_pos (by omega)
  rw [e3]
  constructor
  · intro h
    have h' : n / 256 ^ k = 0 := by omega
    rcases Nat.div_eq_zero_iff.1 h' with h | h
    · omega
    · exact h
  · intro h
    rw [Nat.div_eq_of_lt h]; rfl

theorem part_of_put (n : Nat) (s : Int) : (isSz s = false ∧ putE n s = 2 ∧ putL n s = []) ∨ (∃ k : Nat, s = k ∧ (k = 1 ∨ k = 2 ∨ k = 4 ∨ k = 8) ∧ isSz s = true ∧ ((n < 256 ^ k ∧ putE n s = 0 ∧ putL n s = low n k) ∨ (¬ n < 256 ^ k ∧ putE n s = 2 ∧ putL n s = []))) := by
  rcases hs : isSz s with _ | _
  · exact .inl ⟨rfl, by simp [putE, putOk, hs], by simp [putL, putOk, hs]⟩
  · refine .inr ?_
    have h := isSz_yes hs
    refine ⟨s.toNat, by omega, by omega, rfl, ?_⟩
    by_cases hn : n < 256 ^ s.toNat
    · exact .inl ⟨hn, by simp [putE, putOk, hs, hn], by simp [putL, putOk, hs, hn]⟩
    · exact .inr ⟨hn, by simp [putE, putOk, hs, hn], by simp [putL, putOk, hs, hn]⟩

set_option maxHeartbeats 400000 in
theorem put_any (n : Nat) (s : Int) (w : World) :
    Calls Try.prog 67 #[.int .u64 (n : Int), .int .i64 s] w fun e w' => ∃ v', e = .returned (.tuple #[v', .int .i64 (putE n s)]) ∧ Own w.heap.size w' v' (putL n s) ∧ Nx w w' := by
  rcases part_of_put n s with ⟨h1, h2, h3⟩ | ⟨k, rfl, hk, h1, ⟨h2, h3, h4⟩ | ⟨h2, h3, h4⟩⟩
  · rw [h2, h3]
    clear h2 h3
    go_enter Try.func67, Try.ntmps67
    go_wp2_with fail
    refine (isSize_any s w).mono ?_
    rintro e w' ⟨rfl, rfl⟩
    go_wp2
    go_ret2
    exact ⟨_, rfl, Own.nil _ _, Nx.refl _⟩
  · rw [h3, h4]
    clear h3 h4
    have ht : ((n : Int) / 2 ^ (8 * k) != 0) = false := by simpa using (shr_zero n k).2 h2
    have hs : decide ((0 : Int) ≤ 8 * (k : Int)) = true := by simp; omega
    go_enter Try.func67, Try.ntmps67
    go_wp2_with fail
    refine (isSize_any k w).mono ?_
    rintro e w' ⟨rfl, rfl⟩
    have hs64 : 8 * (k : Int) ≤ 64 := by omega
    have hs0 : 0 ≤ 8 * (k : Int) := by omega
    go_wp2_with fail
    refine (lowFirst_any w.heap.size _ [] n k w (by omega) (Nat.le_refl _) (by simp) (Own.nil _ _)).mono ?_
    rintro e w' ⟨v', rfl, hown, hb⟩
    go_wp2
    go_ret2
    exact ⟨_, rfl, by simpa using hown, hb⟩
  · rw [h3, h4]
    clear h3 h4
    have ht : ((n : Int) / 2 ^ (8 * k) != 0) = true := by
      have := mt (shr_zero n k).1 h2
      simpa using this
    go_enter Try.func67, Try.ntmps67
    go_wp2_with fail
    refine (isSize_any k w).mono ?_
    rintro e w' ⟨rfl, rfl⟩
    have hs64 : 8 * (k : Int) ≤ 64 := by omega
    have hs0 : 0 ≤ 8 * (k : Int) := by omega
    go_wp2
    go_ret2
    exact ⟨_, rfl, Own.nil _ _, Nx.refl _⟩
end Go.Proofs.Ytbhoflmdhlchlaa
