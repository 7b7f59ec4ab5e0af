/- TEXTS OF OUR OWN, IN ONE FILE. -/
import Derived.Test.YtjbeemoobmagnaaDoorRows
import Derived.Test.YtjbeemoobmagnaaDoorGa
import Derived.LoopTactic
import Derived.Outline
import Derived.Deep.QuietTactic
import Derived.BigQuiet
import Derived.Laws.BitsAllLaws
import Derived.Deep.RegionHeld3
import Derived.Laws.Rows
import Derived.Laws.Tables
import Derived.RegionTactic
section
namespace Go.Proofs.YtjbeemoobmagnaaDoor
open Go.RowKit

def isSz (s : Int) : Bool := s == 1 || s == 2 || s == 4 || s == 8
theorem isSz_yes {s : Int} (h : isSz s = true) : s = 1 ∨ s = 2 ∨ s = 4 ∨ s = 8 := by
  simp [isSz] at h; omega
theorem isSz_no {s : Int} (h : isSz s = false) : s ≠ 1 ∧ s ≠ 2 ∧ s ≠ 4 ∧ s ≠ 8 := by
  simp [isSz] at h; omega

theorem isSize_any (s : Int) (w : World) : Calls Tryd.prog 99 #[.int .i64 s] w fun e w' => e = .returned (.bool (isSz s)) ∧ w = w' := by
  go_enter Tryd.func99, Tryd.ntmps99
  go_wp2
  all_goals go_ret
  all_goals exact ⟨by simp_all [isSz], rfl⟩

theorem refSize_any (s : Int) (w : World) : Calls Tryd.prog 82 #[.int .i64 s] w fun e w' => e = .returned (.bool (isSz s)) ∧ w = w' := by
  go_enter Tryd.func82, Tryd.ntmps82
  go_wp2
  all_goals go_ret
  all_goals exact ⟨by simp_all [isSz], rfl⟩

/-- How many bytes stand behind the first one of n's count. -/
def behind (n : Nat) : Nat := if n < 253 then 0 else if n < 65536 then 2 else if n < 4294967296 then 4 else 8

theorem info_u8 : (Tryd.prog.info? 5).map (fun i => (i.zero, i.size, i.bytes)) = some (some (.int .u8 0), 1, 1) := by kernel_rfl

/-- byte(n >> 8i), as the walk has it. -/
theorem u8_shr (n k : Nat) : (n : Int) / 2 ^ (8 * k) % 256 = ((UInt8.ofNat (n / 256 ^ k)).toNat : Int) := by
  have e2 : (2 : Nat) ^ (8 * k) = 256 ^ k := by rw [Nat.pow_mul]
  have e3 : ((n : Int) / 2 ^ (8 * k)) = ((n / 256 ^ k : Nat) : Int) := by
    rw [← e2]; simp
  rw [e3, UInt8.toNat_ofNat']
  omega

set_option maxHeartbeats 400000 in
theorem lowFirst_any (B : Nat) (v : Value) (l : List UInt8) (n k : Nat) (w : World) (hk : k ≤ 8) (hB : B ≤ w.heap.size) (hl : l.length ≤ 1000) (h : Own B w v l) :
    Calls Tryd.prog 100 #[v, .int .u64 (n : Int), .int .i64 (k : Int)] w fun e w' => ∃ v', e = .returned v' ∧ Own B w' v' (l ++ low n k) ∧ Below B w w' := by
  go_enter Tryd.func100, Tryd.ntmps100
  go_wp2
  go_loopw [0, 9] (fun u i wr => ∃ j : Nat, j ≤ k ∧ i = .int .i64 j ∧ Own B wr u (l ++ low n j) ∧ Below B w wr) (fun _ i _ => k - (intOf i).toNat)
  case atStart => exact ⟨0, by omega, rfl, by simpa [low] using h, Below.refl _ _⟩
  case round =>
    obtain ⟨j, hj, rfl, hown, hb⟩ := hrel
    by_cases hlt : j < k
    · have hs8 : (0 : Int) ≤ 8 * (j : Int) := by omega
      have hs64 : 8 * (j : Int) ≤ 64 := by omega
      go_wp2_with (at_builtin; refine wpList_app rfl (.tmp 12) (.tmp 18) _ rfl Tryd.underlying34 info_u8 B _ (.slice (some ⟨wr.heap.size, 0, none⟩) 1 1) _ [UInt8.ofNat (n / 256 ^ j)] rfl rfl (hown.alloc _) (Rd.one _ _ _ _ ?c1) ?c2 ?c3 ?_)
      case c1 => exact u8_shr n j
      case c2 => simp; omega
      case c3 => have := hb.size; simp; omega
      intro v' w' hown' hb' _
      go_wp2
      go_roundw
      case rel => exact ⟨j + 1, by omega, by go_num, by rw [low_snoc]; exact hown', (Below.alloc hb (by have := hb.size; omega) _).trans hb'⟩
      case measure => simp [intOf]; omega
    · obtain rfl : j = k := by omega
      go_wp2
      go_ret
      exact ⟨_, rfl, hown, hb⟩
end Go.Proofs.YtjbeemoobmagnaaDoor
end

section
namespace Go.Proofs.YtjbeemoobmagnaaDoor
open Go.RowKit

set_option maxHeartbeats 400000 in
theorem refLow_any (n k : Nat) (w : World) (hn : (n : Int) ≤ 18446744073709551615) (hk : k ≤ 8) :
    Calls Tryd.prog 83 #[.int .u64 (n : Int), .int .i64 (k : Int)] w fun e w' => ∃ v', e = .returned v' ∧ Own w.heap.size w' v' (low n k) ∧ Nx w w' := by
  go_enter Tryd.func83, Tryd.ntmps83
  go_wp2
  go_loopw [0, 5, 6] (fun m u i wr => ∃ j : Nat, j ≤ k ∧ i = .int .i64 j ∧ m = .int .u64 ((n / 256 ^ j : Nat) : Int) ∧ Own w.heap.size wr u (low n j) ∧ Nx w wr) (fun _ _ i _ => k - (intOf i).toNat)
  case atStart => exact ⟨0, by omega, rfl, by simp, by simpa [low] using Own.nil _ _, Nx.refl _⟩
  case round =>
    obtain ⟨j, hj, rfl, rfl, hown, hb⟩ := hrel
    by_cases hlt : j < k
    · have h0 : (0 : Int) ≤ ((n / 256 ^ j : Nat) : Int) := Int.natCast_nonneg _
      have h1 : ((n / 256 ^ j : Nat) : Int) ≤ 18446744073709551615 := by
        have := Nat.div_le_self n (256 ^ j); omega
      generalize hm : n / 256 ^ j = m at *
      have HM := Lib.hid hm
      clear hm
      go_wp2_with (at_builtin; refine wpList_app rfl (.tmp 12) (.tmp 16) _ rfl Tryd.underlying34 info_u8 w.heap.size _ (.slice (some ⟨wr.heap.size, 0, none⟩) 1 1) _ [UInt8.ofNat m] rfl rfl (hown.alloc _) (Rd.one _ _ _ _ ?c1) ?c2 ?c3 ?_)
      case c1 => rw [UInt8.toNat_ofNat']; omega
      case c2 => simp; omega
      case c3 => have := hb.size; simp; omega
      intro v' w' hown' hb' _
      go_wp2
      go_roundw
      case rel =>
        have e1 : m / 256 = n / 256 ^ (j + 1) := by rw [← HM.out, Nat.div_div_eq_div_mul, Nat.pow_succ]
        exact ⟨j + 1, by omega, by go_num, by rw [← e1]; simp, by rw [low_snoc, HM.out]; exact hown', (hb.alloc _).app hb'⟩
      case measure => simp [intOf]; omega
    · obtain rfl : j = k := by omega
      go_wp2
      go_ret
      exact ⟨_, rfl, hown, hb⟩

def cutE (L : Nat) (at_ n : Int) : Int := if at_ < 0 ∨ (L : Int) < at_ ∨ n < 0 then 2 else if (L : Int) - at_ < n then 4 else 0
def cutL (l : List UInt8) (at_ n : Int) : List UInt8 := if cutE l.length at_ n = 0 then (l.drop at_.toNat).take n.toNat else []
theorem cutE_cases (L : Nat) (at_ n : Int) : ((at_ < 0 ∨ (L : Int) < at_ ∨ n < 0) ∧ cutE L at_ n = 2) ∨ ((0 ≤ at_ ∧ at_ ≤ L ∧ 0 ≤ n ∧ (L : Int) - at_ < n) ∧ cutE L at_ n = 4) ∨
    (∃ i m : Nat, at_ = i ∧ n = m ∧ i + m ≤ L ∧ cutE L at_ n = 0) := by
  unfold cutE
  by_cases h1 : at_ < 0 ∨ (L : Int) < at_ ∨ n < 0
  · exact .inl ⟨h1, by rw [if_pos h1]⟩
  · by_cases h2 : (L : Int) - at_ < n
    · exact .inr (.inl ⟨by omega, by rw [if_neg h1, if_pos h2]⟩)
    · exact .inr (.inr ⟨at_.toNat, n.toNat, by omega, by omega, by omega, by rw [if_neg h1, if_neg h2]⟩)
theorem cutL_bad {l : List UInt8} {at_ n : Int} (h : cutE l.length at_ n ≠ 0) : cutL l at_ n = [] := by unfold cutL; rw [if_neg h]
theorem cutL_ok {l : List UInt8} {i m : Nat} (h : i + m ≤ l.length) : cutL l (i : Int) (m : Int) = (l.drop i).take m := by
  have : cutE l.length (i : Int) (m : Int) = 0 := by unfold cutE; rw [if_neg (by omega), if_neg (by omega)]
  unfold cutL
  rw [if_pos this]
  simp
theorem cutE_ok {L i m : Nat} (h : i + m ≤ L) : cutE L (i : Int) (m : Int) = 0 := by unfold cutE; rw [if_neg (by omega), if_neg (by omega)]
theorem cutL_len {l : List UInt8} {i m : Nat} (h : i + m ≤ l.length) : ((l.drop i).take m).length = m := by simp; omega

theorem piece_ok (v : Value) (l : List UInt8) (i m : Nat) (w : World) (h : Rd w v l) (hi : i + m ≤ l.length) :
    Calls Tryd.prog 88 #[v, .int .i64 (i : Int), .int .i64 (m : Int)] w fun e w' => ∃ v', e = .returned (.tuple #[v', .int .i64 0]) ∧ Rd w v' ((l.drop i).take m) ∧ w = w' := by
  obtain ⟨A, c, rfl, hc, hm, ha⟩ := h
  have hmx := hm
  unfold maxLen at hm
  by_cases h0 : m = 0
  · subst h0
    go_enter Tryd.func88, Tryd.ntmps88
    go_wp2
    all_goals go_ret2
    all_goals exact ⟨_, rfl, by simpa using Rd.none0 _ _ _ (by simp [maxLen]), rfl⟩
  · have hne : ¬ i + m = i := by omega
    go_enter Tryd.func88, Tryd.ntmps88
    go_wp2
    all_goals go_ret2
    all_goals refine ⟨_, rfl, ?_, rfl⟩
    all_goals show Rd w (.slice (A.map (·.add i)) (i + m - i) (i + m - i)) _
    all_goals rw [Nat.add_sub_cancel_left]
    all_goals exact Rd.cut ha hi (Nat.le_refl _) (by unfold maxLen; omega)

theorem piece_arg (v : Value) (l : List UInt8) (at_ n : Int) (w : World) (h : Rd w v l) (hi : at_ < 0 ∨ (l.length : Int) < at_ ∨ n < 0) :
    Calls Tryd.prog 88 #[v, .int .i64 at_, .int .i64 n] w fun e w' => e = .returned (.tuple #[.slice none 0 0, .int .i64 2]) ∧ w = w' := by
  obtain ⟨A, c, rfl, hc, hm, ha⟩ := h
  unfold maxLen at hm
  by_cases h1 : at_ < 0
  · go_enter Tryd.func88, Tryd.ntmps88
    go_wp2
    go_ret2
    exact ⟨rfl, rfl⟩
  · by_cases h2 : (l.length : Int) < at_
    · go_enter Tryd.func88, Tryd.ntmps88
      go_wp2
      go_ret2
      exact ⟨rfl, rfl⟩
    · have h3 : n < 0 := by omega
      go_enter Tryd.func88, Tryd.ntmps88
      go_wp2
      go_ret2
      exact ⟨rfl, rfl⟩

theorem piece_short (v : Value) (l : List UInt8) (at_ n : Int) (w : World) (h : Rd w v l) (hi : 0 ≤ at_ ∧ at_ ≤ (l.length : Int) ∧ 0 ≤ n ∧ (l.length : Int) - at_ < n) :
    Calls Tryd.prog 88 #[v, .int .i64 at_, .int .i64 n] w fun e w' => e = .returned (.tuple #[.slice none 0 0, .int .i64 4]) ∧ w = w' := by
  obtain ⟨A, c, rfl, hc, hm, ha⟩ := h
  obtain ⟨h1, h2, h3, h4⟩ := hi
  unfold maxLen at hm
  go_enter Tryd.func88, Tryd.ntmps88
  go_wp2
  go_ret2
  exact ⟨rfl, rfl⟩

set_option maxHeartbeats 400000 in
theorem part_any (v : Value) (l : List UInt8) (at_ n : Int) (w : World) (h : Rd w v l) (hr : l.length ≤ 140737488355328) :
    Calls Tryd.prog 57 #[v, .int .i64 at_, .int .i64 n] w fun e w' => ∃ v', e = .returned (.tuple #[v', .int .i64 (cutE l.length at_ n)]) ∧ Own w.heap.size w' v' (cutL l at_ n) ∧ Nx w w' := by
  rcases cutE_cases l.length at_ n with ⟨h1, h2⟩ | ⟨h1, h2⟩ | ⟨i, m, rfl, rfl, h1, h2⟩
  · have hL : cutL l at_ n = [] := cutL_bad (by rw [h2]; omega)
    rw [h2, hL]
    clear h2 hL
    go_enter Tryd.func57, Tryd.ntmps57
    go_wp2_with fail
    refine (piece_arg v l at_ n w h h1).mono ?_
    rintro e w' ⟨rfl, rfl⟩
    go_wp2
    go_ret2
    exact ⟨_, rfl, Own.nil _ _, Nx.refl _⟩
  · have hL : cutL l at_ n = [] := cutL_bad (by rw [h2]; omega)
    rw [h2, hL]
    clear h2 hL
    go_enter Tryd.func57, Tryd.ntmps57
    go_wp2_with fail
    refine (piece_short v l at_ n w h h1).mono ?_
    rintro e w' ⟨rfl, rfl⟩
    go_wp2
    go_ret2
    exact ⟨_, rfl, Own.nil _ _, Nx.refl _⟩
  · have HP := Lib.hid (piece_ok v l i m w h h1)
    have HL := Lib.hid (cutL_len h1)
    rw [h2, cutL_ok h1]
    generalize (l.drop i).take m = L at *
    clear h2
    go_enter Tryd.func57, Tryd.ntmps57
    go_wp2_with fail
    refine HP.out.mono ?_
    rintro e w' ⟨v', rfl, hv, rfl⟩
    have hm0 : m ≤ 281474976710656 := by omega
    have hmk := run_mk (P := Tryd.prog) 34 Tryd.underlying34 info_u8 .i64 .i64 m hm0
    go_wp2_with (with_reducible refine wpList_cpy_all rfl (.tmp 23) (.tmp 24) _ _ rfl Tryd.underlying34 info_u8 w.heap.size (.slice (some ⟨w.heap.size, 0, none⟩) m m) v' (zeros m) L rfl rfl ?c1 (hv.alloc _) ?c2 ?_)
    case c1 => exact Own.made _ _ (by simp only [maxLen]; omega)
    case c2 => rw [HL.out, zeros_length]
    intro w2 hown2 hg2
    have hn2 : Nx w w2 := ((Nx.refl w).alloc (.cells (zer m) 5)).grown hg2 (by simp [Value.ownBlock])
    clear hmk hg2
    go_wp2
    go_ret2
    exact ⟨_, rfl, hown2, hn2⟩

def putOk (n : Nat) (s : Int) : Bool := isSz s && decide (n < 256 ^ s.toNat)
def putE (n : Nat) (s : Int) : Int := if putOk n s = true then 0 else 2
def putL (n : Nat) (s : Int) : List UInt8 := if putOk n s = true then low n s.toNat else []

theorem shr_zero (n k : Nat) : ((n : Int) / 2 ^ (8 * k) = 0) ↔ n < 256 ^ k := by
  have e2 : (2 : Nat) ^ (8 * k) = 256 ^ k := by rw [Nat.pow_mul]
  have e3 : ((n : Int) / 2 ^ (8 * k)) = ((n / 256 ^ k : Nat) : Int) := by
    rw [← e2]; simp
  have hp : 0 < 256 ^ k := Nat.pow_pos (by omega)
  rw [e3]
  constructor
  · intro h
    have h' : n / 256 ^ k = 0 := by omega
    rcases Nat.div_eq_zero_iff.1 h' with h | h
    · omega
    · exact h
  · intro h
    rw [Nat.div_eq_of_lt h]; rfl

theorem part_of_put (n : Nat) (s : Int) : (isSz s = false ∧ putE n s = 2 ∧ putL n s = []) ∨ (∃ k : Nat, s = k ∧ (k = 1 ∨ k = 2 ∨ k = 4 ∨ k = 8) ∧ isSz s = true ∧ ((n < 256 ^ k ∧ putE n s = 0 ∧ putL n s = low n k) ∨ (¬ n < 256 ^ k ∧ putE n s = 2 ∧ putL n s = []))) := by
  rcases hs : isSz s with _ | _
  · exact .inl ⟨rfl, by simp [putE, putOk, hs], by simp [putL, putOk, hs]⟩
  · refine .inr ?_
    have h := isSz_yes hs
    refine ⟨s.toNat, by omega, by omega, rfl, ?_⟩
    by_cases hn : n < 256 ^ s.toNat
    · exact .inl ⟨hn, by simp [putE, putOk, hs, hn], by simp [putL, putOk, hs, hn]⟩
    · exact .inr ⟨hn, by simp [putE, putOk, hs, hn], by simp [putL, putOk, hs, hn]⟩

set_option maxHeartbeats 400000 in
theorem put_any (n : Nat) (s : Int) (w : World) :
    Calls Tryd.prog 81 #[.int .u64 (n : Int), .int .i64 s] w fun e w' => ∃ v', e = .returned (.tuple #[v', .int .i64 (putE n s)]) ∧ Own w.heap.size w' v' (putL n s) ∧ Nx w w' := by
  rcases part_of_put n s with ⟨h1, h2, h3⟩ | ⟨k, rfl, hk, h1, ⟨h2, h3, h4⟩ | ⟨h2, h3, h4⟩⟩
  · rw [h2, h3]
    clear h2 h3
    go_enter Tryd.func81, Tryd.ntmps81
    go_wp2_with fail
    refine (isSize_any s w).mono ?_
    rintro e w' ⟨rfl, rfl⟩
    go_wp2
    go_ret2
    exact ⟨_, rfl, Own.nil _ _, Nx.refl _⟩
  · rw [h3, h4]
    clear h3 h4
    have ht : ((n : Int) / 2 ^ (8 * k) != 0) = false := by simpa using (shr_zero n k).2 h2
    have hs : decide ((0 : Int) ≤ 8 * (k : Int)) = true := by simp; omega
    go_enter Tryd.func81, Tryd.ntmps81
    go_wp2_with fail
    refine (isSize_any k w).mono ?_
    rintro e w' ⟨rfl, rfl⟩
    have hs64 : 8 * (k : Int) ≤ 64 := by omega
    have hs0 : 0 ≤ 8 * (k : Int) := by omega
    go_wp2_with fail
    refine (lowFirst_any w.heap.size _ [] n k w (by omega) (Nat.le_refl _) (by simp) (Own.nil _ _)).mono ?_
    rintro e w' ⟨v', rfl, hown, hb⟩
    go_wp2
    go_ret2
    exact ⟨_, rfl, by simpa using hown, hb⟩
  · rw [h3, h4]
    clear h3 h4
    have ht : ((n : Int) / 2 ^ (8 * k) != 0) = true := by
      have := mt (shr_zero n k).1 h2
      simpa using this
    go_enter Tryd.func81, Tryd.ntmps81
    go_wp2_with fail
    refine (isSize_any k w).mono ?_
    rintro e w' ⟨rfl, rfl⟩
    have hs64 : 8 * (k : Int) ≤ 64 := by omega
    have hs0 : 0 ≤ 8 * (k : Int) := by omega
    go_wp2
    go_ret2
    exact ⟨_, rfl, Own.nil _ _, Nx.refl _⟩
end Go.Proofs.YtjbeemoobmagnaaDoor
end

section
namespace Go.Proofs.YtjbeemoobmagnaaDoor
open Go.RowKit

set_option maxHeartbeats 400000 in
theorem refPut_any (n : Nat) (s : Int) (w : World) (hn : (n : Int) ≤ 18446744073709551615) :
    Calls Tryd.prog 51 #[.int .u64 (n : Int), .int .i64 s] w fun e w' => ∃ v', e = .returned (.tuple #[v', .int .i64 (putE n s)]) ∧ Own w.heap.size w' v' (putL n s) ∧ Nx w w' := by
  rcases part_of_put n s with ⟨h1, h2, h3⟩ | ⟨k, rfl, hk, h1, ⟨h2, h3, h4⟩ | ⟨h2, h3, h4⟩⟩
  · rw [h2, h3]
    clear h2 h3
    go_enter Tryd.func51, Tryd.ntmps51
    go_wp2_with fail
    refine (refSize_any s w).mono ?_
    rintro e w' ⟨rfl, rfl⟩
    go_wp2
    go_ret2
    exact ⟨_, rfl, Own.nil _ _, Nx.refl _⟩
  · rw [h3, h4]
    clear h3 h4
    have ht : ((n : Int) / 2 ^ (8 * k) != 0) = false := by simpa using (shr_zero n k).2 h2
    by_cases h8 : (k : Int) < 8
    all_goals
      go_enter Tryd.func51, Tryd.ntmps51
      go_wp2_with fail
      refine (refSize_any k w).mono ?_
      rintro e w' ⟨rfl, rfl⟩
      have hs64 : 8 * (k : Int) ≤ 64 := by omega
      have hs0 : 0 ≤ 8 * (k : Int) := by omega
      go_wp2_with fail
      refine (refLow_any n k w hn (by omega)).mono ?_
      rintro e w' ⟨v', rfl, hown, hb⟩
      go_wp2
      go_ret2
      exact ⟨_, rfl, hown, hb⟩
  · rw [h3, h4]
    clear h3 h4
    have ht : ((n : Int) / 2 ^ (8 * k) != 0) = true := by
      have := mt (shr_zero n k).1 h2
      simpa using this
    have h8 : (k : Int) < 8 := by
      rcases hk with rfl | rfl | rfl | rfl
      · omega
      · omega
      · omega
      · exact absurd (show n < 256 ^ 8 by omega) h2
    clear h2
    go_enter Tryd.func51, Tryd.ntmps51
    go_wp2_with fail
    refine (refSize_any k w).mono ?_
    rintro e w' ⟨rfl, rfl⟩
    have hs64 : 8 * (k : Int) ≤ 64 := by omega
    have hs0 : 0 ≤ 8 * (k : Int) := by omega
    go_wp2
    go_ret2
    exact ⟨_, rfl, Own.nil _ _, Nx.refl _⟩

set_option maxHeartbeats 400000 in
theorem refPart_any (v : Value) (l : List UInt8) (at_ n : Int) (w : World) (h : Rd w v l) (hr : l.length ≤ 140737488355328) :
    Calls Tryd.prog 59 #[v, .int .i64 at_, .int .i64 n] w fun e w' => ∃ v', e = .returned (.tuple #[v', .int .i64 (cutE l.length at_ n)]) ∧ Own w.heap.size w' v' (cutL l at_ n) ∧ Nx w w' := by
  have hrd := h
  obtain ⟨A, c, rfl, hc, hm, ha⟩ := h
  unfold maxLen at hm
  rcases cutE_cases l.length at_ n with ⟨h1, h2⟩ | ⟨h1, h2⟩ | ⟨i, m, rfl, rfl, h1, h2⟩
  · have hL : cutL l at_ n = [] := cutL_bad (by rw [h2]; omega)
    rw [h2, hL]
    clear h2 hL
    by_cases h1a : at_ < 0
    · go_enter Tryd.func59, Tryd.ntmps59
      go_wp2
      go_ret2
      exact ⟨_, rfl, Own.nil _ _, Nx.refl _⟩
    · by_cases h1b : (l.length : Int) < at_
      · go_enter Tryd.func59, Tryd.ntmps59
        go_wp2
        go_ret2
        exact ⟨_, rfl, Own.nil _ _, Nx.refl _⟩
      · have h1c : n < 0 := by omega
        go_enter Tryd.func59, Tryd.ntmps59
        go_wp2
        go_ret2
        exact ⟨_, rfl, Own.nil _ _, Nx.refl _⟩
  · have hL : cutL l at_ n = [] := cutL_bad (by rw [h2]; omega)
    rw [h2, hL]
    clear h2 hL
    obtain ⟨h3, h4, h5, h6⟩ := h1
    go_enter Tryd.func59, Tryd.ntmps59
    go_wp2
    go_ret2
    exact ⟨_, rfl, Own.nil _ _, Nx.refl _⟩
  · rw [h2, cutL_ok h1]
    clear h2
    have d1 : decide ((i : Int) < 0) = false := by simp
    have d2 : decide (l.length < i) = false := by simp; omega
    have d3 : decide ((m : Int) < 0) = false := by simp
    have d4 : decide ((l.length : Int) - (i : Int) < (m : Int)) = false := by simp; omega
    go_enter Tryd.func59, Tryd.ntmps59
    go_wp2
    go_loopw [8, 9] (fun u j wr => ∃ k : Nat, k ≤ m ∧ j = .int .i64 k ∧ Own w.heap.size wr u ((l.drop i).take k) ∧ Nx w wr) (fun _ j _ => m - (intOf j).toNat)
    case atStart => exact ⟨0, by omega, rfl, by simpa using Own.nil _ _, Nx.refl _⟩
    case round =>
      obtain ⟨k, hk, rfl, hown, hb⟩ := hrel
      by_cases hlt : k < m
      · obtain ⟨A, c, hv, _, _, ha'⟩ := hrd.nx hb
        obtain ⟨b, o, hA, hbb, hcc⟩ := ha' (by omega)
        simp at hv
        obtain ⟨rfl, rfl⟩ := hv
        subst hA
        have g := hcc (i + k) (by omega)
        clear hcc ha' ha
        have hik : (i : Int) + (k : Int) < (l.length : Int) := by omega
        have hik0 : (0 : Int) ≤ (i : Int) + (k : Int) := by omega
        have htn : ((i : Int) + (k : Int)).toNat = i + k := by omega
        go_wp2_with (at_builtin; refine wpList_app rfl (.tmp 33) (.tmp 40) _ rfl Tryd.underlying34 info_u8 w.heap.size _ (.slice (some ⟨wr.heap.size, 0, none⟩) 1 1) _ [l[i + k]] rfl rfl (hown.alloc _) (Rd.one _ _ _ _ ?c1) ?c2 ?c3 ?_)
        case c1 => rfl
        case c2 => simp; omega
        case c3 => have := hb.size; simp; omega
        intro v' w' hown' hb' _
        go_wp2
        go_roundw
        case rel => exact ⟨k + 1, by omega, by go_num, by rw [take_drop_snoc l i k (by omega)]; exact hown', (hb.alloc _).app hb'⟩
        case measure => simp [intOf]; omega
      · obtain rfl : k = m := by omega
        go_wp2
        go_ret2
        exact ⟨_, rfl, hown, hb⟩

def getE (L : Nat) (at_ s : Int) : Int := if isSz s = true then cutE L at_ s else 2
def getN (l : List UInt8) (at_ s : Int) : Nat := if isSz s = true then num (cutL l at_ s) else 0

/-- The three ways of Get. -/
theorem get_cases (l : List UInt8) (at_ s : Int) : (isSz s = false ∧ getE l.length at_ s = 2 ∧ getN l at_ s = 0) ∨
    (isSz s = true ∧ (at_ < 0 ∨ (l.length : Int) < at_ ∨ s < 0) ∧ getE l.length at_ s = 2 ∧ getN l at_ s = 0) ∨
    (isSz s = true ∧ (0 ≤ at_ ∧ at_ ≤ l.length ∧ 0 ≤ s ∧ (l.length : Int) - at_ < s) ∧ getE l.length at_ s = 4 ∧ getN l at_ s = 0) ∨
    (∃ i m : Nat, at_ = i ∧ s = m ∧ (m = 1 ∨ m = 2 ∨ m = 4 ∨ m = 8) ∧ isSz s = true ∧ i + m ≤ l.length ∧ getE l.length at_ s = 0 ∧ getN l at_ s = num ((l.drop i).take m)) := by
  rcases hs : isSz s with _ | _
  · exact .inl ⟨rfl, by simp [getE, hs], by simp [getN, hs]⟩
  · have h := isSz_yes hs
    rcases cutE_cases l.length at_ s with ⟨h1, h2⟩ | ⟨h1, h2⟩ | ⟨i, m, rfl, rfl, h1, h2⟩
    · have hL : cutL l at_ s = [] := cutL_bad (by rw [h2]; omega)
      exact .inr (.inl ⟨rfl, h1, by simp [getE, hs, h2], by simp [getN, hL, num]⟩)
    · have hL : cutL l at_ s = [] := cutL_bad (by rw [h2]; omega)
      exact .inr (.inr (.inl ⟨rfl, h1, by simp [getE, hs, h2], by simp [getN, hL, num]⟩))
    · exact .inr (.inr (.inr ⟨i, m, rfl, rfl, by omega, rfl, h1, by simp [getE, hs, h2], by simp [getN, hs, cutL_ok h1]⟩))

theorem pow256_le {j : Nat} (h : j ≤ 8) : 256 ^ j ≤ 18446744073709551616 := by
  have : 256 ^ j ≤ 256 ^ 8 := Nat.pow_le_pow_right (by omega) h
  omega
theorem num_lt64 {L : List UInt8} (h : L.length ≤ 8) : num L < 18446744073709551616 := Nat.lt_of_lt_of_le (num_lt L) (pow256_le h)

theorem get_step (L : List UInt8) (k : Nat) (hk : k < L.length) (h8 : L.length ≤ 8) :
    bits .or .u64 ((num (L.take k) : Nat) : Int) (IntKind.u64.wrap (IntKind.u64.wrap (L[k].toNat : Int) * 2 ^ (8 * k))) = ((num (L.take (k + 1)) : Nat) : Int) := by
  have hx := L[k].toNat_lt
  have hl : (L.take k).length = k := by simp; omega
  have hn : num (L.take k) < 256 ^ k := by have := num_lt (L.take k); rwa [hl] at this
  have hp : 256 ^ (k + 1) ≤ 18446744073709551616 := pow256_le (by omega)
  have hp' : 256 ^ k * 256 ≤ 18446744073709551616 := by rwa [Nat.pow_succ] at hp
  have hxk : L[k].toNat * 256 ^ k < 18446744073709551616 := by
    have : L[k].toNat * 256 ^ k ≤ 255 * 256 ^ k := Nat.mul_le_mul_right _ (by omega)
    omega
  have e2 : (2 : Int) ^ (8 * k) = ((256 ^ k : Nat) : Int) := by rw [show (256 : Nat) ^ k = 2 ^ (8 * k) by rw [Nat.pow_mul]]; simp
  have e3 : IntKind.u64.wrap (IntKind.u64.wrap (L[k].toNat : Int) * 2 ^ (8 * k)) = ((L[k].toNat * 256 ^ k : Nat) : Int) := by
    have h1 : IntKind.u64.wrap (L[k].toNat : Int) = (L[k].toNat : Int) := by rw [IntKind.wrap_u64]; omega
    rw [h1, e2, ← Int.natCast_mul, IntKind.wrap_u64]
    omega
  rw [e3, u64_or_nat _ _ (by omega) hxk, or_num _ _ _ hn, List.take_succ_eq_append_getElem hk, num_snoc, hl]

set_option maxHeartbeats 400000 in
theorem get_any (v : Value) (l : List UInt8) (at_ s : Int) (w : World) (h : Rd w v l) :
    Calls Tryd.prog 89 #[v, .int .i64 at_, .int .i64 s] w fun e w' => e = .returned (.tuple #[.int .u64 (getN l at_ s : Int), .int .i64 (getE l.length at_ s)]) ∧ w = w' := by
  rcases get_cases l at_ s with ⟨h1, h2, h3⟩ | ⟨h1, h4, h2, h3⟩ | ⟨h1, h4, h2, h3⟩ | ⟨i, m, rfl, rfl, hm, h1, h4, h2, h3⟩
  · rw [h2, h3]
    clear h2 h3
    go_enter Tryd.func89, Tryd.ntmps89
    go_wp2_with fail
    refine (isSize_any s w).mono ?_
    rintro e w' ⟨rfl, rfl⟩
    go_wp2
    go_ret2
    exact ⟨rfl, rfl⟩
  · rw [h2, h3]
    clear h2 h3
    go_enter Tryd.func89, Tryd.ntmps89
    go_wp2_with fail
    refine (isSize_any s w).mono ?_
    rintro e w' ⟨rfl, rfl⟩
    go_wp2_with fail
    refine (piece_arg v l at_ s w h h4).mono ?_
    rintro e w' ⟨rfl, rfl⟩
    go_wp2
    go_ret2
    exact ⟨rfl, rfl⟩
  · rw [h2, h3]
    clear h2 h3
    go_enter Tryd.func89, Tryd.ntmps89
    go_wp2_with fail
    refine (isSize_any s w).mono ?_
    rintro e w' ⟨rfl, rfl⟩
    go_wp2_with fail
    refine (piece_short v l at_ s w h h4).mono ?_
    rintro e w' ⟨rfl, rfl⟩
    go_wp2
    go_ret2
    exact ⟨rfl, rfl⟩
  · have HP := Lib.hid (piece_ok v l i m w h h4)
    have HL := cutL_len h4
    rw [h2, h3]
    clear h2 h3
    generalize (l.drop i).take m = L at *
    have HL8 : L.length ≤ 8 := by omega
    have HLM := Lib.hid HL
    clear HL
    go_enter Tryd.func89, Tryd.ntmps89
    go_wp2_with fail
    refine (isSize_any m w).mono ?_
    rintro e w' ⟨rfl, rfl⟩
    go_wp2_with fail
    refine HP.out.mono ?_
    rintro e w' ⟨v', rfl, hv, rfl⟩
    obtain ⟨A, c, rfl, hc, hmx, ha⟩ := hv
    go_wp2
    go_loop [10, 28] (fun u j => ∃ k : Nat, k ≤ L.length ∧ j = .int .i64 k ∧ u = .int .u64 ((num (L.take k) : Nat) : Int)) (fun _ j => L.length - (intOf j).toNat)
    case atStart => exact ⟨0, by omega, rfl, rfl⟩
    case round =>
      obtain ⟨k, hk, rfl, rfl⟩ := hrel
      by_cases hlt : k < L.length
      · obtain ⟨b, o, rfl, hb, hcc⟩ := ha (by omega)
        have g := hcc k hlt
        clear hcc ha
        have hs64 : 8 * (k : Int) ≤ 64 := by omega
        have hs0 : 0 ≤ 8 * (k : Int) := by omega
        have HS := Lib.hid (get_step L k hlt HL8)
        go_wp2
        go_round
        case rel => exact ⟨k + 1, by omega, by go_num, by rw [HS.out]⟩
        case measure => simp [intOf]; omega
      · obtain rfl : k = L.length := by omega
        go_wp2
        go_ret2
        exact ⟨rfl, rfl⟩

theorem rget_step (L : List UInt8) (k : Nat) (hk : k < L.length) (h8 : L.length ≤ 8) :
    num (L.drop k) = L[k].toNat + 256 * num (L.drop (k + 1)) ∧ num (L.drop (k + 1)) < 72057594037927936 := by
  refine ⟨by rw [List.drop_eq_getElem_cons hk]; rfl, ?_⟩
  have h := num_lt (L.drop (k + 1))
  have h2 : 256 ^ (L.drop (k + 1)).length ≤ 256 ^ 7 := Nat.pow_le_pow_right (by omega) (by simp; omega)
  omega

theorem rget_val (L : List UInt8) (k : Nat) (hk : k < L.length) (h8 : L.length ≤ 8) (q : Nat) (hq : q = num (L.drop (k + 1))) :
    IntKind.u64.wrap (256 * (q : Int) + IntKind.u64.wrap (L[k].toNat : Int)) = ((num (L.drop k) : Nat) : Int) := by
  obtain ⟨h1, h2⟩ := rget_step L k hk h8
  have hx := L[k].toNat_lt
  rw [h1, ← hq, IntKind.wrap_u64, IntKind.wrap_u64]
  omega

set_option maxHeartbeats 400000 in
theorem refGet_any (v : Value) (l : List UInt8) (at_ s : Int) (w : World) (h : Rd w v l) (hr : l.length ≤ 140737488355328) :
    Calls Tryd.prog 60 #[v, .int .i64 at_, .int .i64 s] w fun e w' => e = .returned (.tuple #[.int .u64 (getN l at_ s : Int), .int .i64 (getE l.length at_ s)]) ∧ Nx w w' := by
  rcases hs : isSz s with _ | _
  · rw [show getE l.length at_ s = 2 by simp [getE, hs], show getN l at_ s = 0 by simp [getN, hs]]
    go_enter Tryd.func60, Tryd.ntmps60
    go_wp2_with fail
    refine (refSize_any s w).mono ?_
    rintro e w' ⟨rfl, rfl⟩
    go_wp2
    go_ret2
    exact ⟨rfl, Nx.refl _⟩
  · rw [show getE l.length at_ s = cutE l.length at_ s by simp [getE, hs], show getN l at_ s = num (cutL l at_ s) by simp [getN, hs]]
    have HL8 : (cutL l at_ s).length ≤ 8 := by
      unfold cutL
      have := isSz_yes hs
      split
      · simp; omega
      · simp
    have HP := Lib.hid (refPart_any v l at_ s w h hr)
    generalize cutL l at_ s = L at *
    generalize cutE l.length at_ s = E at *
    go_enter Tryd.func60, Tryd.ntmps60
    go_wp2_with fail
    refine (refSize_any s w).mono ?_
    rintro e w' ⟨rfl, rfl⟩
    go_wp2_with fail
    refine HP.out.mono ?_
    rintro e w1 ⟨v', rfl, hown, hb⟩
    obtain ⟨A, c, rfl, hc, hmx, ha⟩ := hown.rd
    unfold maxLen at hmx
    go_wp2
    go_loop [10, 11] (fun u j => ∃ k : Nat, k ≤ L.length ∧ j = .int .i64 ((k : Int) - 1) ∧ u = .int .u64 ((num (L.drop k) : Nat) : Int)) (fun _ j => (intOf j + 1).toNat)
    case atStart => exact ⟨L.length, Nat.le_refl _, rfl, by simp [num]⟩
    case round =>
      obtain ⟨k, hk, rfl, rfl⟩ := hrel
      by_cases hlt : 0 < k
      · obtain ⟨b, o, rfl, hbb, hcc⟩ := ha (by omega)
        have g := hcc (k - 1) (by omega)
        have HS := Lib.hid (rget_val L (k - 1) (by omega) HL8 (num (L.drop k)) (by rw [show k - 1 + 1 = k by omega]))
        have hq2 : ((num (L.drop k) : Nat) : Int) ≤ 72057594037927935 := by
          have := (rget_step L (k - 1) (by omega) HL8).2
          rw [show k - 1 + 1 = k by omega] at this
          omega
        clear hcc ha
        generalize num (L.drop k) = q at *
        have htn : ((k : Int) - 1).toNat = k - 1 := by omega
        have hk1 : (0 : Int) ≤ (k : Int) - 1 := by omega
        have hk2 : (k : Int) - 1 < (L.length : Int) := by omega
        go_wp2
        go_round
        case rel => exact ⟨k - 1, by omega, by rw [show ((k - 1 : Nat) : Int) = (k : Int) - 1 by omega], by rw [HS.out]⟩
        case measure => simp [intOf]; omega
      · obtain rfl : k = 0 := by omega
        go_wp2
        go_ret2
        exact ⟨rfl, hb⟩
end Go.Proofs.YtjbeemoobmagnaaDoor
end

section
namespace Go.Proofs.YtjbeemoobmagnaaDoor
open Go.RowKit
set_option linter.unusedVariables false
set_option linter.unusedSimpArgs false

/-- Block g of w is the row cs, and may be written. -/
def Row (w : World) (g : Nat) (cs : Array Value) (t : TypeId) : Prop := w.heap[g]? = some (.cells cs t (0, 0))
theorem Row.lt {w : World} {g : Nat} {cs : Array Value} {t : TypeId} (h : Row w g cs t) : g < w.heap.size := (Array.getElem?_eq_some_iff.1 h).1
theorem Row.nx {w w' : World} {g : Nat} {cs : Array Value} {t : TypeId} (h : Row w g cs t) (k : Nx w w') : Row w' g cs t := by
  unfold Row
  rw [k.block g h.lt]; exact h
theorem Row.cell {w : World} {g : Nat} {cs : Array Value} {t : TypeId} (h : Row w g cs t) {i : Nat} {v : Value} (hv : cs[i]? = some v) : w.cell? ⟨g, i, none⟩ = some v := by
  rw [cell_of_row w g i cs t (0, 0) h]; exact hv
theorem Row.frozen {w : World} {g : Nat} {cs : Array Value} {t : TypeId} (h : Row w g cs t) (i : Nat) : w.frozen? ⟨g, i, none⟩ = false := frozen_of_row w g i cs t h
theorem Row.new (w : World) (cs : Array Value) (t : TypeId) (g : Nat) (hg : g = w.heap.size) : Row (w.alloc (.cells cs t)) g cs t := by
  subst hg; exact heap_alloc_new w _
theorem Row.alloc {w : World} {g : Nat} {cs : Array Value} {t : TypeId} (h : Row w g cs t) (o : Obj) : Row (w.alloc o) g cs t := h.nx ((Nx.refl w).alloc o)
theorem Row.drewN {w : World} {g : Nat} {cs : Array Value} {t : TypeId} (h : Row w g cs t) (n : Nat) : Row (w.drewN n) g cs t := h
theorem Row.drew {w : World} {g : Nat} {cs : Array Value} {t : TypeId} (h : Row w g cs t) : Row w.drew g cs t := h
theorem Row.set {w : World} {g : Nat} {cs : Array Value} {t : TypeId} (h : Row w g cs t) (i : Nat) (v : Value) : Row (w.setCell ⟨g, i, none⟩ v) g (cs.setIfInBounds i v) t := heap_setCell_same w g i cs t v h
theorem Row.other {w : World} {g : Nat} {cs : Array Value} {t : TypeId} (h : Row w g cs t) (k i : Nat) (v : Value) (hk : g ≠ k) : Row (w.setCell ⟨k, i, none⟩ v) g cs t := by
  unfold Row
  rw [heap_setCell_other w ⟨k, i, none⟩ g v hk]; exact h
theorem setCell_size (w : World) (a : Addr) (v : Value) : (w.setCell a v).heap.size = w.heap.size := by simp [World.setCell]
end Go.Proofs.YtjbeemoobmagnaaDoor
end

section
namespace Go.Proofs.YtjbeemoobmagnaaDoor
open Go.RowKit
set_option linter.unusedVariables false
set_option linter.unusedSimpArgs false
theorem Row.zero4 {w : World} {g : Nat} {t : TypeId} (h : Row w g #[.int .u64 0, .int .u64 0, .int .u64 0, .int .u64 0] t) : w.cell? ⟨g, 0, none⟩ = some (.int .u64 0) ∧ w.cell? ⟨g, 1, none⟩ = some (.int .u64 0) ∧ w.cell? ⟨g, 2, none⟩ = some (.int .u64 0) ∧ w.cell? ⟨g, 3, none⟩ = some (.int .u64 0) := ⟨h.cell rfl, h.cell rfl, h.cell rfl, h.cell rfl⟩
theorem Row.four {w : World} {g n : Nat} {t : TypeId} (h : Row w g #[.int .u64 (lim n 0 : Int), .int .u64 (lim n 1 : Int), .int .u64 (lim n 2 : Int), .int .u64 (lim n 3 : Int)] t) : w.cell? ⟨g, 0, none⟩ = some (.int .u64 (lim n 0 : Int)) ∧ w.cell? ⟨g, 1, none⟩ = some (.int .u64 (lim n 1 : Int)) ∧ w.cell? ⟨g, 2, none⟩ = some (.int .u64 (lim n 2 : Int)) ∧ w.cell? ⟨g, 3, none⟩ = some (.int .u64 (lim n 3 : Int)) := ⟨h.cell rfl, h.cell rfl, h.cell rfl, h.cell rfl⟩

theorem Row.new2 (w : World) (o1 : Obj) (cs : Array Value) (t : TypeId) : Row ((w.alloc o1).alloc (.cells cs t)) (w.heap.size + 1) cs t := Row.new _ _ _ _ (by simp)
theorem Row.new3 (w : World) (o1 o2 : Obj) (cs : Array Value) (t : TypeId) : Row (((w.alloc o1).alloc o2).alloc (.cells cs t)) (w.heap.size + 1 + 1) cs t := Row.new _ _ _ _ (by simp)
theorem Nx.setRow {a b : World} (h : Nx a b) {g : Nat} (cs : Array Value) (hp : a.heap.size ≤ g) : Nx a (b.setRow g cs) :=
  ⟨h.os, h.tape, h.output, by rw [size_setRow]; exact h.size, fun k hk => by rw [setRow_other _ _ _ _ (by omega)]; exact h.block k hk⟩
theorem Row.setRow {w : World} {g : Nat} {old : Array Value} {t : TypeId} (h : Row w g old t) (cs : Array Value) : Row (w.setRow g cs) g cs t := setRow_heap w g old cs t (0, 0) h
theorem Row.setRow_other {w : World} {g k : Nat} {cs : Array Value} {t : TypeId} (h : Row w g cs t) (new : Array Value) (hk : g ≠ k) : Row (w.setRow k new) g cs t := by
  unfold Row
  rw [Go.setRow_other _ _ _ _ hk]; exact h
end Go.Proofs.YtjbeemoobmagnaaDoor
end

section
namespace Go.Proofs.YtjbeemoobmagnaaDoor
open Go.RowKit
set_option linter.unusedVariables false
set_option linter.unusedSimpArgs false
section
variable {P : Program}
/-- A cut of an array that stands in a block. -/
theorem slice_arr (t e : TypeId) (n : Nat) (ht : P.underlying t = some (.array n e)) (hsz : ∀ w, (sizeOf e).run P w = .ok 1 w) (g lo hi : Nat) (zl zh : Int) (hl : zl = lo) (hh : zh = hi) (h1 : lo ≤ hi) (h2 : hi ≤ n) (h3 : lo < n) (w : World) :
    (Instr.sliceAt t (.pointer (some ⟨g, 0, none⟩)) (some (.int .i64 zl)) (some (.int .i64 zh)) none).run P w = .ok (.slice (some ⟨g, lo, none⟩) (hi - lo) (n - lo)) w := by
  subst hl hh
  have e1 : ¬ (n = lo) := by omega
  simp [Instr.sliceAt, Instr.sureAddr, run_underlying ht, Instr.sliceBounds, run_sliceBound, hsz, e1, h1, h2, addr_add, (by omega : (lo : Int) ≤ (hi : Int)), (by omega : (hi : Int) ≤ (n : Int))]
theorem slice_arr_all (t e : TypeId) (n : Nat) (ht : P.underlying t = some (.array n e)) (hsz : ∀ w, (sizeOf e).run P w = .ok 1 w) (g : Nat) (h3 : 0 < n) (w : World) :
    (Instr.sliceAt t (.pointer (some ⟨g, 0, none⟩)) none none none).run P w = .ok (.slice (some ⟨g, 0, none⟩) n n) w := by
  have e1 : ¬ (n = 0) := by omega
  simp [Instr.sliceAt, Instr.sureAddr, run_underlying ht, Instr.sliceBounds, run_sliceBound, hsz, e1, addr_add]
/-- A slice up to a place. -/
theorem slice_to (t e : TypeId) (ht : P.underlying t = some (.slice e)) (hsz : ∀ w, (sizeOf e).run P w = .ok 1 w) (A : Option Addr) (n c hi : Nat) (zh : Int) (hh : zh = hi) (h1 : hi ≤ c) (w : World) :
    (Instr.sliceAt t (.slice A n c) none (some (.int .i64 zh)) none).run P w = .ok (.slice A hi c) w := by
  subst hh
  have e2 : (hi : Int) ≤ (c : Int) := by omega
  rcases A with _ | ⟨b, o, p⟩
  · simp [Instr.sliceAt, Instr.slice, Instr.sureAddr, run_underlying ht, Instr.sliceBounds, run_sliceBound, hsz, e2, h1]
  · simp [Instr.sliceAt, Instr.slice, Instr.sureAddr, run_underlying ht, Instr.sliceBounds, run_sliceBound, hsz, e2, h1]
    intro _
    unfold Addr.add
    simp
/-- What a slice is from a place on. -/
def fromV (A : Option Addr) (n c lo : Nat) : Value := .slice (if c = lo then A else A.map (·.add lo)) (n - lo) (c - lo)
theorem slice_fromV (t e : TypeId) (ht : P.underlying t = some (.slice e)) (hsz : ∀ w, (sizeOf e).run P w = .ok 1 w) (A : Option Addr) (n c lo : Nat) (zl : Int) (hl : zl = lo) (h1 : lo ≤ n) (h2 : n ≤ c) (w : World) :
    (Instr.sliceAt t (.slice A n c) (some (.int .i64 zl)) none none).run P w = .ok (fromV A n c lo) w := by
  subst hl
  have e2 : (lo : Int) ≤ (n : Int) := by omega
  unfold fromV
  simp [Instr.sliceAt, Instr.slice, Instr.sureAddr, run_underlying ht, Instr.sliceBounds, run_sliceBound, hsz, e2, h1]
theorem fromV_rd {w : World} {A : Option Addr} {c : Nat} {l : List UInt8} (ha : At w A l) (hc : l.length ≤ c) (hm : c ≤ maxLen) (lo : Nat) (h1 : lo ≤ l.length) : Rd w (fromV A l.length c lo) (l.drop lo) := by
  unfold fromV
  split
  · have e : l.drop lo = [] := List.drop_of_length_le (by omega)
    rw [e, show l.length - lo = 0 by omega]
    exact Rd.none0 w _ _ (by omega)
  · have := Rd.cut (c := c - lo) ha (i := lo) (m := l.length - lo) (by omega) (by omega) (by omega)
    rwa [List.take_of_length_le (by rw [List.length_drop]; omega)] at this
end
end Go.Proofs.YtjbeemoobmagnaaDoor
end

section
namespace Go.Proofs.YtjbeemoobmagnaaDoor
open Go

section
variable {P : Program} {ops : Array Oper} {Q : Exit → Act → World → Prop} {md : Region.Mode}

/-- What each operation waits for. -/
def needsOf (md : Region.Mode) (ops : Array Oper) : List (List Nat) := ops.toList.map fun o => (o.after.toList.filter fun e => Region.binds md e).map (·.on)

theorem ready_needs {listed : Array Bool} {i : Nat} (h : i ∈ Region.ready md ops listed) : i < ops.size ∧ listed.getD i true = false ∧ ∀ d ∈ (needsOf md ops).getD i [], listed.getD d false = true := by
  unfold Region.ready at h
  rw [List.mem_filter, List.mem_range] at h
  obtain ⟨hi, hb⟩ := h
  rw [Bool.and_eq_true, Bool.not_eq_true'] at hb
  obtain ⟨h1, h2⟩ := hb
  refine ⟨hi, h1, ?_⟩
  have ho : ops[i]? = some ops[i] := by simp [hi]
  rw [ho] at h2
  simp only [Option.map_some, Option.getD_some] at h2
  intro d hd
  have hn : (needsOf md ops).getD i [] = (ops[i].after.toList.filter fun e => Region.binds md e).map (·.on) := by
    unfold needsOf
    rw [List.getD_eq_getElem?_getD, List.getElem?_map, Array.getElem?_toList, ho]
    rfl
  rw [hn, List.mem_map] at hd
  obtain ⟨e, he, rfl⟩ := hd
  rw [List.mem_filter] at he
  rw [Array.all_eq_true'] at h2
  have := h2 e (by simpa using he.1)
  rw [Bool.or_eq_true, Bool.not_eq_true'] at this
  rcases this with h | h
  · rw [he.2] at h; cases h
  · exact h

theorem ready_nil {listed : Array Bool} (hl : listed.size = ops.size) (hord : ∀ i, ∀ d ∈ (needsOf md ops).getD i [], d < i) (h : Region.ready md ops listed = []) : ∀ i, i < ops.size → listed.getD i false = true := by
  intro i
  induction i using Nat.strongRecOn with
  | _ i ih =>
    intro hi
    by_cases hc : listed.getD i false = true
    · exact hc
    · exfalso
      have hf : listed.getD i true = false := by
        rw [Array.getD_eq_getD_getElem?] at hc ⊢
        have : listed[i]? = some listed[i] := by simp [hl, hi]
        rw [this] at hc ⊢
        simpa using hc
      have ho : ops[i]? = some ops[i] := by simp [hi]
      have hm : i ∈ Region.ready md ops listed := by
        unfold Region.ready
        rw [List.mem_filter, List.mem_range]
        refine ⟨hi, ?_⟩
        rw [hf, ho]
        simp only [Bool.not_false, Bool.true_and, Option.map_some, Option.getD_some]
        rw [Array.all_eq_true']
        intro e he
        by_cases hb : Region.binds md e = true
        · have hd : e.on ∈ (needsOf md ops).getD i [] := by
            unfold needsOf
            rw [List.getD_eq_getElem?_getD, List.getElem?_map, Array.getElem?_toList, ho]
            simp only [Option.map_some, Option.getD_some, List.mem_map, List.mem_filter]
            exact ⟨e, ⟨by simpa using he, hb⟩, rfl⟩
          have hlt := hord i _ hd
          rw [ih _ hlt (by omega), Bool.or_true]
        · simp only [Bool.not_eq_true] at hb
          rw [hb]; rfl
      rw [h] at hm
      cases hm

/-- How many are not carried out yet. -/
def left (listed : Array Bool) : Nat := listed.toList.count false
theorem left_set {listed : Array Bool} {i : Nat} (h : listed.getD i true = false) : left (listed.setIfInBounds i true) + 1 = left listed := by
  have hi : i < listed.size := by
    rw [Array.getD_eq_getD_getElem?] at h
    by_cases hi : i < listed.size
    · exact hi
    · rw [Array.getElem?_eq_none (by omega)] at h; cases h
  have hv : listed.toList[i]'(by simpa using hi) = false := by
    rw [Array.getD_eq_getD_getElem?] at h
    simpa [hi] using h
  unfold left
  rw [Array.toList_setIfInBounds, List.count_set (by simpa using hi), hv]
  have hp : 0 < listed.toList.count false := List.count_pos_iff.2 (hv ▸ List.getElem_mem _)
  have e1 : (false == false) = true := rfl
  have e2 : (true == false) = false := rfl
  rw [e1, e2]
  simp only [if_true, Bool.false_eq_true, if_false]
  omega
theorem getD_set {listed : Array Bool} {i : Nat} (hi : i < listed.size) (j : Nat) : (listed.setIfInBounds i true).getD j false = (j == i || listed.getD j false) := by
  rw [Array.getD_eq_getD_getElem?, Array.getD_eq_getD_getElem?, Array.getElem?_setIfInBounds]
  by_cases h : i = j
  · subst h; simp [hi]
  · rw [if_neg h]
    have : (j == i) = false := by rw [beq_eq_false_iff_ne]; exact fun e => h e.symm
    rw [this, Bool.false_or]

theorem wpAny_inv {needs : List (List Nat)} (hn : needsOf md ops = needs) (hord : ∀ i, ∀ d ∈ needs.getD i [], d < i) (I : (Nat → Bool) → Act → World → Prop)
    (hstep : ∀ L a w, I L a w → ∀ i, i < ops.size → L i = false → (∀ d ∈ needs.getD i [], L d = true) → ∀ K : Act → World → Prop, (∀ a w, I (fun j => j == i || L j) a w → K a w) → wpOp P ops Q i K a w)
    (hend : ∀ L a w, I L a w → (∀ i, i < ops.size → L i = true) → Q .normal a w) :
    ∀ fuel (listed : Array Bool) a w, listed.size = ops.size → left listed ≤ fuel → I (fun j => listed.getD j false) a w → wpAny P md ops Q fuel listed a w := by
  subst hn
  intro fuel
  induction fuel with
  | zero =>
    intro listed a w hl hf hI
    have hr : Region.ready md ops listed = [] := by
      cases h : Region.ready md ops listed with
      | nil => rfl
      | cons x xs =>
        have hx := (ready_needs (h ▸ List.mem_cons_self : x ∈ Region.ready md ops listed)).2.1
        have := left_set hx
        omega
    exact ⟨hr, hend _ _ _ hI (ready_nil hl hord hr)⟩
  | succ fuel ih =>
    intro listed a w hl hf hI
    refine ⟨fun hr => hend _ _ _ hI (ready_nil hl hord hr), fun i hi => ?_⟩
    obtain ⟨h1, h2, h3⟩ := ready_needs hi
    have hs := left_set h2
    refine hstep _ a w hI i h1 ?_ h3 _ fun a' w' hI' => ih _ a' w' (by simp [hl]) (by omega) ?_
    · rw [Array.getD_eq_getD_getElem?] at h2 ⊢
      have : listed[i]? = some listed[i] := by simp [hl, h1]
      rw [this] at h2 ⊢
      exact h2
    · have e : (fun j => (listed.setIfInBounds i true).getD j false) = fun j => j == i || listed.getD j false := funext fun j => getD_set (by omega) j
      rw [e]; exact hI'

theorem hord_of {needs : List (List Nat)} (h : ((List.range needs.length).all fun i => (needs.getD i []).all fun d => decide (d < i)) = true) : ∀ i, ∀ d ∈ needs.getD i [], d < i := by
  intro i d hd
  by_cases hi : i < needs.length
  · rw [List.all_eq_true] at h
    have h1 := h i (List.mem_range.2 hi)
    rw [List.all_eq_true] at h1
    exact of_decide_eq_true (h1 d hd)
  · rw [List.getD_eq_getElem?_getD, List.getElem?_eq_none (by omega)] at hd
    cases hd

/-- The region, by what holds. -/
theorem wp_region_inv {id : Nat} {a : Act} {w : World} (needs : List (List Nat)) (I : (Nat → Bool) → Act → World → Prop) (hm : P.follows .mixedOrders = true) (hn : needsOf .any ops = needs) (hord : ∀ i, ∀ d ∈ needs.getD i [], d < i)
    (h0 : I (fun _ => false) a w.drew)
    (hstep : ∀ L a w, I L a w → ∀ i, i < ops.size → L i = false → (∀ d ∈ needs.getD i [], L d = true) → ∀ K : Act → World → Prop, (∀ a w, I (fun j => j == i || L j) a w → K a w) → wpOp P ops Q i K a w)
    (hend : ∀ L a w, I L a w → (∀ i, i < ops.size → L i = true) → Q .normal a w) : (Code.region id ops true).wp P Q a w := by
  refine wp_region_any hm (wpAny_inv hn hord I hstep hend _ _ _ _ (by simp) ?_ ?_)
  · unfold left
    rw [Array.toList_replicate]
    exact Nat.le_trans (List.count_le_length) (by simp)
  · have e : (fun j => (Array.replicate ops.size false).getD j false) = fun _ => false := by
      funext j
      rw [Array.getD_eq_getD_getElem?, Array.getElem?_replicate]
      split <;> rfl
    rw [e]; exact h0
end
end Go.Proofs.YtjbeemoobmagnaaDoor
end

section
namespace Go.Proofs.YtjbeemoobmagnaaDoor
open Go Go.RowKit

section
variable {P : Program} {ops : Array Oper} {Q : Exit → Act → World → Prop}

theorem wpOp_of {i : Nat} {o : Oper} {K : Act → World → Prop} {a : Act} {w : World} (ho : ops[i]? = some o) (hg : o.guard = none) (h : o.wp P a w K Q) : wpOp P ops Q i K a w := by
  unfold wpOp
  rw [ho]
  show if Region.wanted o (yielded ops a.tmps) = true then _ else _
  rw [if_pos (by simp [Region.wanted, hg])]
  exact .inl h

theorem wp_call_of {o : Oper} {a : Act} {w : World} {K : Act → World → Prop} (dst : Option Tmp) (hd : o.dst = dst) (f : FuncId) (args : Array Value) (hrun : (execOp a.eval o).run P w = .ok (.enter f args) w)
    (V : Value) (hc : Calls P f args w fun e w' => e = .returned V ∧ Nx w w') (h : ∀ w', Nx w w' → K (a.put dst V) w') : o.wp P a w K Q := by
  subst hd
  unfold Oper.wp
  rw [hrun, Oper.upon_enter]
  refine hc.mono fun e w' hh => ?_
  obtain ⟨rfl, hn⟩ := hh
  exact h _ hn

theorem wp_val_of {o : Oper} {a : Act} {w : World} {K : Act → World → Prop} (dst : Option Tmp) (hd : o.dst = dst) (v : Value) (hrun : (execOp a.eval o).run P w = .ok (.value v) w) (h : K (a.put dst v) w) : o.wp P a w K Q := by
  subst hd
  unfold Oper.wp
  rw [hrun, Oper.upon_value]
  exact h
theorem ptr_ne {g h : Nat} (k : h ≠ g) : Value.pointer (some ⟨g, 0, none⟩) ≠ Value.pointer (some ⟨h, 0, none⟩) := fun e => by
  injection e with e
  injection e with e
  injection e with e
  exact k e.symm
theorem wp_region_inv2 {id : Nat} {a : Act} {w : World} (needs : List (List Nat)) (I : Act → (Nat → Bool) → Act → World → Prop) (hm : P.follows .mixedOrders = true) (hn : needsOf .any ops = needs) (hord : ∀ i, ∀ d ∈ needs.getD i [], d < i)
    (h0 : I a (fun _ => false) a w.drew)
    (hstep : ∀ L ac wr, I a L ac wr → ∀ i, i < ops.size → L i = false → (∀ d ∈ needs.getD i [], L d = true) → ∀ K : Act → World → Prop, (∀ ac wr, I a (fun j => j == i || L j) ac wr → K ac wr) → wpOp P ops Q i K ac wr)
    (hend : ∀ L ac wr, I a L ac wr → (∀ i, i < ops.size → L i = true) → Q .normal ac wr) : (Code.region id ops true).wp P Q a w :=
  wp_region_inv needs (I a) hm hn hord h0 hstep hend

theorem wp_alloc_of {o : Oper} {a : Act} {w : World} {K : Act → World → Prop} (dst : Option Tmp) (hd : o.dst = dst) (ty : TypeId) (ho : o.op = .alloc ty) (cs : Array Value) (hz : ∀ w, (zeroValue ty).run P w = .ok (.agg cs) w)
    (h : K (a.put dst (.pointer (some ⟨w.heap.size, 0, none⟩))) (w.alloc (.cells cs ty))) : o.wp P a w K Q := by
  subst hd
  unfold Oper.wp execOp
  simp only [ho]
  simp only [Instr.alloc, newVar, Sem.run_bind, hz, Result.andThen_ok, Sem.run_pure, Value.cells, go_sem]
  exact h
end
end Go.Proofs.YtjbeemoobmagnaaDoor
end

section
namespace Go.Proofs.YtjbeemoobmagnaaDoor
open Go.RowKit
set_option linter.unusedVariables false
set_option linter.unusedSimpArgs false

theorem info_u8c : (Tryd.prog.info? 5).map (fun i => (i.zero, i.size, i.bytes)) = some (some (.int .u8 0), 1, 1) := by kernel_rfl
section
variable {P : Program}
/-- Nothing, and room for n bytes behind it. -/
theorem run_grow_nil (w : World) (t ti ty : TypeId) (i : TypeInfo) (ht : P.underlying t = some (.slice 5)) (hti : P.underlying ti = some (.int .i64)) (hi : P.info? 5 = some i) (hz : i.zero = some (.int .u8 0)) (hsz : i.size = 1) (hby : i.bytes = 1)
    (n : Nat) (h0 : 0 < n) (hn : n ≤ 140737488355328) :
    (Builtin.append_ #[t, ti] ty #[.slice none 0 0, .int .i64 (n : Int)]).run P w =
      .ok (.slice (some ⟨w.heap.size, 0, none⟩) n (grownCap w n 0 5)) (w.drew.alloc (.cells (bvs (List.replicate (grownCap w n 0 5) 0)).toArray 5)) := by
  have hge := grownCap_ge w n 0 5
  have hw : IntKind.i64.wrap (n : Int) = (n : Int) := IntWalk.i64_in _ (by omega)
  have h1 : ¬ ((n : Int) < 0) := by omega
  have h2 : ¬ (281474976710656 < (n : Int)) := by omega
  have h3 : ¬ n = 0 := by omega
  have h4 : ¬ (9223372036854775807 < (n : Int)) := by omega
  have h5 : Builtin.nextslicecap n 0 = n := by unfold Builtin.nextslicecap; rw [if_pos (by omega)]
  have h6 : ¬ (281474976710656 < n) := by omega
  have hfit : ¬ (281474976710656 < Builtin.nextslicecap n 0 * i.bytes) := by rw [h5, hby]; omega
  simp [Builtin.append_, run_underlying ht, run_underlying hti, sizeOf, typeInfo, zeroValue, hi, hz, hsz, hby, asInt, asIntOf, hw, h1, h2, h3, h4, h5, h6, Question.forced, newRow, grownCap, Builtin.firstCells]
  show w.drew.alloc (.cells (Builtin.zeroCells (Value.int .u8 0).cells n ++ Builtin.zeroCells (Value.int .u8 0).cells (grownCap w n 0 5 - n)) 5) = w.drew.alloc (.cells (bvs (List.replicate (grownCap w n 0 5) 0)).toArray 5)
  have e : List.replicate (grownCap w n 0 5) (0 : UInt8) = List.replicate n 0 ++ List.replicate (grownCap w n 0 5 - n) 0 := by
    rw [List.replicate_append_replicate]
    congr 1
    omega
  rw [zeroCells_bvs, zeroCells_bvs, e, bvs_append]
  simp
theorem wpList_grow_nil {w : World} {ops : Array Oper} {rest : List Oper} {o : Oper} {a : Act} {Q : Exit → Act → World → Prop} (hgd : o.guard = none) (s x : Operand) (t ti : TypeId)
    (ho : o.op = .call { callee := .builtin .append, args := #[s, x], argTypes := #[t, ti] })
    (ht : P.underlying t = some (.slice 5)) (hti : P.underlying ti = some (.int .i64)) (hi : (P.info? 5).map (fun i => (i.zero, i.size, i.bytes)) = some (some (.int .u8 0), 1, 1))
    (n : Nat) (hs : a.eval s = .slice none 0 0) (hx : a.eval x = .int .i64 (n : Int)) (h0 : 0 < n) (hn : n ≤ 140737488355328)
    (h : ∀ c, n ≤ c → c ≤ maxLen → wpList P ops Q rest (a.put o.dst (.slice (some ⟨w.heap.size, 0, none⟩) n c)) (w.drew.alloc (.cells (bvs (List.replicate c 0)).toArray 5))) : wpList P ops Q (o :: rest) a w := by
  refine wpList_plain hgd fun K hK => ?_
  obtain ⟨i, hi0, hz, hsz, hby⟩ := info_parts hi
  have hr := run_grow_nil (P := P) w t ti o.type i ht hti hi0 hz hsz hby n h0 hn
  unfold Oper.wp execOp
  simp only [ho, resolve, invoke, builtin, Sem.run_bind, Sem.run_pure, Result.andThen_ok, List.map_toArray, List.map_cons, List.map_nil, hs, hx, hr]
  exact hK _ _ (h _ (grownCap_ge w n 0 5) (grownCap_le_maxLen w n 0 5 (by simp only [maxLen]; omega)))
end

set_option maxHeartbeats 400000 in
theorem grow_any (n : Nat) (w : World) (hn : n ≤ 140737488355328) :
    Calls Tryd.prog 80 #[.slice none 0 0, .int .i64 (n : Int)] w fun e w' => ∃ v, e = .returned v ∧ Own w.heap.size w' v [] ∧ Nx w w' := by
  have hn0 : (0 : Int) ≤ (n : Int) := by omega
  by_cases h0 : n = 0
  · subst h0
    go_enter Tryd.func80, Tryd.ntmps80
    go_wp2
    go_ret
    exact ⟨_, rfl, Own.nil _ _, Nx.refl _⟩
  · have h1 : (0 : Int) < (n : Int) := by omega
    have hp : 0 < n := by omega
    have hni : (n : Int) ≤ 140737488355328 := by omega
    go_enter Tryd.func80, Tryd.ntmps80
    go_wp2_with (refine wpList_grow_nil rfl (.tmp 20) (.tmp 21) _ _ rfl Tryd.underlying34 Tryd.underlying3 info_u8c n rfl rfl hp hn ?_)
    intro c hc hm
    go_wp2
    go_ret
    refine ⟨_, rfl, .inr ⟨w.heap.size, List.replicate c 0, by simp, Nat.le_refl _, heap_alloc_new w.drew _, by simp, by simpa using hm, by simp⟩, (Nx.refl w).drew.alloc _⟩

/-- The slice values vs read as the rows ls. -/
def Vs (w : World) (vs : List Value) (ls : List (List UInt8)) : Prop := vs.length = ls.length ∧ ∀ i (h : i < ls.length), ∃ v, vs[i]? = some v ∧ Rd w v ls[i]
theorem Vs.nx {w w' : World} {vs : List Value} {ls : List (List UInt8)} (h : Vs w vs ls) (k : Nx w w') : Vs w' vs ls := ⟨h.1, fun i hi => by obtain ⟨v, h1, h2⟩ := h.2 i hi; exact ⟨v, h1, h2.nx k⟩⟩
theorem Vs.nil (w : World) : Vs w [] [] := ⟨rfl, fun _ h => absurd h (by simp)⟩
theorem Vs.cons {w : World} {v : Value} {l : List UInt8} {vs : List Value} {ls : List (List UInt8)} (h : Rd w v l) (k : Vs w vs ls) : Vs w (v :: vs) (l :: ls) := by
  refine ⟨by simp [k.1], fun i hi => ?_⟩
  cases i with
  | zero => exact ⟨v, rfl, h⟩
  | succ i => obtain ⟨u, h1, h2⟩ := k.2 i (by simpa using hi); exact ⟨u, by simpa using h1, by simpa using h2⟩
theorem flat_snoc (ls : List (List UInt8)) (k : Nat) (h : k < ls.length) : (ls.take (k + 1)).flatten = (ls.take k).flatten ++ ls[k] := by
  rw [List.take_succ_eq_append_getElem h, List.flatten_append]
  simp only [List.flatten_cons, List.flatten_nil, List.append_nil]
theorem flat_le (ls : List (List UInt8)) (k : Nat) : (ls.take k).flatten.length ≤ ls.flatten.length := by
  have : ls.flatten = (ls.take k).flatten ++ (ls.drop k).flatten := by rw [← List.flatten_append, List.take_append_drop]
  rw [this, List.length_append]
  omega

set_option maxHeartbeats 300000 in
theorem concat_any (gs : Nat) (vs : List Value) (ls : List (List UInt8)) (w : World) (hg : w.heap[gs]? = some (.cells vs.toArray 34 (0, 0))) (hv : Vs w vs ls) (hn : ls.length ≤ 1000) (htot : ls.flatten.length ≤ 140737488355328) :
    Calls Tryd.prog 48 #[.slice (some ⟨gs, 0, none⟩) ls.length ls.length] w fun e w' => ∃ v, e = .returned v ∧ Own w.heap.size w' v ls.flatten ∧ Nx w w' := by
  have hni : (ls.length : Int) ≤ 1000 := by omega
  go_enter Tryd.func48, Tryd.ntmps48
  go_wp2
  go_loop [3, 11] (fun s i => ∃ k : Nat, k ≤ ls.length ∧ i = .int .i64 k ∧ s = .int .i64 ((ls.take k).flatten.length : Int)) (fun _ i => ls.length - (intOf i).toNat)
  case atStart => exact ⟨0, by omega, rfl, rfl⟩
  case round =>
    obtain ⟨k, hk, rfl, rfl⟩ := hrel
    by_cases hlt : k < ls.length
    · obtain ⟨v, h1, A, c, rfl, h2, h3, h4⟩ := hv.2 k hlt
      have ck : w.cell? ⟨gs, k, none⟩ = some (.slice A ls[k].length c) := by
        rw [cell_of_row w gs k _ _ (0, 0) hg]
        simpa using h1
      have hlt' : (k : Int) < (ls.length : Int) := by omega
      have hs := flat_snoc ls k hlt
      have hle := flat_le ls (k + 1)
      rw [hs, List.length_append] at hle
      have HS : Hid ((ls.take (k + 1)).flatten.length = (ls.take k).flatten.length + ls[k].length) := Lib.hid (by rw [hs, List.length_append])
      clear hs h1 h2 h3 h4
      generalize ls[k].length = m at *
      generalize (ls.take k).flatten.length = t at *
      have hti : (t : Int) + (m : Int) ≤ 140737488355328 := by omega
      have hti0 : (0 : Int) ≤ (t : Int) + (m : Int) := by omega
      go_wp2
      go_round
      case rel => exact ⟨k + 1, by omega, by go_num, by rw [HS.out]; rfl⟩
      case measure => simp [intOf]; omega
    · obtain rfl : k = ls.length := by omega
      have ht : (ls.take ls.length).flatten.length = ls.flatten.length := by rw [List.take_of_length_le (Nat.le_refl _)]
      rw [ht]
      have htot' := htot
      generalize ls.flatten.length = T at htot' ⊢
      go_wp2_with fail
      refine (grow_any T w htot').mono ?_
      rintro e w1 ⟨v1, rfl, hown1, hn1⟩
      go_wp2
      go_loopw [6, 27] (fun u i wr => ∃ k : Nat, k ≤ ls.length ∧ i = .int .i64 k ∧ Own w.heap.size wr u (ls.take k).flatten ∧ Nx w wr) (fun _ i _ => ls.length - (intOf i).toNat)
      case atStart => exact ⟨0, by omega, rfl, hown1, hn1⟩
      case round =>
        obtain ⟨k, hk, rfl, hown, hb⟩ := hrel
        by_cases hlt : k < ls.length
        · obtain ⟨v, h1, hrd⟩ := (hv.nx hb).2 k hlt
          have hg2 := Nx.blk hb hg
          have ck : wr.cell? ⟨gs, k, none⟩ = some v := by
            rw [cell_of_row wr gs k _ _ (0, 0) hg2]
            simpa using h1
          have hlt' : (k : Int) < (ls.length : Int) := by omega
          have HS := Lib.hid (flat_snoc ls k hlt)
          have HL : Hid ((ls.take k).flatten.length + ls[k].length ≤ 140737488355328) := Lib.hid (by
            have hle := flat_le ls (k + 1)
            rw [HS.out, List.length_append] at hle
            omega)
          have HSZ := Lib.hid hb.size
          go_wp2_with (at_builtin; refine wpList_app rfl (.tmp 31) (.tmp 32) _ rfl Tryd.underlying34 info_u8c w.heap.size _ v _ ls[k] rfl rfl hown hrd HL.out HSZ.out ?_)
          intro v' w' hown' hb' _
          go_wp2
          go_roundw
          case rel => exact ⟨k + 1, by omega, by go_num, by rw [HS.out]; exact hown', Nx.app hb hb'⟩
          case measure => simp [intOf]; omega
        · obtain rfl : k = ls.length := by omega
          rw [List.take_of_length_le (Nat.le_refl _)] at hown
          go_wp2
          go_ret
          exact ⟨_, rfl, hown, hb⟩
end Go.Proofs.YtjbeemoobmagnaaDoor
end

section
namespace Go.Proofs.YtjbeemoobmagnaaDoor
open Go Go.RowKit
set_option linter.unusedVariables false
set_option linter.unusedSimpArgs false

section
variable {P : Program} {ops : Array Oper} {Q : Exit → Act → World → Prop}
theorem wp_callp_of {o : Oper} {a : Act} {w : World} {K : Act → World → Prop} (dst : Option Tmp) (hd : o.dst = dst) (f : FuncId) (args : Array Value) (hrun : (execOp a.eval o).run P w = .ok (.enter f args) w)
    (PV : Value → World → Prop) (hc : Calls P f args w fun e w' => ∃ v, e = .returned v ∧ PV v w' ∧ Nx w w') (h : ∀ v w', PV v w' → Nx w w' → K (a.put dst v) w') : o.wp P a w K Q := by
  subst hd
  unfold Oper.wp
  rw [hrun, Oper.upon_enter]
  refine hc.mono fun e w' hh => ?_
  obtain ⟨v, rfl, hp, hn⟩ := hh
  exact h _ _ hp hn
theorem wp_slice_of {o : Oper} {a : Act} {w : World} {K : Act → World → Prop} (dst : Option Tmp) (hd : o.dst = dst) (ty : TypeId) (x : Operand) (lo hi mx : Option Operand) (ho : o.op = .slice ty x lo hi mx) (v : Value)
    (hrun : (Instr.sliceAt ty (a.eval x) (lo.map a.eval) (hi.map a.eval) (mx.map a.eval)).run P w = .ok v w) (h : K (a.put dst v) w) : o.wp P a w K Q := by
  refine wp_val_of dst hd v ?_ h
  unfold execOp
  simp only [ho]
  simp only [Sem.run_bind, hrun, Result.andThen_ok, Sem.run_pure]
theorem wp_mk_of {o : Oper} {a : Act} {w : World} {K : Act → World → Prop} (dst : Option Tmp) (hd : o.dst = dst) (ty : TypeId) (n : Nat) (parts : Array (Nat × Operand)) (ho : o.op = .buildSlice ty n parts) (vals : Array (Nat × Value)) (hv : (parts.map fun (i, x) => (i, a.eval x)) = vals) (v : Value) (w' : World)
    (hrun : (Instr.buildSlice ty n vals).run P w = .ok v w') (h : K (a.put dst v) w') : o.wp P a w K Q := by
  subst hd
  subst hv
  unfold Oper.wp execOp
  simp only [ho]
  simp only [Sem.run_bind, hrun, Result.andThen_ok, Sem.run_pure, Oper.upon_value]
  exact h
end

/-- A slice value. -/
def Sl (v : Value) : Prop := ∃ A n c, v = .slice A n c
theorem Rd.sl {w : World} {v : Value} {l : List UInt8} (h : Rd w v l) : Sl v := by
  obtain ⟨A, c, rfl, _⟩ := h; exact ⟨_, _, _, rfl⟩

/-- A row of rows of bytes: what a literal of slices lays. -/
def CatAt (x : Value) (ls : List (List UInt8)) (w : World) : Prop :=
  ∃ g vs, x = .slice (some ⟨g, 0, none⟩) ls.length ls.length ∧ w.heap[g]? = some (.cells (vs : List Value).toArray 34 (0, 0)) ∧ Vs w vs ls
theorem CatAt.nx {x : Value} {ls : List (List UInt8)} {w w' : World} (h : CatAt x ls w) (k : Nx w w') : CatAt x ls w' := by
  obtain ⟨g, vs, rfl, hg, hv⟩ := h
  exact ⟨g, vs, rfl, k.blk hg, hv.nx k⟩
theorem concat_at {x : Value} {ls : List (List UInt8)} (w : World) (h : CatAt x ls w) (hn : ls.length ≤ 1000) (ht : ls.flatten.length ≤ 140737488355328) (B : Nat) (hB : B ≤ w.heap.size) :
    Calls Tryd.prog 48 #[x] w fun e w' => ∃ v, e = .returned v ∧ Own B w' v ls.flatten ∧ Nx w w' := by
  obtain ⟨g, vs, rfl, hg, hv⟩ := h
  exact (concat_any g vs ls w hg hv hn ht).mono fun e w' ⟨v, he, ho, hn⟩ => ⟨v, he, ho.mono hB, hn⟩
theorem run_mk2 {v1 v2 : Value} (h1 : Sl v1) (h2 : Sl v2) (w : World) :
    (Instr.buildSlice 103 2 #[(0, v1), (1, v2)]).run Tryd.prog w = .ok (.slice (some ⟨w.heap.size, 0, none⟩) 2 2) (w.alloc (.cells #[v1, v2] 34)) := by
  obtain ⟨A, n, c, rfl⟩ := h1
  obtain ⟨A', n', c', rfl⟩ := h2
  kernel_rfl
theorem run_mk3 {v1 v2 v3 : Value} (h1 : Sl v1) (h2 : Sl v2) (h3 : Sl v3) (w : World) :
    (Instr.buildSlice 103 3 #[(0, v1), (1, v2), (2, v3)]).run Tryd.prog w = .ok (.slice (some ⟨w.heap.size, 0, none⟩) 3 3) (w.alloc (.cells #[v1, v2, v3] 34)) := by
  obtain ⟨A, n, c, rfl⟩ := h1
  obtain ⟨A', n', c', rfl⟩ := h2
  obtain ⟨A'', n'', c'', rfl⟩ := h3
  kernel_rfl
theorem catAt2 {v1 v2 : Value} {l1 l2 : List UInt8} {w : World} (h1 : Rd w v1 l1) (h2 : Rd w v2 l2) : CatAt (.slice (some ⟨w.heap.size, 0, none⟩) 2 2) [l1, l2] (w.alloc (.cells #[v1, v2] 34)) :=
  ⟨w.heap.size, [v1, v2], rfl, heap_alloc_new w _, (Vs.cons (h1.alloc _) (Vs.cons (h2.alloc _) (Vs.nil _)))⟩
theorem catAt3 {v1 v2 v3 : Value} {l1 l2 l3 : List UInt8} {w : World} (h1 : Rd w v1 l1) (h2 : Rd w v2 l2) (h3 : Rd w v3 l3) : CatAt (.slice (some ⟨w.heap.size, 0, none⟩) 3 3) [l1, l2, l3] (w.alloc (.cells #[v1, v2, v3] 34)) :=
  ⟨w.heap.size, [v1, v2, v3], rfl, heap_alloc_new w _, (Vs.cons (h1.alloc _) (Vs.cons (h2.alloc _) (Vs.cons (h3.alloc _) (Vs.nil _))))⟩
end Go.Proofs.YtjbeemoobmagnaaDoor
end
