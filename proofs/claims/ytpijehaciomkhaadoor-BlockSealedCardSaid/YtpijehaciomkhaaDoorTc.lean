/- TEXTS OF OUR OWN, IN ONE FILE. -/
import Derived.Test.YtpijehaciomkhaaDoorRows
import Derived.Test.YtpijehaciomkhaaDoorTa
import Derived.LoopTactic
import Derived.Outline
import Derived.Deep.QuietTactic
import Derived.BigQuiet
import Derived.Laws.BitsAllLaws
section
namespace Go.Proofs.YtpijehaciomkhaaDoor
open Go.RowKit

def isSz (s : Int) : Bool := s == 1 || s == 2 || s == 4 || s == 8
theorem isSz_yes {s : Int} (h : isSz s = true) : s = 1 ∨ s = 2 ∨ s = 4 ∨ s = 8 := by
  simp [isSz] at h; omega
theorem isSz_no {s : Int} (h : isSz s = false) : s ≠ 1 ∧ s ≠ 2 ∧ s ≠ 4 ∧ s ≠ 8 := by
  simp [isSz] at h; omega

theorem isSize_any (s : Int) (w : World) : Calls Tryd.prog 56 #[.int .i64 s] w fun e w' => e = .returned (.bool (isSz s)) ∧ w = w' := by
  go_enter Tryd.func56, Tryd.ntmps56
  go_wp2
  all_goals go_ret
  all_goals exact ⟨by simp_all [isSz], rfl⟩

/-- How many bytes stand behind the first one of n's count. -/
def behind (n : Nat) : Nat := if n < 253 then 0 else if n < 65536 then 2 else if n < 4294967296 then 4 else 8

theorem sizeBehind_any (n : Nat) (w : World) : Calls Tryd.prog 29 #[.int .u64 (n : Int)] w fun e w' => e = .returned (.int .i64 (behind n : Int)) ∧ w = w' := by
  have hb : ∀ z : Int, z = (behind n : Int) → Ending.returned (.int .i64 z) = .returned (.int .i64 (behind n : Int)) := fun z hz => by rw [hz]
  by_cases h1 : (n : Int) < 253
  · have d1 : decide ((n : Int) < 253) = true := by simpa using h1
    have HB : Hid ((behind n : Int) = 0) := by show _ = _; simp only [behind]; rw [if_pos (by omega)]; rfl
    clear h1
    go_enter Tryd.func29, Tryd.ntmps29
    go_wp2
    go_ret
    exact ⟨by rw [HB.out]; rfl, rfl⟩
  · have d1 : decide ((n : Int) < 253) = false := by simpa using h1
    by_cases h2 : (n : Int) < 65536
    · have d2 : decide ((n : Int) < 65536) = true := by simpa using h2
      have HB : Hid ((behind n : Int) = 2) := by show _ = _; simp only [behind]; rw [if_neg (by omega), if_pos (by omega)]; rfl
      clear h1 h2
      go_enter Tryd.func29, Tryd.ntmps29
      go_wp2
      go_ret
      exact ⟨by rw [HB.out]; rfl, rfl⟩
    · have d2 : decide ((n : Int) < 65536) = false := by simpa using h2
      by_cases h3 : (n : Int) < 4294967296
      · have d3 : decide ((n : Int) < 4294967296) = true := by simpa using h3
        have HB : Hid ((behind n : Int) = 4) := by show _ = _; simp only [behind]; rw [if_neg (by omega), if_neg (by omega), if_pos (by omega)]; rfl
        clear h1 h2 h3
        go_enter Tryd.func29, Tryd.ntmps29
        go_wp2
        go_ret
        exact ⟨by rw [HB.out]; rfl, rfl⟩
      · have d3 : decide ((n : Int) < 4294967296) = false := by simpa using h3
        have HB : Hid ((behind n : Int) = 8) := by show _ = _; simp only [behind]; rw [if_neg (by omega), if_neg (by omega), if_neg (by omega)]; rfl
        clear h1 h2 h3
        go_enter Tryd.func29, Tryd.ntmps29
        go_wp2
        go_ret
        exact ⟨by rw [HB.out]; rfl, rfl⟩

theorem info_u8 : (Tryd.prog.info? 5).map (fun i => (i.zero, i.size, i.bytes)) = some (some (.int .u8 0), 1, 1) := by kernel_rfl

/-- byte(n >> 8i), as the walk has it. -/
theorem u8_shr (n k : Nat) : (n : Int) / 2 ^ (8 * k) % 256 = ((UInt8.ofNat (n / 256 ^ k)).toNat : Int) := by
  have e2 : (2 : Nat) ^ (8 * k) = 256 ^ k := by rw [Nat.pow_mul]
  have e3 : ((n : Int) / 2 ^ (8 * k)) = ((n / 256 ^ k : Nat) : Int) := by
    rw [← e2]; simp
  rw [e3, UInt8.toNat_ofNat']
  omega

set_option maxHeartbeats 400000 in
theorem lowFirst_any (B : Nat) (v : Value) (l : List UInt8) (n k : Nat) (w : World) (hk : k ≤ 8) (hB : B ≤ w.heap.size) (hl : l.length ≤ 1000) (h : Own B w v l) :
    Calls Tryd.prog 30 #[v, .int .u64 (n : Int), .int .i64 (k : Int)] w fun e w' => ∃ v', e = .returned v' ∧ Own B w' v' (l ++ low n k) ∧ Below B w w' := by
  go_enter Tryd.func30, Tryd.ntmps30
  go_wp2
  go_loopw [0, 9] (fun u i wr => ∃ j : Nat, j ≤ k ∧ i = .int .i64 j ∧ Own B wr u (l ++ low n j) ∧ Below B w wr) (fun _ i _ => k - (intOf i).toNat)
  case atStart => exact ⟨0, by omega, rfl, by simpa [low] using h, Below.refl _ _⟩
  case round =>
    obtain ⟨j, hj, rfl, hown, hb⟩ := hrel
    by_cases hlt : j < k
    · have hs8 : (0 : Int) ≤ 8 * (j : Int) := by omega
      have hs64 : 8 * (j : Int) ≤ 64 := by omega
      go_wp2_with (at_builtin; refine wpList_app rfl (.tmp 12) (.tmp 18) _ rfl Tryd.underlying43 info_u8 B _ (.slice (some ⟨wr.heap.size, 0, none⟩) 1 1) _ [UInt8.ofNat (n / 256 ^ j)] rfl rfl (hown.alloc _) (Rd.one _ _ _ _ ?c1) ?c2 ?c3 ?_)
      case c1 => exact u8_shr n j
      case c2 => simp; omega
      case c3 => have := hb.size; simp; omega
      intro v' w' hown' hb' _
      go_wp2
      go_roundw
      case rel => exact ⟨j + 1, by omega, by go_num, by rw [low_snoc]; exact hown', (Below.alloc hb (by have := hb.size; omega) _).trans hb'⟩
      case measure => simp [intOf]; omega
    · obtain rfl : j = k := by omega
      go_wp2
      go_ret
      exact ⟨_, rfl, hown, hb⟩
end Go.Proofs.YtpijehaciomkhaaDoor
end

section
namespace Go.Proofs.YtpijehaciomkhaaDoor
open Go.RowKit

def cutE (L : Nat) (at_ n : Int) : Int := if at_ < 0 ∨ (L : Int) < at_ ∨ n < 0 then 2 else if (L : Int) - at_ < n then 4 else 0
def cutL (l : List UInt8) (at_ n : Int) : List UInt8 := if cutE l.length at_ n = 0 then (l.drop at_.toNat).take n.toNat else []
theorem cutE_cases (L : Nat) (at_ n : Int) : ((at_ < 0 ∨ (L : Int) < at_ ∨ n < 0) ∧ cutE L at_ n = 2) ∨ ((0 ≤ at_ ∧ at_ ≤ L ∧ 0 ≤ n ∧ (L : Int) - at_ < n) ∧ cutE L at_ n = 4) ∨
    (∃ i m : Nat, at_ = i ∧ n = m ∧ i + m ≤ L ∧ cutE L at_ n = 0) := by
  unfold cutE
  by_cases h1 : at_ < 0 ∨ (L : Int) < at_ ∨ n < 0
  · exact .inl ⟨h1, by rw [if_pos h1]⟩
  · by_cases h2 : (L : Int) - at_ < n
    · exact .inr (.inl ⟨by omega, by rw [if_neg h1, if_pos h2]⟩)
    · exact .inr (.inr ⟨at_.toNat, n.toNat, by omega, by omega, by omega, by rw [if_neg h1, if_neg h2]⟩)
theorem cutL_bad {l : List UInt8} {at_ n : Int} (h : cutE l.length at_ n ≠ 0) : cutL l at_ n = [] := by unfold cutL; rw [if_neg h]
theorem cutL_ok {l : List UInt8} {i m : Nat} (h : i + m ≤ l.length) : cutL l (i : Int) (m : Int) = (l.drop i).take m := by
  have : cutE l.length (i : Int) (m : Int) = 0 := by unfold cutE; rw [if_neg (by omega), if_neg (by omega)]
  unfold cutL
  rw [if_pos this]
  simp
theorem cutE_ok {L i m : Nat} (h : i + m ≤ L) : cutE L (i : Int) (m : Int) = 0 := by unfold cutE; rw [if_neg (by omega), if_neg (by omega)]
theorem cutL_len {l : List UInt8} {i m : Nat} (h : i + m ≤ l.length) : ((l.drop i).take m).length = m := by simp; omega

theorem piece_ok (v : Value) (l : List UInt8) (i m : Nat) (w : World) (h : Rd w v l) (hi : i + m ≤ l.length) :
    Calls Tryd.prog 61 #[v, .int .i64 (i : Int), .int .i64 (m : Int)] w fun e w' => ∃ v', e = .returned (.tuple #[v', .int .i64 0]) ∧ Rd w v' ((l.drop i).take m) ∧ w = w' := by
  obtain ⟨A, c, rfl, hc, hm, ha⟩ := h
  have hmx := hm
  unfold maxLen at hm
  by_cases h0 : m = 0
  · subst h0
    go_enter Tryd.func61, Tryd.ntmps61
    go_wp2
    all_goals go_ret2
    all_goals exact ⟨_, rfl, by simpa using Rd.none0 _ _ _ (by simp [maxLen]), rfl⟩
  · have hne : ¬ i + m = i := by omega
    go_enter Tryd.func61, Tryd.ntmps61
    go_wp2
    all_goals go_ret2
    all_goals refine ⟨_, rfl, ?_, rfl⟩
    all_goals show Rd w (.slice (A.map (·.add i)) (i + m - i) (i + m - i)) _
    all_goals rw [Nat.add_sub_cancel_left]
    all_goals exact Rd.cut ha hi (Nat.le_refl _) (by unfold maxLen; omega)

theorem piece_arg (v : Value) (l : List UInt8) (at_ n : Int) (w : World) (h : Rd w v l) (hi : at_ < 0 ∨ (l.length : Int) < at_ ∨ n < 0) :
    Calls Tryd.prog 61 #[v, .int .i64 at_, .int .i64 n] w fun e w' => e = .returned (.tuple #[.slice none 0 0, .int .i64 2]) ∧ w = w' := by
  obtain ⟨A, c, rfl, hc, hm, ha⟩ := h
  unfold maxLen at hm
  by_cases h1 : at_ < 0
  · go_enter Tryd.func61, Tryd.ntmps61
    go_wp2
    go_ret2
    exact ⟨rfl, rfl⟩
  · by_cases h2 : (l.length : Int) < at_
    · go_enter Tryd.func61, Tryd.ntmps61
      go_wp2
      go_ret2
      exact ⟨rfl, rfl⟩
    · have h3 : n < 0 := by omega
      go_enter Tryd.func61, Tryd.ntmps61
      go_wp2
      go_ret2
      exact ⟨rfl, rfl⟩

theorem piece_short (v : Value) (l : List UInt8) (at_ n : Int) (w : World) (h : Rd w v l) (hi : 0 ≤ at_ ∧ at_ ≤ (l.length : Int) ∧ 0 ≤ n ∧ (l.length : Int) - at_ < n) :
    Calls Tryd.prog 61 #[v, .int .i64 at_, .int .i64 n] w fun e w' => e = .returned (.tuple #[.slice none 0 0, .int .i64 4]) ∧ w = w' := by
  obtain ⟨A, c, rfl, hc, hm, ha⟩ := h
  obtain ⟨h1, h2, h3, h4⟩ := hi
  unfold maxLen at hm
  go_enter Tryd.func61, Tryd.ntmps61
  go_wp2
  go_ret2
  exact ⟨rfl, rfl⟩

set_option maxHeartbeats 400000 in
theorem part_any (v : Value) (l : List UInt8) (at_ n : Int) (w : World) (h : Rd w v l) (hr : l.length ≤ 140737488355328) :
    Calls Tryd.prog 49 #[v, .int .i64 at_, .int .i64 n] w fun e w' => ∃ v', e = .returned (.tuple #[v', .int .i64 (cutE l.length at_ n)]) ∧ Own w.heap.size w' v' (cutL l at_ n) ∧ Nx w w' := by
  rcases cutE_cases l.length at_ n with ⟨h1, h2⟩ | ⟨h1, h2⟩ | ⟨i, m, rfl, rfl, h1, h2⟩
  · have hL : cutL l at_ n = [] := cutL_bad (by rw [h2]; omega)
    rw [h2, hL]
    clear h2 hL
    go_enter Tryd.func49, Tryd.ntmps49
    go_wp2_with fail
    refine (piece_arg v l at_ n w h h1).mono ?_
    rintro e w' ⟨rfl, rfl⟩
    go_wp2
    go_ret2
    exact ⟨_, rfl, Own.nil _ _, Nx.refl _⟩
  · have hL : cutL l at_ n = [] := cutL_bad (by rw [h2]; omega)
    rw [h2, hL]
    clear h2 hL
    go_enter Tryd.func49, Tryd.ntmps49
    go_wp2_with fail
    refine (piece_short v l at_ n w h h1).mono ?_
    rintro e w' ⟨rfl, rfl⟩
    go_wp2
    go_ret2
    exact ⟨_, rfl, Own.nil _ _, Nx.refl _⟩
  · have HP := Lib.hid (piece_ok v l i m w h h1)
    have HL := Lib.hid (cutL_len h1)
    rw [h2, cutL_ok h1]
    generalize (l.drop i).take m = L at *
    clear h2
    go_enter Tryd.func49, Tryd.ntmps49
    go_wp2_with fail
    refine HP.out.mono ?_
    rintro e w' ⟨v', rfl, hv, rfl⟩
    have hm0 : m ≤ 281474976710656 := by omega
    have hmk := run_mk (P := Tryd.prog) 43 Tryd.underlying43 info_u8 .i64 .i64 m hm0
    go_wp2_with (with_reducible refine wpList_cpy_all rfl (.tmp 23) (.tmp 24) _ _ rfl Tryd.underlying43 info_u8 w.heap.size (.slice (some ⟨w.heap.size, 0, none⟩) m m) v' (zeros m) L rfl rfl ?c1 (hv.alloc _) ?c2 ?_)
    case c1 => exact Own.made _ _ (by simp only [maxLen]; omega)
    case c2 => rw [HL.out, zeros_length]
    intro w2 hown2 hg2
    have hn2 : Nx w w2 := ((Nx.refl w).alloc (.cells (zer m) 5)).grown hg2 (by simp [Value.ownBlock])
    clear hmk hg2
    go_wp2
    go_ret2
    exact ⟨_, rfl, hown2, hn2⟩

def putOk (n : Nat) (s : Int) : Bool := isSz s && decide (n < 256 ^ s.toNat)
def putE (n : Nat) (s : Int) : Int := if putOk n s = true then 0 else 2
def putL (n : Nat) (s : Int) : List UInt8 := if putOk n s = true then low n s.toNat else []

theorem shr_zero (n k : Nat) : ((n : Int) / 2 ^ (8 * k) = 0) ↔ n < 256 ^ k := by
  have e2 : (2 : Nat) ^ (8 * k) = 256 ^ k := by rw [Nat.pow_mul]
  have e3 : ((n : Int) / 2 ^ (8 * k)) = ((n / 256 ^ k : Nat) : Int) := by
    rw [← e2]; simp
  have hp : 0 < 256 ^ k := Nat.pow_pos (by omega)
  rw [e3]
  constructor
  · intro h
    have h' : n / 256 ^ k = 0 := by omega
    rcases Nat.div_eq_zero_iff.1 h' with h | h
    · omega
    · exact h
  · intro h
    rw [Nat.div_eq_of_lt h]; rfl

theorem part_of_put (n : Nat) (s : Int) : (isSz s = false ∧ putE n s = 2 ∧ putL n s = []) ∨ (∃ k : Nat, s = k ∧ (k = 1 ∨ k = 2 ∨ k = 4 ∨ k = 8) ∧ isSz s = true ∧ ((n < 256 ^ k ∧ putE n s = 0 ∧ putL n s = low n k) ∨ (¬ n < 256 ^ k ∧ putE n s = 2 ∧ putL n s = []))) := by
  rcases hs : isSz s with _ | _
  · exact .inl ⟨rfl, by simp [putE, putOk, hs], by simp [putL, putOk, hs]⟩
  · refine .inr ?_
    have h := isSz_yes hs
    refine ⟨s.toNat, by omega, by omega, rfl, ?_⟩
    by_cases hn : n < 256 ^ s.toNat
    · exact .inl ⟨hn, by simp [putE, putOk, hs, hn], by simp [putL, putOk, hs, hn]⟩
    · exact .inr ⟨hn, by simp [putE, putOk, hs, hn], by simp [putL, putOk, hs, hn]⟩

set_option maxHeartbeats 400000 in
theorem put_any (n : Nat) (s : Int) (w : World) :
    Calls Tryd.prog 39 #[.int .u64 (n : Int), .int .i64 s] w fun e w' => ∃ v', e = .returned (.tuple #[v', .int .i64 (putE n s)]) ∧ Own w.heap.size w' v' (putL n s) ∧ Nx w w' := by
  rcases part_of_put n s with ⟨h1, h2, h3⟩ | ⟨k, rfl, hk, h1, ⟨h2, h3, h4⟩ | ⟨h2, h3, h4⟩⟩
  · rw [h2, h3]
    clear h2 h3
    go_enter Tryd.func39, Tryd.ntmps39
    go_wp2_with fail
    refine (isSize_any s w).mono ?_
    rintro e w' ⟨rfl, rfl⟩
    go_wp2
    go_ret2
    exact ⟨_, rfl, Own.nil _ _, Nx.refl _⟩
  · rw [h3, h4]
    clear h3 h4
    have ht : ((n : Int) / 2 ^ (8 * k) != 0) = false := by simpa using (shr_zero n k).2 h2
    have hs : decide ((0 : Int) ≤ 8 * (k : Int)) = true := by simp; omega
    go_enter Tryd.func39, Tryd.ntmps39
    go_wp2_with fail
    refine (isSize_any k w).mono ?_
    rintro e w' ⟨rfl, rfl⟩
    have hs64 : 8 * (k : Int) ≤ 64 := by omega
    have hs0 : 0 ≤ 8 * (k : Int) := by omega
    go_wp2_with fail
    refine (lowFirst_any w.heap.size _ [] n k w (by omega) (Nat.le_refl _) (by simp) (Own.nil _ _)).mono ?_
    rintro e w' ⟨v', rfl, hown, hb⟩
    go_wp2
    go_ret2
    exact ⟨_, rfl, by simpa using hown, hb⟩
  · rw [h3, h4]
    clear h3 h4
    have ht : ((n : Int) / 2 ^ (8 * k) != 0) = true := by
      have := mt (shr_zero n k).1 h2
      simpa using this
    go_enter Tryd.func39, Tryd.ntmps39
    go_wp2_with fail
    refine (isSize_any k w).mono ?_
    rintro e w' ⟨rfl, rfl⟩
    have hs64 : 8 * (k : Int) ≤ 64 := by omega
    have hs0 : 0 ≤ 8 * (k : Int) := by omega
    go_wp2
    go_ret2
    exact ⟨_, rfl, Own.nil _ _, Nx.refl _⟩
end Go.Proofs.YtpijehaciomkhaaDoor
end

section
namespace Go.Proofs.YtpijehaciomkhaaDoor
open Go.RowKit

def getE (L : Nat) (at_ s : Int) : Int := if isSz s = true then cutE L at_ s else 2
def getN (l : List UInt8) (at_ s : Int) : Nat := if isSz s = true then num (cutL l at_ s) else 0

/-- The three ways of Get. -/
theorem get_cases (l : List UInt8) (at_ s : Int) : (isSz s = false ∧ getE l.length at_ s = 2 ∧ getN l at_ s = 0) ∨
    (isSz s = true ∧ (at_ < 0 ∨ (l.length : Int) < at_ ∨ s < 0) ∧ getE l.length at_ s = 2 ∧ getN l at_ s = 0) ∨
    (isSz s = true ∧ (0 ≤ at_ ∧ at_ ≤ l.length ∧ 0 ≤ s ∧ (l.length : Int) - at_ < s) ∧ getE l.length at_ s = 4 ∧ getN l at_ s = 0) ∨
    (∃ i m : Nat, at_ = i ∧ s = m ∧ (m = 1 ∨ m = 2 ∨ m = 4 ∨ m = 8) ∧ isSz s = true ∧ i + m ≤ l.length ∧ getE l.length at_ s = 0 ∧ getN l at_ s = num ((l.drop i).take m)) := by
  rcases hs : isSz s with _ | _
  · exact .inl ⟨rfl, by simp [getE, hs], by simp [getN, hs]⟩
  · have h := isSz_yes hs
    rcases cutE_cases l.length at_ s with ⟨h1, h2⟩ | ⟨h1, h2⟩ | ⟨i, m, rfl, rfl, h1, h2⟩
    · have hL : cutL l at_ s = [] := cutL_bad (by rw [h2]; omega)
      exact .inr (.inl ⟨rfl, h1, by simp [getE, hs, h2], by simp [getN, hL, num]⟩)
    · have hL : cutL l at_ s = [] := cutL_bad (by rw [h2]; omega)
      exact .inr (.inr (.inl ⟨rfl, h1, by simp [getE, hs, h2], by simp [getN, hL, num]⟩))
    · exact .inr (.inr (.inr ⟨i, m, rfl, rfl, by omega, rfl, h1, by simp [getE, hs, h2], by simp [getN, hs, cutL_ok h1]⟩))

theorem pow256_le {j : Nat} (h : j ≤ 8) : 256 ^ j ≤ 18446744073709551616 := by
  have : 256 ^ j ≤ 256 ^ 8 := Nat.pow_le_pow_right (by omega) h
  omega
theorem num_lt64 {L : List UInt8} (h : L.length ≤ 8) : num L < 18446744073709551616 := Nat.lt_of_lt_of_le (num_lt L) (pow256_le h)

theorem get_step (L : List UInt8) (k : Nat) (hk : k < L.length) (h8 : L.length ≤ 8) :
    bits .or .u64 ((num (L.take k) : Nat) : Int) (IntKind.u64.wrap (IntKind.u64.wrap (L[k].toNat : Int) * 2 ^ (8 * k))) = ((num (L.take (k + 1)) : Nat) : Int) := by
  have hx := L[k].toNat_lt
  have hl : (L.take k).length = k := by simp; omega
  have hn : num (L.take k) < 256 ^ k := by have := num_lt (L.take k); rwa [hl] at this
  have hp : 256 ^ (k + 1) ≤ 18446744073709551616 := pow256_le (by omega)
  have hp' : 256 ^ k * 256 ≤ 18446744073709551616 := by rwa [Nat.pow_succ] at hp
  have hxk : L[k].toNat * 256 ^ k < 18446744073709551616 := by
    have : L[k].toNat * 256 ^ k ≤ 255 * 256 ^ k := Nat.mul_le_mul_right _ (by omega)
    omega
  have e2 : (2 : Int) ^ (8 * k) = ((256 ^ k : Nat) : Int) := by rw [show (256 : Nat) ^ k = 2 ^ (8 * k) by rw [Nat.pow_mul]]; simp
  have e3 : IntKind.u64.wrap (IntKind.u64.wrap (L[k].toNat : Int) * 2 ^ (8 * k)) = ((L[k].toNat * 256 ^ k : Nat) : Int) := by
    have h1 : IntKind.u64.wrap (L[k].toNat : Int) = (L[k].toNat : Int) := by rw [IntKind.wrap_u64]; omega
    rw [h1, e2, ← Int.natCast_mul, IntKind.wrap_u64]
    omega
  rw [e3, u64_or_nat _ _ (by omega) hxk, or_num _ _ _ hn, List.take_succ_eq_append_getElem hk, num_snoc, hl]

set_option maxHeartbeats 400000 in
theorem get_any (v : Value) (l : List UInt8) (at_ s : Int) (w : World) (h : Rd w v l) :
    Calls Tryd.prog 44 #[v, .int .i64 at_, .int .i64 s] w fun e w' => e = .returned (.tuple #[.int .u64 (getN l at_ s : Int), .int .i64 (getE l.length at_ s)]) ∧ w = w' := by
  rcases get_cases l at_ s with ⟨h1, h2, h3⟩ | ⟨h1, h4, h2, h3⟩ | ⟨h1, h4, h2, h3⟩ | ⟨i, m, rfl, rfl, hm, h1, h4, h2, h3⟩
  · rw [h2, h3]
    clear h2 h3
    go_enter Tryd.func44, Tryd.ntmps44
    go_wp2_with fail
    refine (isSize_any s w).mono ?_
    rintro e w' ⟨rfl, rfl⟩
    go_wp2
    go_ret2
    exact ⟨rfl, rfl⟩
  · rw [h2, h3]
    clear h2 h3
    go_enter Tryd.func44, Tryd.ntmps44
    go_wp2_with fail
    refine (isSize_any s w).mono ?_
    rintro e w' ⟨rfl, rfl⟩
    go_wp2_with fail
    refine (piece_arg v l at_ s w h h4).mono ?_
    rintro e w' ⟨rfl, rfl⟩
    go_wp2
    go_ret2
    exact ⟨rfl, rfl⟩
  · rw [h2, h3]
    clear h2 h3
    go_enter Tryd.func44, Tryd.ntmps44
    go_wp2_with fail
    refine (isSize_any s w).mono ?_
    rintro e w' ⟨rfl, rfl⟩
    go_wp2_with fail
    refine (piece_short v l at_ s w h h4).mono ?_
    rintro e w' ⟨rfl, rfl⟩
    go_wp2
    go_ret2
    exact ⟨rfl, rfl⟩
  · have HP := Lib.hid (piece_ok v l i m w h h4)
    have HL := cutL_len h4
    rw [h2, h3]
    clear h2 h3
    generalize (l.drop i).take m = L at *
    have HL8 : L.length ≤ 8 := by omega
    have HLM := Lib.hid HL
    clear HL
    go_enter Tryd.func44, Tryd.ntmps44
    go_wp2_with fail
    refine (isSize_any m w).mono ?_
    rintro e w' ⟨rfl, rfl⟩
    go_wp2_with fail
    refine HP.out.mono ?_
    rintro e w' ⟨v', rfl, hv, rfl⟩
    obtain ⟨A, c, rfl, hc, hmx, ha⟩ := hv
    go_wp2
    go_loop [10, 28] (fun u j => ∃ k : Nat, k ≤ L.length ∧ j = .int .i64 k ∧ u = .int .u64 ((num (L.take k) : Nat) : Int)) (fun _ j => L.length - (intOf j).toNat)
    case atStart => exact ⟨0, by omega, rfl, rfl⟩
    case round =>
      obtain ⟨k, hk, rfl, rfl⟩ := hrel
      by_cases hlt : k < L.length
      · obtain ⟨b, o, rfl, hb, hcc⟩ := ha (by omega)
        have g := hcc k hlt
        clear hcc ha
        have hs64 : 8 * (k : Int) ≤ 64 := by omega
        have hs0 : 0 ≤ 8 * (k : Int) := by omega
        have HS := Lib.hid (get_step L k hlt HL8)
        go_wp2
        go_round
        case rel => exact ⟨k + 1, by omega, by go_num, by rw [HS.out]⟩
        case measure => simp [intOf]; omega
      · obtain rfl : k = L.length := by omega
        go_wp2
        go_ret2
        exact ⟨rfl, rfl⟩

theorem rget_step (L : List UInt8) (k : Nat) (hk : k < L.length) (h8 : L.length ≤ 8) :
    num (L.drop k) = L[k].toNat + 256 * num (L.drop (k + 1)) ∧ num (L.drop (k + 1)) < 72057594037927936 := by
  refine ⟨by rw [List.drop_eq_getElem_cons hk]; rfl, ?_⟩
  have h := num_lt (L.drop (k + 1))
  have h2 : 256 ^ (L.drop (k + 1)).length ≤ 256 ^ 7 := Nat.pow_le_pow_right (by omega) (by simp; omega)
  omega

theorem rget_val (L : List UInt8) (k : Nat) (hk : k < L.length) (h8 : L.length ≤ 8) (q : Nat) (hq : q = num (L.drop (k + 1))) :
    IntKind.u64.wrap (256 * (q : Int) + IntKind.u64.wrap (L[k].toNat : Int)) = ((num (L.drop k) : Nat) : Int) := by
  obtain ⟨h1, h2⟩ := rget_step L k hk h8
  have hx := L[k].toNat_lt
  rw [h1, ← hq, IntKind.wrap_u64, IntKind.wrap_u64]
  omega

end Go.Proofs.YtpijehaciomkhaaDoor
end

section
namespace Go.Proofs.YtpijehaciomkhaaDoor
open Go.RowKit

def mark (s : Nat) : UInt8 := if s = 2 then 253 else if s = 4 then 254 else 255
/-- A count's bytes. -/
def countL (n : Nat) : List UInt8 := if behind n = 0 then [UInt8.ofNat n] else mark (behind n) :: low n (behind n)

theorem behind_cases (n : Nat) : ((n : Int) < 253 ∧ behind n = 0) ∨ (253 ≤ (n : Int) ∧ (n : Int) < 65536 ∧ behind n = 2) ∨
    (65536 ≤ (n : Int) ∧ (n : Int) < 4294967296 ∧ behind n = 4) ∨ (4294967296 ≤ (n : Int) ∧ behind n = 8) := by
  unfold behind
  split
  · exact .inl ⟨by omega, rfl⟩
  · split
    · exact .inr (.inl ⟨by omega, by omega, rfl⟩)
    · split
      · exact .inr (.inr (.inl ⟨by omega, by omega, rfl⟩))
      · exact .inr (.inr (.inr ⟨by omega, rfl⟩))

theorem sizeBehind_is (n : Nat) (s : Nat) (z : Int) (hs : behind n = s) (hz : (s : Int) = z) (w : World) : Calls Tryd.prog 29 #[.int .u64 (n : Int)] w fun e w' => e = .returned (.int .i64 z) ∧ w = w' := by
  subst hs
  subst hz
  exact sizeBehind_any n w

set_option maxHeartbeats 400000 in
theorem count_any (n : Nat) (w : World) :
    Calls Tryd.prog 17 #[.int .u64 (n : Int)] w fun e w' => ∃ v', e = .returned v' ∧ Own w.heap.size w' v' (countL n) ∧ Nx w w' := by
  rcases behind_cases n with ⟨h1, h2⟩ | ⟨_, _, h2⟩ | ⟨_, _, h2⟩ | ⟨_, h2⟩
  · have HS := Lib.hid (sizeBehind_is n 0 0 h2 rfl w)
    rw [show countL n = [UInt8.ofNat n] by simp [countL, h2]]
    have h1' : (n : Int) ≤ 255 := by omega
    have hv : (n : Int) = ((UInt8.ofNat n).toNat : Int) := by rw [UInt8.toNat_ofNat']; omega
    have HV := Lib.hid hv
    clear h1 h2 hv
    go_enter Tryd.func17, Tryd.ntmps17
    go_wp2_with fail
    refine HS.out.mono ?_
    rintro e w' ⟨rfl, rfl⟩
    go_wp2
    go_ret
    exact ⟨_, rfl, Own.one _ _ _ HV.out, (Nx.refl _).alloc _⟩
  · have HS := Lib.hid (sizeBehind_is n 2 2 h2 rfl w)
    rw [show countL n = [253] ++ low n 2 by simp [countL, h2, mark]]
    clear h2
    go_enter Tryd.func17, Tryd.ntmps17
    go_wp2_with fail
    refine HS.out.mono ?_
    rintro e w' ⟨rfl, rfl⟩
    go_wp2_with fail
    refine (lowFirst_any w.heap.size _ [253] n 2 _ (by omega) (by simp) (by simp) (Own.one _ _ _ rfl)).mono ?_
    rintro e w' ⟨v', rfl, hown, hb⟩
    go_wp2
    go_ret
    exact ⟨_, rfl, hown, Nx.app ((Nx.refl w).alloc _) hb⟩
  · have HS := Lib.hid (sizeBehind_is n 4 4 h2 rfl w)
    rw [show countL n = [254] ++ low n 4 by simp [countL, h2, mark]]
    clear h2
    go_enter Tryd.func17, Tryd.ntmps17
    go_wp2_with fail
    refine HS.out.mono ?_
    rintro e w' ⟨rfl, rfl⟩
    go_wp2_with fail
    refine (lowFirst_any w.heap.size _ [254] n 4 _ (by omega) (by simp) (by simp) (Own.one _ _ _ rfl)).mono ?_
    rintro e w' ⟨v', rfl, hown, hb⟩
    go_wp2
    go_ret
    exact ⟨_, rfl, hown, Nx.app ((Nx.refl w).alloc _) hb⟩
  · have HS := Lib.hid (sizeBehind_is n 8 8 h2 rfl w)
    rw [show countL n = [255] ++ low n 8 by simp [countL, h2, mark]]
    clear h2
    go_enter Tryd.func17, Tryd.ntmps17
    go_wp2_with fail
    refine HS.out.mono ?_
    rintro e w' ⟨rfl, rfl⟩
    go_wp2_with fail
    refine (lowFirst_any w.heap.size _ [255] n 8 _ (by omega) (by simp) (by simp) (Own.one _ _ _ rfl)).mono ?_
    rintro e w' ⟨v', rfl, hown, hb⟩
    go_wp2
    go_ret
    exact ⟨_, rfl, hown, Nx.app ((Nx.refl w).alloc _) hb⟩

end Go.Proofs.YtpijehaciomkhaaDoor
end
