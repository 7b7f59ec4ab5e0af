/- CONTRACTS OF LAYER 1's SMALL FUNCTIONS: isSize, size, sizeBehind, lowFirst, low. -/
import Derived.Test.YtbhoflmdhlchlaaRows
import Derived.Test.YtbhoflmdhlchlaaBytes
import Derived.Test.YtbhoflmdhlchlaaNums
import Derived.LoopTactic
import Derived.Outline
import Derived.Deep.QuietTactic
import Derived.BigQuiet
namespace Go.Proofs.Ytbhoflmdhlchlaa
open Go.RowKit
set_option linter.unusedVariables false
set_option linter.unusedSimpArgs false

def isSz (s : Int) : Bool := s == 1 || s == 2 || s == 4 || s == 8
theorem isSz_yes {s : Int} (h : isSz s = true) : s = 1 ∨ s = 2 ∨ s = 4 ∨ s = 8 := by
  simp [isSz] at h; omega
theorem isSz_no {s : Int} (h : isSz s = false) : s ≠ 1 ∧ s ≠ 2 ∧ s ≠ 4 ∧ s ≠ 8 := by
  simp [isSz] at h; omega

theorem isSize_any (s : Int) (w : World) : Calls Try.prog 74 #[.int .i64 s] w fun e w' => e = .returned (.bool (isSz s)) ∧ w = w' := by
  go_enter Try.func74, Try.ntmps74
  go_wp2
  all_goals go_ret
  all_goals exact ⟨by simp_all [isSz], rfl⟩

/-- How many bytes stand behind the first one of n's count. -/
def behind (n : Nat) : Nat := if n < 253 then 0 else if n < 65536 then 2 else if n < 4294967296 then 4 else 8

theorem info_u8 : (Try.prog.info? 5).map (fun i => (i.zero, i.size, i.bytes)) = some (some (.int .u8 0), 1, 1) := by kernel_rfl

/-- byte(n >> 8i), as the walk has it. -/
theorem u8_shr (n k : Nat) : (n : Int) / 2 ^ (8 * k) % 256 = ((UInt8.ofNat (n / 256 ^ k)).toNat : Int) := by
  have e2 : (2 : Nat) ^ (8 * k) = 256 ^ k := by rw [Nat.pow_mul]
  have e3 : ((n : Int) / 2 ^ (8 * k)) = ((n / 256 ^ k : Nat) : Int) := by
    rw [← e2]; simp
  rw [e3, UInt8.toNat_ofNat']
  omega

set_option maxHeartbeats 400000 in
theorem lowFirst_any (B : Nat) (v : Value) (l : List UInt8) (n k : Nat) (w : World) (hk : k ≤ 8) (hB : B ≤ w.heap.size) (hl : l.length ≤ 1000) (h : Own B w v l) :
    Calls Try.prog 75 #[v, .int .u64 (n : Int), .int .i64 (k : Int)] w fun e w' => ∃ v', e = .returned v' ∧ Own B w' v' (l ++ low n k) ∧ Below B w w' := by
  go_enter Try.func75, Try.ntmps75
  go_wp2
  go_loopw [0, 9] (fun u i wr => ∃ j : Nat, j ≤ k ∧ i = .int .i64 j ∧ Own B wr u (l ++ low n j) ∧ Below B w wr) (fun _ i _ => k - (intOf i).toNat)
  case atStart => exact ⟨0, by omega, rfl, by simpa [low] using h, Below.refl _ _⟩
  case round =>
    obtain ⟨j, hj, rfl, hown, hb⟩ := hrel
    by_cases hlt : j < k
    · have hs8 : (0 : Int) ≤ 8 * (j : Int) := by omega
      have hs64 : 8 * (j : Int) ≤ 64 := by omega
      go_wp2_with (at_builtin; refine wpList_app rfl (.tmp 12) (.tmp 18) _ rfl Try.underlying23 info_u8 B _ (.slice (some ⟨wr.heap.size, 0, none⟩) 1 1) _ [UInt8.ofNat (n / 256 ^ j)] rfl rfl (hown.alloc _) (Rd.one _ _ _ _ ?c1) ?c2 ?c3 ?_)
      case c1 => exact u8_shr n j
      case c2 => simp; omega
      case c3 => have := hb.size; simp; omega
      intro v' w' hown' hb' _
      go_wp2
      go_roundw
      case rel => exact ⟨j + 1, by omega, by go_num, by rw [low_snoc]; exact hown', (Below.alloc hb (by have := hb.size; omega) _).trans hb'⟩
      case measure => simp [intOf]; omega
    · obtain rfl : j = k := by omega
      go_wp2
      go_ret
      exact ⟨_, rfl, hown, hb⟩
end Go.Proofs.Ytbhoflmdhlchlaa
