/- LAYER 9, plainly: rows of hashes. -/
import Derived.Test.YtpkopigiijiiiaaDoorTa
import Derived.Test.YtpkopigiijiiiaaDoorTk
import Derived.Test.YtpkopigiijiiiaaDoorTi
import Derived.IntWalk
import Derived.Laws.BitsAllLaws
namespace Go.Proofs.YtpkopigiijiiiaaDoor
open Go Go.RowKit
set_option linter.unusedVariables false
set_option linter.unusedSimpArgs false
set_option linter.unusedVariables false
set_option linter.unusedSimpArgs false

abbrev Hs := List (List UInt8)
/-- Hashes of 32 bytes. -/
def H32 (l : Hs) : Prop := ∀ h ∈ l, h.length = 32
theorem H32.get {l : Hs} (h : H32 l) {i : Nat} (hi : i < l.length) : (l[i]).length = 32 := h _ (List.getElem_mem hi)
theorem H32.getD {l : Hs} (h : H32 l) {i : Nat} (hi : i < l.length) : (l.getD i []).length = 32 := by
  rw [List.getD_eq_getElem?_getD, List.getElem?_eq_getElem hi]; exact h.get hi
theorem H32.nil : H32 [] := fun _ h => by cases h
theorem H32.append {a b : Hs} (h : H32 a) (k : H32 b) : H32 (a ++ b) := fun x hx => (List.mem_append.1 hx).elim (h x) (k x)
theorem H32.take {a : Hs} (h : H32 a) (n : Nat) : H32 (a.take n) := fun x hx => h x (List.mem_of_mem_take hx)
theorem H32.one {a : List UInt8} (h : a.length = 32) : H32 [a] := fun x hx => by rw [List.mem_singleton.1 hx]; exact h
theorem H32.set {a : Hs} (h : H32 a) (n : Nat) (b : List UInt8) (hb : b.length = 32) : H32 (a.set n b) := fun x hx => by
  rcases List.mem_or_eq_of_mem_set hx with h1 | h1
  · exact h x h1
  · rw [h1]; exact hb
def join2 (a b : List UInt8) : List UInt8 := shaL (shaL (a ++ b))
theorem join2_length (a b : List UInt8) : (join2 a b).length = 32 := shaL_length _
def halfN (n : Nat) : Nat := (n + 1) / 2
/-- With which one of a row of so many n stands as a pair. -/
def nbr (n many : Nat) : Nat := if n % 2 = 1 then n - 1 else if n + 1 < many then n + 1 else n
theorem nbr_lt {n many : Nat} (h : n < many) : nbr n many < many := by unfold nbr; split <;> (try split) <;> omega
theorem xor_even (k : Nat) : (2 * k) ^^^ 1 = 2 * k + 1 := by
  apply Nat.eq_of_testBit_eq
  intro i
  cases i with
  | zero => simp [Nat.testBit_xor, Nat.testBit_zero]
  | succ i =>
    have e1 : (2 * k + 1) / 2 = k := by omega
    have e2 : 2 * k / 2 = k := by omega
    rw [Nat.testBit_xor, Nat.testBit_succ, Nat.testBit_succ, Nat.testBit_succ, e1, e2]
    simp
theorem xor_odd (k : Nat) : (2 * k + 1) ^^^ 1 = 2 * k := by
  rw [← xor_even, Nat.xor_assoc]; simp
theorem xor1 (n : Nat) : n ^^^ 1 = if n % 2 = 1 then n - 1 else n + 1 := by
  rcases Nat.mod_two_eq_zero_or_one n with h0 | h0
  · rw [if_neg (by omega)]
    obtain ⟨k, rfl⟩ : ∃ k, n = 2 * k := ⟨n / 2, by omega⟩
    exact xor_even k
  · rw [if_pos h0]
    obtain ⟨k, rfl⟩ : ∃ k, n = 2 * k + 1 := ⟨n / 2, by omega⟩
    exact xor_odd k
theorem i64_xor1 (n : Nat) (h : n < 9223372036854775807) : bits .xor .i64 (n : Int) 1 = ((if n % 2 = 1 then n - 1 else n + 1 : Nat) : Int) := by
  have e : (BitVec.ofInt 64 (n : Int)).toNat = n := by rw [BitVec.ofInt_natCast, BitVec.toNat_ofNat]; exact Nat.mod_eq_of_lt (by omega)
  show IntKind.i64.wrap ((BitVec.ofInt 64 (n : Int) ^^^ BitVec.ofInt 64 1).toNat : Int) = _
  rw [BitVec.toNat_xor, e, show (BitVec.ofInt 64 (1 : Int)).toNat = 1 by decide, xor1]
  exact IntWalk.i64_in _ (by split <;> omega)
/-- The row above. -/
def abv (l : Hs) : Hs := (List.range (halfN l.length)).map fun i => join2 (l.getD (2 * i) []) (l.getD (nbr (2 * i) l.length) [])
theorem abv_length (l : Hs) : (abv l).length = halfN l.length := by simp [abv]
theorem abv_32 (l : Hs) : H32 (abv l) := fun h hh => by
  simp only [abv, List.mem_map] at hh
  obtain ⟨i, _, rfl⟩ := hh
  exact join2_length _ _
theorem abv_get (l : Hs) (i : Nat) (h : i < (abv l).length) : (abv l)[i] = join2 (l.getD (2 * i) []) (l.getD (nbr (2 * i) l.length) []) := by simp [abv]
theorem abv_lt {l : Hs} (h : ¬ l.length ≤ 1) : (abv l).length < l.length := by rw [abv_length]; unfold halfN; omega
/-- No pair has the same hash twice. -/
def okRow (l : Hs) : Bool := (List.range (l.length / 2)).all fun i => decide (l.getD (2 * i) [] ≠ l.getD (2 * i + 1) [])
def topR (l : Hs) : Hs := if h : l.length ≤ 1 then l else topR (abv l)
termination_by l.length
decreasing_by exact abv_lt h
def allOk (l : Hs) : Bool := if h : l.length ≤ 1 then true else okRow l && allOk (abv l)
termination_by l.length
decreasing_by exact abv_lt h
def rowsF (l : Hs) : List Hs := if h : l.length ≤ 1 then [l] else l :: rowsF (abv l)
termination_by l.length
decreasing_by exact abv_lt h
def wayF (l : Hs) (n : Nat) : Hs := if h : l.length ≤ 1 then [] else l.getD (nbr n l.length) [] :: wayF (abv l) (n / 2)
termination_by l.length
decreasing_by exact abv_lt h
def belowF (n : Nat) : Nat := if h : n ≤ 1 then 0 else belowF (halfN n) + 1
termination_by n
decreasing_by unfold halfN; omega
/-- Sound: the root. -/
def rootB (l : Hs) : Bool := decide (0 < l.length) && allOk l
def rootH (l : Hs) : List UInt8 := if rootB l then (topR l).getD 0 [] else List.replicate 32 0
def leadsF (h : List UInt8) (n many : Nat) : Hs → List UInt8
  | [] => h
  | x :: way => leadsF (if n % 2 = 1 then join2 x h else if n + 1 < many then join2 h x else join2 h h) (n / 2) (halfN many) way
theorem topR_le {l : Hs} (h : l.length ≤ 1) : topR l = l := by rw [topR, dif_pos h]
theorem topR_gt {l : Hs} (h : ¬ l.length ≤ 1) : topR l = topR (abv l) := by rw [topR, dif_neg h]
theorem allOk_le {l : Hs} (h : l.length ≤ 1) : allOk l = true := by rw [allOk, dif_pos h]
theorem allOk_gt {l : Hs} (h : ¬ l.length ≤ 1) : allOk l = (okRow l && allOk (abv l)) := by rw [allOk, dif_neg h]
theorem rowsF_le {l : Hs} (h : l.length ≤ 1) : rowsF l = [l] := by rw [rowsF, dif_pos h]
theorem rowsF_gt {l : Hs} (h : ¬ l.length ≤ 1) : rowsF l = l :: rowsF (abv l) := by rw [rowsF, dif_neg h]
theorem wayF_le {l : Hs} (h : l.length ≤ 1) (n : Nat) : wayF l n = [] := by rw [wayF, dif_pos h]
theorem wayF_gt {l : Hs} (h : ¬ l.length ≤ 1) (n : Nat) : wayF l n = l.getD (nbr n l.length) [] :: wayF (abv l) (n / 2) := by rw [wayF, dif_neg h]
theorem belowF_le {n : Nat} (h : n ≤ 1) : belowF n = 0 := by rw [belowF, dif_pos h]
theorem belowF_gt {n : Nat} (h : ¬ n ≤ 1) : belowF n = belowF (halfN n) + 1 := by rw [belowF, dif_neg h]
theorem rootB_zero {l : Hs} (h : l.length = 0) : rootB l = false := by unfold rootB; rw [h]; rfl
theorem rootH_zero {l : Hs} (h : l.length = 0) : rootH l = List.replicate 32 0 := by unfold rootH; rw [rootB_zero h]; rfl
theorem rootB_one {l : Hs} (h : l.length = 1) : rootB l = true := by unfold rootB; rw [allOk_le (by omega), h]; rfl
theorem rootH_one {l : Hs} (h : l.length = 1) : rootH l = l.getD 0 [] := by unfold rootH; rw [rootB_one h, topR_le (by omega)]; rfl
theorem rootB_no {l : Hs} (h : ¬ l.length ≤ 1) (hk : okRow l = false) : rootB l = false := by unfold rootB; rw [allOk_gt h, hk]; simp
theorem rootH_no {l : Hs} (h : ¬ l.length ≤ 1) (hk : okRow l = false) : rootH l = List.replicate 32 0 := by unfold rootH; rw [rootB_no h hk]; rfl
theorem rootB_up {l : Hs} (h : ¬ l.length ≤ 1) (hk : okRow l = true) : rootB l = rootB (abv l) := by
  unfold rootB
  rw [allOk_gt h, hk, abv_length, Bool.true_and]
  have : 0 < l.length := by omega
  have : 0 < halfN l.length := by unfold halfN; omega
  simp [*]
theorem rootH_up {l : Hs} (h : ¬ l.length ≤ 1) (hk : okRow l = true) : rootH l = rootH (abv l) := by
  unfold rootH; rw [rootB_up h hk, topR_gt h]
theorem topR_32 : ∀ {l : Hs}, H32 l → H32 (topR l) := by
  intro l
  induction hn : l.length using Nat.strongRecOn generalizing l with
  | _ n ih =>
    intro h
    by_cases h1 : l.length ≤ 1
    · rw [topR_le h1]; exact h
    · rw [topR_gt h1]
      exact ih _ (by rw [← hn]; exact abv_lt h1) rfl (abv_32 l)
theorem topR_length : ∀ {l : Hs}, 0 < l.length → (topR l).length = 1 := by
  intro l
  induction hn : l.length using Nat.strongRecOn generalizing l with
  | _ n ih =>
    intro h
    by_cases h1 : l.length ≤ 1
    · rw [topR_le h1]; omega
    · rw [topR_gt h1]
      exact ih _ (by rw [← hn]; exact abv_lt h1) rfl (by rw [abv_length]; unfold halfN; omega)
theorem rootH_length {l : Hs} (h : H32 l) : (rootH l).length = 32 := by
  unfold rootH
  split
  · rename_i hb
    have h0 : 0 < l.length := by
      unfold rootB at hb
      simp only [Bool.and_eq_true, decide_eq_true_eq] at hb
      exact hb.1
    exact (topR_32 h).getD (by rw [topR_length h0]; decide)
  · simp
theorem okRow_next (l : Hs) (k : Nat) : (List.range (k + 1)).all (fun i => decide (l.getD (2 * i) [] ≠ l.getD (2 * i + 1) [])) = ((List.range k).all (fun i => decide (l.getD (2 * i) [] ≠ l.getD (2 * i + 1) [])) && decide (l.getD (2 * k) [] ≠ l.getD (2 * k + 1) [])) := by
  rw [List.range_succ, List.all_append]; simp
theorem wayF_32 : ∀ {l : Hs} (n : Nat), H32 l → n < l.length → H32 (wayF l n) := by
  intro l
  induction hn : l.length using Nat.strongRecOn generalizing l with
  | _ m ih =>
    intro n h hlt
    by_cases h1 : l.length ≤ 1
    · rw [wayF_le h1]; exact H32.nil
    · rw [wayF_gt h1]
      intro x hx
      rcases List.mem_cons.1 hx with rfl | hx
      · exact h.getD (nbr_lt (by omega))
      · exact ih _ (by rw [← hn]; exact abv_lt h1) rfl (n / 2) (abv_32 l) (by rw [abv_length]; unfold halfN; omega) x hx
theorem leadsF_length : ∀ (way : Hs) (h : List UInt8) (n many : Nat), h.length = 32 → (leadsF h n many way).length = 32
  | [], h, n, many, hh => hh
  | x :: way, h, n, many, hh => leadsF_length way _ _ _ (by split <;> (try split) <;> exact join2_length _ _)
end Go.Proofs.YtpkopigiijiiiaaDoor
