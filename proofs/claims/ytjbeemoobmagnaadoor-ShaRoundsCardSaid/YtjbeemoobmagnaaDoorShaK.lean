/- LAYER 2: the document's table and beginning, plainly: what its loops reckon, step for step. -/
import Derived.Test.YtjbeemoobmagnaaDoorGd
namespace Go.Proofs.YtjbeemoobmagnaaDoor
open Go Go.RowKit
set_option linter.unusedVariables false
set_option linter.unusedSimpArgs false
set_option linter.unusedVariables false
set_option linter.unusedSimpArgs false

/-- add: n, from place i on. -/
def addF : Nat → List Nat → Nat → Nat → List Nat
  | 0, l, _, _ => l
  | k + 1, l, i, c => if 0 < c then addF k (l.set i ((l.getD i 0 + c % 4294967296) % 18446744073709551616 % 4294967296)) (i + 1) ((c / 4294967296 + (l.getD i 0 + c % 4294967296) % 18446744073709551616 / 4294967296) % 18446744073709551616) else l
/-- times: the parts from place i on. -/
def timesF (l : List Nat) (x : Nat) : Nat → List Nat → List Nat
  | 0, out => out
  | k + 1, out =>
    timesF l x k (addF (k + 2) (addF (k + 3) out (l.length - (k + 1)) (l.getD (l.length - (k + 1)) 0 * (x % 4294967296) % 18446744073709551616)) (l.length - (k + 1) + 1) (l.getD (l.length - (k + 1)) 0 * (x / 4294967296) % 18446744073709551616))
def timesL (l : List Nat) (x : Nat) : List Nat := timesF l x l.length (List.replicate (l.length + 2) 0)
def orStep (w d : Nat) : Nat := (w * 4294967296 % 18446744073709551616) ||| d
def wholeG (l : List Nat) (high k w : Nat) : Nat := ((List.range k).reverse.map fun i => l.getD (high + i) 0).foldl orStep w
def restG (l : List Nat) (high : Nat) : Nat → Nat → Nat
  | 0, r => r
  | k + 1, r => restG l high k (r ||| l.getD (high - (k + 1)) 0)
/-- Is what stands in the words at most n, at the place high? -/
def fits (l : List Nat) (high n : Nat) : Bool := decide (wholeG l high (l.length - high) 0 < n) || (decide (wholeG l high (l.length - high) 0 = n) && decide (restG l high high 0 = 0))
def wordsOf (x : Nat) : List Nat := [x % 4294967296, x / 4294967296]
/-- most: is x^2 (x^3) at most n, at its place? -/
def mostF (x n : Nat) : Bool → Bool
  | true => fits (timesL (timesL (wordsOf x) x) x) 3 n
  | false => fits (timesL (wordsOf x) x) 2 n
def partF (n : Nat) (cube : Bool) : Nat → Nat → Nat
  | 0, x => x
  | b + 1, x => partF n cube b (if mostF (x ||| 2 ^ b) n cube then x ||| 2 ^ b else x)
def primeF (n : Nat) : Nat → Nat → Bool
  | 0, _ => decide (1 < n)
  | k + 1, i => if i * i ≤ n then (if n % i = 0 then false else primeF n k (i + 1)) else decide (1 < n)
def primesF : Nat → Nat → Nat → List Nat → List Nat
  | 0, _, _, l => l
  | k + 1, many, n, l => if l.length < many then primesF k many (n + 1) (if primeF n n 2 then l ++ [n] else l) else l
/-- The first 64 ones, and the first 8. -/
def prL : List Nat := [2, 3, 5, 7, 11, 13, 17, 19, 23, 29, 31, 37, 41, 43, 47, 53, 59, 61, 67, 71, 73, 79, 83, 89, 97, 101, 103, 107, 109, 113, 127, 131, 137, 139, 149, 151, 157, 163, 167, 173, 179, 181, 191, 193, 197, 199, 211, 223, 227, 229, 233, 239, 241, 251, 257, 263, 269, 271, 277, 281, 283, 293, 307, 311]
theorem wholeG_next (l : List Nat) (h k w : Nat) : wholeG l h (k + 1) w = wholeG l h k (orStep w (l.getD (h + k) 0)) := by
  unfold wholeG
  rw [List.range_succ, List.reverse_append, List.reverse_singleton, List.singleton_append, List.map_cons, List.foldl_cons]
theorem restG_next (l : List Nat) (h k r i : Nat) (hi : h - (k + 1) = i) : restG l h (k + 1) r = restG l h k (r ||| l.getD i 0) := by rw [restG, hi]
theorem prL_is : primesF 400 64 2 [] = prL := by decide +kernel
theorem prL8_is : primesF 400 8 2 [] = prL.take 8 := by decide +kernel
theorem k_is : (prL.map fun n => ((partF n true 40 0 % 4294967296 : Nat) : Int)) = kL := by decide +kernel
theorem begin_is : ((prL.take 8).map fun n => ((partF n false 40 0 % 4294967296 : Nat) : Int)) = beginS.list := by decide +kernel

theorem addF_length : ∀ (k : Nat) (l : List Nat) (i c : Nat), (addF k l i c).length = l.length
  | 0, l, i, c => rfl
  | k + 1, l, i, c => by
    unfold addF
    split
    · rw [addF_length, List.length_set]
    · rfl
/-- Words of 32 bits. -/
def W32 (l : List Nat) : Prop := ∀ x ∈ l, x < 4294967296
theorem W32.set {l : List Nat} (h : W32 l) (i x : Nat) (hx : x < 4294967296) : W32 (l.set i x) := by
  intro y hy
  rcases List.mem_or_eq_of_mem_set hy with h1 | h1
  · exact h y h1
  · rw [h1]; exact hx
theorem W32.add : ∀ {k : Nat} {l : List Nat} {i c : Nat}, W32 l → W32 (addF k l i c)
  | 0, l, i, c, h => h
  | k + 1, l, i, c, h => by
    unfold addF
    split
    · exact W32.add (h.set _ _ (Nat.mod_lt _ (by decide)))
    · exact h
theorem W32.get {l : List Nat} (h : W32 l) (i : Nat) : l.getD i 0 < 4294967296 := by
  rw [List.getD_eq_getElem?_getD]
  by_cases hi : i < l.length
  · rw [List.getElem?_eq_getElem hi]
    exact h _ (List.getElem_mem hi)
  · rw [List.getElem?_eq_none (by omega)]
    decide
theorem W32.times (l : List Nat) (x : Nat) : ∀ {k : Nat} {out : List Nat}, W32 out → W32 (timesF l x k out)
  | 0, out, h => h
  | k + 1, out, h => by
    unfold timesF
    exact W32.times l x (W32.add (W32.add h))
theorem W32.timesL (l : List Nat) (x : Nat) : W32 (timesL l x) := W32.times l x fun y hy => by
  rw [List.eq_of_mem_replicate hy]; decide
theorem timesF_length (l : List Nat) (x : Nat) : ∀ (k : Nat) (out : List Nat), (timesF l x k out).length = out.length
  | 0, out => rfl
  | k + 1, out => by
    unfold timesF
    rw [timesF_length, addF_length, addF_length]
theorem timesL_length (l : List Nat) (x : Nat) : (timesL l x).length = l.length + 2 := by unfold timesL; rw [timesF_length, List.length_replicate]
end Go.Proofs.YtjbeemoobmagnaaDoor
