/- PLAIN: SHA-256 over words as the model spells them, of our own. -/
import Derived.Test.YtpgdfboogjapeaaDoorHashPure
namespace Go.Proofs.YtpgdfboogjapeaaDoor
open Go.RowKit
set_option linter.unusedVariables false
set_option linter.unusedSimpArgs false
set_option maxRecDepth 4000

/-- A word turned right. -/
def rotI (x : Int) (n : Nat) : Int := bits .or .u32 (x / 2 ^ n) (x * 2 ^ (32 - n) % 4294967296)
def xorI (x y : Int) : Int := bits .xor .u32 x y
def andI (x y : Int) : Int := bits .and .u32 x y
theorem u32_range (op : BinOp) (x y : Int) : 0 ≤ bits op .u32 x y ∧ bits op .u32 x y < 4294967296 := by
  unfold bits
  simp only [IntKind.wrap_u32']
  omega
theorem rotI_range (x : Int) (n : Nat) : 0 ≤ rotI x n ∧ rotI x n < 4294967296 := u32_range _ _ _

/-- The eight words. -/
structure St where
  (a b c d e f g h : Int)
def St.list (s : St) : List Int := [s.a, s.b, s.c, s.d, s.e, s.f, s.g, s.h]
theorem St.list_length (s : St) : s.list.length = 8 := rfl
def Wd (x : Int) : Prop := 0 ≤ x ∧ x < 4294967296
def St.ok (s : St) : Prop := Wd s.a ∧ Wd s.b ∧ Wd s.c ∧ Wd s.d ∧ Wd s.e ∧ Wd s.f ∧ Wd s.g ∧ Wd s.h
def t1 (e f g h k x : Int) : Int :=
  (h + bits .xor .u32 (bits .xor .u32 (rotI e 6) (rotI e 11)) (rotI e 25) + bits .xor .u32 (bits .and .u32 e f) (bits .and .u32 (bits .xor .u32 (if IntKind.u32.signed = true then -1 else IntKind.u32.max) e) g) + k + x) % 4294967296
def t2 (a b c : Int) : Int :=
  (bits .xor .u32 (bits .xor .u32 (rotI a 2) (rotI a 13)) (rotI a 22) + bits .xor .u32 (bits .xor .u32 (bits .and .u32 a b) (bits .and .u32 a c)) (bits .and .u32 b c)) % 4294967296
def St.step (s : St) (k x : Int) : St :=
  ⟨(t1 s.e s.f s.g s.h k x + t2 s.a s.b s.c) % 4294967296, s.a, s.b, s.c, (s.d + t1 s.e s.f s.g s.h k x) % 4294967296, s.e, s.f, s.g⟩
theorem Wd.mod (x : Int) : Wd (x % 4294967296) := by unfold Wd; omega
theorem St.ok.step {s : St} (h : s.ok) (k x : Int) : (s.step k x).ok := by
  obtain ⟨h1, h2, h3, h4, h5, h6, h7, h8⟩ := h
  exact ⟨Wd.mod _, h1, h2, h3, Wd.mod _, h5, h6, h7⟩
/-- So many steps. -/
def St.go (s : St) (ks xs : List Int) : Nat → St
  | 0 => s
  | n + 1 => (St.go s ks xs n).step (ks.getD n 0) (xs.getD n 0)
theorem St.ok.go {s : St} (h : s.ok) (ks xs : List Int) : ∀ n, (s.go ks xs n).ok
  | 0 => h
  | n + 1 => (St.ok.go h ks xs n).step _ _
def St.add (s m : St) : St := ⟨(s.a + m.a) % 4294967296, (s.b + m.b) % 4294967296, (s.c + m.c) % 4294967296, (s.d + m.d) % 4294967296, (s.e + m.e) % 4294967296, (s.f + m.f) % 4294967296, (s.g + m.g) % 4294967296, (s.h + m.h) % 4294967296⟩
theorem St.ok_add (s m : St) : (s.add m).ok := ⟨Wd.mod _, Wd.mod _, Wd.mod _, Wd.mod _, Wd.mod _, Wd.mod _, Wd.mod _, Wd.mod _⟩
/-- The 64 numbers. -/
def kL : List Int := [
  0x428a2f98, 0x71374491, 0xb5c0fbcf, 0xe9b5dba5, 0x3956c25b, 0x59f111f1, 0x923f82a4, 0xab1c5ed5,
  0xd807aa98, 0x12835b01, 0x243185be, 0x550c7dc3, 0x72be5d74, 0x80deb1fe, 0x9bdc06a7, 0xc19bf174,
  0xe49b69c1, 0xefbe4786, 0x0fc19dc6, 0x240ca1cc, 0x2de92c6f, 0x4a7484aa, 0x5cb0a9dc, 0x76f988da,
  0x983e5152, 0xa831c66d, 0xb00327c8, 0xbf597fc7, 0xc6e00bf3, 0xd5a79147, 0x06ca6351, 0x14292967,
  0x27b70a85, 0x2e1b2138, 0x4d2c6dfc, 0x53380d13, 0x650a7354, 0x766a0abb, 0x81c2c92e, 0x92722c85,
  0xa2bfe8a1, 0xa81a664b, 0xc24b8b70, 0xc76c51a3, 0xd192e819, 0xd6990624, 0xf40e3585, 0x106aa070,
  0x19a4c116, 0x1e376c08, 0x2748774c, 0x34b0bcb5, 0x391c0cb3, 0x4ed8aa4a, 0x5b9cca4f, 0x682e6ff3,
  0x748f82ee, 0x78a5636f, 0x84c87814, 0x8cc70208, 0x90befffa, 0xa4506ceb, 0xbef9a3f7, 0xc67178f2]
theorem kL_length : kL.length = 64 := by decide
/-- Words that follow from those ahead. -/
def s0 (p : Int) : Int := bits .xor .u32 (bits .xor .u32 (rotI p 7) (rotI p 18)) (p / 8)
def s1 (q : Int) : Int := bits .xor .u32 (bits .xor .u32 (rotI q 17) (rotI q 19)) (q / 1024)
def ext (l : List Int) (i : Nat) : Int :=
  (l.getD (i - 16) 0 + s0 (l.getD (i - 15) 0) + l.getD (i - 7) 0 + s1 (l.getD (i - 2) 0)) % 4294967296

/-- Bytes as a number, the highest first. -/
def beN (l : List UInt8) : Nat := l.foldl (fun w x => 256 * w + x.toNat) 0
theorem beN_snoc (l : List UInt8) (x : UInt8) : beN (l ++ [x]) = 256 * beN l + x.toNat := by simp [beN, List.foldl_append]
theorem beN_fold (l : List UInt8) : ∀ w : Nat, l.foldl (fun w x => 256 * w + x.toNat) w < (w + 1) * 256 ^ l.length := by
  induction l with
  | nil => intro w; simp
  | cons x l ih =>
    intro w
    rw [List.foldl_cons, List.length_cons, Nat.pow_succ, Nat.mul_comm (256 ^ l.length) 256, ← Nat.mul_assoc]
    refine Nat.lt_of_lt_of_le (ih _) (Nat.mul_le_mul_right _ ?_)
    have := x.toNat_lt
    omega
theorem beN_lt (l : List UInt8) : beN l < 256 ^ l.length := by
  have := beN_fold l 0
  rwa [Nat.zero_add, Nat.one_mul] at this
/-- The bytes that came to word q, of the first j. -/
def cutB (B : List UInt8) (j q : Nat) : List UInt8 := ((B.take j).drop (4 * q)).take 4
theorem cutB_length (B : List UInt8) (j q : Nat) (h : j ≤ B.length) : (cutB B j q).length = min 4 (j - 4 * q) := by
  simp [cutB]; omega
theorem cutB_same (B : List UInt8) (j q : Nat) (h : j < B.length) (hq : q ≠ j / 4) : cutB B (j + 1) q = cutB B j q := by
  unfold cutB
  rw [List.take_succ_eq_append_getElem h]
  by_cases h1 : 4 * q ≤ j
  · rw [List.drop_append_of_le_length (by rw [List.length_take]; omega)]
    rw [List.take_append_of_le_length (by rw [List.length_drop, List.length_take]; omega)]
  · rw [List.drop_of_length_le (by rw [List.length_append, List.length_take, List.length_singleton]; omega), List.drop_of_length_le (by rw [List.length_take]; omega)]
theorem cutB_next (B : List UInt8) (j : Nat) (h : j < B.length) : cutB B (j + 1) (j / 4) = cutB B j (j / 4) ++ [B[j]] := by
  unfold cutB
  rw [List.take_succ_eq_append_getElem h, List.drop_append_of_le_length (by rw [List.length_take]; omega)]
  have e1 : (List.drop (4 * (j / 4)) (List.take j B)).length ≤ 3 := by rw [List.length_drop, List.length_take]; omega
  rw [List.take_of_length_le (l := List.drop (4 * (j / 4)) (List.take j B)) (by omega)]
  rw [List.take_of_length_le (by rw [List.length_append, List.length_singleton]; omega)]
def firstL (B : List UInt8) (j : Nat) : List Int := (List.range 64).map fun q => (beN (cutB B j q) : Int)
theorem firstL_length (B : List UInt8) (j : Nat) : (firstL B j).length = 64 := by simp [firstL]
theorem firstL_get (B : List UInt8) (j q : Nat) (h : q < 64) : (firstL B j)[q]'(by rw [firstL_length]; exact h) = (beN (cutB B j q) : Int) := by simp [firstL]
theorem beN_part_lt (B : List UInt8) (j : Nat) (h : j < B.length) : beN (cutB B j (j / 4)) < 16777216 := by
  have h1 := beN_lt (cutB B j (j / 4))
  rw [cutB_length B j _ (by omega)] at h1
  have h2 : min 4 (j - 4 * (j / 4)) ≤ 3 := by omega
  have h3 : 256 ^ min 4 (j - 4 * (j / 4)) ≤ 256 ^ 3 := Nat.pow_le_pow_right (by decide) h2
  have h4 : (256 : Nat) ^ 3 = 16777216 := by decide
  omega
theorem firstL_set (B : List UInt8) (j : Nat) (h : j < B.length) (hB : B.length ≤ 256) : (firstL B j).set (j / 4) ((256 * beN (cutB B j (j / 4)) + (B[j]).toNat : Nat) : Int) = firstL B (j + 1) := by
  apply List.ext_getElem
  · rw [List.length_set, firstL_length, firstL_length]
  · intro q h1 h2
    rw [firstL_length] at h2
    rw [List.getElem_set, firstL_get B (j + 1) _ h2]
    by_cases hq : j / 4 = q
    · subst hq
      rw [if_pos rfl, cutB_next B j h, beN_snoc]
    · rw [if_neg hq, firstL_get _ _ _ h2, cutB_same B j q h (fun e => hq e.symm)]
theorem firstL_zero (B : List UInt8) : firstL B 0 = List.replicate 64 0 := by
  apply List.ext_getElem
  · rw [firstL_length, List.length_replicate]
  · intro q h1 h2
    rw [firstL_length] at h1
    rw [firstL_get _ _ _ h1, List.getElem_replicate]
    simp [cutB, beN]
theorem or_byte (w x : Nat) (hw : w < 16777216) (hx : x < 256) : bits .or .u32 ((w : Int) * 256 % 4294967296) (x : Int) = ((256 * w + x : Nat) : Int) := by
  have e : (w : Int) * 256 % 4294967296 = ((w * 256 : Nat) : Int) := by omega
  rw [e, u32_or_nat (w * 256) x (by omega) (by omega)]
  have h := Nat.two_pow_add_eq_or_of_lt (show x < 2 ^ 8 by omega) w
  rw [show (2 : Nat) ^ 8 * w = w * 256 by rw [Nat.mul_comm]] at h
  rw [← h, Nat.mul_comm w 256]
def WdL (l : List Int) : Prop := ∀ i, Wd (l.getD i 0)
theorem firstL_wd (B : List UInt8) (j : Nat) (hB : j ≤ B.length) : WdL (firstL B j) := by
  intro q
  by_cases h : q < 64
  · rw [List.getD_eq_getElem?_getD, List.getElem?_eq_getElem (by rw [firstL_length]; exact h), Option.getD_some, firstL_get _ _ _ h]
    have h1 := beN_lt (cutB B j q)
    have h3 : 256 ^ (cutB B j q).length ≤ 256 ^ 4 := Nat.pow_le_pow_right (by decide) (by rw [cutB_length B j q hB]; omega)
    have h4 : (256 : Nat) ^ 4 = 4294967296 := by decide
    unfold Wd; omega
  · rw [List.getD_eq_getElem?_getD, List.getElem?_eq_none (by rw [firstL_length]; omega)]
    exact ⟨by decide, by decide⟩
theorem WdL.set {l : List Int} (h : WdL l) (i : Nat) (x : Int) (hx : Wd x) : WdL (l.set i x) := by
  intro q
  rw [List.getD_eq_getElem?_getD, List.getElem?_set]
  split
  · split
    · exact hx
    · exact ⟨by decide, by decide⟩
  · have := h q
    rwa [List.getD_eq_getElem?_getD] at this
/-- The words of a block, so many of those that follow laid. -/
def schedL (B : List UInt8) : Nat → List Int
  | 0 => firstL B 64
  | n + 1 => (schedL B n).set (16 + n) (ext (schedL B n) (16 + n))
theorem schedL_length (B : List UInt8) : ∀ n, (schedL B n).length = 64
  | 0 => firstL_length B 64
  | n + 1 => by rw [schedL, List.length_set]; exact schedL_length B n
theorem schedL_wd (B : List UInt8) (hB : B.length = 64) : ∀ n, WdL (schedL B n)
  | 0 => firstL_wd B 64 (by omega)
  | n + 1 => (schedL_wd B hB n).set _ _ (Wd.mod _)
def wordsL (B : List UInt8) : List Int := schedL B 48
/-- A round. -/
def St.round (s : St) (B : List UInt8) : St := s.add (s.go kL (wordsL B) 64)
/-- So many rounds. -/
def St.rounds (s : St) (l : List UInt8) : Nat → St
  | 0 => s
  | n + 1 => (St.rounds s l n).round ((l.drop (64 * n)).take 64)
/-- So many words added. -/
def sumL (S M : List Int) : Nat → List Int
  | 0 => S
  | n + 1 => (sumL S M n).set n ((S.getD n 0 + M.getD n 0) % 4294967296)
theorem sumL_length (S M : List Int) : ∀ n, (sumL S M n).length = S.length
  | 0 => rfl
  | n + 1 => by rw [sumL, List.length_set]; exact sumL_length S M n
theorem sumL_get (S M : List Int) : ∀ n j, n ≤ j → (sumL S M n).getD j 0 = S.getD j 0
  | 0, _, _ => rfl
  | n + 1, j, h => by
    rw [← sumL_get S M n j (by omega), sumL, List.getD_eq_getElem?_getD, List.getElem?_set, if_neg (by omega), List.getD_eq_getElem?_getD]
theorem sumL_all (s m : St) : sumL s.list m.list 8 = (s.add m).list := rfl
theorem St.list_wd {s : St} (h : s.ok) : WdL s.list := by
  obtain ⟨h1, h2, h3, h4, h5, h6, h7, h8⟩ := h
  intro i
  match i with
  | 0 => exact h1
  | 1 => exact h2
  | 2 => exact h3
  | 3 => exact h4
  | 4 => exact h5
  | 5 => exact h6
  | 6 => exact h7
  | 7 => exact h8
  | i + 8 => exact (show Wd 0 from ⟨by decide, by decide⟩)
theorem St.ok_round (s : St) (B : List UInt8) : (s.round B).ok := St.ok_add _ _
theorem St.ok.rounds {s : St} (h : s.ok) (l : List UInt8) : ∀ n, (s.rounds l n).ok
  | 0 => h
  | n + 1 => St.ok_round _ _
def beginS : St := ⟨0x6a09e667, 0xbb67ae85, 0x3c6ef372, 0xa54ff53a, 0x510e527f, 0x9b05688c, 0x1f83d9ab, 0x5be0cd19⟩
theorem begin_ok : beginS.ok := by unfold St.ok Wd beginS; decide
end Go.Proofs.YtpgdfboogjapeaaDoor
