/- TEXTS OF OUR OWN, IN ONE FILE. -/
import Derived.Test.YtpkopigiijiiiaaDoorTa
import Derived.Deep.WholeRow
import Derived.BigRegion
import Derived.StillTailTactics
import Derived.Lib.QuietBelow
section
namespace Go.Proofs.YtpkopigiijiiiaaDoor
open Go.RowKit
set_option linter.unusedVariables false
set_option linter.unusedSimpArgs false
set_option maxRecDepth 4000

/-- A word turned right. -/
def rotI (x : Int) (n : Nat) : Int := bits .or .u32 (x / 2 ^ n) (x * 2 ^ (32 - n) % 4294967296)
def xorI (x y : Int) : Int := bits .xor .u32 x y
def andI (x y : Int) : Int := bits .and .u32 x y
theorem u32_range (op : BinOp) (x y : Int) : 0 ≤ bits op .u32 x y ∧ bits op .u32 x y < 4294967296 := by
  unfold bits
  simp only [IntKind.wrap_u32']
  omega
theorem rotI_range (x : Int) (n : Nat) : 0 ≤ rotI x n ∧ rotI x n < 4294967296 := u32_range _ _ _

/-- The eight words. -/
structure St where
  (a b c d e f g h : Int)
def St.list (s : St) : List Int := [s.a, s.b, s.c, s.d, s.e, s.f, s.g, s.h]
theorem St.list_length (s : St) : s.list.length = 8 := rfl
def Wd (x : Int) : Prop := 0 ≤ x ∧ x < 4294967296
def St.ok (s : St) : Prop := Wd s.a ∧ Wd s.b ∧ Wd s.c ∧ Wd s.d ∧ Wd s.e ∧ Wd s.f ∧ Wd s.g ∧ Wd s.h
def t1 (e f g h k x : Int) : Int :=
  (h + bits .xor .u32 (bits .xor .u32 (rotI e 6) (rotI e 11)) (rotI e 25) + bits .xor .u32 (bits .and .u32 e f) (bits .and .u32 (bits .xor .u32 (if IntKind.u32.signed = true then -1 else IntKind.u32.max) e) g) + k + x) % 4294967296
def t2 (a b c : Int) : Int :=
  (bits .xor .u32 (bits .xor .u32 (rotI a 2) (rotI a 13)) (rotI a 22) + bits .xor .u32 (bits .xor .u32 (bits .and .u32 a b) (bits .and .u32 a c)) (bits .and .u32 b c)) % 4294967296
def St.step (s : St) (k x : Int) : St :=
  ⟨(t1 s.e s.f s.g s.h k x + t2 s.a s.b s.c) % 4294967296, s.a, s.b, s.c, (s.d + t1 s.e s.f s.g s.h k x) % 4294967296, s.e, s.f, s.g⟩
theorem Wd.mod (x : Int) : Wd (x % 4294967296) := by unfold Wd; omega
theorem St.ok.step {s : St} (h : s.ok) (k x : Int) : (s.step k x).ok := by
  obtain ⟨h1, h2, h3, h4, h5, h6, h7, h8⟩ := h
  exact ⟨Wd.mod _, h1, h2, h3, Wd.mod _, h5, h6, h7⟩
/-- So many steps. -/
def St.go (s : St) (ks xs : List Int) : Nat → St
  | 0 => s
  | n + 1 => (St.go s ks xs n).step (ks.getD n 0) (xs.getD n 0)
theorem St.ok.go {s : St} (h : s.ok) (ks xs : List Int) : ∀ n, (s.go ks xs n).ok
  | 0 => h
  | n + 1 => (St.ok.go h ks xs n).step _ _
def St.add (s m : St) : St := ⟨(s.a + m.a) % 4294967296, (s.b + m.b) % 4294967296, (s.c + m.c) % 4294967296, (s.d + m.d) % 4294967296, (s.e + m.e) % 4294967296, (s.f + m.f) % 4294967296, (s.g + m.g) % 4294967296, (s.h + m.h) % 4294967296⟩
theorem St.ok_add (s m : St) : (s.add m).ok := ⟨Wd.mod _, Wd.mod _, Wd.mod _, Wd.mod _, Wd.mod _, Wd.mod _, Wd.mod _, Wd.mod _⟩
/-- The 64 numbers. -/
def kL : List Int := [
  0x428a2f98, 0x71374491, 0xb5c0fbcf, 0xe9b5dba5, 0x3956c25b, 0x59f111f1, 0x923f82a4, 0xab1c5ed5,
  0xd807aa98, 0x12835b01, 0x243185be, 0x550c7dc3, 0x72be5d74, 0x80deb1fe, 0x9bdc06a7, 0xc19bf174,
  0xe49b69c1, 0xefbe4786, 0x0fc19dc6, 0x240ca1cc, 0x2de92c6f, 0x4a7484aa, 0x5cb0a9dc, 0x76f988da,
  0x983e5152, 0xa831c66d, 0xb00327c8, 0xbf597fc7, 0xc6e00bf3, 0xd5a79147, 0x06ca6351, 0x14292967,
  0x27b70a85, 0x2e1b2138, 0x4d2c6dfc, 0x53380d13, 0x650a7354, 0x766a0abb, 0x81c2c92e, 0x92722c85,
  0xa2bfe8a1, 0xa81a664b, 0xc24b8b70, 0xc76c51a3, 0xd192e819, 0xd6990624, 0xf40e3585, 0x106aa070,
  0x19a4c116, 0x1e376c08, 0x2748774c, 0x34b0bcb5, 0x391c0cb3, 0x4ed8aa4a, 0x5b9cca4f, 0x682e6ff3,
  0x748f82ee, 0x78a5636f, 0x84c87814, 0x8cc70208, 0x90befffa, 0xa4506ceb, 0xbef9a3f7, 0xc67178f2]
theorem kL_length : kL.length = 64 := by decide
/-- Words that follow from those ahead. -/
def s0 (p : Int) : Int := bits .xor .u32 (bits .xor .u32 (rotI p 7) (rotI p 18)) (p / 8)
def s1 (q : Int) : Int := bits .xor .u32 (bits .xor .u32 (rotI q 17) (rotI q 19)) (q / 1024)
def ext (l : List Int) (i : Nat) : Int :=
  (l.getD (i - 16) 0 + s0 (l.getD (i - 15) 0) + l.getD (i - 7) 0 + s1 (l.getD (i - 2) 0)) % 4294967296

/-- Bytes as a number, the highest first. -/
def beN (l : List UInt8) : Nat := l.foldl (fun w x => 256 * w + x.toNat) 0
theorem beN_snoc (l : List UInt8) (x : UInt8) : beN (l ++ [x]) = 256 * beN l + x.toNat := by simp [beN, List.foldl_append]
theorem beN_fold (l : List UInt8) : ∀ w : Nat, l.foldl (fun w x => 256 * w + x.toNat) w < (w + 1) * 256 ^ l.length := by
  induction l with
  | nil => intro w; simp
  | cons x l ih =>
    intro w
    rw [List.foldl_cons, List.length_cons, Nat.pow_succ, Nat.mul_comm (256 ^ l.length) 256, ← Nat.mul_assoc]
    refine Nat.lt_of_lt_of_le (ih _) (Nat.mul_le_mul_right _ ?_)
    have := x.toNat_lt
    omega
theorem beN_lt (l : List UInt8) : beN l < 256 ^ l.length := by
  have := beN_fold l 0
  rwa [Nat.zero_add, Nat.one_mul] at this
/-- The bytes that came to word q, of the first j. -/
def cutB (B : List UInt8) (j q : Nat) : List UInt8 := ((B.take j).drop (4 * q)).take 4
theorem cutB_length (B : List UInt8) (j q : Nat) (h : j ≤ B.length) : (cutB B j q).length = min 4 (j - 4 * q) := by
  simp [cutB]; omega
theorem cutB_same (B : List UInt8) (j q : Nat) (h : j < B.length) (hq : q ≠ j / 4) : cutB B (j + 1) q = cutB B j q := by
  unfold cutB
  rw [List.take_succ_eq_append_getElem h]
  by_cases h1 : 4 * q ≤ j
  · rw [List.drop_append_of_le_length (by rw [List.length_take]; omega)]
    rw [List.take_append_of_le_length (by rw [List.length_drop, List.length_take]; omega)]
  · rw [List.drop_of_length_le (by rw [List.length_append, List.length_take, List.length_singleton]; omega), List.drop_of_length_le (by rw [List.length_take]; omega)]
theorem cutB_next (B : List UInt8) (j : Nat) (h : j < B.length) : cutB B (j + 1) (j / 4) = cutB B j (j / 4) ++ [B[j]] := by
  unfold cutB
  rw [List.take_succ_eq_append_getElem h, List.drop_append_of_le_length (by rw [List.length_take]; omega)]
  have e1 : (List.drop (4 * (j / 4)) (List.take j B)).length ≤ 3 := by rw [List.length_drop, List.length_take]; omega
  rw [List.take_of_length_le (l := List.drop (4 * (j / 4)) (List.take j B)) (by omega)]
  rw [List.take_of_length_le (by rw [List.length_append, List.length_singleton]; omega)]
def firstL (B : List UInt8) (j : Nat) : List Int := (List.range 64).map fun q => (beN (cutB B j q) : Int)
theorem firstL_length (B : List UInt8) (j : Nat) : (firstL B j).length = 64 := by simp [firstL]
theorem firstL_get (B : List UInt8) (j q : Nat) (h : q < 64) : (firstL B j)[q]'(by rw [firstL_length]; exact h) = (beN (cutB B j q) : Int) := by simp [firstL]
theorem beN_part_lt (B : List UInt8) (j : Nat) (h : j < B.length) : beN (cutB B j (j / 4)) < 16777216 := by
  have h1 := beN_lt (cutB B j (j / 4))
  rw [cutB_length B j _ (by omega)] at h1
  have h2 : min 4 (j - 4 * (j / 4)) ≤ 3 := by omega
  have h3 : 256 ^ min 4 (j - 4 * (j / 4)) ≤ 256 ^ 3 := Nat.pow_le_pow_right (by decide) h2
  have h4 : (256 : Nat) ^ 3 = 16777216 := by decide
  omega
theorem firstL_set (B : List UInt8) (j : Nat) (h : j < B.length) (hB : B.length ≤ 256) : (firstL B j).set (j / 4) ((256 * beN (cutB B j (j / 4)) + (B[j]).toNat : Nat) : Int) = firstL B (j + 1) := by
  apply List.ext_getElem
  · rw [List.length_set, firstL_length, firstL_length]
  · intro q h1 h2
    rw [firstL_length] at h2
    rw [List.getElem_set, firstL_get B (j + 1) _ h2]
    by_cases hq : j / 4 = q
    · subst hq
      rw [if_pos rfl, cutB_next B j h, beN_snoc]
    · rw [if_neg hq, firstL_get _ _ _ h2, cutB_same B j q h (fun e => hq e.symm)]
theorem firstL_zero (B : List UInt8) : firstL B 0 = List.replicate 64 0 := by
  apply List.ext_getElem
  · rw [firstL_length, List.length_replicate]
  · intro q h1 h2
    rw [firstL_length] at h1
    rw [firstL_get _ _ _ h1, List.getElem_replicate]
    simp [cutB, beN]
theorem or_byte (w x : Nat) (hw : w < 16777216) (hx : x < 256) : bits .or .u32 ((w : Int) * 256 % 4294967296) (x : Int) = ((256 * w + x : Nat) : Int) := by
  have e : (w : Int) * 256 % 4294967296 = ((w * 256 : Nat) : Int) := by omega
  rw [e, u32_or_nat (w * 256) x (by omega) (by omega)]
  have h := Nat.two_pow_add_eq_or_of_lt (show x < 2 ^ 8 by omega) w
  rw [show (2 : Nat) ^ 8 * w = w * 256 by rw [Nat.mul_comm]] at h
  rw [← h, Nat.mul_comm w 256]
def WdL (l : List Int) : Prop := ∀ i, Wd (l.getD i 0)
theorem firstL_wd (B : List UInt8) (j : Nat) (hB : j ≤ B.length) : WdL (firstL B j) := by
  intro q
  by_cases h : q < 64
  · rw [List.getD_eq_getElem?_getD, List.getElem?_eq_getElem (by rw [firstL_length]; exact h), Option.getD_some, firstL_get _ _ _ h]
    have h1 := beN_lt (cutB B j q)
    have h3 : 256 ^ (cutB B j q).length ≤ 256 ^ 4 := Nat.pow_le_pow_right (by decide) (by rw [cutB_length B j q hB]; omega)
    have h4 : (256 : Nat) ^ 4 = 4294967296 := by decide
    unfold Wd; omega
  · rw [List.getD_eq_getElem?_getD, List.getElem?_eq_none (by rw [firstL_length]; omega)]
    exact ⟨by decide, by decide⟩
theorem WdL.set {l : List Int} (h : WdL l) (i : Nat) (x : Int) (hx : Wd x) : WdL (l.set i x) := by
  intro q
  rw [List.getD_eq_getElem?_getD, List.getElem?_set]
  split
  · split
    · exact hx
    · exact ⟨by decide, by decide⟩
  · have := h q
    rwa [List.getD_eq_getElem?_getD] at this
/-- The words of a block, so many of those that follow laid. -/
def schedL (B : List UInt8) : Nat → List Int
  | 0 => firstL B 64
  | n + 1 => (schedL B n).set (16 + n) (ext (schedL B n) (16 + n))
theorem schedL_length (B : List UInt8) : ∀ n, (schedL B n).length = 64
  | 0 => firstL_length B 64
  | n + 1 => by rw [schedL, List.length_set]; exact schedL_length B n
theorem schedL_wd (B : List UInt8) (hB : B.length = 64) : ∀ n, WdL (schedL B n)
  | 0 => firstL_wd B 64 (by omega)
  | n + 1 => (schedL_wd B hB n).set _ _ (Wd.mod _)
def wordsL (B : List UInt8) : List Int := schedL B 48
/-- A round. -/
def St.round (s : St) (B : List UInt8) : St := s.add (s.go kL (wordsL B) 64)
/-- So many rounds. -/
def St.rounds (s : St) (l : List UInt8) : Nat → St
  | 0 => s
  | n + 1 => (St.rounds s l n).round ((l.drop (64 * n)).take 64)
/-- So many words added. -/
def sumL (S M : List Int) : Nat → List Int
  | 0 => S
  | n + 1 => (sumL S M n).set n ((S.getD n 0 + M.getD n 0) % 4294967296)
theorem sumL_length (S M : List Int) : ∀ n, (sumL S M n).length = S.length
  | 0 => rfl
  | n + 1 => by rw [sumL, List.length_set]; exact sumL_length S M n
theorem sumL_get (S M : List Int) : ∀ n j, n ≤ j → (sumL S M n).getD j 0 = S.getD j 0
  | 0, _, _ => rfl
  | n + 1, j, h => by
    rw [← sumL_get S M n j (by omega), sumL, List.getD_eq_getElem?_getD, List.getElem?_set, if_neg (by omega), List.getD_eq_getElem?_getD]
theorem sumL_all (s m : St) : sumL s.list m.list 8 = (s.add m).list := rfl
theorem St.list_wd {s : St} (h : s.ok) : WdL s.list := by
  obtain ⟨h1, h2, h3, h4, h5, h6, h7, h8⟩ := h
  intro i
  match i with
  | 0 => exact h1
  | 1 => exact h2
  | 2 => exact h3
  | 3 => exact h4
  | 4 => exact h5
  | 5 => exact h6
  | 6 => exact h7
  | 7 => exact h8
  | i + 8 => exact (show Wd 0 from ⟨by decide, by decide⟩)
theorem St.ok_round (s : St) (B : List UInt8) : (s.round B).ok := St.ok_add _ _
theorem St.ok.rounds {s : St} (h : s.ok) (l : List UInt8) : ∀ n, (s.rounds l n).ok
  | 0 => h
  | n + 1 => St.ok_round _ _
def beginS : St := ⟨0x6a09e667, 0xbb67ae85, 0x3c6ef372, 0xa54ff53a, 0x510e527f, 0x9b05688c, 0x1f83d9ab, 0x5be0cd19⟩
theorem begin_ok : beginS.ok := by unfold St.ok Wd beginS; decide
end Go.Proofs.YtpkopigiijiiiaaDoor
end

section
namespace Go.Proofs.YtpkopigiijiiiaaDoor
open Go.RowKit
set_option linter.unusedVariables false
set_option linter.unusedSimpArgs false

set_option maxHeartbeats 400000 in
theorem turn_any (x m : Int) (n : Nat) (w : World) (hm : m = n) (h : Wd x) (hn : n ≤ 32) :
    Calls Tryd.prog 47 #[.int .u32 x, .int .u64 m] w fun e w' => e = .returned (.int .u32 (rotI x n)) ∧ w = w' := by
  obtain ⟨h0, h1⟩ := h
  subst hm
  have hn0 : (0 : Int) ≤ (n : Int) := by omega
  have hn1 : (n : Int) ≤ 32 := by omega
  go_enter Tryd.func47, Tryd.ntmps47
  go_wp2
  go_ret
  exact ⟨rfl, rfl⟩

theorem turn_st (x m : Int) (n : Nat) (hm : m = n) (h : Wd x) (hn : n ≤ 32) (w : World) :
    Calls Tryd.prog 47 #[.int .u32 x, .int .u64 m] w fun e w' => e = .returned (.int .u32 (rotI x n)) ∧ w' = w := (turn_any x m n w hm h hn).mono fun _ _ h => ⟨h.1, h.2.symm⟩

theorem turn_q (x m : Int) (n : Nat) (hm : m = n) (h : Wd x) (hn : n ≤ 32) (w : World) (k : Nat) :
    Calls Tryd.prog 47 #[.int .u32 x, .int .u64 m] (w.drewN k) fun e w' => e = .returned (.int .u32 (rotI x n)) ∧ ∃ j, w' = w.drewN j := (turn_any x m n _ hm h hn).mono fun _ _ h => ⟨h.1, k, h.2.symm⟩

theorem ints_size (k : IntKind) (l : List Int) : (ints k l).size = l.length := by simp [ints]
theorem ints_one (k : IntKind) (l : List Int) : (ints k l).all (·.oneCell') = true := by
  rw [Array.all_eq_true']
  intro x hx
  simp only [ints, List.mem_toArray, List.mem_map] at hx
  obtain ⟨y, _, rfl⟩ := hx
  rfl
theorem ints_set (k : IntKind) (l : List Int) (i : Nat) (x : Int) : (ints k l).setIfInBounds i (.int k x) = ints k (l.set i x) := by
  simp [ints, List.map_set]
section
variable {P : Program}
theorem run_index_ints (k : IntKind) (t e : TypeId) (n : Nat) (ht : P.underlying t = some (.array n e)) (hag : ∀ w, (isAgg e).run P w = .ok false w) (hsz : ∀ w, (sizeOf e).run P w = .ok 1 w)
    (l : List Int) (hl : l.length = n) (i : Nat) (h : i < l.length) (w : World) : (Instr.index t (.agg (ints k l)) (.int .i64 (i : Int))).run P w = .ok (.int k l[i]) w := by
  have hi : (0 : Int) ≤ (i : Int) ∧ (i : Int) < (n : Int) := by omega
  simp [Instr.index, asIntOf, run_underlying ht, hsz, part, hag, ints_get k l i h, hi]
  intro hh; omega
end
/-- The 64 numbers stand in their variable. -/
def KIs (w : World) : Prop := ∀ i, i < 64 → w.cell? ⟨0, i, none⟩ = some (.int .u32 (kL.getD i 0))
theorem KIs.nx {w w' : World} (h : KIs w) (k : Nx w w') : KIs w' := fun i hi => by
  have := h i hi
  rw [← this]
  refine k.cell (p := ⟨_, i, none⟩) ?_
  have h2 := this
  unfold World.cell? at h2
  by_cases hlt : 0 < w.heap.size
  · exact hlt
  · exfalso
    rw [Array.getElem?_eq_none (show w.heap.size ≤ 0 by omega)] at h2
    simp at h2

set_option maxRecDepth 100000 in
set_option maxHeartbeats 1000000 in
theorem mixed_any (s : St) (l : List Int) (w : World) (hs : s.ok) (hl : l.length = 64) (hk : KIs w) :
    Calls Tryd.prog 45 #[.agg (ints .u32 s.list), .agg (ints .u32 l)] w fun e w' => e = .returned (.agg (ints .u32 (s.go kL l 64).list)) ∧ Nx w w' := by
  have HK := Lib.hid hk
  clear hk
  replace hl := Lib.hid hl
  show Calls _ _ #[.agg #[.int .u32 s.a, .int .u32 s.b, .int .u32 s.c, .int .u32 s.d, .int .u32 s.e, .int .u32 s.f, .int .u32 s.g, .int .u32 s.h], .agg (ints .u32 l)] _ _
  go_enter Tryd.func45, Tryd.ntmps45
  go_wp2
  go_quiet (fail)
  have hz : (Tryd.prog.info? 63).map (·.size) = some (ints .u32 l).size := by rw [ints_size, hl.out]; kernel_rfl
  replace hz := Lib.hid hz
  go_wp2_with (refine wpList_load_row rfl 63 (.tmp 3) rfl (w.heap.size + 1) rfl 63 (ints .u32 l) (0, 0) _ (((Row.new2 w _ (ints .u32 l) 63).alloc _).drewN _) Tryd.underlying63 rfl hz.out ?_)
  have HX := Lib.hid (fun i (hi : i < l.length) w => run_index_ints (P := Tryd.prog) .u32 63 54 64 Tryd.underlying63 Tryd.isAgg54 Tryd.sizeOf54 l hl.out i hi w)
  have HG := Lib.hid (fun k => St.ok.go hs kL l k)
  go_loopw [5, 6, 7, 8, 9, 10, 11, 12, 34] (fun a b c d e f g h i wr => ∃ k : Nat, k ≤ 64 ∧ i = .int .i64 k ∧ a = .int .u32 (s.go kL l k).a ∧ b = .int .u32 (s.go kL l k).b ∧ c = .int .u32 (s.go kL l k).c ∧ d = .int .u32 (s.go kL l k).d ∧ e = .int .u32 (s.go kL l k).e ∧ f = .int .u32 (s.go kL l k).f ∧ g = .int .u32 (s.go kL l k).g ∧ h = .int .u32 (s.go kL l k).h ∧ Hid (Nx w wr) ∧ Row wr (w.heap.size + 1 + 1) (ints .u32 [0, 0, 0, 0, 0, 0, 0, 0]) 55) (fun _ _ _ _ _ _ _ _ i _ => 64 - (intOf i).toNat)
  case atStart =>
    refine ⟨0, by omega, rfl, rfl, rfl, rfl, rfl, rfl, rfl, rfl, rfl, ((((Nx.refl w).alloc _).alloc _).alloc _).drewN _, ?_⟩
    exact (Row.new3 _ _ _ _ _).drewN _
  case round =>
    obtain ⟨k, hk, rfl, rfl, rfl, rfl, rfl, rfl, rfl, rfl, rfl, HN, RR⟩ := hrel
    by_cases hlt : k < 64
    · have hkl : k < l.length := by have := hl.out; omega
      have hidx := HX.out k hkl
      have hkc := (HK.out.nx HN.out) k hlt
      have hst : (s.go kL l (k + 1)) = (s.go kL l k).step (kL.getD k 0) l[k] := by
        show (s.go kL l k).step (kL.getD k 0) (l.getD k 0) = _
        rw [show l.getD k 0 = l[k] by rw [List.getD_eq_getElem?_getD, List.getElem?_eq_getElem hkl]; rfl]
      have HO := HG.out k
      replace hst := Lib.hid hst
      generalize s.go kL l k = t at *
      obtain ⟨oa, ob, oc, od, oe, of, og, oh⟩ := HO
      clear hs HG HX
      replace oa := Lib.hid oa
      replace oe := Lib.hid oe
      clear ob oc od of og oh
      obtain ⟨a, b, c, d, e, f, g, h⟩ := t
      generalize l[k] = x at *
      generalize kL.getD k 0 = kk at *
      go_wp2
      go_quiet ((go_at_call 47; (with_reducible first | exact turn_q e 6 6 rfl oe.out (by decide) _ _ | exact turn_q e 11 11 rfl oe.out (by decide) _ _ | exact turn_q e 25 25 rfl oe.out (by decide) _ _)))
      go_wp2_with (go_at_call 47; first | ((with_reducible refine (turn_any a 2 2 _ rfl oa.out (by decide)).mono ?_); rintro e w' ⟨rfl, rfl⟩) | ((with_reducible refine (turn_any a 13 13 _ rfl oa.out (by decide)).mono ?_); rintro e w' ⟨rfl, rfl⟩) | ((with_reducible refine (turn_any a 22 22 _ rfl oa.out (by decide)).mono ?_); rintro e w' ⟨rfl, rfl⟩))
      go_roundw
      case rel =>
        refine ⟨k + 1, by omega, by go_num, ?_⟩
        rw [hst.out]
        exact ⟨rfl, rfl, rfl, rfl, rfl, rfl, rfl, rfl, HN.out.drewN _, RR.drewN _⟩
      case measure => simp [intOf]; omega
    · obtain rfl : k = 64 := by omega
      clear HX HG hs HK hl hz
      obtain ⟨t, ht⟩ : ∃ t, s.go kL l 64 = t := ⟨_, rfl⟩
      rw [ht]
      replace ht := Lib.hid ht
      obtain ⟨a, b, c, d, e, f, g, h⟩ := t
      have hl : w.heap.size ≤ w.heap.size + 1 + 1 := by omega
      have hz : (Tryd.prog.info? 55).map (·.size) = some (ints .u32 [a, b, c, d, e, f, g, h]).size := by rw [ints_size]; kernel_rfl
      replace hz := Lib.hid hz
      have ho : (ints .u32 [0, 0, 0, 0, 0, 0, 0, 0]).size = (ints .u32 [a, b, c, d, e, f, g, h]).size := by rw [ints_size, ints_size]; rfl
      replace ho := Lib.hid ho
      go_wp2_with (refine wpList_store_row rfl 55 (.tmp 4) (.tmp 104) rfl (w.heap.size + 1 + 1) (ints .u32 [a, b, c, d, e, f, g, h]) rfl rfl 55 (ints .u32 [0, 0, 0, 0, 0, 0, 0, 0]) RR hz.out ho.out (ints_one _ _) ?_)
      exact bodyPost_ret (results_cell_row Tryd.results45 _ _ (w.heap.size + 1 + 1) 55 (ints .u32 [a, b, c, d, e, f, g, h]) (0, 0) _ rfl (RR.setRow _) Tryd.underlying55 rfl hz.out) rfl ⟨by rw [ht.out]; rfl, HN.out.setRow _ hl⟩
end Go.Proofs.YtpkopigiijiiiaaDoor
end

section
namespace Go.Proofs.YtpkopigiijiiiaaDoor
open Go.RowKit
set_option linter.unusedVariables false
set_option linter.unusedSimpArgs false
set_option pp.deepTerms true
set_option pp.maxSteps 10000000

theorem info_w64 : (Tryd.prog.info? 63).map (fun i => (i.zero, i.size)) = some (some (.agg (ints .u32 (List.replicate 64 0))), 64) := by kernel_rfl
theorem info_b64 : (Tryd.prog.info? 67).map (fun i => (i.zero, i.size)) = some (some (.agg (hcel (List.replicate 64 0))), 64) := by kernel_rfl

set_option maxRecDepth 100000 in
set_option maxHeartbeats 2000000 in
theorem spread_any (B : List UInt8) (w : World) (hB : B.length = 64) :
    Calls Tryd.prog 46 #[.agg (hcel B)] w fun e w' => e = .returned (.agg (ints .u32 (wordsL B))) ∧ Nx w w' := by
  obtain ⟨hz, hs⟩ := zero_of_info info_w64
  have hsb : (Tryd.prog.info? 67).map (·.size) = some (hcel B).size := by rw [hcel_size, hB]; kernel_rfl
  replace hsb := Lib.hid hsb
  have HI := Lib.hid (fun i (hi : i < B.length) w => run_index_bytes (P := Tryd.prog) 67 5 64 Tryd.underlying67 Tryd.isAgg5 Tryd.sizeOf5 B hB i hi w)
  replace hB := Lib.hid hB
  have HZ := Lib.hid (List.length_replicate : (List.replicate 64 (0 : Int)).length = 64)
  have HF := Lib.hid (firstL_zero B)
  generalize List.replicate 64 (0 : Int) = Z at *
  go_enter Tryd.func46, Tryd.ntmps46
  go_wp2_with (refine wpList_load_row rfl 67 (.tmp 1) rfl w.heap.size rfl 67 (hcel B) (0, 0) _ (((Row.new w (hcel B) 67 _ rfl).alloc _).alloc _) Tryd.underlying67 rfl hsb.out ?_)
  replace hz := Lib.hid hz
  replace hs := Lib.hid hs
  go_loopw [12] (fun i wr => ∃ k : Nat, k ≤ 64 ∧ i = .int .i64 k ∧ Hid (Nx w wr) ∧ Row wr (w.heap.size + 1) (ints .u32 Z) 63 ∧ Row wr (w.heap.size + 1 + 1) (ints .u32 (firstL B k)) 63) (fun i _ => 64 - (intOf i).toNat)
  case atStart =>
    refine ⟨0, by omega, rfl, (((Nx.refl w).alloc _).alloc _).alloc _, (Row.new2 _ _ _ _).alloc _, ?_⟩
    rw [HF.out]
    exact Row.new3 _ _ _ _ _
  case round =>
    obtain ⟨k, hk, rfl, HN, R1, R2⟩ := hrel
    by_cases hlt : k < 64
    · have hkl : k < B.length := by have := hB.out; omega
      have hidx := HI.out k hkl
      have HS := Lib.hid (firstL_set B k hkl (by rw [hB.out]; decide))
      have HP := Lib.hid (beN_part_lt B k hkl)
      have HQ := Lib.hid (firstL_get B k (k / 4) (by omega))
      obtain ⟨q, hq⟩ : ∃ q : Nat, k / 4 = q := ⟨_, rfl⟩
      have hqi : (k : Int) / 4 = (q : Int) := by omega
      have hq64 : q < 64 := by omega
      rw [hq] at HS HP
      have c2 : wr.cell? ⟨w.heap.size + 1 + 1, q, none⟩ = some (.int .u32 ((beN (cutB B k q) : Nat) : Int)) := by
        subst hq
        have := R2.cell (ints_get .u32 (firstL B k) (k / 4) (by rw [firstL_length]; omega))
        rw [this, HQ.out]
      have f2 := R2.frozen
      have HO := Lib.hid (or_byte (beN (cutB B k q)) (B[k]).toNat HP.out (B[k]).toNat_lt)
      have hx0 : IntKind.u32.wrap ((B[k]).toNat : Int) = ((B[k]).toNat : Int) := IntWalk.u32_in _ (by have := (B[k]).toNat_lt; omega)
      clear hq HQ HP HI
      generalize beN (cutB B k q) = v at *
      generalize B[k] = x at *
      go_wp2
      go_roundw
      case rel =>
        refine ⟨k + 1, by omega, by go_num, HN.out.setAt _ (by omega), R1.other _ _ _ (by omega), ?_⟩
        rw [← HS.out, ← HO.out, ← ints_set]
        exact R2.set q _
      case measure => simp [intOf]; omega
    · obtain rfl : k = 64 := by omega
      have e0 : firstL B 64 = schedL B 0 := rfl
      rw [e0] at R2
      clear HI e0 HF
      have HW := Lib.hid (fun n => schedL_wd B hB.out n)
      rw [show ((64 : Nat) : Int) = 64 from rfl]
      go_wp2
      go_loopw [6] (fun i wr => ∃ k n : Nat, k = 16 + n ∧ k ≤ 64 ∧ i = .int .i64 k ∧ Hid (Nx w wr) ∧ Row wr (w.heap.size + 1) (ints .u32 Z) 63 ∧ Row wr (w.heap.size + 1 + 1) (ints .u32 (schedL B n)) 63) (fun i _ => 64 - (intOf i).toNat)
      case atStart => exact ⟨16, 0, rfl, by omega, rfl, HN, R1, R2⟩
      case round =>
        clear HN R1 R2
        obtain ⟨k, n, hkn, hk, rfl, HN, R1, R2⟩ := hrel
        replace hkn := Lib.hid hkn
        by_cases hlt : k < 64
        · have HE : Hid (schedL B (n + 1) = (schedL B n).set k (ext (schedL B n) k)) := Lib.hid (by rw [hkn.out]; rfl)
          have HL := Lib.hid (schedL_length B n)
          have HWD := Lib.hid (HW.out n)
          clear HW
          generalize schedL B n = L at *
          have hk16 : 16 ≤ k := by have := hkn.out; omega
          obtain ⟨p16, h16⟩ : ∃ p : Nat, (k : Int) - 16 = (p : Int) := ⟨k - 16, by omega⟩
          obtain ⟨p15, h15⟩ : ∃ p : Nat, (k : Int) - 15 = (p : Int) := ⟨k - 15, by omega⟩
          obtain ⟨p7, h7⟩ : ∃ p : Nat, (k : Int) - 7 = (p : Int) := ⟨k - 7, by omega⟩
          obtain ⟨p2, h2⟩ : ∃ p : Nat, (k : Int) - 2 = (p : Int) := ⟨k - 2, by omega⟩
          have HX : Hid (ext L k = (L.getD p16 0 + s0 (L.getD p15 0) + L.getD p7 0 + s1 (L.getD p2 0)) % 4294967296) := by
            rw [show p16 = k - 16 by omega, show p15 = k - 15 by omega, show p7 = k - 7 by omega, show p2 = k - 2 by omega]; exact Lib.hid rfl
          have hc : ∀ p, p < 64 → wr.cell? ⟨w.heap.size + 1 + 1, p, none⟩ = some (.int .u32 (L.getD p 0)) := fun p hp => by
            have hp2 : p < L.length := by rw [HL.out]; exact hp
            rw [R2.cell (ints_get .u32 L p hp2), List.getD_eq_getElem?_getD, List.getElem?_eq_getElem hp2]; rfl
          have c16 := hc p16 (by omega)
          have c15 := hc p15 (by omega)
          have c7 := hc p7 (by omega)
          have c2 := hc p2 (by omega)
          have ck := hc k hlt
          have f2 := R2.frozen
          clear hc
          have d16 := HWD.out p16
          have d15 := Lib.hid (HWD.out p15)
          have d7 := HWD.out p7
          have d2 := Lib.hid (HWD.out p2)
          have q16 : p16 < 64 := by omega
          have q15 : p15 < 64 := by omega
          have q7 : p7 < 64 := by omega
          have q2 : p2 < 64 := by omega
          generalize L.getD k 0 = yk at *
          generalize L.getD p16 0 = y16 at *
          generalize L.getD p15 0 = y15 at *
          generalize L.getD p7 0 = y7 at *
          generalize L.getD p2 0 = y2 at *
          have w16 : IntKind.i64.wrap ((k : Int) - 16) = (p16 : Int) := by rw [h16]; exact IntWalk.i64_in _ (by omega)
          have w15 : IntKind.i64.wrap ((k : Int) - 15) = (p15 : Int) := by rw [h15]; exact IntWalk.i64_in _ (by omega)
          have w7 : IntKind.i64.wrap ((k : Int) - 7) = (p7 : Int) := by rw [h7]; exact IntWalk.i64_in _ (by omega)
          have w2 : IntKind.i64.wrap ((k : Int) - 2) = (p2 : Int) := by rw [h2]; exact IntWalk.i64_in _ (by omega)
          have b16 : (p16 : Int) < 64 := by omega
          have b7 : (p7 : Int) < 64 := by omega
          have v16 : IntKind.i64.wrap (p16 : Int) = (p16 : Int) := IntWalk.i64_in _ (by omega)
          have v7 : IntKind.i64.wrap (p7 : Int) = (p7 : Int) := IntWalk.i64_in _ (by omega)
          go_wp2
          go_quiet (fail)
          go_wp2_with (go_at_call 47; first | ((with_reducible refine (turn_any y15 7 7 _ rfl d15.out (by decide)).mono ?_); rintro e w' ⟨rfl, rfl⟩) | ((with_reducible refine (turn_any y15 18 18 _ rfl d15.out (by decide)).mono ?_); rintro e w' ⟨rfl, rfl⟩) | ((with_reducible refine (turn_any y2 17 17 _ rfl d2.out (by decide)).mono ?_); rintro e w' ⟨rfl, rfl⟩) | ((with_reducible refine (turn_any y2 19 19 _ rfl d2.out (by decide)).mono ?_); rintro e w' ⟨rfl, rfl⟩))
          have r9 : 0 ≤ s0 y15 ∧ s0 y15 < 4294967296 := u32_range _ _ _
          have r10 : 0 ≤ s1 y2 ∧ s1 y2 < 4294967296 := u32_range _ _ _
          have e9 : bits .xor .u32 (bits .xor .u32 (rotI y15 7) (rotI y15 18)) (y15 / 8) = s0 y15 := rfl
          have e10 : bits .xor .u32 (bits .xor .u32 (rotI y2 17) (rotI y2 19)) (y2 / 1024) = s1 y2 := rfl
          rw [e9, e10]
          clear e9 e10
          generalize s0 y15 = z9 at *
          generalize s1 y2 = z10 at *
          have HW3 : Hid (IntKind.u32.wrap (IntKind.u32.wrap (IntKind.u32.wrap (y16 + z9) + y7) + z10) = ext L k) := Lib.hid (by rw [HX.out]; simp only [IntKind.wrap_u32']; omega)
          clear HX
          replace HN : Hid (Nx w (wr.drewN nq)) := HN.out.drewN nq
          replace R1 := R1.drewN nq
          replace R2 := R2.drewN nq
          replace c16 : (wr.drewN nq).cell? _ = _ := c16
          replace c7 : (wr.drewN nq).cell? _ = _ := c7
          replace ck : (wr.drewN nq).cell? _ = _ := ck
          replace f2 := R2.frozen
          clear c15 c2
          generalize wr.drewN nq = wq at *
          go_still_tail 14, (by kernel_rfl)
          change wpList _ _ _ _ _ wq.drew
          rw [HW3.out]
          clear HW3
          generalize ext L k = xx at *
          go_wp2
          go_roundw
          case rel =>
            refine ⟨k + 1, n + 1, by have := hkn.out; omega, by omega, by go_num, (HN.out.setAt _ (by omega)).drew, (R1.other _ _ _ (by omega)).drew, ?_⟩
            rw [HE.out, ← ints_set]
            exact (R2.set k _).drew
          case measure => simp [intOf]; omega
        · obtain rfl : k = 64 := by omega
          obtain rfl : n = 48 := by have := hkn.out; omega
          rw [show schedL B 48 = wordsL B from rfl] at R2
          have hzz : (Tryd.prog.info? 63).map (·.size) = some (ints .u32 (wordsL B)).size := by rw [ints_size, wordsL, schedL_length]; exact hs.out
          replace hzz := Lib.hid hzz
          have ho : (ints .u32 Z).size = (ints .u32 (wordsL B)).size := by rw [ints_size, ints_size, HZ.out, wordsL, schedL_length]
          replace ho := Lib.hid ho
          have hl : w.heap.size ≤ w.heap.size + 1 := by omega
          go_wp2_with (first | (refine wpList_load_row rfl 63 (.tmp 3) rfl (w.heap.size + 1 + 1) rfl 63 (ints .u32 (wordsL B)) (0, 0) _ R2 Tryd.underlying63 rfl hzz.out ?_) | (refine wpList_store_row rfl 63 (.tmp 2) (.tmp 71) rfl (w.heap.size + 1) (ints .u32 (wordsL B)) rfl rfl 63 (ints .u32 Z) R1 hzz.out ho.out (ints_one _ _) ?_))
          exact bodyPost_ret (results_cell_row Tryd.results46 _ _ (w.heap.size + 1) 63 (ints .u32 (wordsL B)) (0, 0) _ rfl (R1.setRow _) Tryd.underlying63 rfl hzz.out) rfl ⟨rfl, HN.out.setRow _ hl⟩
end Go.Proofs.YtpkopigiijiiiaaDoor
end

section
namespace Go.Proofs.YtpkopigiijiiiaaDoor
open Go.RowKit
set_option linter.unusedVariables false
set_option linter.unusedSimpArgs false

/-- A load of a whole row, within a region that reads alone, in every world of a class. -/
theorem info_w8 : (Tryd.prog.info? 55).map (fun i => (i.zero, i.size)) = some (some (.agg (ints .u32 [0, 0, 0, 0, 0, 0, 0, 0])), 8) := by kernel_rfl

set_option maxHeartbeats 400000 in
theorem begin_any (w : World) :
    Calls Tryd.prog 35 #[] w fun e w' => e = .returned (.agg (ints .u32 beginS.list)) ∧ Nx w w' := by
  go_enter Tryd.func35, Tryd.ntmps35
  go_wp2
  exact bodyPost_ret (v := .agg (ints .u32 beginS.list)) (by simp [results, Tryd.results35, go_sem]; rfl) rfl
    ⟨rfl, by repeat (first | exact Nx.refl _ | with_reducible apply Nx.drew | with_reducible apply Nx.alloc | with_reducible refine Nx.setAt ?_ _ (by omega))⟩

set_option maxRecDepth 100000 in
set_option maxHeartbeats 1000000 in
theorem round_any (s : St) (B : List UInt8) (w : World) (hs : s.ok) (hB : B.length = 64) (hk : KIs w) :
    Calls Tryd.prog 42 #[.agg (ints .u32 s.list), .agg (hcel B)] w fun e w' => e = .returned (.agg (ints .u32 (s.round B).list)) ∧ Nx w w' := by
  have HSP := Lib.hid (fun w => spread_any B w hB)
  have HWL := Lib.hid (show (wordsL B).length = 64 from schedL_length B 48)
  have hsb : (Tryd.prog.info? 67).map (·.size) = some (hcel B).size := by rw [hcel_size, hB]; kernel_rfl
  have hsw : (Tryd.prog.info? 55).map (·.size) = some (ints .u32 s.list).size := by rw [ints_size]; kernel_rfl
  replace hsb := Lib.hid hsb
  replace hsw := Lib.hid hsw
  clear hB
  have HK := Lib.hid hk
  clear hk
  obtain ⟨hz, hzs⟩ := zero_of_info info_w8
  go_enter Tryd.func42, Tryd.ntmps42
  go_wp2_with fail
  replace hz := Lib.hid hz
  replace hzs := Lib.hid hzs
  have RS := ((Row.new w (ints .u32 s.list) 55 _ rfl).alloc (.cells (hcel B) 67)).alloc (.cells (ints .u32 [0, 0, 0, 0, 0, 0, 0, 0]) 55)
  have RB := (Row.new2 w (.cells (ints .u32 s.list) 55) (hcel B) 67).alloc (.cells (ints .u32 [0, 0, 0, 0, 0, 0, 0, 0]) 55)
  have RZ := Row.new3 w (.cells (ints .u32 s.list) 55) (.cells (hcel B) 67) (ints .u32 [0, 0, 0, 0, 0, 0, 0, 0]) 55
  have N1 := Lib.hid ((((Nx.refl w).alloc (.cells (ints .u32 s.list) 55)).alloc (.cells (hcel B) 67)).alloc (.cells (ints .u32 [0, 0, 0, 0, 0, 0, 0, 0]) 55))
  generalize (((w.alloc (.cells (ints .u32 s.list) 55)).alloc (.cells (hcel B) 67)).alloc (.cells (ints .u32 [0, 0, 0, 0, 0, 0, 0, 0]) 55)) = W at *
  have KW := Lib.hid (fun d os => (HK.out.nx N1.out).nx (below_regrown W d os))
  have HM := Lib.hid (fun d os => mixed_any s (wordsL B) (Sort.grow (redrawn W d) os) hs HWL.out (KW.out d os))
  have qs := Lib.hid (fun (w' : World) (hw : ∃ p : Regrown, w' = Sort.grow (redrawn W p.d) p.os) => show Row w' w.heap.size (ints .u32 s.list) 55 by obtain ⟨p, rfl⟩ := hw; exact Row.nx RS (below_regrown W p.d p.os))
  have qb := Lib.hid (fun (w' : World) (hw : ∃ p : Regrown, w' = Sort.grow (redrawn W p.d) p.os) => show Row w' (w.heap.size + 1) (hcel B) 67 by obtain ⟨p, rfl⟩ := hw; exact Row.nx RB (below_regrown W p.d p.os))
  clear HK
  refine wp_region_quiet_below (by kernel_rfl) (by kernel_rfl) ?_
  repeat (first
    | (refine wpQuiet_step (fun K hK => ?_); rw [if_pos (by rfl)]; refine quiet_load 55 (.tmp 2) rfl w.heap.size rfl 55 (ints .u32 s.list) (0, 0) _ qs.out Tryd.underlying55 rfl hsw.out ?_; refine hK _ ?_; clear hK K)
    | (refine wpQuiet_step (fun K hK => ?_); rw [if_pos (by rfl)]; refine quiet_load 67 (.tmp 3) rfl (w.heap.size + 1) rfl 67 (hcel B) (0, 0) _ qb.out Tryd.underlying67 rfl hsb.out ?_; refine hK _ ?_; clear hK K)
    | quiet_step ((first
      | (go_at_call 46; with_reducible exact Calls.regrown_of (HSP.out _))
      | (go_at_call 45; with_reducible exact Calls.regrown_of (HM.out _ _)))))
  refine wpQuiet_nil ?_
  intro _ hw'
  obtain ⟨⟨dq, osq⟩, hw''⟩ := hw'
  subst hw''
  have N2 := Lib.hid (N1.out.trans (below_regrown W dq osq))
  have RS2 := RS.nx (below_regrown W dq osq)
  have RZ2 := RZ.nx (below_regrown W dq osq)
  clear qs qb HM KW N1 RS RZ RB HSP hsb HWL
  change Exit.then _ (Exit.then _ _) Exit.normal _ (Sort.grow (redrawn W dq) osq)
  generalize Sort.grow (redrawn W dq) osq = W1 at *
  clear W dq osq
  have HD : Hid ((s.round B).list = (s.add (s.go kL (wordsL B) 64)).list) := Lib.hid rfl
  generalize s.go kL (wordsL B) 64 = m at *
  have HSUM : Hid (sumL s.list m.list 8 = (s.add m).list) := Lib.hid (sumL_all s m)
  have HML : Hid (m.list.length = 8) := Lib.hid rfl
  have HSL0 : Hid (s.list.length = 8) := Lib.hid rfl
  have HZL : Hid ((s.add m).list.length = 8) := Lib.hid rfl
  generalize (s.add m).list = SM at *
  generalize m.list = M at *
  generalize s.list = S at *
  have HX := Lib.hid (fun i (hi : i < M.length) w => run_index_ints (P := Tryd.prog) .u32 55 54 8 Tryd.underlying55 Tryd.isAgg54 Tryd.sizeOf54 M HML.out i hi w)
  have HSL := Lib.hid (fun n => show (sumL S M n).length = 8 by rw [sumL_length, HSL0.out])
  go_wp2_with fail
  go_loopw [11] (fun i wr => ∃ k : Nat, k ≤ 8 ∧ i = .int .i64 k ∧ Hid (Nx w wr) ∧ Row wr w.heap.size (ints .u32 (sumL S M k)) 55 ∧ Row wr (w.heap.size + 1 + 1) (ints .u32 [0, 0, 0, 0, 0, 0, 0, 0]) 55) (fun i _ => 8 - (intOf i).toNat)
  case atStart => exact ⟨0, by omega, rfl, N2, RS2, RZ2⟩
  case round =>
    clear RS2 RZ2 N2
    obtain ⟨k, hk, rfl, HN, RS, RZ⟩ := hrel
    by_cases hlt : k < 8
    · have hml : k < M.length := by rw [HML.out]; exact hlt
      have hidx := HX.out k hml
      have hsl : k < (sumL S M k).length := by rw [HSL.out]; exact hlt
      have c1 : wr.cell? ⟨w.heap.size, k, none⟩ = some (.int .u32 (S.getD k 0)) := by
        rw [RS.cell (ints_get .u32 _ k hsl), ← sumL_get S M k k (Nat.le_refl _), List.getD_eq_getElem?_getD, List.getElem?_eq_getElem hsl]; rfl
      have f1 := RS.frozen
      have HE : Hid (sumL S M (k + 1) = (sumL S M k).set k ((S.getD k 0 + M[k]) % 4294967296)) := Lib.hid (by
        rw [sumL, show M.getD k 0 = M[k] by rw [List.getD_eq_getElem?_getD, List.getElem?_eq_getElem hml]; rfl])
      clear HX HSL hsl
      generalize S.getD k 0 = x at *
      generalize M[k] = y at *
      go_wp2
      go_roundw
      case rel =>
        refine ⟨k + 1, by omega, by go_num, HN.out.setAt _ (by omega), ?_, RZ.other _ _ _ (by omega)⟩
        rw [HE.out, ← ints_set]
        exact RS.set k _
      case measure => simp [intOf]; omega
    · obtain rfl : k = 8 := by omega
      rw [HSUM.out] at RS
      have hz1 : (Tryd.prog.info? 55).map (·.size) = some (ints .u32 SM).size := by rw [ints_size, HZL.out]; exact hzs.out
      replace hz1 := Lib.hid hz1
      have ho : (ints .u32 [0, 0, 0, 0, 0, 0, 0, 0]).size = (ints .u32 SM).size := by rw [ints_size, ints_size, HZL.out]; rfl
      replace ho := Lib.hid ho
      have hl : w.heap.size ≤ w.heap.size + 1 + 1 := by omega
      clear HX HSL
      go_wp2_with (first | (refine wpList_load_row rfl 55 (.tmp 2) rfl w.heap.size rfl 55 (ints .u32 SM) (0, 0) _ RS Tryd.underlying55 rfl hz1.out ?_) | (refine wpList_store_row rfl 55 (.tmp 4) (.tmp 22) rfl (w.heap.size + 1 + 1) (ints .u32 SM) rfl rfl 55 (ints .u32 [0, 0, 0, 0, 0, 0, 0, 0]) RZ hz1.out ho.out (ints_one _ _) ?_))
      exact bodyPost_ret (results_cell_row Tryd.results42 _ _ (w.heap.size + 1 + 1) 55 (ints .u32 SM) (0, 0) _ rfl (RZ.setRow _) Tryd.underlying55 rfl hz1.out) rfl ⟨by rw [HD.out], HN.out.setRow _ hl⟩
end Go.Proofs.YtpkopigiijiiiaaDoor
end
