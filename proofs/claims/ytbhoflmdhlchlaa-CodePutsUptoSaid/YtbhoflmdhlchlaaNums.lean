/- PLAIN NUMBERS AND BYTES, of our own: a number's bytes, the lowest first; nothing of Go, nothing of any program. -/
namespace Go.Proofs.Ytbhoflmdhlchlaa

/-- So many bytes of n, the lowest first. -/
def low : Nat → Nat → List UInt8
  | _, 0 => []
  | n, m + 1 => UInt8.ofNat n :: low (n / 256) m

/-- The number of bytes, the lowest first. -/
def num : List UInt8 → Nat
  | [] => 0
  | x :: l => x.toNat + 256 * num l

@[simp] theorem low_length (n m : Nat) : (low n m).length = m := by
  induction m generalizing n with
  | zero => rfl
  | succ m ih => simp [low, ih]

theorem low_snoc (n k : Nat) : low n (k + 1) = low n k ++ [UInt8.ofNat (n / 256 ^ k)] := by
  induction k generalizing n with
  | zero => simp [low]
  | succ k ih =>
    rw [low, ih]
    simp only [low, List.cons_append]
    rw [Nat.div_div_eq_div_mul, Nat.pow_succ, Nat.mul_comm]

theorem num_lt (l : List UInt8) : num l < 256 ^ l.length := by
  induction l with
  | nil => simp [num]
  | cons x l ih =>
    have hx := x.toNat_lt
    simp only [num, List.length_cons, Nat.pow_succ]
    omega

theorem num_low (n m : Nat) (h : n < 256 ^ m) : num (low n m) = n := by
  induction m generalizing n with
  | zero => simp at h; simp [low, num, h]
  | succ m ih =>
    have h' : n / 256 < 256 ^ m := by
      rw [Nat.pow_succ] at h
      exact Nat.div_lt_of_lt_mul (by omega)
    simp only [low, num, ih _ h', UInt8.toNat_ofNat']
    omega

theorem low_num (l : List UInt8) : low (num l) l.length = l := by
  induction l with
  | nil => rfl
  | cons x l ih =>
    have hx := x.toNat_lt
    have h1 : (x.toNat + 256 * num l) / 256 = num l := by omega
    have h2 : UInt8.ofNat (x.toNat + 256 * num l) = x := by
      apply UInt8.toNat_inj.1
      simp only [UInt8.toNat_ofNat']
      omega
    simp only [List.length_cons, low, num, h1, h2, ih]

theorem num_snoc (l : List UInt8) (x : UInt8) : num (l ++ [x]) = num l + 256 ^ l.length * x.toNat := by
  induction l with
  | nil => simp [num]
  | cons y l ih =>
    simp only [List.cons_append, num, ih, List.length_cons, Nat.pow_succ]
    rw [Nat.mul_add]
    have : 256 * (256 ^ l.length * x.toNat) = 256 ^ l.length * 256 * x.toNat := by
      rw [← Nat.mul_assoc, Nat.mul_comm 256]
    omega

theorem num_inj {l r : List UInt8} (hl : l.length = r.length) (h : num l = num r) : l = r := by
  rw [← low_num l, ← low_num r, h, hl]

theorem take_drop_snoc {α : Type} (l : List α) (i k : Nat) (h : i + k < l.length) : (l.drop i).take (k + 1) = (l.drop i).take k ++ [l[i + k]] := by
  rw [List.take_succ_eq_append_getElem (by simp; omega)]
  simp

/-- One byte more, above. -/
theorem or_num (a x j : Nat) (ha : a < 256 ^ j) : a ||| (x * 256 ^ j) = a + 256 ^ j * x := by
  have e2 : (2 : Nat) ^ (8 * j) = 256 ^ j := by rw [Nat.pow_mul]
  rw [← e2] at ha ⊢
  rw [Nat.mul_comm x, Nat.or_comm, ← Nat.two_pow_add_eq_or_of_lt ha, Nat.add_comm]

end Go.Proofs.Ytbhoflmdhlchlaa
