/- LAYER 13, PLAIN: secrets, keys, signatures. -/
import Derived.Test.YtpkopigiijiiiaaDoorLmEv
namespace Go.Proofs.YtpkopigiijiiiaaDoor
open Go Go.RowKit
set_option linter.unusedVariables false
set_option linter.unusedSimpArgs false
set_option linter.unusedVariables false
set_option linter.unusedSimpArgs false
abbrev Bs := List UInt8

def secL (s : Bs) (k v : Nat) : Bs := shaL (s ++ [UInt8.ofNat k, UInt8.ofNat v])
theorem secL_length (s : Bs) (k v : Nat) : (secL s k v).length = 32 := shaL_length _
def hsL (s : Bs) (k v : Nat) : Bs := shaL (secL s k v)
theorem hsL_length (s : Bs) (k v : Nat) : (hsL s k v).length = 32 := shaL_length _
def flt (f : Nat → Bs) (n : Nat) : Bs := (List.range n).flatMap f
theorem flt_zero (f : Nat → Bs) : flt f 0 = [] := rfl
theorem flt_succ (f : Nat → Bs) (n : Nat) : flt f (n + 1) = flt f n ++ f n := by simp [flt, List.range_succ]
theorem flt_length (f : Nat → Bs) (hf : ∀ k, (f k).length = 64) : ∀ n, (flt f n).length = 64 * n
  | 0 => rfl
  | n + 1 => by rw [flt_succ, List.length_append, flt_length f hf n, hf]; omega
theorem flt_congr (f g : Nat → Bs) : ∀ n, (∀ k, k < n → f k = g k) → flt f n = flt g n
  | 0, _ => rfl
  | n + 1, h => by rw [flt_succ, flt_succ, flt_congr f g n (fun k hk => h k (by omega)), h n (by omega)]
theorem flt_cut (f : Nat → Bs) (hf : ∀ k, (f k).length = 64) : ∀ n k, k < n → ((flt f n).drop (64 * k)).take 64 = f k
  | n + 1, k, h => by
    have hl := flt_length f hf n
    rw [flt_succ]
    by_cases hk : k = n
    · subst hk
      rw [← hl, List.drop_left, List.take_of_length_le (by rw [hf]; omega)]
    · rw [List.drop_append_of_le_length (by omega), List.take_append_of_le_length (by rw [List.length_drop]; omega), flt_cut f hf n k (by omega)]
def twoL (s : Bs) (k : Nat) : Bs := hsL s k 0 ++ hsL s k 1
theorem twoL_length (s : Bs) (k : Nat) : (twoL s k).length = 64 := by rw [twoL, List.length_append, hsL_length, hsL_length]
def keyL (s : Bs) : Bs := shaL (flt (twoL s) 32)
theorem keyL_length (s : Bs) : (keyL s).length = 32 := shaL_length _
def bitN (d : Bs) (k : Nat) : Nat := (d.getD (k % 32 / 8) 0).toNat / 2 ^ (k % 8) % 2
theorem bitN_cases (d : Bs) (k : Nat) : bitN d k = 0 ∨ bitN d k = 1 := by unfold bitN; omega
def sgK (s d : Bs) (k : Nat) : Bs := secL s k (bitN d k) ++ hsL s k (1 - bitN d k)
theorem sgK_length (s d : Bs) (k : Nat) : (sgK s d k).length = 64 := by rw [sgK, List.length_append, hsL_length, secL_length]
def sigL (s d : Bs) : Bs := flt (sgK s d) 32
theorem sigL_length (s d : Bs) : (sigL s d).length = 2048 := flt_length _ (sgK_length s d) 32
def opS (g : Bs) (k : Nat) : Bs := (g.drop (64 * k)).take 32
def shS (g : Bs) (k : Nat) : Bs := (g.drop (64 * k + 32)).take 32
theorem opS_length (g : Bs) (hg : g.length = 2048) (k : Nat) (hk : k < 32) : (opS g k).length = 32 := by unfold opS; rw [List.length_take, List.length_drop]; omega
theorem shS_length (g : Bs) (hg : g.length = 2048) (k : Nat) (hk : k < 32) : (shS g k).length = 32 := by unfold shS; rw [List.length_take, List.length_drop]; omega
theorem opS_cut (g : Bs) (k : Nat) : opS g k = ((g.drop (64 * k)).take 64).take 32 := by unfold opS; rw [List.take_take]; rfl
theorem shS_cut (g : Bs) (k : Nat) : shS g k = ((g.drop (64 * k)).take 64).drop 32 := by unfold shS; rw [List.drop_take, List.drop_drop]
def ckB (d g : Bs) (k : Nat) : Bs := if bitN d k = 0 then shaL (opS g k) ++ shS g k else shS g k ++ shaL (opS g k)
def chkE (key d g : Bs) : Nat := if g.length = 2048 then (if shaL (flt (ckB d g) 32) = key then 0 else 5) else 5
theorem opS_sig (s d : Bs) (k : Nat) (hk : k < 32) : opS (sigL s d) k = secL s k (bitN d k) := by
  rw [opS_cut, sigL, flt_cut _ (sgK_length s d) 32 k hk, sgK]
  exact List.take_left' (secL_length _ _ _)
theorem shS_sig (s d : Bs) (k : Nat) (hk : k < 32) : shS (sigL s d) k = hsL s k (1 - bitN d k) := by
  rw [shS_cut, sigL, flt_cut _ (sgK_length s d) 32 k hk, sgK]
  exact List.drop_left' (secL_length _ _ _)
theorem ckB_sig (s d e : Bs) (k : Nat) (hk : k < 32) (h : bitN e k = bitN d k) : ckB e (sigL s d) k = twoL s k := by
  unfold ckB
  rw [opS_sig s d k hk, shS_sig s d k hk, h]
  rcases bitN_cases d k with h | h <;> rw [h]
  · rw [if_pos rfl]; rfl
  · rw [if_neg (by decide)]; rfl
theorem lamp_back (s d e : Bs) (h : ∀ k, k < 32 → bitN e k = bitN d k) : chkE (keyL s) e (sigL s d) = 0 := by
  unfold chkE
  rw [if_pos (sigL_length s d), flt_congr _ (twoL s) 32 (fun k hk => ckB_sig s d e k hk (h k hk))]
  exact if_pos rfl
theorem bitN_same (d e : Bs) (h : ∀ i, i < 4 → e.getD i 0 = d.getD i 0) (k : Nat) : bitN e k = bitN d k := by
  unfold bitN
  rw [h (k % 32 / 8) (by omega)]
/-- A signature that holds of two digests: at a bit where they part. -/
theorem ckB_length (d g : Bs) (hg : g.length = 2048) (k : Nat) (hk : k < 32) : (ckB d g k).length = 64 := by
  unfold ckB
  split <;> rw [List.length_append, shaL_length, shS_length g hg k hk]
theorem flt_cut2 (f : Nat → Bs) : ∀ n, (∀ k, k < n → (f k).length = 64) → (flt f n).length = 64 * n ∧ ∀ k, k < n → ((flt f n).drop (64 * k)).take 64 = f k
  | 0, _ => ⟨rfl, fun _ h => by omega⟩
  | n + 1, hf => by
    obtain ⟨hl, hc⟩ := flt_cut2 f n (fun k hk => hf k (by omega))
    rw [flt_succ]
    refine ⟨by rw [List.length_append, hl, hf n (by omega)]; omega, fun k h => ?_⟩
    by_cases hk : k = n
    · subst hk
      rw [← hl, List.drop_left, List.take_of_length_le (by rw [hf k (by omega)]; omega)]
    · rw [List.drop_append_of_le_length (by omega), List.take_append_of_le_length (by rw [List.length_drop]; omega), hc k (by omega)]
theorem lamp_once (d e a b : Bs) (ha : a.length = 2048) (hb : b.length = 2048) (k : Nat) (hk : k < 32) (hd : bitN d k ≠ bitN e k) (h : flt (ckB d a) 32 = flt (ckB e b) 32) : shaL (opS a k) = shS b k := by
  have h1 := (flt_cut2 (ckB d a) 32 (fun k hk => ckB_length d a ha k hk)).2 k hk
  have h2 := (flt_cut2 (ckB e b) 32 (fun k hk => ckB_length e b hb k hk)).2 k hk
  rw [h, h2] at h1
  unfold ckB at h1
  have l1 := shaL_length (opS a k)
  have l2 := shS_length b hb k hk
  have l3 := shaL_length (opS b k)
  have l4 := shS_length a ha k hk
  rcases bitN_cases d k with hd0 | hd0 <;> rcases bitN_cases e k with he0 | he0 <;> rw [hd0, he0] at hd h1
  · exact absurd rfl hd
  · rw [if_neg (by decide), if_pos rfl] at h1
    exact (List.append_inj h1 (by omega)).1.symm
  · rw [if_pos rfl, if_neg (by decide)] at h1
    exact (List.append_inj h1 (by omega)).2.symm
  · exact absurd rfl hd
/-- What the kernel counts: a signature of one digest does not hold of another. -/
def Z32k : Bs := List.replicate 32 0
def D32k : Bs := 2 :: List.replicate 31 0
noncomputable def secZ (k v : Nat) : Nat := shaN 34 (Z32k ++ [UInt8.ofNat k, UInt8.ofNat v])
noncomputable def hsZ (k v : Nat) : Bs := beR (shaN 32 (beR (secZ k v) 32)) 32
theorem hsZ_eq (k v : Nat) : hsL Z32k k v = hsZ k v := by
  unfold hsL hsZ secZ secL
  rw [sha_num (Z32k ++ [UInt8.ofNat k, UInt8.ofNat v]) 34 rfl, sha_num _ 32 (beR_length _ _)]
noncomputable def keyZ : Nat := shaN 2048 (flt (fun k => hsZ k 0 ++ hsZ k 1) 32)
noncomputable def othZ : Nat := shaN 2048 (flt (fun k => bif Nat.beq k 1 then hsZ k 1 ++ hsZ k 0 else hsZ k 0 ++ hsZ k 1) 32)
theorem keyZ_othZ : Nat.beq (keyZ % 65536) (othZ % 65536) = false := by decide +kernel
theorem bitN_zero (k : Nat) : bitN Z32k k = 0 := by
  unfold bitN Z32k
  have h : (List.replicate 32 (0 : UInt8)).getD (k % 32 / 8) 0 = 0 := by
    rw [List.getD_eq_getElem?_getD, List.getElem?_replicate]
    split <;> rfl
  rw [h]; simp
theorem bitN_two (k : Nat) (hk : k < 32) : bitN D32k k = if k = 1 then 1 else 0 := by
  have : ∀ k : _root_.Fin 32, bitN D32k k.1 = if k.1 = 1 then 1 else 0 := by decide +kernel
  exact this ⟨k, hk⟩
theorem lamp_other : chkE (keyL Z32k) Z32k (sigL Z32k D32k) = 5 := by
  unfold chkE
  rw [if_pos (sigL_length _ _)]
  refine if_neg fun h => ?_
  have e1 : flt (twoL Z32k) 32 = flt (fun k => hsZ k 0 ++ hsZ k 1) 32 := flt_congr _ _ 32 fun k _ => by rw [twoL, hsZ_eq, hsZ_eq]
  have e2 : flt (ckB Z32k (sigL Z32k D32k)) 32 = flt (fun k => bif Nat.beq k 1 then hsZ k 1 ++ hsZ k 0 else hsZ k 0 ++ hsZ k 1) 32 := flt_congr _ _ 32 fun k hk => by
    by_cases h1 : k = 1
    · subst h1
      unfold ckB
      rw [opS_sig _ _ _ hk, shS_sig _ _ _ hk, bitN_zero, bitN_two 1 hk, if_pos rfl, if_pos rfl]
      show hsL Z32k 1 1 ++ hsL Z32k 1 0 = _
      rw [hsZ_eq, hsZ_eq]; rfl
    · have hb : Nat.beq k 1 = false := by
        cases hq : Nat.beq k 1 with
        | false => rfl
        | true => exact absurd (Nat.eq_of_beq_eq_true hq) h1
      rw [ckB_sig _ _ _ _ hk (by rw [bitN_zero, bitN_two k hk, if_neg h1]), twoL, hsZ_eq, hsZ_eq, hb]; rfl
  have l1 : (flt (fun k => hsZ k 0 ++ hsZ k 1) 32).length = 2048 := flt_length _ (fun k => by rw [List.length_append]; unfold hsZ; rw [beR_length, beR_length]) 32
  have l2 : (flt (fun k => bif Nat.beq k 1 then hsZ k 1 ++ hsZ k 0 else hsZ k 0 ++ hsZ k 1) 32).length = 2048 := flt_length _ (fun k => by
    cases Nat.beq k 1 <;> (simp only [cond_true, cond_false]; rw [List.length_append]; unfold hsZ; rw [beR_length, beR_length])) 32
  unfold keyL at h
  rw [e1, e2, sha_num _ 2048 l1, sha_num _ 2048 l2] at h
  have h2 : beR (shaN 2048 (flt (fun k => bif Nat.beq k 1 then hsZ k 1 ++ hsZ k 0 else hsZ k 0 ++ hsZ k 1) 32)) 2 = beR (shaN 2048 (flt (fun k => hsZ k 0 ++ hsZ k 1) 32)) 2 := by
    have hd : ∀ n, (beR n 32).drop 30 = beR n 2 := fun n => rfl
    rw [← hd, ← hd, h]
  have h3 : ∀ x y : Nat, beR x 2 = beR y 2 → x % 65536 = y % 65536 := fun x y h => by
    simp only [beR, List.cons.injEq, and_true] at h
    obtain ⟨p, q⟩ := h
    have p' := congrArg UInt8.toNat p
    have q' := congrArg UInt8.toNat q
    rw [UInt8.toNat_ofNat', UInt8.toNat_ofNat'] at p' q'
    simp only [Nat.pow_one, Nat.pow_zero, Nat.div_one] at p' q'
    omega
  have h4 := h3 _ _ h2
  have h5 := keyZ_othZ
  unfold keyZ othZ at h5
  rw [h4] at h5
  have h6 : ∀ n : Nat, Nat.beq n n = true := fun n => by simp
  rw [h6] at h5
  cases h5
end Go.Proofs.YtpkopigiijiiiaaDoor
