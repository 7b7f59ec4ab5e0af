/- PLAIN: the hash by numbers that the kernel counts with at once. -/
import Derived.Test.YtpkopigiijiiiaaDoorTk
import Derived.Laws.BitsAllLaws
namespace Go.Proofs.YtpkopigiijiiiaaDoor
open Go Go.RowKit
set_option linter.unusedVariables false
set_option linter.unusedSimpArgs false
set_option linter.unusedVariables false
set_option linter.unusedSimpArgs false

def rN (x n m : Nat) : Nat := Nat.lor (Nat.div x n) (Nat.mod (Nat.mul x m) 4294967296)
def t1N (e f g h k x : Nat) : Nat := Nat.mod (Nat.add (Nat.add (Nat.add (Nat.add h (Nat.xor (Nat.xor (rN e 64 67108864) (rN e 2048 2097152)) (rN e 33554432 128))) (Nat.xor (Nat.land e f) (Nat.land (Nat.xor 4294967295 e) g))) k) x) 4294967296
def t2N (a b c : Nat) : Nat := Nat.mod (Nat.add (Nat.xor (Nat.xor (rN a 4 1073741824) (rN a 8192 524288)) (rN a 4194304 1024)) (Nat.xor (Nat.xor (Nat.land a b) (Nat.land a c)) (Nat.land b c))) 4294967296
def s0N (p : Nat) : Nat := Nat.xor (Nat.xor (rN p 128 33554432) (rN p 262144 16384)) (Nat.div p 8)
def s1N (q : Nat) : Nat := Nat.xor (Nat.xor (rN q 131072 32768) (rN q 524288 8192)) (Nat.div q 1024)
def adN (x y : Nat) : Nat := Nat.mod (Nat.add x y) 4294967296
def exN (w0 w1 w9 we : Nat) : Nat := Nat.mod (Nat.add (Nat.add (Nat.add w0 (s0N w1)) w9) (s1N we)) 4294967296
theorem lor_lt {x y : Nat} (hx : x < 4294967296) (hy : y < 4294967296) : x ||| y < 4294967296 := Nat.or_lt_two_pow (n := 32) hx hy
theorem xor_lt {x y : Nat} (hx : x < 4294967296) (hy : y < 4294967296) : x ^^^ y < 4294967296 := Nat.xor_lt_two_pow (n := 32) hx hy
theorem land_lt {x y : Nat} (hx : x < 4294967296) : x &&& y < 4294967296 := Nat.lt_of_le_of_lt Nat.and_le_left hx
theorem rN_lt (x n m : Nat) (hx : x < 4294967296) : rN x n m < 4294967296 := lor_lt (Nat.lt_of_le_of_lt (Nat.div_le_self _ _) hx) (Nat.mod_lt _ (by decide))
theorem rot_nat (x n p q : Nat) (hp : 2 ^ n = p) (hq : 2 ^ (32 - n) = q) (hx : x < 4294967296) : rotI (x : Int) n = (rN x p q : Int) := by
  unfold rotI
  have e1 : (x : Int) / 2 ^ n = ((x / p : Nat) : Int) := by rw [← hp]; simp
  have e2 : (x : Int) * 2 ^ (32 - n) % 4294967296 = ((x * q % 4294967296 : Nat) : Int) := by rw [← hq]; simp
  rw [e1, e2, u32_or_nat _ _ (Nat.lt_of_le_of_lt (Nat.div_le_self _ _) hx) (Nat.mod_lt _ (by decide))]
  rfl
theorem xor3_nat (a b c : Nat) (ha : a < 4294967296) (hb : b < 4294967296) (hc : c < 4294967296) : bits .xor .u32 (bits .xor .u32 (a : Int) (b : Int)) (c : Int) = ((a ^^^ b ^^^ c : Nat) : Int) := by
  rw [u32_xor_nat _ _ ha hb, u32_xor_nat _ _ (xor_lt ha hb) hc]
theorem t1_nat (e f g h k x : Nat) (he : e < 4294967296) (hf : f < 4294967296) (hg : g < 4294967296) : t1 e f g h k x = (t1N e f g h k x : Int) := by
  unfold t1
  rw [rot_nat e 6 64 67108864 (by decide) (by decide) he, rot_nat e 11 2048 2097152 (by decide) (by decide) he, rot_nat e 25 33554432 128 (by decide) (by decide) he]
  rw [xor3_nat _ _ _ (rN_lt _ _ _ he) (rN_lt _ _ _ he) (rN_lt _ _ _ he)]
  rw [show (if IntKind.u32.signed = true then (-1 : Int) else IntKind.u32.max) = ((4294967295 : Nat) : Int) from by decide]
  rw [u32_and_nat _ _ he hf, u32_xor_nat _ _ (by decide) he, u32_and_nat _ _ (xor_lt (by decide) he) hg, u32_xor_nat _ _ (land_lt he) (land_lt (xor_lt (by decide) he))]
  show _ = (((h + (rN e 64 67108864 ^^^ rN e 2048 2097152 ^^^ rN e 33554432 128) + ((e &&& f) ^^^ ((4294967295 ^^^ e) &&& g)) + k + x) % 4294967296 : Nat) : Int)
  simp
theorem t2_nat (a b c : Nat) (ha : a < 4294967296) (hb : b < 4294967296) (hc : c < 4294967296) : t2 a b c = (t2N a b c : Int) := by
  unfold t2
  rw [rot_nat a 2 4 1073741824 (by decide) (by decide) ha, rot_nat a 13 8192 524288 (by decide) (by decide) ha, rot_nat a 22 4194304 1024 (by decide) (by decide) ha]
  rw [xor3_nat _ _ _ (rN_lt _ _ _ ha) (rN_lt _ _ _ ha) (rN_lt _ _ _ ha)]
  rw [u32_and_nat _ _ ha hb, u32_and_nat _ _ ha hc, u32_and_nat _ _ hb hc, xor3_nat _ _ _ (land_lt ha) (land_lt ha) (land_lt hb)]
  show _ = ((((rN a 4 1073741824 ^^^ rN a 8192 524288 ^^^ rN a 4194304 1024) + ((a &&& b) ^^^ (a &&& c) ^^^ (b &&& c))) % 4294967296 : Nat) : Int)
  simp
theorem s0_nat (p : Nat) (hp : p < 4294967296) : s0 p = (s0N p : Int) := by
  unfold s0
  rw [rot_nat p 7 128 33554432 (by decide) (by decide) hp, rot_nat p 18 262144 16384 (by decide) (by decide) hp, show (p : Int) / 8 = ((p / 8 : Nat) : Int) by simp]
  rw [xor3_nat _ _ _ (rN_lt _ _ _ hp) (rN_lt _ _ _ hp) (by omega)]
  rfl
theorem s1_nat (p : Nat) (hp : p < 4294967296) : s1 p = (s1N p : Int) := by
  unfold s1
  rw [rot_nat p 17 131072 32768 (by decide) (by decide) hp, rot_nat p 19 524288 8192 (by decide) (by decide) hp, show (p : Int) / 1024 = ((p / 1024 : Nat) : Int) by simp]
  rw [xor3_nat _ _ _ (rN_lt _ _ _ hp) (rN_lt _ _ _ hp) (by omega)]
  rfl
theorem ad_nat (x y : Nat) : ((x : Int) + y) % 4294967296 = (adN x y : Int) := by
  show _ = (((x + y) % 4294967296 : Nat) : Int)
  simp
theorem adN_lt (x y : Nat) : adN x y < 4294967296 := Nat.mod_lt _ (by decide)
theorem exN_lt (w0 w1 w9 we : Nat) : exN w0 w1 w9 we < 4294967296 := Nat.mod_lt _ (by decide)
theorem ex_nat (w0 w1 w9 we : Nat) (h1 : w1 < 4294967296) (he : we < 4294967296) : ((w0 : Int) + s0 w1 + w9 + s1 we) % 4294967296 = (exN w0 w1 w9 we : Int) := by
  rw [s0_nat _ h1, s1_nat _ he]
  show _ = (((w0 + s0N w1 + w9 + s1N we) % 4294967296 : Nat) : Int)
  simp
/-- Eight words as numbers, and their bounds. -/
structure Nt where
  (a b c d e f g h : Nat)
def Nt.ok (s : Nt) : Prop := s.a < 4294967296 ∧ s.b < 4294967296 ∧ s.c < 4294967296 ∧ s.d < 4294967296 ∧ s.e < 4294967296 ∧ s.f < 4294967296 ∧ s.g < 4294967296 ∧ s.h < 4294967296
def Nt.st (s : Nt) : St := ⟨s.a, s.b, s.c, s.d, s.e, s.f, s.g, s.h⟩
def Nt.step (s : Nt) (k x : Nat) : Nt := ⟨adN (t1N s.e s.f s.g s.h k x) (t2N s.a s.b s.c), s.a, s.b, s.c, adN s.d (t1N s.e s.f s.g s.h k x), s.e, s.f, s.g⟩
theorem Nt.step_st (s : Nt) (h : s.ok) (k x : Nat) : s.st.step k x = (s.step k x).st ∧ (s.step k x).ok := by
  obtain ⟨h1, h2, h3, h4, h5, h6, h7, h8⟩ := h
  refine ⟨?_, adN_lt _ _, h1, h2, h3, adN_lt _ _, h5, h6, h7⟩
  unfold St.step Nt.step Nt.st
  dsimp only
  rw [t1_nat _ _ _ _ _ _ h5 h6 h7, t2_nat _ _ _ h1 h2 h3, ad_nat, ad_nat]
def Nt.add (s m : Nt) : Nt := ⟨adN s.a m.a, adN s.b m.b, adN s.c m.c, adN s.d m.d, adN s.e m.e, adN s.f m.f, adN s.g m.g, adN s.h m.h⟩
theorem Nt.add_st (s m : Nt) : s.st.add m.st = (s.add m).st ∧ (s.add m).ok := by
  refine ⟨?_, adN_lt _ _, adN_lt _ _, adN_lt _ _, adN_lt _ _, adN_lt _ _, adN_lt _ _, adN_lt _ _, adN_lt _ _⟩
  unfold St.add Nt.add Nt.st
  dsimp only
  simp only [ad_nat]
theorem sched_same (B : List UInt8) (n : Nat) : ∀ m i, i < 16 + n → (schedL B (n + m)).getD i 0 = (schedL B n).getD i 0
  | 0, _, _ => rfl
  | m + 1, i, h => by
    rw [← sched_same B n m i h, show n + (m + 1) = (n + m) + 1 by omega, schedL, List.getD_eq_getElem?_getD, List.getElem?_set, if_neg (by omega), List.getD_eq_getElem?_getD]
theorem words_get (B : List UInt8) (n i : Nat) (hn : n ≤ 48) (h : i < 16 + n) : (wordsL B).getD i 0 = (schedL B n).getD i 0 := by
  have := sched_same B n (48 - n) i h
  rwa [show n + (48 - n) = 48 by omega] at this
theorem words_first (B : List UInt8) (i : Nat) (h : i < 16) : (wordsL B).getD i 0 = (beN (cutB B 64 i) : Int) := by
  rw [words_get B 0 i (by omega) (by omega), schedL, List.getD_eq_getElem?_getD, List.getElem?_eq_getElem (by rw [firstL_length]; omega), Option.getD_some, firstL_get _ _ _ (by omega)]
theorem words_next (B : List UInt8) (n : Nat) (h : n < 48) : (wordsL B).getD (n + 16) 0 = ((wordsL B).getD n 0 + s0 ((wordsL B).getD (n + 1) 0) + (wordsL B).getD (n + 9) 0 + s1 ((wordsL B).getD (n + 14) 0)) % 4294967296 := by
  rw [words_get B (n + 1) (n + 16) (by omega) (by omega), words_get B n n (by omega) (by omega), words_get B n (n + 1) (by omega) (by omega), words_get B n (n + 9) (by omega) (by omega), words_get B n (n + 14) (by omega) (by omega)]
  rw [schedL, show n + 16 = 16 + n by omega, List.getD_eq_getElem?_getD, List.getElem?_set, if_pos rfl, if_pos (by rw [schedL_length]; omega), Option.getD_some]
  unfold ext
  rw [show 16 + n - 16 = n by omega, show 16 + n - 15 = n + 1 by omega, show 16 + n - 7 = n + 9 by omega, show 16 + n - 2 = n + 14 by omega]
theorem words_wd (B : List UInt8) (hB : B.length = 64) : WdL (wordsL B) := schedL_wd B hB 48
/-- So many steps over a window of sixteen words. -/
noncomputable def goN (ks : List Nat) (a b c d e f g h w0 w1 w2 w3 w4 w5 w6 w7 w8 w9 wa wb wc wd we wf : Nat) (K : Nat → Nat → Nat → Nat → Nat → Nat → Nat → Nat →  Nat) : Nat :=
  List.rec (motive := fun _ => Nat → Nat → Nat → Nat → Nat → Nat → Nat → Nat → Nat → Nat → Nat → Nat → Nat → Nat → Nat → Nat → Nat → Nat → Nat → Nat → Nat → Nat → Nat → Nat →  Nat)
    (fun a b c d e f g h _ _ _ _ _ _ _ _ _ _ _ _ _ _ _ _ => K a b c d e f g h)
    (fun k _ ih a b c d e f g h w0 w1 w2 w3 w4 w5 w6 w7 w8 w9 wa wb wc wd we wf => ih (adN (t1N e f g h k w0) (t2N a b c)) a b c (adN d (t1N e f g h k w0)) e f g w1 w2 w3 w4 w5 w6 w7 w8 w9 wa wb wc wd we wf (exN w0 w1 w9 we))
    ks a b c d e f g h w0 w1 w2 w3 w4 w5 w6 w7 w8 w9 wa wb wc wd we wf
def kN : List Nat := [1116352408, 1899447441, 3049323471, 3921009573, 961987163, 1508970993, 2453635748, 2870763221, 3624381080, 310598401, 607225278, 1426881987, 1925078388, 2162078206, 2614888103, 3248222580, 3835390401, 4022224774, 264347078, 604807628, 770255983, 1249150122, 1555081692, 1996064986, 2554220882, 2821834349, 2952996808, 3210313671, 3336571891, 3584528711, 113926993, 338241895, 666307205, 773529912, 1294757372, 1396182291, 1695183700, 1986661051, 2177026350, 2456956037, 2730485921, 2820302411, 3259730800, 3345764771, 3516065817, 3600352804, 4094571909, 275423344, 430227734, 506948616, 659060556, 883997877, 958139571, 1322822218, 1537002063, 1747873779, 1955562222, 2024104815, 2227730452, 2361852424, 2428436474, 2756734187, 3204031479, 3329325298]
theorem kN_get (j : Nat) (h : j < 64) : kL.getD j 0 = (kN.getD j 0 : Int) := by
  have : ∀ j : _root_.Fin 64, kL.getD j.1 0 = (kN.getD j.1 0 : Int) := by decide +kernel
  exact this ⟨j, h⟩
theorem goN_spec (B : List UInt8) (hB : B.length = 64) (S0 : St) (K : Nat → Nat → Nat → Nat → Nat → Nat → Nat → Nat →  Nat) : ∀ (ks : List Nat) (i : Nat), ks = kN.drop i → i + ks.length = 64 → ∀ (s : Nt), s.ok → s.st = S0.go kL (wordsL B) i → ∀ (w0 w1 w2 w3 w4 w5 w6 w7 w8 w9 wa wb wc wd we wf : Nat),
    (∀ t, t < 16 → i + t < 64 → (([w0, w1, w2, w3, w4, w5, w6, w7, w8, w9, wa, wb, wc, wd, we, wf].getD t 0 : Nat) : Int) = (wordsL B).getD (i + t) 0) →
    ∃ s' : Nt, s'.ok ∧ s'.st = S0.go kL (wordsL B) 64 ∧ goN ks s.a s.b s.c s.d s.e s.f s.g s.h w0 w1 w2 w3 w4 w5 w6 w7 w8 w9 wa wb wc wd we wf K = K s'.a s'.b s'.c s'.d s'.e s'.f s'.g s'.h
  | [], i, _, hi, s, hs, e, w0, w1, w2, w3, w4, w5, w6, w7, w8, w9, wa, wb, wc, wd, we, wf, hw => ⟨s, hs, by rw [e]; simp at hi; rw [hi], rfl⟩
  | k :: ks, i, hk, hi, s, hs, e, w0, w1, w2, w3, w4, w5, w6, w7, w8, w9, wa, wb, wc, wd, we, wf, hw => by
    rw [List.length_cons] at hi
    have hkk : kL.getD i 0 = (k : Int) := by
      rw [kN_get i (by omega)]
      have : (kN.drop i)[0]? = some k := by rw [← hk]; rfl
      rw [List.getElem?_drop, Nat.add_zero] at this
      rw [List.getD_eq_getElem?_getD, this]; rfl
    have h0 := hw 0 (by omega) (by omega)
    obtain ⟨e1, o1⟩ := s.step_st hs k w0
    have e2 : (s.step k w0).st = S0.go kL (wordsL B) (i + 1) := by
      rw [← e1, St.go, ← e, hkk]
      rw [Nat.add_zero] at h0
      rw [← h0]; rfl
    have hks : ks = kN.drop (i + 1) := by
      rw [← List.drop_drop, ← hk]; rfl
    refine goN_spec B hB S0 K ks (i + 1) hks (by omega) (s.step k w0) o1 e2 w1 w2 w3 w4 w5 w6 w7 w8 w9 wa wb wc wd we wf (exN w0 w1 w9 we) ?_
    intro t ht hit
    by_cases h15 : t = 15
    · subst h15
      have wd := words_wd B hB
      have q0 : (w0 : Int) = _ := hw 0 (by omega) (by omega)
      have q1 : (w1 : Int) = _ := hw 1 (by omega) (by omega)
      have q9 : (w9 : Int) = _ := hw 9 (by omega) (by omega)
      have qe : (we : Int) = _ := hw 14 (by omega) (by omega)
      have b1 := wd (i + 1)
      have be := wd (i + 14)
      rw [← q1] at b1
      rw [← qe] at be
      unfold Wd at b1 be
      show ((exN w0 w1 w9 we : Nat) : Int) = _
      rw [← ex_nat w0 w1 w9 we (by omega) (by omega), show i + 1 + 15 = i + 16 by omega, words_next B i (by omega), q0, q1, q9, qe]
      rfl
    · have := hw (t + 1) (by omega) (by omega)
      rw [show i + 1 + t = i + (t + 1) by omega, ← this]
      match t, ht, h15 with
      | 0, _, _ => rfl
      | 1, _, _ => rfl
      | 2, _, _ => rfl
      | 3, _, _ => rfl
      | 4, _, _ => rfl
      | 5, _, _ => rfl
      | 6, _, _ => rfl
      | 7, _, _ => rfl
      | 8, _, _ => rfl
      | 9, _, _ => rfl
      | 10, _, _ => rfl
      | 11, _, _ => rfl
      | 12, _, _ => rfl
      | 13, _, _ => rfl
      | 14, _, _ => rfl
      | 15, _, h => exact absurd rfl h
      | n + 16, h, _ => omega
/-- Four bytes of a row as a number. -/
noncomputable def b4 (l : List UInt8) (K : Nat → List UInt8 → Nat) : Nat :=
  List.casesOn l 0 fun x0 l => List.casesOn l 0 fun x1 l => List.casesOn l 0 fun x2 l => List.casesOn l 0 fun x3 l => K (Nat.add (Nat.mul 256 (Nat.add (Nat.mul 256 (Nat.add (Nat.mul 256 x0.toNat) x1.toNat)) x2.toNat)) x3.toNat) l
theorem b4_spec (l : List UInt8) (h : 4 ≤ l.length) (K : Nat → List UInt8 → Nat) : b4 l K = K (beN (l.take 4)) (l.drop 4) := by
  match l, h with
  | x0 :: x1 :: x2 :: x3 :: l, _ =>
    have : beN [x0, x1, x2, x3] = 256 * (256 * (256 * x0.toNat + x1.toNat) + x2.toNat) + x3.toNat := by simp [beN]
    show K (256 * (256 * (256 * x0.toNat + x1.toNat) + x2.toNat) + x3.toNat) l = K (beN [x0, x1, x2, x3]) l
    rw [this]
noncomputable def blkN (l : List UInt8) (a b c d e f g h : Nat) (K : Nat → Nat → Nat → Nat → Nat → Nat → Nat → Nat →  List UInt8 → Nat) : Nat :=
  b4 l fun w0 l => b4 l fun w1 l => b4 l fun w2 l => b4 l fun w3 l => b4 l fun w4 l => b4 l fun w5 l => b4 l fun w6 l => b4 l fun w7 l => b4 l fun w8 l => b4 l fun w9 l => b4 l fun wa l => b4 l fun wb l => b4 l fun wc l => b4 l fun wd l => b4 l fun we l => b4 l fun wf l =>
  goN kN a b c d e f g h w0 w1 w2 w3 w4 w5 w6 w7 w8 w9 wa wb wc wd we wf fun a' b' c' d' e' f' g' h' => K (adN a a') (adN b b') (adN c c') (adN d d') (adN e e') (adN f f') (adN g g') (adN h h') l
theorem blkN_spec (l : List UInt8) (hl : 64 ≤ l.length) (s : Nt) (hs : s.ok) (K : Nat → Nat → Nat → Nat → Nat → Nat → Nat → Nat →  List UInt8 → Nat) :
    ∃ s' : Nt, s'.ok ∧ s'.st = s.st.round (l.take 64) ∧ blkN l s.a s.b s.c s.d s.e s.f s.g s.h K = K s'.a s'.b s'.c s'.d s'.e s'.f s'.g s'.h (l.drop 64) := by
  unfold blkN
  have hd : ∀ n, 4 + n ≤ 64 → 4 ≤ (l.drop n).length := fun n h => by rw [List.length_drop]; omega
  rw [b4_spec l (by omega)]
  rw [b4_spec (l.drop 4) (hd 4 (by omega)), List.drop_drop]
  rw [b4_spec (l.drop 8) (hd 8 (by omega)), List.drop_drop]
  rw [b4_spec (l.drop 12) (hd 12 (by omega)), List.drop_drop]
  rw [b4_spec (l.drop 16) (hd 16 (by omega)), List.drop_drop]
  rw [b4_spec (l.drop 20) (hd 20 (by omega)), List.drop_drop]
  rw [b4_spec (l.drop 24) (hd 24 (by omega)), List.drop_drop]
  rw [b4_spec (l.drop 28) (hd 28 (by omega)), List.drop_drop]
  rw [b4_spec (l.drop 32) (hd 32 (by omega)), List.drop_drop]
  rw [b4_spec (l.drop 36) (hd 36 (by omega)), List.drop_drop]
  rw [b4_spec (l.drop 40) (hd 40 (by omega)), List.drop_drop]
  rw [b4_spec (l.drop 44) (hd 44 (by omega)), List.drop_drop]
  rw [b4_spec (l.drop 48) (hd 48 (by omega)), List.drop_drop]
  rw [b4_spec (l.drop 52) (hd 52 (by omega)), List.drop_drop]
  rw [b4_spec (l.drop 56) (hd 56 (by omega)), List.drop_drop]
  rw [b4_spec (l.drop 60) (hd 60 (by omega)), List.drop_drop]
  have hB : (l.take 64).length = 64 := by rw [List.length_take]; omega
  have hw : ∀ t, t < 16 → 0 + t < 64 → (([beN (l.take 4), beN ((l.drop 4).take 4), beN ((l.drop 8).take 4), beN ((l.drop 12).take 4), beN ((l.drop 16).take 4), beN ((l.drop 20).take 4), beN ((l.drop 24).take 4), beN ((l.drop 28).take 4), beN ((l.drop 32).take 4), beN ((l.drop 36).take 4), beN ((l.drop 40).take 4), beN ((l.drop 44).take 4), beN ((l.drop 48).take 4), beN ((l.drop 52).take 4), beN ((l.drop 56).take 4), beN ((l.drop 60).take 4)].getD t 0 : Nat) : Int) = (wordsL (l.take 64)).getD (0 + t) 0 := by
    intro t ht _
    rw [Nat.zero_add, words_first _ _ ht]
    unfold cutB
    rw [List.take_take, Nat.min_self]
    have key : ∀ n, 4 + n ≤ 64 → ((l.take 64).drop n).take 4 = (l.drop n).take 4 := fun n h => by
      rw [List.drop_take, List.take_take, Nat.min_eq_left (by omega)]
    rw [key (4 * t) (by omega)]
    match t, ht with
    | 0, _ => rfl
    | 1, _ => rfl
    | 2, _ => rfl
    | 3, _ => rfl
    | 4, _ => rfl
    | 5, _ => rfl
    | 6, _ => rfl
    | 7, _ => rfl
    | 8, _ => rfl
    | 9, _ => rfl
    | 10, _ => rfl
    | 11, _ => rfl
    | 12, _ => rfl
    | 13, _ => rfl
    | 14, _ => rfl
    | 15, _ => rfl
    | n + 16, h => omega
  obtain ⟨s', h1, h2, h3⟩ := goN_spec (l.take 64) hB s.st (fun a' b' c' d' e' f' g' h' => K (adN s.a a') (adN s.b b') (adN s.c c') (adN s.d d') (adN s.e e') (adN s.f f') (adN s.g g') (adN s.h h') (l.drop 64)) kN 0 rfl rfl s hs rfl
    (beN (l.take 4)) (beN ((l.drop 4).take 4)) (beN ((l.drop 8).take 4)) (beN ((l.drop 12).take 4)) (beN ((l.drop 16).take 4)) (beN ((l.drop 20).take 4)) (beN ((l.drop 24).take 4)) (beN ((l.drop 28).take 4)) (beN ((l.drop 32).take 4)) (beN ((l.drop 36).take 4)) (beN ((l.drop 40).take 4)) (beN ((l.drop 44).take 4)) (beN ((l.drop 48).take 4)) (beN ((l.drop 52).take 4)) (beN ((l.drop 56).take 4)) (beN ((l.drop 60).take 4)) hw
  obtain ⟨q1, q2⟩ := Nt.add_st s s'
  refine ⟨s.add s', q2, ?_, h3⟩
  unfold St.round
  rw [← h2, q1]
/-- Numbers together. -/
def packN (a b c d e f g h : Nat) : Nat := Nat.add (Nat.mul (Nat.add (Nat.mul (Nat.add (Nat.mul (Nat.add (Nat.mul (Nat.add (Nat.mul (Nat.add (Nat.mul (Nat.add (Nat.mul (a) 4294967296) b) 4294967296) c) 4294967296) d) 4294967296) e) 4294967296) f) 4294967296) g) 4294967296) h
noncomputable def forceN (p x : Nat) : Nat := Bool.rec (motive := fun _ => Nat) x x (Nat.beq p 0)
theorem forceN_eq (p x : Nat) : forceN p x = x := by
  unfold forceN
  cases Nat.beq p 0 <;> rfl
noncomputable def nxN (ih : List UInt8 → Nat → Nat → Nat → Nat → Nat → Nat → Nat → Nat →  Nat) (l : List UInt8) (a b c d e f g h : Nat) : Nat :=
  blkN l a b c d e f g h fun a b c d e f g h l => forceN (packN a b c d e f g h) (ih l a b c d e f g h)
/-- So many rounds; each one's words are asked before the next. -/
noncomputable def runN (n : Nat) : List UInt8 → Nat → Nat → Nat → Nat → Nat → Nat → Nat → Nat →  Nat :=
  Nat.rec (motive := fun _ => List UInt8 → Nat → Nat → Nat → Nat → Nat → Nat → Nat → Nat →  Nat) (fun _ a b c d e f g h => packN a b c d e f g h) (fun _ ih => nxN ih) n
theorem runN_succ (n : Nat) : runN (n + 1) = nxN (runN n) := rfl
theorem rounds_front (s : St) (l : List UInt8) : ∀ n, s.rounds l (n + 1) = (s.round (l.take 64)).rounds (l.drop 64) n
  | 0 => rfl
  | n + 1 => by
    have e : s.rounds l (n + 1 + 1) = (s.rounds l (n + 1)).round ((l.drop (64 * (n + 1))).take 64) := rfl
    rw [e, rounds_front s l n]
    show _ = (St.rounds _ _ n).round _
    rw [List.drop_drop, show 64 * (n + 1) = 64 + 64 * n by omega]
theorem runN_spec : ∀ (n : Nat) (l : List UInt8), 64 * n ≤ l.length → ∀ s : Nt, s.ok → ∃ s' : Nt, s'.ok ∧ s'.st = s.st.rounds l n ∧ runN n l s.a s.b s.c s.d s.e s.f s.g s.h = packN s'.a s'.b s'.c s'.d s'.e s'.f s'.g s'.h
  | 0, l, _, s, hs => ⟨s, hs, rfl, rfl⟩
  | n + 1, l, h, s, hs => by
    obtain ⟨s1, h1, h2, h3⟩ := blkN_spec l (by omega) s hs (fun a b c d e f g h l => forceN (packN a b c d e f g h) (runN n l a b c d e f g h))
    obtain ⟨s2, k1, k2, k3⟩ := runN_spec n (l.drop 64) (by rw [List.length_drop]; omega) s1 h1
    refine ⟨s2, k1, by rw [k2, h2, rounds_front], ?_⟩
    rw [runN_succ, nxN, h3, forceN_eq, k3]
theorem beR_low (x y m : Nat) : ∀ j, j ≤ m → beR (x * 256 ^ m + y) j = beR y j
  | 0, _ => rfl
  | j + 1, hj => by
    rw [beR, beR, beR_low x y m j (by omega)]
    congr 1
    obtain ⟨d, rfl⟩ : ∃ d, m = j + 1 + d := ⟨m - (j + 1), by omega⟩
    have e : x * 256 ^ (j + 1 + d) + y = y + 256 ^ j * (256 * (x * 256 ^ d)) := by
      rw [show j + 1 + d = j + (d + 1) by omega, Nat.pow_add, Nat.pow_succ, Nat.add_comm]
      congr 1
      rw [Nat.mul_left_comm, Nat.mul_comm (256 ^ d), Nat.mul_left_comm x]
    rw [e, Nat.add_mul_div_left _ _ (Nat.pow_pos (by decide))]
    apply UInt8.toNat_inj.1
    rw [UInt8.toNat_ofNat', UInt8.toNat_ofNat', Nat.add_mul_mod_self_left]
theorem beR_mul (x y m : Nat) (hy : y < 256 ^ m) : ∀ n, beR (x * 256 ^ m + y) (n + m) = beR x n ++ beR y m
  | 0 => by rw [Nat.zero_add, beR_low x y m m (Nat.le_refl _)]; rfl
  | n + 1 => by
    rw [show n + 1 + m = (n + m) + 1 by omega, beR, beR, beR_mul x y m hy n, List.cons_append]
    congr 2
    rw [Nat.pow_add, Nat.mul_comm (256 ^ n), ← Nat.div_div_eq_div_mul, Nat.mul_comm x, Nat.mul_add_div (Nat.pow_pos (by decide)), Nat.div_eq_of_lt hy, Nat.add_zero]
theorem hash_pack (s : Nt) (h : s.ok) : hashL s.st = beR (packN s.a s.b s.c s.d s.e s.f s.g s.h) 32 := by
  obtain ⟨h1, h2, h3, h4, h5, h6, h7, h8⟩ := h
  have e : ∀ x y : Nat, Nat.add (Nat.mul x 4294967296) y = x * 256 ^ 4 + y := fun _ _ => rfl
  have p4 : (256 : Nat) ^ 4 = 4294967296 := by decide
  have w : ∀ (x : Int) (y : Nat), x = y → beR x.toNat 4 = beR y 4 := fun x y h => by rw [h, Int.toNat_natCast]
  unfold packN
  simp only [e]
  rw [show (32 : Nat) = 28 + 4 from rfl, beR_mul _ _ 4 (by omega) 28, show (28 : Nat) = 24 + 4 from rfl, beR_mul _ _ 4 (by omega) 24, show (24 : Nat) = 20 + 4 from rfl, beR_mul _ _ 4 (by omega) 20, show (20 : Nat) = 16 + 4 from rfl, beR_mul _ _ 4 (by omega) 16, show (16 : Nat) = 12 + 4 from rfl, beR_mul _ _ 4 (by omega) 12, show (12 : Nat) = 8 + 4 from rfl, beR_mul _ _ 4 (by omega) 8, show (8 : Nat) = 4 + 4 from rfl, beR_mul _ _ 4 (by omega) 4]
  show [(s.a : Int), s.b, s.c, s.d, s.e, s.f, s.g, s.h].flatMap (fun x => beR x.toNat 4) = _
  simp only [List.flatMap_cons, List.flatMap_nil, Int.toNat_natCast, List.append_nil, List.append_assoc]
/-- The hash of n bytes as a number. -/
noncomputable def shaN (n : Nat) (l : List UInt8) : Nat := runN (Nat.div (Nat.add n (Nat.add (Nat.add 1 (gapN n)) 8)) 64) (l ++ padB n) 0x6a09e667 0xbb67ae85 0x3c6ef372 0xa54ff53a 0x510e527f 0x9b05688c 0x1f83d9ab 0x5be0cd19
theorem sha_num (l : List UInt8) (n : Nat) (h : l.length = n) : shaL l = beR (shaN n l) 32 := by
  subst h
  have hp := padL_length l
  have hb : (⟨0x6a09e667, 0xbb67ae85, 0x3c6ef372, 0xa54ff53a, 0x510e527f, 0x9b05688c, 0x1f83d9ab, 0x5be0cd19⟩ : Nt).ok := by unfold Nt.ok; decide
  obtain ⟨s', h1, h2, h3⟩ := runN_spec ((padL l).length / 64) (padL l) (by omega) _ hb
  have e : shaS l = s'.st := by rw [h2]; rfl
  unfold shaL
  rw [e, hash_pack s' h1]
  congr 1
  rw [← h3, hp]
  rfl
end Go.Proofs.YtpkopigiijiiiaaDoor
