/- PLAIN: the bytes of a hash; what pads. -/
import Derived.Test.YtpgdfboogjapeaaDoorShaPure
namespace Go.Proofs.YtpgdfboogjapeaaDoor
open Go.RowKit
set_option linter.unusedVariables false
set_option linter.unusedSimpArgs false

/-- So many of a number's bytes, the lowest last. -/
def beR (n : Nat) : Nat → List UInt8
  | 0 => []
  | i + 1 => UInt8.ofNat (n / 256 ^ i) :: beR n i
theorem beR_length (n : Nat) : ∀ i, (beR n i).length = i
  | 0 => rfl
  | i + 1 => by rw [beR, List.length_cons, beR_length n i]
/-- A row, so many of a number's bytes laid up to the place. -/
def putL (L : List UInt8) (z n i : Nat) : List UInt8 := L.take (z - i) ++ beR n i ++ L.drop z
theorem putL_length (L : List UInt8) (z n i : Nat) (hi : i ≤ z) (hz : z ≤ L.length) : (putL L z n i).length = L.length := by
  simp [putL, beR_length]; omega
theorem putL_zero (L : List UInt8) (z n : Nat) : putL L z n 0 = L := by simp [putL, beR]
theorem putL_set (L : List UInt8) (z n i : Nat) (hi : i < z) (hz : z ≤ L.length) : (putL L z n i).set (z - 1 - i) (UInt8.ofNat (n / 256 ^ i)) = putL L z n (i + 1) := by
  unfold putL
  have h1 : z - i = (z - 1 - i) + 1 := by omega
  have h2 : z - (i + 1) = z - 1 - i := by omega
  rw [h1, h2, List.take_succ_eq_append_getElem (by omega), List.append_assoc, List.append_assoc]
  have := List.set_append_right (z - 1 - i) (UInt8.ofNat (n / 256 ^ i)) (s := L.take (z - 1 - i)) (t := [L[z - 1 - i]'(by omega)] ++ (beR n i ++ L.drop z)) (by rw [List.length_take]; omega)
  rw [this, show z - 1 - i - (L.take (z - 1 - i)).length = 0 by rw [List.length_take]; omega]
  simp [beR]
/-- Of all the blocks just one has turned. -/
def Only (g : Nat) (w w' : World) : Prop := w'.os = w.os ∧ w'.tape = w.tape ∧ w'.output = w.output ∧ w'.heap.size = w.heap.size ∧ ∀ k, k ≠ g → w'.heap[k]? = w.heap[k]?
theorem Only.refl (g : Nat) (w : World) : Only g w w := ⟨rfl, rfl, rfl, rfl, fun _ _ => rfl⟩
theorem Only.trans {g : Nat} {a b c : World} (h : Only g a b) (k : Only g b c) : Only g a c := by
  obtain ⟨h1, h2, h3, h4, h5⟩ := h
  obtain ⟨k1, k2, k3, k4, k5⟩ := k
  exact ⟨k1.trans h1, k2.trans h2, k3.trans h3, k4.trans h4, fun j hj => (k5 j hj).trans (h5 j hj)⟩
theorem Only.set (g i : Nat) (v : Value) (w : World) : Only g w (w.setCell ⟨g, i, none⟩ v) :=
  ⟨rfl, rfl, rfl, by simp [World.setCell], fun k hk => heap_setCell_other w ⟨g, i, none⟩ k v hk⟩
theorem Only.drewN {g : Nat} {a b : World} (h : Only g a b) (n : Nat) : Only g a (b.drewN n) := h
theorem Nx.only {a b c : World} {g : Nat} (h : Nx a b) (k : Only g b c) (hg : a.heap.size ≤ g) : Nx a c :=
  ⟨k.1.trans h.os, k.2.1.trans h.tape, k.2.2.1.trans h.output, by rw [k.2.2.2.1]; exact h.size, fun j hj => (k.2.2.2.2 j (by omega)).trans (h.block j hj)⟩
/-- The first k words' bytes, and zeros. -/
def hashP (S : List Int) (k : Nat) : List UInt8 := ((S.take k).flatMap fun x => beR x.toNat 4) ++ List.replicate (32 - 4 * k) 0
def hashL (s : St) : List UInt8 := s.list.flatMap fun x => beR x.toNat 4
theorem flat4_length (S : List Int) : (S.flatMap fun x => beR x.toNat 4).length = 4 * S.length := by
  induction S with
  | nil => rfl
  | cons x S ih => rw [List.flatMap_cons, List.length_append, ih, beR_length, List.length_cons]; omega
theorem hashP_length (S : List Int) (k : Nat) (hk : k ≤ 8) (h : S.length = 8) : (hashP S k).length = 32 := by
  unfold hashP
  rw [List.length_append, flat4_length, List.length_take, List.length_replicate]; omega
theorem hashP_zero (S : List Int) : hashP S 0 = List.replicate 32 0 := by simp [hashP]
theorem hashP_all (s : St) : hashP s.list 8 = hashL s := by
  unfold hashP hashL
  rw [List.take_of_length_le (by rw [St.list_length]; omega)]
  simp
theorem hashP_next (S : List Int) (k : Nat) (hk : k < 8) (h : S.length = 8) : putL (hashP S k) (4 * k + 4) (S.getD k 0).toNat 4 = hashP S (k + 1) := by
  have hl : ((S.take k).flatMap fun x => beR x.toNat 4).length = 4 * k := by rw [flat4_length, List.length_take]; omega
  have hx : S.getD k 0 = S[k]'(by omega) := by rw [List.getD_eq_getElem?_getD, List.getElem?_eq_getElem (by omega)]; rfl
  unfold putL hashP
  rw [hx, List.take_succ_eq_append_getElem (by omega), List.flatMap_append]
  rw [Nat.add_sub_cancel, List.take_append_of_le_length (by omega), List.take_of_length_le (by omega)]
  rw [List.drop_append, List.drop_of_length_le (by omega), hl, List.nil_append, List.drop_replicate]
  rw [show 32 - 4 * k - (4 * k + 4 - 4 * k) = 32 - 4 * (k + 1) by omega]
  simp
theorem hashL_length (s : St) : (hashL s).length = 32 := by
  unfold hashL
  rw [flat4_length]; rfl
/-- How many zeros pad n bytes. -/
def gapN (n : Nat) : Nat := (64 - (n + 1 + 8) % 64) % 64
/-- What pads n bytes. -/
def padB (n : Nat) : List UInt8 := 128 :: (List.replicate (gapN n) 0 ++ beR (8 * n) 8)
theorem padB_length (n : Nat) : (padB n).length = 1 + gapN n + 8 := by
  simp [padB, beR_length]; omega
theorem pad_whole (n : Nat) : (n + (1 + gapN n + 8)) % 64 = 0 := by unfold gapN; omega
theorem padB_put (n : Nat) : putL ((List.replicate (1 + gapN n + 8) (0 : UInt8)).set 0 128) (1 + gapN n + 8) (8 * n) 8 = padB n := by
  unfold putL padB
  rw [show 1 + gapN n + 8 - 8 = gapN n + 1 by omega, show 1 + gapN n + 8 = (gapN n + 8) + 1 by omega, List.replicate_succ, List.set_cons_zero, List.take_succ_cons, List.take_replicate]
  rw [List.drop_of_length_le (by simp)]
  simp
theorem rounds_append (s : St) (p q : List UInt8) (a : Nat) (h : p.length = 64 * a) : ∀ b, s.rounds (p ++ q) (a + b) = (s.rounds p a).rounds q b
  | 0 => by
    rw [Nat.add_zero]
    show _ = s.rounds p a
    have : ∀ k, k ≤ a → s.rounds (p ++ q) k = s.rounds p k := by
      intro k
      induction k with
      | zero => intro _; rfl
      | succ k ih =>
        intro hk
        show (s.rounds (p ++ q) k).round _ = (s.rounds p k).round _
        rw [ih (by omega), List.drop_append_of_le_length (by omega), List.take_append_of_le_length (by rw [List.length_drop]; omega)]
    exact this a (Nat.le_refl _)
  | b + 1 => by
    have e0 : s.rounds (p ++ q) (a + (b + 1)) = (s.rounds (p ++ q) (a + b)).round (((p ++ q).drop (64 * (a + b))).take 64) := rfl
    have e1 : (s.rounds p a).rounds q (b + 1) = ((s.rounds p a).rounds q b).round ((q.drop (64 * b)).take 64) := rfl
    rw [e0, e1, rounds_append s p q a h b, List.drop_append, List.drop_of_length_le (by omega), List.nil_append, show 64 * (a + b) - p.length = 64 * b by omega]
/-- What the padded bytes are. -/
def padL (l : List UInt8) : List UInt8 := l ++ padB l.length
theorem padL_length (l : List UInt8) : (padL l).length = l.length + (1 + gapN l.length + 8) := by rw [padL, List.length_append, padB_length]
theorem padL_whole (l : List UInt8) : 64 * ((padL l).length / 64) = (padL l).length := by
  have := pad_whole l.length
  rw [← padL_length] at this
  omega
/-- The words behind all rounds. -/
def shaS (l : List UInt8) : St := beginS.rounds (padL l) ((padL l).length / 64)
/-- The hash. -/
def shaL (l : List UInt8) : List UInt8 := hashL (shaS l)
theorem shaL_length (l : List UInt8) : (shaL l).length = 32 := hashL_length _
theorem shaS_parts (l : List UInt8) : shaS l = (beginS.rounds (l.take (l.length - l.length % 64)) (l.length / 64)).rounds (l.drop (l.length - l.length % 64) ++ padB l.length) ((l.length % 64 + (1 + gapN l.length + 8)) / 64) := by
  have h1 : (l.take (l.length - l.length % 64)).length = 64 * (l.length / 64) := by rw [List.length_take]; omega
  rw [← rounds_append _ _ _ _ h1, ← List.append_assoc, List.take_append_drop]
  unfold shaS
  rw [padL_length]
  have e : (l.length + (1 + gapN l.length + 8)) / 64 = l.length / 64 + (l.length % 64 + (1 + gapN l.length + 8)) / 64 := by omega
  rw [e]
  rfl
theorem rest_length (l : List UInt8) : (l.drop (l.length - l.length % 64) ++ padB l.length).length = 64 * ((l.length % 64 + (1 + gapN l.length + 8)) / 64) := by
  rw [List.length_append, List.length_drop, padB_length]
  have := pad_whole l.length
  omega
theorem sumL_all' (s m : St) : sumL m.list s.list 8 = (s.add m).list := by
  show [(m.a + s.a) % 4294967296, (m.b + s.b) % 4294967296, (m.c + s.c) % 4294967296, (m.d + s.d) % 4294967296, (m.e + s.e) % 4294967296, (m.f + s.f) % 4294967296, (m.g + s.g) % 4294967296, (m.h + s.h) % 4294967296] = [(s.a + m.a) % 4294967296, (s.b + m.b) % 4294967296, (s.c + m.c) % 4294967296, (s.d + m.d) % 4294967296, (s.e + m.e) % 4294967296, (s.f + m.f) % 4294967296, (s.g + m.g) % 4294967296, (s.h + m.h) % 4294967296]
  simp only [Int.add_comm]
end Go.Proofs.YtpgdfboogjapeaaDoor
