/- LAYER 11: steps out of bytes, plainly: a step, a script; there and back. -/
import Derived.Test.YtbhoflmdhlchlaaStep6
namespace Go.Proofs.Ytbhoflmdhlchlaa
open Go Go.RowKit
set_option linter.unusedVariables false
set_option linter.unusedSimpArgs false
set_option linter.unusedVariables false
set_option linter.unusedSimpArgs false

/-- The first step of bytes, how many bytes it has, the error. -/
def oneS (b : List UInt8) : Step × Nat × Int :=
  if 128 < (b.getD 0 0).toNat then (if (b.getD 0 0).toNat ≤ 147 then ((b.getD 0 0 - 127, []), 1, 0) else ((0, []), 0, 5))
  else if (b.getD 0 0).toNat = 128 then
    if b.length < 3 then ((0, []), 0, 4)
    else if (b.getD 1 0).toNat + 256 * (b.getD 2 0).toNat < 128 ∨ 3000 < (b.getD 1 0).toNat + 256 * (b.getD 2 0).toNat then ((0, []), 0, 5)
    else if b.length - 3 < (b.getD 1 0).toNat + 256 * (b.getD 2 0).toNat then ((0, []), 0, 4)
    else ((1, (b.drop 3).take ((b.getD 1 0).toNat + 256 * (b.getD 2 0).toNat)), 3 + ((b.getD 1 0).toNat + 256 * (b.getD 2 0).toNat), 0)
  else if b.length - 1 < (b.getD 0 0).toNat then ((0, []), 0, 4)
  else ((1, (b.drop 1).take (b.getD 0 0).toNat), 1 + (b.getD 0 0).toNat, 0)
/-- The steps of bytes, behind those that there are. -/
def rdG : Nat → List UInt8 → List Step → List Step × Int
  | 0, b, l => if b = [] then (l, 0) else ([], 3)
  | k + 1, b, l => if b = [] then (l, 0) else if (oneS b).2.2 = 0 then rdG k (b.drop (oneS b).2.1) (l ++ [(oneS b).1]) else ([], (oneS b).2.2)
def readS (b : List UInt8) : List Step × Int := rdG 200 b []
theorem mayS_one {m : Nat} (h : m ≤ 3000) : mayS 1 m = true := by unfold mayS; rw [if_pos rfl]; exact decide_eq_true h
theorem textS_ne (a : Step) : textS a.1 a.2 ≠ [] := by
  unfold textS
  split
  · split <;> simp
  · simp
/-- What one step's bytes begin with is that step. -/
theorem oneS_text (a : Step) (r : List UInt8) (h : mayS a.1.toNat a.2.length = true) : oneS (textS a.1 a.2 ++ r) = (a, (textS a.1 a.2).length, 0) := by
  obtain ⟨op, l⟩ := a
  have hml := mayS_len h
  dsimp only at h hml ⊢
  by_cases ho : op = 1
  · subst ho
    by_cases hs : l.length < 128
    · have e : textS 1 l = UInt8.ofNat l.length :: l := by unfold textS; rw [if_pos rfl, if_pos hs]
      have e0 : (UInt8.ofNat l.length).toNat = l.length := by rw [UInt8.toNat_ofNat']; omega
      unfold oneS
      rw [e]
      simp only [List.cons_append, List.getD_cons_zero, e0, List.length_cons, List.length_append, List.drop_succ_cons, List.drop_zero]
      rw [if_neg (by omega), if_neg (by omega), if_neg (by omega), List.take_left' rfl]
      simp only [Prod.mk.injEq, true_and, and_true]
      omega
    · have e : textS 1 l = 128 :: UInt8.ofNat (l.length % 256) :: UInt8.ofNat (l.length / 256) :: l := by unfold textS; rw [if_pos rfl, if_neg hs, low2]; rfl
      have e0 : (UInt8.ofNat (l.length % 256)).toNat = l.length % 256 := by rw [UInt8.toNat_ofNat']; omega
      have e1 : (UInt8.ofNat (l.length / 256)).toNat = l.length / 256 := by rw [UInt8.toNat_ofNat']; omega
      have e2 : l.length % 256 + 256 * (l.length / 256) = l.length := by omega
      unfold oneS
      rw [e]
      simp only [List.cons_append, List.getD_cons_zero, List.getD_cons_succ, e0, e1, e2, List.length_cons, List.length_append, List.drop_succ_cons, List.drop_zero]
      rw [if_neg (by decide), if_pos (show UInt8.toNat 128 = 128 by decide), if_neg (by omega), if_neg (by omega), if_neg (by omega), List.take_left' rfl]
      simp only [Prod.mk.injEq, true_and, and_true]
      omega
  · have h1 : 2 ≤ op.toNat ∧ op.toNat ≤ 20 ∧ l.length = 0 := by
      unfold mayS at h
      rw [if_neg (by intro h; exact ho (UInt8.toNat_inj.1 (by rw [h]; rfl)))] at h
      simp at h
      simp
      exact h
    obtain ⟨g1, g2, g3⟩ := h1
    obtain rfl := List.eq_nil_of_length_eq_zero g3
    have e : textS op [] = [op + 127] := by unfold textS; rw [if_neg ho]
    have e0 : (op + 127).toNat = op.toNat + 127 := by rw [UInt8.toNat_add]; show (op.toNat + 127) % 256 = _; omega
    unfold oneS
    rw [e]
    simp only [List.cons_append, List.nil_append, List.getD_cons_zero, e0]
    rw [if_pos (by omega), if_pos (by omega)]
    simp
/-- A step that is got may be, and its bytes are those it was got of. -/
theorem oneS_got {b : List UInt8} (hb : b ≠ []) (h : (oneS b).2.2 = 0) : mayS (oneS b).1.1.toNat (oneS b).1.2.length = true ∧ 1 ≤ (oneS b).2.1 ∧ (oneS b).2.1 ≤ b.length ∧ textS (oneS b).1.1 (oneS b).1.2 = b.take (oneS b).2.1 := by
  obtain ⟨c, t, rfl⟩ := List.exists_cons_of_ne_nil hb
  have hc := c.toNat_lt
  unfold oneS at h ⊢
  simp only [List.getD_cons_zero, List.getD_cons_succ, List.length_cons, List.drop_succ_cons] at h ⊢
  by_cases g1 : 128 < c.toNat
  · rw [if_pos g1] at h ⊢
    by_cases g2 : c.toNat ≤ 147
    · rw [if_pos g2] at h ⊢
      have e0 : (c - 127).toNat = c.toNat - 127 := by rw [UInt8.toNat_sub]; show (256 - 127 + c.toNat) % 256 = _; omega
      refine ⟨?_, Nat.le_refl _, by simp, ?_⟩
      · show mayS (c - 127).toNat 0 = true
        rw [e0]
        unfold mayS
        rw [if_neg (by omega)]
        simp
        omega
      · show textS (c - 127) [] = _
        unfold textS
        rw [if_neg (by intro e; have := congrArg UInt8.toNat e; rw [e0] at this; have : c.toNat - 127 = 1 := this; omega)]
        simp
    · rw [if_neg g2] at h
      cases h
  · rw [if_neg g1] at h ⊢
    by_cases g2 : c.toNat = 128
    · rw [if_pos g2] at h ⊢
      obtain rfl : c = 128 := UInt8.toNat_inj.1 g2
      by_cases g3 : t.length + 1 < 3
      · rw [if_pos g3] at h; cases h
      rw [if_neg g3] at h ⊢
      obtain ⟨x, t, rfl⟩ : ∃ x s, t = x :: s := List.exists_cons_of_length_pos (by omega)
      obtain ⟨y, t, rfl⟩ : ∃ x s, t = x :: s := List.exists_cons_of_length_pos (by simp at g3; omega)
      have hx := x.toNat_lt
      have hy := y.toNat_lt
      simp only [List.getD_cons_zero, List.getD_cons_succ, List.length_cons, List.drop_succ_cons, List.drop_zero] at h ⊢
      by_cases g4 : x.toNat + 256 * y.toNat < 128 ∨ 3000 < x.toNat + 256 * y.toNat
      · rw [if_pos g4] at h; cases h
      rw [if_neg g4] at h ⊢
      by_cases g5 : t.length + 1 + 1 + 1 - 3 < x.toNat + 256 * y.toNat
      · rw [if_pos g5] at h; cases h
      rw [if_neg g5]
      dsimp only
      have hl : (t.take (x.toNat + 256 * y.toNat)).length = x.toNat + 256 * y.toNat := by rw [List.length_take]; omega
      refine ⟨by rw [hl]; exact mayS_one (by omega), by omega, by omega, ?_⟩
      unfold textS
      rw [if_pos rfl, hl, if_neg (by omega), low2, show (x.toNat + 256 * y.toNat) % 256 = x.toNat by omega, show (x.toNat + 256 * y.toNat) / 256 = y.toNat by omega, UInt8.ofNat_toNat, UInt8.ofNat_toNat, Nat.add_comm 3]
      rfl
    · rw [if_neg g2] at h ⊢
      by_cases g3 : t.length + 1 - 1 < c.toNat
      · rw [if_pos g3] at h; cases h
      rw [if_neg g3]
      dsimp only
      rw [List.drop_zero]
      have hl : (t.take c.toNat).length = c.toNat := by rw [List.length_take]; omega
      refine ⟨by rw [hl]; exact mayS_one (by omega), by omega, by omega, ?_⟩
      unfold textS
      rw [if_pos rfl, hl, if_pos (by omega), UInt8.ofNat_toNat, Nat.add_comm 1]
      rfl
theorem allT_cons (a : Step) (es : List Step) : allT (a :: es) = textS a.1 a.2 ++ allT es := by simp [allT]
theorem allT_append (x y : List Step) : allT (x ++ y) = allT x ++ allT y := by simp [allT]
theorem badS_no {es : List Step} (h : es.any badS = false) (a : Step) (ha : a ∈ es) : mayS a.1.toNat a.2.length = true := by
  cases hq : mayS a.1.toNat a.2.length
  · have : es.any badS = true := List.any_eq_true.2 ⟨a, ha, by unfold badS; rw [hq]; rfl⟩
    rw [this] at h
    cases h
  · rfl
theorem rdG_text (es : List Step) (r : List UInt8) (l : List Step) (k : Nat) (h : es.any badS = false) (hk : es.length ≤ k) : rdG k (allT es ++ r) l = rdG (k - es.length) r (l ++ es) := by
  induction es generalizing l k with
  | nil => simp [allT]
  | cons a es ih =>
    obtain ⟨k, rfl⟩ : ∃ m, k = m + 1 := ⟨k - 1, by simp at hk; omega⟩
    have hm := badS_no h a (List.mem_cons_self ..)
    have ht := oneS_text a (allT es ++ r) hm
    rw [allT_cons, List.append_assoc]
    show (if textS a.1 a.2 ++ (allT es ++ r) = [] then _ else _) = _
    rw [if_neg (by simp [textS_ne]), ht]
    dsimp only
    rw [if_pos rfl, List.drop_left' rfl, ih _ _ (by simp at h; simpa using h.2) (by simp at hk; omega)]
    simp
theorem rdG_nil (k : Nat) (l : List Step) : rdG k [] l = (l, 0) := by cases k <;> simp [rdG]
theorem read_text (es : List Step) (h : es.any badS = false) (hk : es.length ≤ 200) : readS (allT es) = (es, 0) := by
  have := rdG_text es [] [] 200 h hk
  rw [List.append_nil, rdG_nil] at this
  exact this
theorem rdG_long (es : List Step) (l : List Step) (k : Nat) (h : es.any badS = false) (hk : k < es.length) : rdG k (allT es) l = ([], 3) := by
  have e : allT es = allT (es.take k) ++ allT (es.drop k) := by rw [← allT_append, List.take_append_drop]
  have hd : es.drop k ≠ [] := by intro e; have := congrArg List.length e; simp at this; omega
  obtain ⟨a, t, ht⟩ := List.exists_cons_of_ne_nil hd
  rw [e, rdG_text _ _ _ _ (by
    rw [List.any_eq_false] at h ⊢
    exact fun x hx => h x (List.mem_of_mem_take hx)) (by simp; omega), show k - (es.take k).length = 0 by simp; omega, ht, allT_cons]
  show (if textS a.1 a.2 ++ allT t = [] then _ else _) = _
  rw [if_neg (by simp [textS_ne])]
/-- What is got: either none and an error, or steps that may be, whose bytes these are. -/
theorem rdG_got (k : Nat) (b : List UInt8) (l : List Step) : ((rdG k b l).2 ≠ 0 ∧ (rdG k b l).1 = []) ∨ ∃ es : List Step, rdG k b l = (l ++ es, 0) ∧ es.length ≤ k ∧ es.any badS = false ∧ allT es = b := by
  induction k generalizing b l with
  | zero =>
    by_cases hb : b = []
    · exact .inr ⟨[], by subst hb; simp [rdG], by simp, rfl, by subst hb; rfl⟩
    · exact .inl (by unfold rdG; rw [if_neg hb]; exact ⟨by decide, rfl⟩)
  | succ k ih =>
    by_cases hb : b = []
    · exact .inr ⟨[], by subst hb; simp [rdG], by simp, rfl, by subst hb; rfl⟩
    · unfold rdG
      rw [if_neg hb]
      by_cases h0 : (oneS b).2.2 = 0
      · obtain ⟨g1, g2, g3, g4⟩ := oneS_got hb h0
        rw [if_pos h0]
        rcases ih (b.drop (oneS b).2.1) (l ++ [(oneS b).1]) with h | ⟨es, e1, e2, e3, e4⟩
        · exact .inl h
        · refine .inr ⟨(oneS b).1 :: es, by rw [e1]; simp, by simp; omega, ?_, ?_⟩
          · rw [List.any_cons, e3]
            unfold badS
            rw [g1]
            rfl
          · rw [allT_cons, e4, g4, List.take_append_drop]
      · rw [if_neg h0]
        exact .inl ⟨h0, rfl⟩
theorem read_got (b : List UInt8) : ((readS b).2 ≠ 0 ∧ (readS b).1 = []) ∨ ((readS b).2 = 0 ∧ (readS b).1.length ≤ 200 ∧ (readS b).1.any badS = false ∧ allT (readS b).1 = b) := by
  unfold readS
  rcases rdG_got 200 b [] with h | ⟨es, e1, e2, e3, e4⟩
  · exact .inl h
  · rw [e1]
    exact .inr ⟨rfl, by simpa using e2, by simpa using e3, by simpa using e4⟩
theorem oneS_len (b : List UInt8) : (oneS b).1.2.length ≤ b.length := by
  unfold oneS
  repeat' split
  all_goals simp
  all_goals omega
end Go.Proofs.Ytbhoflmdhlchlaa
