/- TEXTS OF OUR OWN, IN ONE FILE. -/
import Derived.Test.YtpijehaciomkhaaDoorTg
import Derived.Test.YtpijehaciomkhaaDoorTb
import Derived.Test.YtpijehaciomkhaaDoorTd
section
namespace Go.Proofs.YtpijehaciomkhaaDoor
open Go Go.RowKit
set_option linter.unusedVariables false
set_option linter.unusedSimpArgs false
set_option linter.unusedVariables false
set_option linter.unusedSimpArgs false

theorem Row.blw {w w' : World} {g B : Nat} {cs : Array Value} {t : TypeId} (h : Row w g cs t) (k : Below B w w') (hg : g < B) : Row w' g cs t := (k.block g hg).trans h
theorem run_mk1c (x : UInt8) (w : World) : (Instr.buildSlice 43 1 #[(0, .int .u8 (x.toNat : Int))]).run Tryd.prog w = .ok (.slice (some ⟨w.heap.size, 0, none⟩) 1 1) (w.alloc (.cells #[.int .u8 (x.toNat : Int)] 5)) := by kernel_rfl
end Go.Proofs.YtpijehaciomkhaaDoor
end

section
namespace Go.Proofs.YtpijehaciomkhaaDoor
open Go Go.RowKit
set_option linter.unusedVariables false
set_option linter.unusedSimpArgs false
set_option linter.unusedVariables false
set_option linter.unusedSimpArgs false

end Go.Proofs.YtpijehaciomkhaaDoor
end

section
namespace Go.Proofs.YtpijehaciomkhaaDoor
open Go Go.RowKit
set_option linter.unusedVariables false
set_option linter.unusedSimpArgs false
set_option linter.unusedVariables false
set_option linter.unusedSimpArgs false

theorem isSz_of {k : Nat} (hk : k = 1 ∨ k = 2 ∨ k = 4 ∨ k = 8) : isSz (k : Int) = true := by rcases hk with rfl | rfl | rfl | rfl <;> decide
theorem putL_low {n k : Nat} (hk : k = 1 ∨ k = 2 ∨ k = 4 ∨ k = 8) (hn : n < 256 ^ k) : putL n (k : Int) = low n k := by
  unfold putL putOk
  rw [isSz_of hk, Int.toNat_natCast]
  simp [hn]
theorem get_at {l : List UInt8} {i m : Nat} (hm : m = 1 ∨ m = 2 ∨ m = 4 ∨ m = 8) (h : i + m ≤ l.length) : getE l.length (i : Int) (m : Int) = 0 ∧ getN l (i : Int) (m : Int) = num ((l.drop i).take m) := by
  unfold getE getN
  rw [isSz_of hm, if_pos rfl, if_pos rfl, cutE_ok h, cutL_ok h]
  exact ⟨rfl, rfl⟩
theorem piece_mid {l pre x rest : List UInt8} (h : l = pre ++ x ++ rest) : (l.drop pre.length).take x.length = x := by
  rw [h]; exact drop_take_mid pre x rest

/-- A row is got where it stands, where it may be so long. -/
theorem gr_mid (pre row rest : List UInt8) (most : Int) (hm : (row.length : Int) ≤ most) (hn : (row.length : Int) ≤ 18446744073709551615) :
    gr (pre ++ rowL row ++ rest) (pre.length : Int) most = (row, (pre.length : Int) + ((rowL row).length : Int), 0) := by
  have h1 := gc_count pre (row ++ rest) row.length hn
  have e1 : pre ++ countL row.length ++ (row ++ rest) = pre ++ rowL row ++ rest := by simp [rowL]
  rw [e1] at h1
  have e2 : pre ++ rowL row ++ rest = (pre ++ countL row.length) ++ row ++ rest := by simp [rowL]
  have hl : (pre ++ countL row.length).length + row.length ≤ (pre ++ rowL row ++ rest).length := by rw [e2]; simp; omega
  have hp : (pre.length : Int) + ((countL row.length).length : Int) = (((pre ++ countL row.length).length : Nat) : Int) := by simp
  unfold gr
  rw [h1]
  simp only []
  rw [if_neg (by simp), if_neg (by omega), hp, cutE_ok hl, if_neg (by simp), cutL_ok hl, e2, drop_take_mid]
  simp [rowL]
  omega

/-- What is got as a count is the count of what is got, wherever it stands. -/
theorem gc_got {l : List UInt8} {at_ : Int} {n : Nat} {p : Int} (h : gc l at_ = (n, p, 0)) : ∃ i k : Nat, at_ = (i : Int) ∧ p = ((i + k : Nat) : Int) ∧ 1 ≤ k ∧ i + k ≤ l.length ∧ countL n = (l.drop i).take k := by
  rcases gc_cases l at_ with ⟨h1, h2⟩ | ⟨i, hi, h0, h1, hn, ⟨h2, h3⟩ | ⟨f, s, h2, h4, ⟨h5, h6⟩ | ⟨h5, h7, h6⟩ | ⟨h5, h8, h7, h6⟩⟩⟩
  · rw [h] at h2
    simp only [Prod.mk.injEq] at h2
    omega
  · rw [h] at h3
    simp only [Prod.mk.injEq] at h3
    obtain ⟨rfl, hp, _⟩ := h3
    refine ⟨i, 1, h0, by omega, by omega, by omega, ?_⟩
    have hx := l[i].toNat_lt
    have hb : behind l[i].toNat = 0 := by unfold behind; rw [if_pos h2]
    unfold countL
    rw [if_pos hb, List.drop_eq_getElem_cons hi, UInt8.ofNat_toNat]
    simp only [List.take_succ_cons, List.take_zero]
  · rw [h] at h6
    simp only [Prod.mk.injEq] at h6
    omega
  · rw [h] at h6
    simp only [Prod.mk.injEq] at h6
    omega
  · rw [h] at h6
    simp only [Prod.mk.injEq] at h6
    obtain ⟨hnn, hp, _⟩ := h6
    subst h0
    have hsz : isSz ((s : Nat) : Int) = true := by rcases h4 with ⟨_, rfl⟩ | ⟨_, rfl⟩ | ⟨_, rfl⟩ <;> decide
    have hN : getN l ((i : Int) + 1) (s : Nat) = num ((l.drop (i + 1)).take s) := by
      unfold getN
      rw [if_pos hsz]
      have := cutL_ok (l := l) (i := i + 1) (m := s) (by omega)
      rw [show ((i : Int) + 1) = ((i + 1 : Nat) : Int) by omega, this]
    rw [← hnn] at h7
    refine ⟨i, 1 + s, rfl, by omega, by omega, by omega, ?_⟩
    have hl : ((l.drop (i + 1)).take s).length = s := by simp; omega
    have hs0 : s ≠ 0 := by omega
    unfold countL
    rw [if_neg (by omega), h7, hnn, hN]
    have hlow : low (num ((l.drop (i + 1)).take s)) s = (l.drop (i + 1)).take s := by
      have := low_num ((l.drop (i + 1)).take s)
      rwa [hl] at this
    rw [hlow, List.drop_eq_getElem_cons hi]
    have hx : l[i].toNat = f := by simpa using h2
    have hm : mark s = l[i] := by
      apply UInt8.toNat_inj.1
      rw [hx]
      rcases h4 with ⟨rfl, rfl⟩ | ⟨rfl, rfl⟩ | ⟨rfl, rfl⟩ <;> decide
    rw [hm, Nat.add_comm 1 s, List.take_succ_cons]
theorem gr_got {l : List UInt8} {at_ most : Int} (h : (gr l at_ most).2.2 = 0) : ∃ i k : Nat, at_ = (i : Int) ∧ (gr l at_ most).2.1 = ((i + k : Nat) : Int) ∧ i + k ≤ l.length ∧ rowL (gr l at_ most).1 = (l.drop i).take k ∧ ((gr l at_ most).1.length : Int) ≤ most := by
  obtain ⟨n, p, E, hg, ⟨h1, h2⟩ | ⟨h1, ⟨h2, h3⟩ | ⟨h2, h4, h3⟩ | ⟨h2, h4, h5, h3⟩ | ⟨h2, h4, j, hj, h5, h3⟩⟩⟩ := gr_cases l at_ most
  · rw [h2] at h; exact absurd h h1
  · rw [h3] at h; cases h
  · rw [h3] at h; cases h
  · rw [h3] at h; exact absurd h h5
  · subst h1
    obtain ⟨i, k, rfl, hp, hk, hik, hc⟩ := gc_got hg
    rw [h3]
    have hji : j = i + k := by omega
    subst hji
    have hl : ((l.drop (i + k)).take n).length = n := by simp; omega
    refine ⟨i, k + n, rfl, by push_cast; omega, by omega, ?_, by rw [hl]; exact h4⟩
    unfold rowL
    rw [hl, hc, List.take_add, List.drop_drop]

/-- A coin's bytes are got back, wherever they stand. -/
theorem coin_back (tx : List UInt8) (n h v : Nat) (b : Bool) (lk pre rest : List UInt8) (ht : tx.length = 32) (hn : n < 65536) (hh : h < 4294967296) (hm : mayB v lk.length = true) :
    gcT (pre ++ coinB tx n h v b lk ++ rest) (pre.length : Int) = ⟨tx, n, h, v, b, lk, (pre.length : Int) + ((coinB tx n h v b lk).length : Int), 0⟩ := by
  obtain ⟨hv, hl⟩ := mayB_true hm
  have hp2 : putL n 2 = low n 2 := putL_low (k := 2) (by omega) (by omega)
  have hp4 : putL h 4 = low h 4 := putL_low (k := 4) (by omega) (by omega)
  have hp8 : putL v 8 = low v 8 := putL_low (k := 8) (by omega) (by omega)
  have hp1 : ∀ b : Bool, putL (if b = true then 1 else 0) 1 = low (if b = true then 1 else 0) 1 := fun b => putL_low (k := 1) (by omega) (by split <;> omega)
  have hpt : ptL tx n h = tx ++ (low n 2 ++ low h 4) := by unfold ptL; rw [hp2, hp4]
  have hpl : (ptL tx n h).length = 38 := by rw [hpt]; simp [ht]
  have hcb : coinB tx n h v b lk = ptL tx n h ++ (low v 8 ++ (low (if b = true then 1 else 0) 1 ++ rowL lk)) := by unfold coinB; rw [if_pos hm, hp8, hp1]
  generalize hL : pre ++ coinB tx n h v b lk ++ rest = L
  have eL : L = pre ++ ptL tx n h ++ ((low v 8 ++ (low (if b = true then 1 else 0) 1 ++ rowL lk)) ++ rest) := by rw [← hL, hcb]; simp
  have eL8 : L = (pre ++ ptL tx n h) ++ low v 8 ++ (low (if b = true then 1 else 0) 1 ++ rowL lk ++ rest) := by rw [eL]; simp
  have eL1 : L = (pre ++ ptL tx n h ++ low v 8) ++ low (if b = true then 1 else 0) 1 ++ (rowL lk ++ rest) := by rw [eL]; simp
  have eLr : L = (pre ++ ptL tx n h ++ low v 8 ++ low (if b = true then 1 else 0) 1) ++ rowL lk ++ rest := by rw [eL]; simp
  have c38 : pre.length + 38 ≤ L.length := by rw [eL]; simp only [List.length_append, hpl]; omega
  have hE : gpE L pre.length = 0 := by unfold gpE; exact cutE_ok (m := 38) c38
  have hcut : cutL L (pre.length : Int) 38 = ptL tx n h := by
    have := cutL_ok (l := L) (i := pre.length) (m := 38) c38
    have h2 := piece_mid eL
    rw [hpl] at h2
    rw [show (38 : Int) = ((38 : Nat) : Int) from rfl, this, h2]
  have hX : gpX L pre.length = tx := by
    unfold gpX; rw [if_pos hE, hcut, hpt, List.take_left' ht]
  have hN : gpN L pre.length = n := by
    unfold gpN
    rw [if_pos hE, hcut, hpt, ← List.append_assoc]
    have := getN_mid tx (low n 2) (low h 4) 32 2 ht.symm (by simp) (by decide)
    rw [show (32 : Int) = ((32 : Nat) : Int) from rfl, show (2 : Int) = ((2 : Nat) : Int) from rfl, this, num_low _ _ (by omega)]
  have hH : gpH L pre.length = h := by
    unfold gpH
    rw [if_pos hE, hcut, hpt]
    have := getN_mid (tx ++ low n 2) (low h 4) [] 34 4 (by simp [ht]) (by simp) (by decide)
    rw [List.append_nil, List.append_assoc] at this
    rw [show (34 : Int) = ((34 : Nat) : Int) from rfl, show (4 : Int) = ((4 : Nat) : Int) from rfl, this, num_low _ _ (by omega)]
  have hP : gpP L pre.length = ((pre.length + 38 : Nat) : Int) := by unfold gpP; rw [if_pos hE]; push_cast; rfl
  have l8 : (pre ++ ptL tx n h).length = pre.length + 38 := by simp [hpl]
  have l1 : (pre ++ ptL tx n h ++ low v 8).length = pre.length + 46 := by simp only [List.length_append, hpl, low_length]
  have lr : (pre ++ ptL tx n h ++ low v 8 ++ low (if b = true then 1 else 0) 1).length = pre.length + 47 := by simp only [List.length_append, hpl, low_length]
  have hV : gvT L ((pre.length + 38 : Nat) : Int) = (v, ((pre.length + 46 : Nat) : Int), 0) := by
    have a1 := getE_mid (pre ++ ptL tx n h) (low v 8) (low (if b = true then 1 else 0) 1 ++ rowL lk ++ rest) (pre.length + 38) 8 l8.symm (by simp) (by decide)
    have a2 := getN_mid (pre ++ ptL tx n h) (low v 8) (low (if b = true then 1 else 0) 1 ++ rowL lk ++ rest) (pre.length + 38) 8 l8.symm (by simp) (by decide)
    rw [← eL8] at a1 a2
    rw [num_low _ _ (by omega)] at a2
    unfold gvT
    rw [show (8 : Int) = ((8 : Nat) : Int) from rfl, a1, a2, if_neg (by simp), if_neg (by omega)]
    push_cast
    simp only [Prod.mk.injEq, true_and, and_true]
    omega
  have hB : gbT L ((pre.length + 46 : Nat) : Int) = (b, ((pre.length + 47 : Nat) : Int), 0) := by
    have a1 := getE_mid (pre ++ ptL tx n h ++ low v 8) (low (if b = true then 1 else 0) 1) (rowL lk ++ rest) (pre.length + 46) 1 l1.symm (by simp) (by decide)
    have a2 := getN_mid (pre ++ ptL tx n h ++ low v 8) (low (if b = true then 1 else 0) 1) (rowL lk ++ rest) (pre.length + 46) 1 l1.symm (by simp) (by decide)
    rw [← eL1] at a1 a2
    rw [num_low _ _ (by split <;> omega)] at a2
    unfold gbT
    rw [show (1 : Int) = ((1 : Nat) : Int) from rfl, a1, a2, if_neg (by simp), if_neg (by split <;> omega)]
    push_cast
    simp only [Prod.mk.injEq, and_true]
    cases b <;> rfl
  have hR : gr L ((pre.length + 47 : Nat) : Int) 100 = (lk, ((pre.length + 47 : Nat) : Int) + ((rowL lk).length : Int), 0) := by
    have := gr_mid (pre ++ ptL tx n h ++ low v 8 ++ low (if b = true then 1 else 0) 1) lk rest 100 (by omega) (by omega)
    rw [← eLr, lr] at this
    exact this
  have hlen : ((coinB tx n h v b lk).length : Int) = 47 + ((rowL lk).length : Int) := by rw [hcb]; simp [hpl]; omega
  unfold gcT
  rw [hE, hP, hV]
  dsimp only
  rw [hB]
  dsimp only
  rw [hR]
  dsimp only
  rw [hX, hN, hH, if_neg (by simp), if_neg (by simp), if_neg (by simp), if_neg (by simp), hlen]
  simp only [GC.mk.injEq, true_and, and_true]
  push_cast
  omega

theorem coinB_length_eq {tx : List UInt8} {n h v : Nat} {b : Bool} {lk : List UInt8} (hm : mayB v lk.length = true) : outE v lk = 0 := by unfold outE; rw [if_pos hm]

/-- What is got is put as the same bytes. -/
theorem coin_got {l : List UInt8} (h : (gcT l 0).e = 0) : mayB (gcT l 0).v (gcT l 0).lk.length = true ∧ (gcT l 0).x.length = 32 ∧ (gcT l 0).n < 65536 ∧ (gcT l 0).h < 4294967296 ∧
    ∃ k : Nat, (gcT l 0).p = (k : Int) ∧ k ≤ l.length ∧ coinB (gcT l 0).x (gcT l 0).n (gcT l 0).h (gcT l 0).v (gcT l 0).b (gcT l 0).lk = l.take k := by
  by_cases hE0 : gpE l 0 ≠ 0
  · rw [gcT, if_pos hE0] at h; exact absurd h hE0
  have hE : gpE l 0 = 0 := by simpa using hE0
  obtain ⟨hc1, -, hc2⟩ := cut38 hE
  have c38 : 0 + 38 ≤ l.length := by omega
  have hcut : cutL l 0 38 = l.take 38 := by
    have := cutL_ok (l := l) (i := 0) (m := 38) c38
    simpa using this
  have hP : gpP l 0 = ((38 : Nat) : Int) := by unfold gpP; rw [if_pos hE]; rfl
  have hX : gpX l 0 = l.take 32 := by unfold gpX; rw [if_pos hE, hcut, List.take_take]; rfl
  have hN : gpN l 0 = num ((l.drop 32).take 2) := by
    unfold gpN
    rw [if_pos hE, hcut]
    have := (get_at (l := l.take 38) (i := 32) (m := 2) (by omega) (by simp; omega)).2
    rw [show (32 : Int) = ((32 : Nat) : Int) from rfl, show (2 : Int) = ((2 : Nat) : Int) from rfl, this, List.drop_take, List.take_take]
    rfl
  have hH : gpH l 0 = num ((l.drop 34).take 4) := by
    unfold gpH
    rw [if_pos hE, hcut]
    have := (get_at (l := l.take 38) (i := 34) (m := 4) (by omega) (by simp; omega)).2
    rw [show (34 : Int) = ((34 : Nat) : Int) from rfl, show (4 : Int) = ((4 : Nat) : Int) from rfl, this, List.drop_take, List.take_take]
    rfl
  rcases gv_cases l ((38 : Nat) : Int) with ⟨h1, h2⟩ | ⟨h1, ⟨h3, h2⟩ | ⟨h3, h2⟩⟩
  · rw [gcT, if_neg (by simpa using hE), hP, h2, if_pos (by simpa using h1)] at h
    exact absurd h h1
  · rw [gcT, if_neg (by simpa using hE), hP, h2, if_pos (by simp)] at h
    cases h
  have c46 := (getE_ok h1).2.1
  have hV : getN l ((38 : Nat) : Int) 8 = num ((l.drop 38).take 8) := (get_at (l := l) (i := 38) (m := 8) (by omega) (by omega)).2
  have h2' : gvT l ((38 : Nat) : Int) = (num ((l.drop 38).take 8), ((46 : Nat) : Int), 0) := by rw [h2, hV]; rfl
  rw [hV] at h3
  rcases gb_cases l ((46 : Nat) : Int) with ⟨h4, h5⟩ | ⟨h4, ⟨h6, h5⟩ | ⟨h6, h5⟩⟩
  · rw [gcT, if_neg (by simpa using hE), hP, h2', if_neg (by simp)] at h
    dsimp only at h
    rw [h5, if_pos (by simpa using h4)] at h
    exact absurd h h4
  · rw [gcT, if_neg (by simpa using hE), hP, h2', if_neg (by simp)] at h
    dsimp only at h
    rw [h5, if_pos (by simp)] at h
    cases h
  have c47 := (getE_ok h4).2.1
  have hB : getN l ((46 : Nat) : Int) 1 = num ((l.drop 46).take 1) := (get_at (l := l) (i := 46) (m := 1) (by omega) (by omega)).2
  have h5' : gbT l ((46 : Nat) : Int) = (num ((l.drop 46).take 1) == 1, ((47 : Nat) : Int), 0) := by rw [h5, hB]; rfl
  rw [hB] at h6
  by_cases hR : (gr l ((47 : Nat) : Int) 100).2.2 ≠ 0
  · rw [gcT, if_neg (by simpa using hE), hP, h2', if_neg (by simp)] at h
    dsimp only at h
    rw [h5', if_neg (by simp)] at h
    dsimp only at h
    rw [if_pos hR] at h
    exact absurd h hR
  replace hR : (gr l ((47 : Nat) : Int) 100).2.2 = 0 := by simpa using hR
  obtain ⟨i, k, hi, hp, hik, hrow, hmost⟩ := gr_got hR
  obtain rfl : i = 47 := by omega
  have hG : gcT l 0 = ⟨l.take 32, num ((l.drop 32).take 2), num ((l.drop 34).take 4), num ((l.drop 38).take 8), num ((l.drop 46).take 1) == 1, (gr l ((47 : Nat) : Int) 100).1, ((47 + k : Nat) : Int), 0⟩ := by
    rw [gcT, if_neg (by simpa using hE), hP, h2', if_neg (by simp)]
    dsimp only
    rw [h5', if_neg (by simp)]
    dsimp only
    rw [if_neg (by simpa using hR), hX, hN, hH, hp]
  rw [hG]
  dsimp only
  have p2 := num_lt ((l.drop 32).take 2)
  have p4 := num_lt ((l.drop 34).take 4)
  have e2 : ((l.drop 32).take 2).length = 2 := by simp; omega
  have e4 : ((l.drop 34).take 4).length = 4 := by simp; omega
  have e8 : ((l.drop 38).take 8).length = 8 := by simp; omega
  have e1 : ((l.drop 46).take 1).length = 1 := by simp; omega
  rw [e2] at p2
  rw [e4] at p4
  have hm : mayB (num ((l.drop 38).take 8)) (gr l ((47 : Nat) : Int) 100).1.length = true := by
    unfold mayB
    rw [Bool.and_eq_true, decide_eq_true_iff, decide_eq_true_iff]
    exact ⟨by omega, by omega⟩
  refine ⟨hm, by simp; omega, by omega, by omega, 47 + k, rfl, hik, ?_⟩
  have q2 := low_num ((l.drop 32).take 2)
  have q4 := low_num ((l.drop 34).take 4)
  have q8 := low_num ((l.drop 38).take 8)
  have q1 := low_num ((l.drop 46).take 1)
  rw [e2] at q2
  rw [e4] at q4
  rw [e8] at q8
  rw [e1] at q1
  have hp2 : putL (num ((l.drop 32).take 2)) 2 = (l.drop 32).take 2 := (putL_low (k := 2) (by omega) (by omega)).trans q2
  have hp4 : putL (num ((l.drop 34).take 4)) 4 = (l.drop 34).take 4 := (putL_low (k := 4) (by omega) (by omega)).trans q4
  have hp8 : putL (num ((l.drop 38).take 8)) 8 = (l.drop 38).take 8 := (putL_low (k := 8) (by omega) (by omega)).trans q8
  have hb1 : (if (num ((l.drop 46).take 1) == 1) = true then 1 else 0) = num ((l.drop 46).take 1) := by
    split <;> rename_i hq
    · exact (by simpa using hq : num ((l.drop 46).take 1) = 1).symm
    · have : num ((l.drop 46).take 1) ≠ 1 := by simpa using hq
      omega
  have hp1 : putL (num ((l.drop 46).take 1)) 1 = (l.drop 46).take 1 := (putL_low (k := 1) (by omega) (by omega)).trans q1
  unfold coinB ptL
  rw [if_pos hm, hb1, hp2, hp4, hp8, hp1, hrow, show 47 + k = 32 + (2 + (4 + (8 + (1 + k)))) by omega, List.take_add, List.take_add (i := 2), List.take_add (i := 4), List.take_add (i := 8), List.take_add (i := 1)]
  simp only [List.drop_drop, List.append_assoc]
end Go.Proofs.YtpijehaciomkhaaDoor
end
