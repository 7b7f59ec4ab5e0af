/- LAYER 11: the program's kinds and long sizes; steps apart from a block. -/
import Derived.Test.YtbhoflmdhlchlaaRead2
import Derived.Test.YtbhoflmdhlchlaaEndsP3
namespace Go.Proofs.Ytbhoflmdhlchlaa
open Go Go.RowKit
set_option linter.unusedVariables false
set_option linter.unusedSimpArgs false
set_option linter.unusedVariables false
set_option linter.unusedSimpArgs false

/-- The kind of a first byte. -/
def kindN (n : Nat) : Int := if n < 128 then 1 else if n = 128 then 2 else if n ≤ 147 then 3 else 0
set_option maxHeartbeats 1000000 in
theorem kindOf_any (x : UInt8) (w : World) : Calls Try.prog 51 #[.int .u8 (x.toNat : Int)] w fun e w' => e = .returned (.int .i64 (kindN x.toNat)) ∧ w = w' := by
  have hx := x.toNat_lt
  unfold kindN
  generalize x.toNat = n at *
  by_cases h1 : n < 128
  · rw [if_pos h1]
    have g1 : (n : Int) < 128 := by omega
    clear h1 hx
    go_enter Try.func51, Try.ntmps51
    go_wp2_with fail
    go_ret
    exact ⟨rfl, rfl⟩
  · rw [if_neg h1]
    have g1 : ¬ (n : Int) < 128 := by omega
    by_cases h2 : n = 128
    · rw [if_pos h2]
      subst h2
      clear h1 hx g1
      go_enter Try.func51, Try.ntmps51
      go_wp2_with fail
      go_ret
      exact ⟨rfl, rfl⟩
    · rw [if_neg h2]
      have g2 : ((n : Int) == 128) = false := by rw [beq_eq_false_iff_ne]; omega
      by_cases h3 : n ≤ 147
      · rw [if_pos h3]
        have g3 : (n : Int) ≤ 147 := by omega
        clear h1 h2 h3 hx
        go_enter Try.func51, Try.ntmps51
        go_wp2_with fail
        go_ret
        exact ⟨rfl, rfl⟩
      · rw [if_neg h3]
        have g3 : ¬ (n : Int) ≤ 147 := by omega
        clear h1 h2 h3 hx
        go_enter Try.func51, Try.ntmps51
        go_wp2_with fail
        go_ret
        exact ⟨rfl, rfl⟩
/-- The two bytes of a length, and whether they may be one. -/
def twoN (l : List UInt8) (i : Nat) : Nat := ((l.drop i).getD 0 0).toNat + 256 * ((l.drop i).getD 1 0).toNat
def lsE (l : List UInt8) (i : Nat) : Int := if l.length - i < 2 then 4 else if twoN l i < 128 ∨ 3000 < twoN l i then 5 else 0
def lsN (l : List UInt8) (i : Nat) : Nat := if lsE l i = 0 then twoN l i else 0
theorem take_two (l : List UInt8) (h : 2 ≤ l.length) : num (l.take 2) = (l.getD 0 0).toNat + 256 * (l.getD 1 0).toNat := by
  obtain ⟨x, t, rfl⟩ : ∃ x s, l = x :: s := List.exists_cons_of_length_pos (by omega)
  obtain ⟨y, t, rfl⟩ : ∃ x s, t = x :: s := List.exists_cons_of_length_pos (by simp at h; omega)
  simp [num]
theorem get_two (l : List UInt8) (i : Nat) (hi : i ≤ l.length) : (l.length - i < 2 ∧ getE l.length (i : Int) 2 = 4 ∧ getN l (i : Int) 2 = 0) ∨ (¬ l.length - i < 2 ∧ getE l.length (i : Int) 2 = 0 ∧ getN l (i : Int) 2 = twoN l i) := by
  have e2 : isSz 2 = true := by decide
  rcases cutE_cases l.length (i : Int) 2 with ⟨h1, h2⟩ | ⟨h1, h2⟩ | ⟨j, m, hj, hm, h1, h2⟩
  · omega
  · refine .inl ⟨by omega, by unfold getE; rw [if_pos e2]; exact h2, ?_⟩
    unfold getN
    rw [if_pos e2, cutL_bad (by rw [h2]; decide)]
    rfl
  · obtain rfl : j = i := by omega
    obtain rfl : m = 2 := by omega
    refine .inr ⟨by omega, by unfold getE; rw [if_pos e2]; exact h2, ?_⟩
    unfold getN twoN
    rw [if_pos e2, show ((2 : Int)) = ((2 : Nat) : Int) from rfl, cutL_ok h1, take_two _ (by rw [List.length_drop]; omega)]
set_option maxHeartbeats 1000000 in
theorem longSize_any (v : Value) (l : List UInt8) (i : Nat) (w : World) (h : Rd w v l) (hi : i ≤ l.length) :
    Calls Try.prog 52 #[v, .int .i64 (i : Int)] w fun e w' => e = .returned (.tuple #[.int .i64 (lsN l i : Int), .int .i64 (lsE l i)]) ∧ w = w' := by
  have HG := Lib.hid (get_any v l (i : Int) 2 w h)
  obtain ⟨A, c, rfl, -, -, -⟩ := h
  have ht : twoN l i < 65792 := by
    have h1 := ((l.drop i).getD 0 0).toNat_lt
    have h2 := ((l.drop i).getD 1 0).toNat_lt
    unfold twoN
    omega
  rcases get_two l i hi with ⟨h1, h2, h3⟩ | ⟨h1, h2, h3⟩
  · have HE : Hid (lsE l i = 4) := Lib.hid (by unfold lsE; rw [if_pos h1])
    have HN : Hid (lsN l i = 0) := Lib.hid (by unfold lsN; rw [HE.out]; rfl)
    rw [h2, h3] at HG
    clear h1 h2 h3 hi ht
    go_enter Try.func52, Try.ntmps52
    go_wp2_with fail
    refine HG.out.mono ?_
    rintro e w' ⟨rfl, rfl⟩
    go_wp2_with fail
    go_ret2
    exact ⟨by rw [HE.out, HN.out]; rfl, rfl⟩
  · rw [h2, h3] at HG
    generalize hT : twoN l i = n at *
    have h1' := h1
    by_cases g1 : n < 128
    · have HE : Hid (lsE l i = 5) := Lib.hid (by unfold lsE; rw [if_neg h1, hT, if_pos (.inl g1)])
      have HN : Hid (lsN l i = 0) := Lib.hid (by unfold lsN; rw [HE.out]; rfl)
      have g1' : (n : Int) < 128 := by omega
      clear h1 h2 h3 hi ht h1' g1 hT
      go_enter Try.func52, Try.ntmps52
      go_wp2_with fail
      refine HG.out.mono ?_
      rintro e w' ⟨rfl, rfl⟩
      go_wp2_with fail
      go_ret2
      exact ⟨by rw [HE.out, HN.out]; rfl, rfl⟩
    · have g1' : ¬ (n : Int) < 128 := by omega
      by_cases g2 : 3000 < n
      · have HE : Hid (lsE l i = 5) := Lib.hid (by unfold lsE; rw [if_neg h1, hT, if_pos (.inr g2)])
        have HN : Hid (lsN l i = 0) := Lib.hid (by unfold lsN; rw [HE.out]; rfl)
        have g2' : (3000 : Int) < (n : Int) := by omega
        clear h1 h2 h3 hi ht h1' g1 g2 hT
        go_enter Try.func52, Try.ntmps52
        go_wp2_with fail
        refine HG.out.mono ?_
        rintro e w' ⟨rfl, rfl⟩
        go_wp2_with fail
        go_ret2
        exact ⟨by rw [HE.out, HN.out]; rfl, rfl⟩
      · have HE : Hid (lsE l i = 0) := Lib.hid (by unfold lsE; rw [if_neg h1, hT, if_neg (by omega)])
        have HN : Hid (lsN l i = n) := Lib.hid (by unfold lsN; rw [HE.out, if_pos rfl, hT])
        have g2' : ¬ (3000 : Int) < (n : Int) := by omega
        have g3 : IntKind.i64.wrap (n : Int) = (n : Int) := IntWalk.i64_in _ (by omega)
        clear h1 h2 h3 hi h1' g1 g2 hT ht
        go_enter Try.func52, Try.ntmps52
        go_wp2_with fail
        refine HG.out.mono ?_
        rintro e w' ⟨rfl, rfl⟩
        go_wp2_with fail
        go_ret2
        exact ⟨by rw [HE.out, HN.out]; first | rfl | (rw [g3]), rfl⟩
/-- Steps whose pushes lie in other blocks than k. -/
def stepElK (K : Nat) : El Step where
  E := 55
  k := 2
  pos := by decide
  rd := fun s w cs a => ∃ u, cs = [.int .u8 (a.1.toNat : Int), u] ∧ RdS s w u a.2 ∧ (0 < a.2.length → u.ownBlock ≠ some K)
  len := by rintro s w cs a ⟨u, rfl, _⟩; rfl
  one := by
    rintro s w cs a ⟨u, rfl, h, _⟩ x hx
    obtain ⟨A, c, rfl⟩ := h.sl
    simp at hx
    rcases hx with rfl | rfl <;> rfl
  nx := by rintro s w w' cs a ⟨u, rfl, h, k⟩ x; exact ⟨u, rfl, h.nx x, k⟩
  grown := by rintro s w w' cs a ⟨u, rfl, h, k⟩ x; exact ⟨u, rfl, h.grown x, k⟩
  free := by rintro s w cs a ⟨u, rfl, h, k⟩; exact ⟨u, rfl, h.free, k⟩
  apart := by rintro s w cs a ⟨u, rfl, h, k⟩ hs; exact ⟨u, rfl, h.apart hs, k⟩
theorem AllE.plain {K : Nat} {s : Option Nat} {w : World} {fs : List Value} {es : List Step} (h : AllE (stepElK K) s w fs es) : AllE stepEl s w fs es :=
  ⟨h.1, fun j hj => by obtain ⟨u, h1, h2, _⟩ := h.2 j hj; exact ⟨u, h1, h2⟩⟩
theorem OwnE.plain {K B : Nat} {w : World} {v : Value} {es : List Step} (h : OwnE (stepElK K) B w v es) : OwnE stepEl B w v es := by
  obtain ⟨fs, h1, h2⟩ := h
  exact ⟨fs, h1, h2.plain⟩
/-- A change of block K alone. -/
theorem OwnE.beside {K B : Nat} {w w' : World} {v : Value} {es : List Step} (h : OwnE (stepElK K) B w v es) (hB : K < B) (x : w.grownBy w' (some K)) : OwnE (stepElK K) B w' v es := by
  obtain ⟨fs, ⟨h0, h2⟩, h3⟩ := h
  refine ⟨fs, ⟨h0, ?_⟩, h3.1, fun j hj => ?_⟩
  · rcases h2 with h2 | ⟨g, c, full, rfl, hb, hg, rest⟩
    · exact .inl h2
    · exact .inr ⟨g, c, full, rfl, hb, by rw [x.block g (Array.getElem?_eq_some_iff.1 hg).1 (by intro e; injection e with e; omega)]; exact hg, rest⟩
  · obtain ⟨u, e, hr, hk⟩ := h3.2 j hj
    exact ⟨u, e, ⟨(RdS.grown (s := some K) ⟨hr.1, fun hp q hq => by injection hq with hq; subst hq; exact hk hp⟩ x).1, hr.2⟩, hk⟩
theorem grown_setCell (w : World) (K i : Nat) (x : Value) : w.grownBy (w.setCell ⟨K, i, none⟩ x) (some K) :=
  ⟨rfl, rfl, rfl, by simp [World.setCell], fun k hk hne => heap_setCell_other w ⟨K, i, none⟩ k _ (fun e => hne (by rw [e]))⟩
theorem grown_setRow (w : World) (K : Nat) (cs : Array Value) : w.grownBy (w.setRow K cs) (some K) :=
  ⟨rfl, rfl, rfl, by simp, fun k hk hne => Go.setRow_other _ _ _ _ (fun e => hne (by rw [e]))⟩
theorem stepK_apart {w w' : World} {K B : Nat} {s u : Value} {l : List Step} {x : UInt8} {p : List UInt8} (hs : OwnE (stepElK K) B w s l) (hu : Own w.heap.size w' u p) (hK : K < w.heap.size) : AllE (stepElK K) s.ownBlock w' [.int .u8 (x.toNat : Int), u] [(x, p)] :=
  AllE.single ⟨u, rfl, ⟨hu.rd, fun _ q hq he => by
    have h1 := (hs.blk q hq).2
    have h2 := hu.block q he
    omega⟩, fun _ he => by
    have h2 := hu.block K he
    omega⟩
end Go.Proofs.Ytbhoflmdhlchlaa
