/- TEXTS OF OUR OWN, IN ONE FILE. -/
import Derived.Test.YtpijehaciomkhaaDoorTc
section
namespace Go.Proofs.YtpijehaciomkhaaDoor
open Go.RowKit

def csz (f : Nat) : Nat := if f = 253 then 2 else if f = 254 then 4 else 8
/-- What GetCount tells: the number, the place behind it, the error. -/
def gc (l : List UInt8) (at_ : Int) : Nat × Int × Int :=
  if getE l.length at_ 1 ≠ 0 then (0, 0, getE l.length at_ 1)
  else if getN l at_ 1 < 253 then (getN l at_ 1, at_ + 1, 0)
  else if getE l.length (at_ + 1) (csz (getN l at_ 1) : Nat) ≠ 0 then (0, 0, getE l.length (at_ + 1) (csz (getN l at_ 1) : Nat))
  else if behind (getN l (at_ + 1) (csz (getN l at_ 1) : Nat)) ≠ csz (getN l at_ 1) then (0, 0, 5)
  else (getN l (at_ + 1) (csz (getN l at_ 1) : Nat), at_ + 1 + (csz (getN l at_ 1) : Nat), 0)

theorem get1_ok {l : List UInt8} {at_ : Int} (h : getE l.length at_ 1 = 0) : ∃ (i : Nat) (hi : i < l.length), at_ = i ∧ getN l at_ 1 = l[i].toNat := by
  rcases get_cases l at_ 1 with ⟨_, h2, _⟩ | ⟨_, _, h2, _⟩ | ⟨_, _, h2, _⟩ | ⟨i, m, rfl, hm, _, _, h4, _, h3⟩
  · omega
  · omega
  · omega
  · obtain rfl : m = 1 := by omega
    refine ⟨i, by omega, rfl, ?_⟩
    rw [h3, List.drop_eq_getElem_cons (show i < l.length by omega)]
    show num [l[i]] = _
    simp [num]

theorem get_is (v : Value) (l : List UInt8) (at_ s : Int) (n : Nat) (z E : Int) (w : World) (h : Rd w v l) (hn : getN l at_ s = n) (hz : (n : Int) = z) (hE : getE l.length at_ s = E) :
    Calls Tryd.prog 44 #[v, .int .i64 at_, .int .i64 s] w fun e w' => e = .returned (.tuple #[.int .u64 z, .int .i64 E]) ∧ w = w' := by
  subst hn
  subst hz
  subst hE
  exact get_any v l at_ s w h
/-- The ways of GetCount. -/
theorem gc_cases (l : List UInt8) (at_ : Int) :
    (getE l.length at_ 1 ≠ 0 ∧ gc l at_ = (0, 0, getE l.length at_ 1)) ∨
    (∃ (i : Nat) (hi : i < l.length), at_ = i ∧ getE l.length at_ 1 = 0 ∧ getN l at_ 1 = l[i].toNat ∧
      ((l[i].toNat < 253 ∧ gc l at_ = (l[i].toNat, (i : Int) + 1, 0)) ∨
       (∃ f s : Nat, l[i].toNat = f ∧ ((f = 253 ∧ s = 2) ∨ (f = 254 ∧ s = 4) ∨ (f = 255 ∧ s = 8)) ∧
        ((getE l.length (at_ + 1) (s : Nat) ≠ 0 ∧ gc l at_ = (0, 0, getE l.length (at_ + 1) (s : Nat))) ∨
         (getE l.length (at_ + 1) (s : Nat) = 0 ∧ behind (getN l (at_ + 1) (s : Nat)) ≠ s ∧ gc l at_ = (0, 0, 5)) ∨
         (getE l.length (at_ + 1) (s : Nat) = 0 ∧ i + 1 + s ≤ l.length ∧ behind (getN l (at_ + 1) (s : Nat)) = s ∧ gc l at_ = (getN l (at_ + 1) (s : Nat), (i : Int) + 1 + (s : Nat), 0)))))) := by
  by_cases h1 : getE l.length at_ 1 = 0
  · obtain ⟨i, hi, rfl, hn⟩ := get1_ok h1
    refine .inr ⟨i, hi, rfl, h1, hn, ?_⟩
    have hx := l[i].toNat_lt
    unfold gc
    rw [if_neg (by omega), hn]
    by_cases h2 : l[i].toNat < 253
    · exact .inl ⟨h2, by rw [if_pos h2]⟩
    · refine .inr ⟨l[i].toNat, csz l[i].toNat, rfl, ?_, ?_⟩
      · unfold csz
        split
        · omega
        · split <;> omega
      · rw [if_neg h2]
        by_cases h3 : getE l.length ((i : Int) + 1) (csz l[i].toNat : Nat) = 0
        · rw [if_neg (by omega)]
          by_cases h4 : behind (getN l ((i : Int) + 1) (csz l[i].toNat : Nat)) = csz l[i].toNat
          · rw [if_neg (by omega)]
            refine .inr (.inr ⟨h3, ?_, h4, rfl⟩)
            have h5 := h3
            unfold getE at h5
            split at h5
            · unfold cutE at h5
              split at h5
              · omega
              · split at h5 <;> omega
            · omega
          · rw [if_pos h4]
            exact .inr (.inl ⟨h3, h4, rfl⟩)
        · rw [if_pos h3]
          exact .inl ⟨h3, rfl⟩
  · refine .inl ⟨h1, ?_⟩
    unfold gc
    rw [if_pos h1]

set_option maxHeartbeats 1000000 in
theorem getCount_any (v : Value) (l : List UInt8) (at_ : Int) (w : World) (h : Rd w v l) (hr : l.length ≤ 140737488355328) :
    Calls Tryd.prog 51 #[v, .int .i64 at_] w fun e w' => e = .returned (.tuple #[.int .u64 ((gc l at_).1 : Int), .int .i64 (gc l at_).2.1, .int .i64 (gc l at_).2.2]) ∧ w = w' := by
  rcases gc_cases l at_ with ⟨h1, h2⟩ | ⟨i, hi, rfl, h1, hn, ⟨h2, h3⟩ | ⟨f, s, h2, h4, ⟨h5, h6⟩ | ⟨h5, h7, h6⟩ | ⟨h5, h8, h7, h6⟩⟩⟩
  · rw [h2]
    have HG := Lib.hid (get_any v l at_ 1 w h)
    have ht : (getE l.length at_ 1 != 0) = true := by simpa using h1
    clear h2 h1
    generalize getE l.length at_ 1 = E at *
    go_enter Tryd.func51, Tryd.ntmps51
    go_wp2_with fail
    refine HG.out.mono ?_
    rintro e w' ⟨rfl, rfl⟩
    go_wp2
    go_ret3
    exact ⟨rfl, rfl⟩
  · rw [h3]
    have HG := Lib.hid (get_is v l i 1 _ _ 0 w h hn rfl h1)
    have h2' : (l[i].toNat : Int) < 253 := by omega
    clear h3 h1 hn h2
    go_enter Tryd.func51, Tryd.ntmps51
    go_wp2_with fail
    refine HG.out.mono ?_
    rintro e w' ⟨rfl, rfl⟩
    go_wp2
    go_ret3
    exact ⟨rfl, rfl⟩
  all_goals rw [h2] at hn
  · rw [h6]
    rcases h4 with ⟨rfl, rfl⟩ | ⟨rfl, rfl⟩ | ⟨rfl, rfl⟩
    · have HG := Lib.hid (get_is v l i 1 _ 253 0 w h hn rfl h1)
      have HG2 := Lib.hid (get_any v l (i + 1) 2 w h)
      have h5' : getE l.length ((i : Int) + 1) 2 ≠ 0 := h5
      have ht := bne_iff_ne.2 h5'
      show Calls _ _ _ _ fun e w' => e = .returned (.tuple #[.int .u64 0, .int .i64 0, .int .i64 (getE l.length ((i : Int) + 1) 2)]) ∧ w = w'
      clear h5 h5' h6 h2 h1 hn
      generalize getE l.length ((i : Int) + 1) 2 = E at *
      go_enter Tryd.func51, Tryd.ntmps51
      go_wp2_with fail
      refine HG.out.mono ?_
      rintro e w' ⟨rfl, rfl⟩
      go_wp2_with fail
      refine HG2.out.mono ?_
      rintro e w' ⟨rfl, rfl⟩
      go_wp2
      go_ret3
      exact ⟨rfl, rfl⟩
    · have HG := Lib.hid (get_is v l i 1 _ 254 0 w h hn rfl h1)
      have HG2 := Lib.hid (get_any v l (i + 1) 4 w h)
      have h5' : getE l.length ((i : Int) + 1) 4 ≠ 0 := h5
      have ht := bne_iff_ne.2 h5'
      show Calls _ _ _ _ fun e w' => e = .returned (.tuple #[.int .u64 0, .int .i64 0, .int .i64 (getE l.length ((i : Int) + 1) 4)]) ∧ w = w'
      clear h5 h5' h6 h2 h1 hn
      generalize getE l.length ((i : Int) + 1) 4 = E at *
      go_enter Tryd.func51, Tryd.ntmps51
      go_wp2_with fail
      refine HG.out.mono ?_
      rintro e w' ⟨rfl, rfl⟩
      go_wp2_with fail
      refine HG2.out.mono ?_
      rintro e w' ⟨rfl, rfl⟩
      go_wp2
      go_ret3
      exact ⟨rfl, rfl⟩
    · have HG := Lib.hid (get_is v l i 1 _ 255 0 w h hn rfl h1)
      have HG2 := Lib.hid (get_any v l (i + 1) 8 w h)
      have h5' : getE l.length ((i : Int) + 1) 8 ≠ 0 := h5
      have ht := bne_iff_ne.2 h5'
      show Calls _ _ _ _ fun e w' => e = .returned (.tuple #[.int .u64 0, .int .i64 0, .int .i64 (getE l.length ((i : Int) + 1) 8)]) ∧ w = w'
      clear h5 h5' h6 h2 h1 hn
      generalize getE l.length ((i : Int) + 1) 8 = E at *
      go_enter Tryd.func51, Tryd.ntmps51
      go_wp2_with fail
      refine HG.out.mono ?_
      rintro e w' ⟨rfl, rfl⟩
      go_wp2_with fail
      refine HG2.out.mono ?_
      rintro e w' ⟨rfl, rfl⟩
      go_wp2
      go_ret3
      exact ⟨rfl, rfl⟩
  · rw [h6]
    rcases h4 with ⟨rfl, rfl⟩ | ⟨rfl, rfl⟩ | ⟨rfl, rfl⟩
    · have HG := Lib.hid (get_is v l i 1 _ 253 0 w h hn rfl h1)
      have HG2 := Lib.hid (get_is v l (i + 1) 2 _ _ 0 w h rfl rfl h5)
      have h7' : behind (getN l ((i : Int) + 1) 2) ≠ 2 := h7
      generalize getN l ((i : Int) + 1) 2 = q at *
      have ht : ((behind q : Int) != 2) = true := bne_iff_ne.2 (by omega)
      clear h5 h6 h2 h1 hn h7 h7'
      go_enter Tryd.func51, Tryd.ntmps51
      go_wp2_with fail
      refine HG.out.mono ?_
      rintro e w' ⟨rfl, rfl⟩
      go_wp2_with fail
      refine HG2.out.mono ?_
      rintro e w' ⟨rfl, rfl⟩
      go_wp2_with fail
      refine (sizeBehind_any q w).mono ?_
      rintro e w' ⟨rfl, rfl⟩
      go_wp2
      go_ret3
      exact ⟨rfl, rfl⟩
    · have HG := Lib.hid (get_is v l i 1 _ 254 0 w h hn rfl h1)
      have HG2 := Lib.hid (get_is v l (i + 1) 4 _ _ 0 w h rfl rfl h5)
      have h7' : behind (getN l ((i : Int) + 1) 4) ≠ 4 := h7
      generalize getN l ((i : Int) + 1) 4 = q at *
      have ht : ((behind q : Int) != 4) = true := bne_iff_ne.2 (by omega)
      clear h5 h6 h2 h1 hn h7 h7'
      go_enter Tryd.func51, Tryd.ntmps51
      go_wp2_with fail
      refine HG.out.mono ?_
      rintro e w' ⟨rfl, rfl⟩
      go_wp2_with fail
      refine HG2.out.mono ?_
      rintro e w' ⟨rfl, rfl⟩
      go_wp2_with fail
      refine (sizeBehind_any q w).mono ?_
      rintro e w' ⟨rfl, rfl⟩
      go_wp2
      go_ret3
      exact ⟨rfl, rfl⟩
    · have HG := Lib.hid (get_is v l i 1 _ 255 0 w h hn rfl h1)
      have HG2 := Lib.hid (get_is v l (i + 1) 8 _ _ 0 w h rfl rfl h5)
      have h7' : behind (getN l ((i : Int) + 1) 8) ≠ 8 := h7
      generalize getN l ((i : Int) + 1) 8 = q at *
      have ht : ((behind q : Int) != 8) = true := bne_iff_ne.2 (by omega)
      clear h5 h6 h2 h1 hn h7 h7'
      go_enter Tryd.func51, Tryd.ntmps51
      go_wp2_with fail
      refine HG.out.mono ?_
      rintro e w' ⟨rfl, rfl⟩
      go_wp2_with fail
      refine HG2.out.mono ?_
      rintro e w' ⟨rfl, rfl⟩
      go_wp2_with fail
      refine (sizeBehind_any q w).mono ?_
      rintro e w' ⟨rfl, rfl⟩
      go_wp2
      go_ret3
      exact ⟨rfl, rfl⟩
  · rw [h6]
    rcases h4 with ⟨rfl, rfl⟩ | ⟨rfl, rfl⟩ | ⟨rfl, rfl⟩
    · have HG := Lib.hid (get_is v l i 1 _ 253 0 w h hn rfl h1)
      have HG2 := Lib.hid (get_is v l (i + 1) 2 _ _ 0 w h rfl rfl h5)
      have h7' : behind (getN l ((i : Int) + 1) 2) = 2 := h7
      have hi1 : (i : Int) + 1 + 2 ≤ 9223372036854775807 := by omega
      show Calls _ _ _ _ fun e w' => e = .returned (.tuple #[.int .u64 (getN l ((i : Int) + 1) 2 : Int), .int .i64 ((i : Int) + 1 + 2), .int .i64 0]) ∧ w = w'
      generalize getN l ((i : Int) + 1) 2 = q at *
      have HS := Lib.hid (sizeBehind_is q 2 2 h7' rfl w)
      clear h5 h6 h2 h1 hn h7 h7'
      go_enter Tryd.func51, Tryd.ntmps51
      go_wp2_with fail
      refine HG.out.mono ?_
      rintro e w' ⟨rfl, rfl⟩
      go_wp2_with fail
      refine HG2.out.mono ?_
      rintro e w' ⟨rfl, rfl⟩
      go_wp2_with fail
      refine HS.out.mono ?_
      rintro e w' ⟨rfl, rfl⟩
      go_wp2
      go_ret3
      exact ⟨rfl, rfl⟩
    · have HG := Lib.hid (get_is v l i 1 _ 254 0 w h hn rfl h1)
      have HG2 := Lib.hid (get_is v l (i + 1) 4 _ _ 0 w h rfl rfl h5)
      have h7' : behind (getN l ((i : Int) + 1) 4) = 4 := h7
      have hi1 : (i : Int) + 1 + 4 ≤ 9223372036854775807 := by omega
      show Calls _ _ _ _ fun e w' => e = .returned (.tuple #[.int .u64 (getN l ((i : Int) + 1) 4 : Int), .int .i64 ((i : Int) + 1 + 4), .int .i64 0]) ∧ w = w'
      generalize getN l ((i : Int) + 1) 4 = q at *
      have HS := Lib.hid (sizeBehind_is q 4 4 h7' rfl w)
      clear h5 h6 h2 h1 hn h7 h7'
      go_enter Tryd.func51, Tryd.ntmps51
      go_wp2_with fail
      refine HG.out.mono ?_
      rintro e w' ⟨rfl, rfl⟩
      go_wp2_with fail
      refine HG2.out.mono ?_
      rintro e w' ⟨rfl, rfl⟩
      go_wp2_with fail
      refine HS.out.mono ?_
      rintro e w' ⟨rfl, rfl⟩
      go_wp2
      go_ret3
      exact ⟨rfl, rfl⟩
    · have HG := Lib.hid (get_is v l i 1 _ 255 0 w h hn rfl h1)
      have HG2 := Lib.hid (get_is v l (i + 1) 8 _ _ 0 w h rfl rfl h5)
      have h7' : behind (getN l ((i : Int) + 1) 8) = 8 := h7
      have hi1 : (i : Int) + 1 + 8 ≤ 9223372036854775807 := by omega
      show Calls _ _ _ _ fun e w' => e = .returned (.tuple #[.int .u64 (getN l ((i : Int) + 1) 8 : Int), .int .i64 ((i : Int) + 1 + 8), .int .i64 0]) ∧ w = w'
      generalize getN l ((i : Int) + 1) 8 = q at *
      have HS := Lib.hid (sizeBehind_is q 8 8 h7' rfl w)
      clear h5 h6 h2 h1 hn h7 h7'
      go_enter Tryd.func51, Tryd.ntmps51
      go_wp2_with fail
      refine HG.out.mono ?_
      rintro e w' ⟨rfl, rfl⟩
      go_wp2_with fail
      refine HG2.out.mono ?_
      rintro e w' ⟨rfl, rfl⟩
      go_wp2_with fail
      refine HS.out.mono ?_
      rintro e w' ⟨rfl, rfl⟩
      go_wp2
      go_ret3
      exact ⟨rfl, rfl⟩
end Go.Proofs.YtpijehaciomkhaaDoor
end

section
namespace Go.Proofs.YtpijehaciomkhaaDoor
open Go.RowKit

theorem getE_one (L : Nat) (at_ : Int) : getE L at_ 1 = cutE L at_ 1 := by unfold getE; rw [if_pos (by decide)]

theorem cutL_one {l : List UInt8} {i : Nat} (hi : i < l.length) : cutL l (i : Int) 1 = [l[i]] := by
  rw [show (1 : Int) = ((1 : Nat) : Int) from rfl, cutL_ok (by omega), List.drop_eq_getElem_cons hi]
  rfl

theorem countL_length (n : Nat) : (countL n).length = 1 + behind n := by
  unfold countL
  split
  · rename_i h
    rw [h]; rfl
  · simp; omega

end Go.Proofs.YtpijehaciomkhaaDoor
end

section
namespace Go.Proofs.YtpijehaciomkhaaDoor
open Go.RowKit

def rowL (l : List UInt8) : List UInt8 := countL l.length ++ l

theorem countL_le (n : Nat) : (countL n).length ≤ 9 := by
  rw [countL_length]
  rcases behind_cases n with ⟨_, h⟩ | ⟨_, _, h⟩ | ⟨_, _, h⟩ | ⟨_, h⟩ <;> omega

set_option maxHeartbeats 400000 in
theorem row_any (v : Value) (l : List UInt8) (w : World) (h : Rd w v l) (hr : l.length ≤ 140737488351232) :
    Calls Tryd.prog 22 #[v] w fun e w' => ∃ v', e = .returned v' ∧ Own w.heap.size w' v' (rowL l) ∧ Nx w w' := by
  have hrd := h
  obtain ⟨A, c, rfl, hc, hm, ha⟩ := h
  have hl := countL_le l.length
  unfold rowL
  go_enter Tryd.func22, Tryd.ntmps22
  go_wp2_with fail
  refine (count_any l.length w).mono ?_
  rintro e w1 ⟨v1, rfl, hown, hb⟩
  go_wp2_with (at_builtin; refine wpList_app rfl (.tmp 6) (.tmp 7) _ rfl Tryd.underlying43 info_u8 w.heap.size v1 _ (countL l.length) l rfl rfl hown (hrd.nx hb) ?c2 ?c3 ?_)
  case c2 => omega
  case c3 => exact hb.size
  intro v2 w2 hown2 hb2 _
  go_wp2
  go_ret
  exact ⟨_, rfl, hown2, hb.app hb2⟩

/-- What GetRow tells: the bytes, the place behind them, the error. -/
def gr (l : List UInt8) (at_ most : Int) : List UInt8 × Int × Int :=
  if (gc l at_).2.2 ≠ 0 then ([], 0, (gc l at_).2.2)
  else if most < 0 ∨ most < ((gc l at_).1 : Int) then ([], 0, 3)
  else if cutE l.length (gc l at_).2.1 ((gc l at_).1 : Int) ≠ 0 then ([], 0, cutE l.length (gc l at_).2.1 ((gc l at_).1 : Int))
  else (cutL l (gc l at_).2.1 ((gc l at_).1 : Int), (gc l at_).2.1 + ((gc l at_).1 : Int), 0)

theorem gr_cases (l : List UInt8) (at_ most : Int) : ∃ (n : Nat) (p E : Int), gc l at_ = (n, p, E) ∧
    ((E ≠ 0 ∧ gr l at_ most = ([], 0, E)) ∨ (E = 0 ∧
      ((most < 0 ∧ gr l at_ most = ([], 0, 3)) ∨
       (0 ≤ most ∧ most < (n : Int) ∧ gr l at_ most = ([], 0, 3)) ∨
       (0 ≤ most ∧ (n : Int) ≤ most ∧ cutE l.length p n ≠ 0 ∧ gr l at_ most = ([], 0, cutE l.length p n)) ∨
       (0 ≤ most ∧ (n : Int) ≤ most ∧ ∃ i : Nat, p = i ∧ i + n ≤ l.length ∧ gr l at_ most = ((l.drop i).take n, (i : Int) + (n : Int), 0))))) := by
  rcases hg : gc l at_ with ⟨n, p, E⟩
  refine ⟨n, p, E, rfl, ?_⟩
  unfold gr
  rw [hg]
  show (E ≠ 0 ∧ (if E ≠ 0 then _ else _) = _) ∨ _
  by_cases h1 : E = 0
  · refine .inr ⟨h1, ?_⟩
    simp only []
    rw [if_neg (by omega)]
    by_cases h2 : most < 0
    · exact .inl ⟨h2, by rw [if_pos (.inl h2)]⟩
    · by_cases h3 : most < (n : Int)
      · exact .inr (.inl ⟨by omega, h3, by rw [if_pos (.inr h3)]⟩)
      · rw [if_neg (by omega)]
        rcases cutE_cases l.length p (n : Int) with ⟨_, h4⟩ | ⟨_, h4⟩ | ⟨i, m, hp, hn, h5, h4⟩
        · exact .inr (.inr (.inl ⟨by omega, by omega, by omega, by rw [if_pos (by omega)]⟩))
        · exact .inr (.inr (.inl ⟨by omega, by omega, by omega, by rw [if_pos (by omega)]⟩))
        · obtain rfl : n = m := by omega
          refine .inr (.inr (.inr ⟨by omega, by omega, i, hp, h5, ?_⟩))
          rw [if_neg (by omega), hp, cutL_ok h5]
  · exact .inl ⟨h1, by rw [if_pos h1]⟩

set_option maxHeartbeats 1000000 in
theorem getRow_any (v : Value) (l : List UInt8) (at_ most : Int) (w : World) (h : Rd w v l) (hr : l.length ≤ 140737488355328) (hmo : most ≤ 9223372036854775807) :
    Calls Tryd.prog 59 #[v, .int .i64 at_, .int .i64 most] w fun e w' => ∃ v', e = .returned (.tuple #[v', .int .i64 (gr l at_ most).2.1, .int .i64 (gr l at_ most).2.2]) ∧ Own w.heap.size w' v' (gr l at_ most).1 ∧ Nx w w' := by
  have HG := getCount_any v l at_ w h hr
  obtain ⟨n, p, E, hg, ⟨h1, h2⟩ | ⟨rfl, ⟨h1, h2⟩ | ⟨h1, h3, h2⟩ | ⟨h1, h3, h4, h2⟩ | ⟨h1, h3, i, rfl, h4, h2⟩⟩⟩ := gr_cases l at_ most
  all_goals
    rw [hg] at HG
    have HG := Lib.hid HG
    rw [h2]
    clear h2 hg
  · have ht : (E != 0) = true := by simpa using h1
    clear h1
    go_enter Tryd.func59, Tryd.ntmps59
    go_wp2_with fail
    refine HG.out.mono ?_
    rintro e w' ⟨rfl, rfl⟩
    go_wp2
    go_ret3
    exact ⟨_, rfl, Own.nil _ _, Nx.refl _⟩
  · go_enter Tryd.func59, Tryd.ntmps59
    go_wp2_with fail
    refine HG.out.mono ?_
    rintro e w' ⟨rfl, rfl⟩
    go_wp2
    go_ret3
    exact ⟨_, rfl, Own.nil _ _, Nx.refl _⟩
  · go_enter Tryd.func59, Tryd.ntmps59
    go_wp2_with fail
    refine HG.out.mono ?_
    rintro e w' ⟨rfl, rfl⟩
    go_wp2
    go_ret3
    exact ⟨_, rfl, Own.nil _ _, Nx.refl _⟩
  · have HP := part_any v l p n w h hr
    rw [cutL_bad h4] at HP
    have HP := Lib.hid HP
    have ht := bne_iff_ne.2 h4
    clear h4
    show Calls _ _ _ _ fun e w' => ∃ v', e = .returned (.tuple #[v', .int .i64 0, .int .i64 (cutE l.length p n)]) ∧ Own w.heap.size w' v' [] ∧ Nx w w'
    generalize cutE l.length p n = E at *
    go_enter Tryd.func59, Tryd.ntmps59
    go_wp2_with fail
    refine HG.out.mono ?_
    rintro e w' ⟨rfl, rfl⟩
    go_wp2_with fail
    refine HP.out.mono ?_
    rintro e w1 ⟨v1, rfl, hown, hb⟩
    go_wp2
    go_ret3
    exact ⟨_, rfl, Own.nil _ _, hb⟩
  · have HP := part_any v l i n w h hr
    rw [cutL_ok h4, cutE_ok h4] at HP
    have HP := Lib.hid HP
    have HL := Lib.hid (cutL_len h4)
    have hin : (i : Int) + (n : Int) ≤ 140737488355328 := by omega
    show Calls _ _ _ _ fun e w' => ∃ v', e = .returned (.tuple #[v', .int .i64 ((i : Int) + (n : Int)), .int .i64 0]) ∧ Own w.heap.size w' v' ((l.drop i).take n) ∧ Nx w w'
    generalize (l.drop i).take n = L at *
    go_enter Tryd.func59, Tryd.ntmps59
    go_wp2_with fail
    refine HG.out.mono ?_
    rintro e w' ⟨rfl, rfl⟩
    go_wp2_with fail
    refine HP.out.mono ?_
    rintro e w1 ⟨v1, rfl, hown, hb⟩
    obtain ⟨A1, c1, rfl, _, _, _⟩ := hown.rd
    have hLn := HL.out
    rw [hLn] at hown
    go_wp2
    go_ret3
    exact ⟨_, rfl, hown, hb⟩

end Go.Proofs.YtpijehaciomkhaaDoor
end

section
namespace Go.Proofs.YtpijehaciomkhaaDoor

theorem drop_take_mid (pre x rest : List UInt8) : ((pre ++ x ++ rest).drop pre.length).take x.length = x := by
  rw [List.append_assoc, List.drop_left', List.take_left']
  · rfl
  · rfl

theorem getE_mid (pre x rest : List UInt8) (i m : Nat) (hi : i = pre.length) (hm : m = x.length) (hs : isSz (m : Int) = true) : getE (pre ++ x ++ rest).length (i : Int) (m : Int) = 0 := by
  subst hi
  subst hm
  unfold getE
  rw [if_pos hs, cutE_ok (by simp)]
theorem getN_mid (pre x rest : List UInt8) (i m : Nat) (hi : i = pre.length) (hm : m = x.length) (hs : isSz (m : Int) = true) : getN (pre ++ x ++ rest) (i : Int) (m : Int) = num x := by
  subst hi
  subst hm
  unfold getN
  rw [if_pos hs, cutL_ok (by simp), drop_take_mid]

theorem num_one (x : UInt8) : num [x] = x.toNat := by simp [num]

theorem low_behind {n : Nat} (hn : (n : Int) ≤ 18446744073709551615) : num (low n (behind n)) = n ∨ behind n = 0 := by
  rcases behind_cases n with ⟨_, h⟩ | ⟨_, h1, h⟩ | ⟨_, h1, h⟩ | ⟨_, h⟩
  · exact .inr h
  · rw [h]; exact .inl (num_low _ _ (by omega))
  · rw [h]; exact .inl (num_low _ _ (by omega))
  · rw [h]; exact .inl (num_low _ _ (by omega))

/-- A count is got where it stands. -/
theorem gc_count (pre rest : List UInt8) (n : Nat) (hn : (n : Int) ≤ 18446744073709551615) :
    gc (pre ++ countL n ++ rest) (pre.length : Int) = (n, (pre.length : Int) + ((countL n).length : Int), 0) := by
  by_cases h0 : behind n = 0
  · have hlt : n < 253 := by
      rcases behind_cases n with ⟨h1, _⟩ | ⟨_, _, h⟩ | ⟨_, _, h⟩ | ⟨_, h⟩ <;> omega
    have hc : countL n = [UInt8.ofNat n] := by unfold countL; rw [if_pos h0]
    rw [hc]
    have hE := getE_mid pre [UInt8.ofNat n] rest pre.length 1 rfl rfl (by decide)
    have hN := getN_mid pre [UInt8.ofNat n] rest pre.length 1 rfl rfl (by decide)
    have hv : num [UInt8.ofNat n] = n := by rw [num_one, UInt8.toNat_ofNat']; omega
    rw [hv] at hN
    unfold gc
    rw [if_neg (by simpa using hE), show getN (pre ++ [UInt8.ofNat n] ++ rest) (pre.length : Int) 1 = n from hN, if_pos hlt]
    rfl
  · have hb := (low_behind hn).resolve_right h0
    have hc : countL n = mark (behind n) :: low n (behind n) := by unfold countL; rw [if_neg h0]
    have hb3 : behind n = 2 ∨ behind n = 4 ∨ behind n = 8 := by
      rcases behind_cases n with ⟨_, h⟩ | ⟨_, _, h⟩ | ⟨_, _, h⟩ | ⟨_, h⟩ <;> omega
    have hE := getE_mid pre [mark (behind n)] (low n (behind n) ++ rest) pre.length 1 rfl rfl (by decide)
    have hN := getN_mid pre [mark (behind n)] (low n (behind n) ++ rest) pre.length 1 rfl rfl (by decide)
    have hsz : isSz ((behind n : Nat) : Int) = true := by rcases hb3 with h | h | h <;> rw [h] <;> decide
    have hE2 := getE_mid (pre ++ [mark (behind n)]) (low n (behind n)) rest (pre.length + 1) (behind n) (by simp) (by simp) hsz
    have hN2 := getN_mid (pre ++ [mark (behind n)]) (low n (behind n)) rest (pre.length + 1) (behind n) (by simp) (by simp) hsz
    have e1 : pre ++ [mark (behind n)] ++ (low n (behind n) ++ rest) = pre ++ countL n ++ rest := by rw [hc]; simp
    have e2 : pre ++ [mark (behind n)] ++ low n (behind n) ++ rest = pre ++ countL n ++ rest := by rw [hc]; simp
    rw [e1] at hE hN
    rw [e2] at hE2 hN2
    rw [hb] at hN2
    have hmk : num [mark (behind n)] ≥ 253 ∧ csz (num [mark (behind n)]) = behind n := by
      rcases hb3 with h | h | h <;> rw [h] <;> decide
    have hN' : getN (pre ++ countL n ++ rest) (pre.length : Int) 1 = num [mark (behind n)] := hN
    have hE2' : getE (pre ++ countL n ++ rest).length ((pre.length : Int) + 1) (behind n : Nat) = 0 := by simpa using hE2
    have hN2' : getN (pre ++ countL n ++ rest) ((pre.length : Int) + 1) (behind n : Nat) = n := by simpa using hN2
    unfold gc
    rw [if_neg (by simpa using hE), hN', if_neg (by omega), hmk.2, if_neg (by simpa using hE2'), hN2', if_neg (by simp), countL_length]
    simp
    omega

/-- No count begins another one. -/
theorem count_one {n m : Nat} {r : List UInt8} (hn : (n : Int) ≤ 18446744073709551615) (hm : (m : Int) ≤ 18446744073709551615) (h : countL m = countL n ++ r) : n = m := by
  have h1 := gc_count [] r n hn
  have h2 := gc_count [] [] m hm
  simp only [List.nil_append, List.append_nil] at h1 h2
  rw [← h, h2] at h1
  exact (Prod.mk.injEq .. ▸ h1).1.symm

/-- What is got as a count is the count of what is got. -/
theorem count_got {l : List UInt8} {n : Nat} {p : Int} (h : gc l 0 = (n, p, 0)) : 1 ≤ p ∧ p ≤ (l.length : Int) ∧ countL n = l.take p.toNat ∧ p.toNat ≤ l.length := by
  rcases gc_cases l 0 with ⟨h1, h2⟩ | ⟨i, hi, h0, h1, hn, ⟨h2, h3⟩ | ⟨f, s, h2, h4, ⟨h5, h6⟩ | ⟨h5, h7, h6⟩ | ⟨h5, h8, h7, h6⟩⟩⟩
  · rw [h] at h2
    simp only [Prod.mk.injEq] at h2
    omega
  · obtain rfl : i = 0 := by omega
    rw [h] at h3
    simp only [Prod.mk.injEq] at h3
    obtain ⟨rfl, hp, _⟩ := h3
    have hp1 : p = 1 := by omega
    subst hp1
    refine ⟨by omega, by omega, ?_, by omega⟩
    have hx := l[0].toNat_lt
    have hb : behind l[0].toNat = 0 := by unfold behind; rw [if_pos h2]
    unfold countL
    rw [if_pos hb]
    cases l with
    | nil => simp at hi
    | cons x t => simp
  · rw [h] at h6
    simp only [Prod.mk.injEq] at h6
    omega
  · rw [h] at h6
    simp only [Prod.mk.injEq] at h6
    omega
  · obtain rfl : i = 0 := by omega
    rw [h] at h6
    simp only [Prod.mk.injEq] at h6
    obtain ⟨hnn, hp, _⟩ := h6
    have hps : p = ((1 + s : Nat) : Int) := by omega
    subst hps
    have hsz : isSz ((s : Nat) : Int) = true := by rcases h4 with ⟨_, rfl⟩ | ⟨_, rfl⟩ | ⟨_, rfl⟩ <;> decide
    have hN : getN l (0 + 1) (s : Nat) = num ((l.drop 1).take s) := by
      unfold getN
      rw [if_pos hsz]
      have := cutL_ok (l := l) (i := 1) (m := s) (by omega)
      rw [show ((0 : Int) + 1) = ((1 : Nat) : Int) from rfl, this]
    rw [← hnn] at h7
    refine ⟨by omega, by omega, ?_, by simp; omega⟩
    have hl : ((l.drop 1).take s).length = s := by simp; omega
    have hs0 : s ≠ 0 := by omega
    unfold countL
    rw [if_neg (by omega), h7, hnn, hN]
    have hlow : low (num ((l.drop 1).take s)) s = (l.drop 1).take s := by
      have := low_num ((l.drop 1).take s)
      rwa [hl] at this
    rw [hlow]
    cases l with
    | nil => simp at hi
    | cons x t =>
      have hx : x.toNat = f := by simpa using h2
      have hm : mark s = x := by
        apply UInt8.toNat_inj.1
        rw [hx]
        rcases h4 with ⟨rfl, rfl⟩ | ⟨rfl, rfl⟩ | ⟨rfl, rfl⟩ <;> decide
      rw [hm, Int.toNat_natCast, Nat.add_comm]
      simp

/-- A row is got where it stands. -/
theorem gr_row (pre row rest : List UInt8) (hn : (row.length : Int) ≤ 18446744073709551615) :
    gr (pre ++ rowL row ++ rest) (pre.length : Int) (row.length : Int) = (row, (pre.length : Int) + ((rowL row).length : Int), 0) := by
  have h1 := gc_count pre (row ++ rest) row.length hn
  have e1 : pre ++ countL row.length ++ (row ++ rest) = pre ++ rowL row ++ rest := by simp [rowL]
  rw [e1] at h1
  have e2 : pre ++ rowL row ++ rest = (pre ++ countL row.length) ++ row ++ rest := by simp [rowL]
  have hl : (pre ++ countL row.length).length + row.length ≤ (pre ++ rowL row ++ rest).length := by rw [e2]; simp; omega
  have hp : (pre.length : Int) + ((countL row.length).length : Int) = (((pre ++ countL row.length).length : Nat) : Int) := by simp
  unfold gr
  rw [h1]
  simp only []
  rw [if_neg (by simp), if_neg (by omega), hp, cutE_ok hl, if_neg (by simp), cutL_ok hl, e2, drop_take_mid]
  simp [rowL]
  omega
end Go.Proofs.YtpijehaciomkhaaDoor
end
