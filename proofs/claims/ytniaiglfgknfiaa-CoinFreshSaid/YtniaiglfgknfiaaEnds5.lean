/- CONTRACTS OF LAYER 1: GetCount of both. -/
import Derived.Test.YtniaiglfgknfiaaEnds4
namespace Go.Proofs.Ytniaiglfgknfiaa
open Go.RowKit

def csz (f : Nat) : Nat := if f = 253 then 2 else if f = 254 then 4 else 8
/-- What GetCount tells: the number, the place behind it, the error. -/
def gc (l : List UInt8) (at_ : Int) : Nat × Int × Int :=
  if getE l.length at_ 1 ≠ 0 then (0, 0, getE l.length at_ 1)
  else if getN l at_ 1 < 253 then (getN l at_ 1, at_ + 1, 0)
  else if getE l.length (at_ + 1) (csz (getN l at_ 1) : Nat) ≠ 0 then (0, 0, getE l.length (at_ + 1) (csz (getN l at_ 1) : Nat))
  else if behind (getN l (at_ + 1) (csz (getN l at_ 1) : Nat)) ≠ csz (getN l at_ 1) then (0, 0, 5)
  else (getN l (at_ + 1) (csz (getN l at_ 1) : Nat), at_ + 1 + (csz (getN l at_ 1) : Nat), 0)

theorem get1_ok {l : List UInt8} {at_ : Int} (h : getE l.length at_ 1 = 0) : ∃ (i : Nat) (hi : i < l.length), at_ = i ∧ getN l at_ 1 = l[i].toNat := by
  rcases get_cases l at_ 1 with ⟨_, h2, _⟩ | ⟨_, _, h2, _⟩ | ⟨_, _, h2, _⟩ | ⟨i, m, rfl, hm, _, _, h4, _, h3⟩
  · omega
  · omega
  · omega
  · obtain rfl : m = 1 := by omega
    refine ⟨i, by omega, rfl, ?_⟩
    rw [h3, List.drop_eq_getElem_cons (show i < l.length by omega)]
    show num [l[i]] = _
    simp [num]

theorem get_is (v : Value) (l : List UInt8) (at_ s : Int) (n : Nat) (z E : Int) (w : World) (h : Rd w v l) (hn : getN l at_ s = n) (hz : (n : Int) = z) (hE : getE l.length at_ s = E) :
    Calls Try.prog 41 #[v, .int .i64 at_, .int .i64 s] w fun e w' => e = .returned (.tuple #[.int .u64 z, .int .i64 E]) ∧ w = w' := by
  subst hn
  subst hz
  subst hE
  exact get_any v l at_ s w h
theorem refGet_is (v : Value) (l : List UInt8) (at_ s : Int) (n : Nat) (z E : Int) (w : World) (h : Rd w v l) (hr : l.length ≤ 140737488355328) (hn : getN l at_ s = n) (hz : (n : Int) = z) (hE : getE l.length at_ s = E) :
    Calls Try.prog 43 #[v, .int .i64 at_, .int .i64 s] w fun e w' => e = .returned (.tuple #[.int .u64 z, .int .i64 E]) ∧ Nx w w' := by
  subst hn
  subst hz
  subst hE
  exact refGet_any v l at_ s w h hr

/-- The ways of GetCount. -/
theorem gc_cases (l : List UInt8) (at_ : Int) :
    (getE l.length at_ 1 ≠ 0 ∧ gc l at_ = (0, 0, getE l.length at_ 1)) ∨
    (∃ (i : Nat) (hi : i < l.length), at_ = i ∧ getE l.length at_ 1 = 0 ∧ getN l at_ 1 = l[i].toNat ∧
      ((l[i].toNat < 253 ∧ gc l at_ = (l[i].toNat, (i : Int) + 1, 0)) ∨
       (∃ f s : Nat, l[i].toNat = f ∧ ((f = 253 ∧ s = 2) ∨ (f = 254 ∧ s = 4) ∨ (f = 255 ∧ s = 8)) ∧
        ((getE l.length (at_ + 1) (s : Nat) ≠ 0 ∧ gc l at_ = (0, 0, getE l.length (at_ + 1) (s : Nat))) ∨
         (getE l.length (at_ + 1) (s : Nat) = 0 ∧ behind (getN l (at_ + 1) (s : Nat)) ≠ s ∧ gc l at_ = (0, 0, 5)) ∨
         (getE l.length (at_ + 1) (s : Nat) = 0 ∧ i + 1 + s ≤ l.length ∧ behind (getN l (at_ + 1) (s : Nat)) = s ∧ gc l at_ = (getN l (at_ + 1) (s : Nat), (i : Int) + 1 + (s : Nat), 0)))))) := by
  by_cases h1 : getE l.length at_ 1 = 0
  · obtain ⟨i, hi, rfl, hn⟩ := get1_ok h1
    refine .inr ⟨i, hi, rfl, h1, hn, ?_⟩
    have hx := l[i].toNat_lt
    unfold gc
    rw [if_neg (by omega), hn]
    by_cases h2 : l[i].toNat < 253
    · exact .inl ⟨h2, by rw [if_pos h2]⟩
    · refine .inr ⟨l[i].toNat, csz l[i].toNat, rfl, ?_, ?_⟩
      · unfold csz
        split
        · omega
        · split <;> omega
      · rw [if_neg h2]
        by_cases h3 : getE l.length ((i : Int) + 1) (csz l[i].toNat : Nat) = 0
        · rw [if_neg (by omega)]
          by_cases h4 : behind (getN l ((i : Int) + 1) (csz l[i].toNat : Nat)) = csz l[i].toNat
          · rw [if_neg (by omega)]
            refine .inr (.inr ⟨h3, ?_, h4, rfl⟩)
            have h5 := h3
            unfold getE at h5
            split at h5
            · unfold cutE at h5
              split at h5
              · omega
              · split at h5 <;> omega
            · omega
          · rw [if_pos h4]
            exact .inr (.inl ⟨h3, h4, rfl⟩)
        · rw [if_pos h3]
          exact .inl ⟨h3, rfl⟩
  · refine .inl ⟨h1, ?_⟩
    unfold gc
    rw [if_pos h1]

set_option maxHeartbeats 1000000 in
theorem getCount_any (v : Value) (l : List UInt8) (at_ : Int) (w : World) (h : Rd w v l) (hr : l.length ≤ 140737488355328) :
    Calls Try.prog 58 #[v, .int .i64 at_] w fun e w' => e = .returned (.tuple #[.int .u64 ((gc l at_).1 : Int), .int .i64 (gc l at_).2.1, .int .i64 (gc l at_).2.2]) ∧ w = w' := by
  rcases gc_cases l at_ with ⟨h1, h2⟩ | ⟨i, hi, rfl, h1, hn, ⟨h2, h3⟩ | ⟨f, s, h2, h4, ⟨h5, h6⟩ | ⟨h5, h7, h6⟩ | ⟨h5, h8, h7, h6⟩⟩⟩
  · rw [h2]
    have HG := Lib.hid (get_any v l at_ 1 w h)
    have ht : (getE l.length at_ 1 != 0) = true := by simpa using h1
    clear h2 h1
    generalize getE l.length at_ 1 = E at *
    go_enter Try.func58, Try.ntmps58
    go_wp2_with fail
    refine HG.out.mono ?_
    rintro e w' ⟨rfl, rfl⟩
    go_wp2
    go_ret3
    exact ⟨rfl, rfl⟩
  · rw [h3]
    have HG := Lib.hid (get_is v l i 1 _ _ 0 w h hn rfl h1)
    have h2' : (l[i].toNat : Int) < 253 := by omega
    clear h3 h1 hn h2
    go_enter Try.func58, Try.ntmps58
    go_wp2_with fail
    refine HG.out.mono ?_
    rintro e w' ⟨rfl, rfl⟩
    go_wp2
    go_ret3
    exact ⟨rfl, rfl⟩
  all_goals rw [h2] at hn
  · rw [h6]
    rcases h4 with ⟨rfl, rfl⟩ | ⟨rfl, rfl⟩ | ⟨rfl, rfl⟩
    · have HG := Lib.hid (get_is v l i 1 _ 253 0 w h hn rfl h1)
      have HG2 := Lib.hid (get_any v l (i + 1) 2 w h)
      have h5' : getE l.length ((i : Int) + 1) 2 ≠ 0 := h5
      have ht := bne_iff_ne.2 h5'
      show Calls _ _ _ _ fun e w' => e = .returned (.tuple #[.int .u64 0, .int .i64 0, .int .i64 (getE l.length ((i : Int) + 1) 2)]) ∧ w = w'
      clear h5 h5' h6 h2 h1 hn
      generalize getE l.length ((i : Int) + 1) 2 = E at *
      go_enter Try.func58, Try.ntmps58
      go_wp2_with fail
      refine HG.out.mono ?_
      rintro e w' ⟨rfl, rfl⟩
      go_wp2_with fail
      refine HG2.out.mono ?_
      rintro e w' ⟨rfl, rfl⟩
      go_wp2
      go_ret3
      exact ⟨rfl, rfl⟩
    · have HG := Lib.hid (get_is v l i 1 _ 254 0 w h hn rfl h1)
      have HG2 := Lib.hid (get_any v l (i + 1) 4 w h)
      have h5' : getE l.length ((i : Int) + 1) 4 ≠ 0 := h5
      have ht := bne_iff_ne.2 h5'
      show Calls _ _ _ _ fun e w' => e = .returned (.tuple #[.int .u64 0, .int .i64 0, .int .i64 (getE l.length ((i : Int) + 1) 4)]) ∧ w = w'
      clear h5 h5' h6 h2 h1 hn
      generalize getE l.length ((i : Int) + 1) 4 = E at *
      go_enter Try.func58, Try.ntmps58
      go_wp2_with fail
      refine HG.out.mono ?_
      rintro e w' ⟨rfl, rfl⟩
      go_wp2_with fail
      refine HG2.out.mono ?_
      rintro e w' ⟨rfl, rfl⟩
      go_wp2
      go_ret3
      exact ⟨rfl, rfl⟩
    · have HG := Lib.hid (get_is v l i 1 _ 255 0 w h hn rfl h1)
      have HG2 := Lib.hid (get_any v l (i + 1) 8 w h)
      have h5' : getE l.length ((i : Int) + 1) 8 ≠ 0 := h5
      have ht := bne_iff_ne.2 h5'
      show Calls _ _ _ _ fun e w' => e = .returned (.tuple #[.int .u64 0, .int .i64 0, .int .i64 (getE l.length ((i : Int) + 1) 8)]) ∧ w = w'
      clear h5 h5' h6 h2 h1 hn
      generalize getE l.length ((i : Int) + 1) 8 = E at *
      go_enter Try.func58, Try.ntmps58
      go_wp2_with fail
      refine HG.out.mono ?_
      rintro e w' ⟨rfl, rfl⟩
      go_wp2_with fail
      refine HG2.out.mono ?_
      rintro e w' ⟨rfl, rfl⟩
      go_wp2
      go_ret3
      exact ⟨rfl, rfl⟩
  · rw [h6]
    rcases h4 with ⟨rfl, rfl⟩ | ⟨rfl, rfl⟩ | ⟨rfl, rfl⟩
    · have HG := Lib.hid (get_is v l i 1 _ 253 0 w h hn rfl h1)
      have HG2 := Lib.hid (get_is v l (i + 1) 2 _ _ 0 w h rfl rfl h5)
      have h7' : behind (getN l ((i : Int) + 1) 2) ≠ 2 := h7
      generalize getN l ((i : Int) + 1) 2 = q at *
      have ht : ((behind q : Int) != 2) = true := bne_iff_ne.2 (by omega)
      clear h5 h6 h2 h1 hn h7 h7'
      go_enter Try.func58, Try.ntmps58
      go_wp2_with fail
      refine HG.out.mono ?_
      rintro e w' ⟨rfl, rfl⟩
      go_wp2_with fail
      refine HG2.out.mono ?_
      rintro e w' ⟨rfl, rfl⟩
      go_wp2_with fail
      refine (sizeBehind_any q w).mono ?_
      rintro e w' ⟨rfl, rfl⟩
      go_wp2
      go_ret3
      exact ⟨rfl, rfl⟩
    · have HG := Lib.hid (get_is v l i 1 _ 254 0 w h hn rfl h1)
      have HG2 := Lib.hid (get_is v l (i + 1) 4 _ _ 0 w h rfl rfl h5)
      have h7' : behind (getN l ((i : Int) + 1) 4) ≠ 4 := h7
      generalize getN l ((i : Int) + 1) 4 = q at *
      have ht : ((behind q : Int) != 4) = true := bne_iff_ne.2 (by omega)
      clear h5 h6 h2 h1 hn h7 h7'
      go_enter Try.func58, Try.ntmps58
      go_wp2_with fail
      refine HG.out.mono ?_
      rintro e w' ⟨rfl, rfl⟩
      go_wp2_with fail
      refine HG2.out.mono ?_
      rintro e w' ⟨rfl, rfl⟩
      go_wp2_with fail
      refine (sizeBehind_any q w).mono ?_
      rintro e w' ⟨rfl, rfl⟩
      go_wp2
      go_ret3
      exact ⟨rfl, rfl⟩
    · have HG := Lib.hid (get_is v l i 1 _ 255 0 w h hn rfl h1)
      have HG2 := Lib.hid (get_is v l (i + 1) 8 _ _ 0 w h rfl rfl h5)
      have h7' : behind (getN l ((i : Int) + 1) 8) ≠ 8 := h7
      generalize getN l ((i : Int) + 1) 8 = q at *
      have ht : ((behind q : Int) != 8) = true := bne_iff_ne.2 (by omega)
      clear h5 h6 h2 h1 hn h7 h7'
      go_enter Try.func58, Try.ntmps58
      go_wp2_with fail
      refine HG.out.mono ?_
      rintro e w' ⟨rfl, rfl⟩
      go_wp2_with fail
      refine HG2.out.mono ?_
      rintro e w' ⟨rfl, rfl⟩
      go_wp2_with fail
      refine (sizeBehind_any q w).mono ?_
      rintro e w' ⟨rfl, rfl⟩
      go_wp2
      go_ret3
      exact ⟨rfl, rfl⟩
  · rw [h6]
    rcases h4 with ⟨rfl, rfl⟩ | ⟨rfl, rfl⟩ | ⟨rfl, rfl⟩
    · have HG := Lib.hid (get_is v l i 1 _ 253 0 w h hn rfl h1)
      have HG2 := Lib.hid (get_is v l (i + 1) 2 _ _ 0 w h rfl rfl h5)
      have h7' : behind (getN l ((i : Int) + 1) 2) = 2 := h7
      have hi1 : (i : Int) + 1 + 2 ≤ 9223372036854775807 := by omega
      show Calls _ _ _ _ fun e w' => e = .returned (.tuple #[.int .u64 (getN l ((i : Int) + 1) 2 : Int), .int .i64 ((i : Int) + 1 + 2), .int .i64 0]) ∧ w = w'
      generalize getN l ((i : Int) + 1) 2 = q at *
      have HS := Lib.hid (sizeBehind_is q 2 2 h7' rfl w)
      clear h5 h6 h2 h1 hn h7 h7'
      go_enter Try.func58, Try.ntmps58
      go_wp2_with fail
      refine HG.out.mono ?_
      rintro e w' ⟨rfl, rfl⟩
      go_wp2_with fail
      refine HG2.out.mono ?_
      rintro e w' ⟨rfl, rfl⟩
      go_wp2_with fail
      refine HS.out.mono ?_
      rintro e w' ⟨rfl, rfl⟩
      go_wp2
      go_ret3
      exact ⟨rfl, rfl⟩
    · have HG := Lib.hid (get_is v l i 1 _ 254 0 w h hn rfl h1)
      have HG2 := Lib.hid (get_is v l (i + 1) 4 _ _ 0 w h rfl rfl h5)
      have h7' : behind (getN l ((i : Int) + 1) 4) = 4 := h7
      have hi1 : (i : Int) + 1 + 4 ≤ 9223372036854775807 := by omega
      show Calls _ _ _ _ fun e w' => e = .returned (.tuple #[.int .u64 (getN l ((i : Int) + 1) 4 : Int), .int .i64 ((i : Int) + 1 + 4), .int .i64 0]) ∧ w = w'
      generalize getN l ((i : Int) + 1) 4 = q at *
      have HS := Lib.hid (sizeBehind_is q 4 4 h7' rfl w)
      clear h5 h6 h2 h1 hn h7 h7'
      go_enter Try.func58, Try.ntmps58
      go_wp2_with fail
      refine HG.out.mono ?_
      rintro e w' ⟨rfl, rfl⟩
      go_wp2_with fail
      refine HG2.out.mono ?_
      rintro e w' ⟨rfl, rfl⟩
      go_wp2_with fail
      refine HS.out.mono ?_
      rintro e w' ⟨rfl, rfl⟩
      go_wp2
      go_ret3
      exact ⟨rfl, rfl⟩
    · have HG := Lib.hid (get_is v l i 1 _ 255 0 w h hn rfl h1)
      have HG2 := Lib.hid (get_is v l (i + 1) 8 _ _ 0 w h rfl rfl h5)
      have h7' : behind (getN l ((i : Int) + 1) 8) = 8 := h7
      have hi1 : (i : Int) + 1 + 8 ≤ 9223372036854775807 := by omega
      show Calls _ _ _ _ fun e w' => e = .returned (.tuple #[.int .u64 (getN l ((i : Int) + 1) 8 : Int), .int .i64 ((i : Int) + 1 + 8), .int .i64 0]) ∧ w = w'
      generalize getN l ((i : Int) + 1) 8 = q at *
      have HS := Lib.hid (sizeBehind_is q 8 8 h7' rfl w)
      clear h5 h6 h2 h1 hn h7 h7'
      go_enter Try.func58, Try.ntmps58
      go_wp2_with fail
      refine HG.out.mono ?_
      rintro e w' ⟨rfl, rfl⟩
      go_wp2_with fail
      refine HG2.out.mono ?_
      rintro e w' ⟨rfl, rfl⟩
      go_wp2_with fail
      refine HS.out.mono ?_
      rintro e w' ⟨rfl, rfl⟩
      go_wp2
      go_ret3
      exact ⟨rfl, rfl⟩
end Go.Proofs.Ytniaiglfgknfiaa
