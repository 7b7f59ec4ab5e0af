/- CONTRACTS OF LAYER 1: Count of both. -/
import Derived.Test.YtniaiglfgknfiaaEnds3
namespace Go.Proofs.Ytniaiglfgknfiaa
open Go.RowKit

def mark (s : Nat) : UInt8 := if s = 2 then 253 else if s = 4 then 254 else 255
/-- A count's bytes. -/
def countL (n : Nat) : List UInt8 := if behind n = 0 then [UInt8.ofNat n] else mark (behind n) :: low n (behind n)

theorem behind_cases (n : Nat) : ((n : Int) < 253 ∧ behind n = 0) ∨ (253 ≤ (n : Int) ∧ (n : Int) < 65536 ∧ behind n = 2) ∨
    (65536 ≤ (n : Int) ∧ (n : Int) < 4294967296 ∧ behind n = 4) ∨ (4294967296 ≤ (n : Int) ∧ behind n = 8) := by
  unfold behind
  split
  · exact .inl ⟨by omega, rfl⟩
  · split
    · exact .inr (.inl ⟨by omega, by omega, rfl⟩)
    · split
      · exact .inr (.inr (.inl ⟨by omega, by omega, rfl⟩))
      · exact .inr (.inr (.inr ⟨by omega, rfl⟩))

theorem sizeBehind_is (n : Nat) (s : Nat) (z : Int) (hs : behind n = s) (hz : (s : Int) = z) (w : World) : Calls Try.prog 62 #[.int .u64 (n : Int)] w fun e w' => e = .returned (.int .i64 z) ∧ w = w' := by
  subst hs
  subst hz
  exact sizeBehind_any n w

set_option maxHeartbeats 400000 in
theorem count_any (n : Nat) (w : World) :
    Calls Try.prog 52 #[.int .u64 (n : Int)] w fun e w' => ∃ v', e = .returned v' ∧ Own w.heap.size w' v' (countL n) ∧ Nx w w' := by
  rcases behind_cases n with ⟨h1, h2⟩ | ⟨_, _, h2⟩ | ⟨_, _, h2⟩ | ⟨_, h2⟩
  · have HS := Lib.hid (sizeBehind_is n 0 0 h2 rfl w)
    rw [show countL n = [UInt8.ofNat n] by simp [countL, h2]]
    have h1' : (n : Int) ≤ 255 := by omega
    have hv : (n : Int) = ((UInt8.ofNat n).toNat : Int) := by rw [UInt8.toNat_ofNat']; omega
    have HV := Lib.hid hv
    clear h1 h2 hv
    go_enter Try.func52, Try.ntmps52
    go_wp2_with fail
    refine HS.out.mono ?_
    rintro e w' ⟨rfl, rfl⟩
    go_wp2
    go_ret
    exact ⟨_, rfl, Own.one _ _ _ HV.out, (Nx.refl _).alloc _⟩
  · have HS := Lib.hid (sizeBehind_is n 2 2 h2 rfl w)
    rw [show countL n = [253] ++ low n 2 by simp [countL, h2, mark]]
    clear h2
    go_enter Try.func52, Try.ntmps52
    go_wp2_with fail
    refine HS.out.mono ?_
    rintro e w' ⟨rfl, rfl⟩
    go_wp2_with fail
    refine (lowFirst_any w.heap.size _ [253] n 2 _ (by omega) (by simp) (by simp) (Own.one _ _ _ rfl)).mono ?_
    rintro e w' ⟨v', rfl, hown, hb⟩
    go_wp2
    go_ret
    exact ⟨_, rfl, hown, Nx.app ((Nx.refl w).alloc _) hb⟩
  · have HS := Lib.hid (sizeBehind_is n 4 4 h2 rfl w)
    rw [show countL n = [254] ++ low n 4 by simp [countL, h2, mark]]
    clear h2
    go_enter Try.func52, Try.ntmps52
    go_wp2_with fail
    refine HS.out.mono ?_
    rintro e w' ⟨rfl, rfl⟩
    go_wp2_with fail
    refine (lowFirst_any w.heap.size _ [254] n 4 _ (by omega) (by simp) (by simp) (Own.one _ _ _ rfl)).mono ?_
    rintro e w' ⟨v', rfl, hown, hb⟩
    go_wp2
    go_ret
    exact ⟨_, rfl, hown, Nx.app ((Nx.refl w).alloc _) hb⟩
  · have HS := Lib.hid (sizeBehind_is n 8 8 h2 rfl w)
    rw [show countL n = [255] ++ low n 8 by simp [countL, h2, mark]]
    clear h2
    go_enter Try.func52, Try.ntmps52
    go_wp2_with fail
    refine HS.out.mono ?_
    rintro e w' ⟨rfl, rfl⟩
    go_wp2_with fail
    refine (lowFirst_any w.heap.size _ [255] n 8 _ (by omega) (by simp) (by simp) (Own.one _ _ _ rfl)).mono ?_
    rintro e w' ⟨v', rfl, hown, hb⟩
    go_wp2
    go_ret
    exact ⟨_, rfl, hown, Nx.app ((Nx.refl w).alloc _) hb⟩

set_option maxHeartbeats 400000 in
theorem refCount_any (n : Nat) (w : World) (hn : (n : Int) ≤ 18446744073709551615) :
    Calls Try.prog 54 #[.int .u64 (n : Int)] w fun e w' => ∃ v', e = .returned v' ∧ Own w.heap.size w' v' (countL n) ∧ Nx w w' := by
  rcases behind_cases n with ⟨h1, h2⟩ | ⟨h1, h3, h2⟩ | ⟨h1, h3, h2⟩ | ⟨h1, h2⟩
  · rw [show countL n = [UInt8.ofNat n] by simp [countL, h2]]
    have h1' : (n : Int) ≤ 255 := by omega
    have d1 : decide ((n : Int) < 253) = true := by simpa using h1
    have hv : (n : Int) = ((UInt8.ofNat n).toNat : Int) := by rw [UInt8.toNat_ofNat']; omega
    have HV := Lib.hid hv
    clear h1 h2 hv
    go_enter Try.func54, Try.ntmps54
    go_wp2
    go_ret
    exact ⟨_, rfl, Own.one _ _ _ HV.out, (Nx.refl _).alloc _⟩
  · rw [show countL n = [253] ++ low n 2 by simp [countL, h2, mark]]
    clear h2
    have d1 : decide ((n : Int) < 253) = false := by simp; omega
    have d2 : decide ((n : Int) < 65536) = true := by simp; omega
    clear h1 h3
    go_enter Try.func54, Try.ntmps54
    go_wp2_with fail
    refine (refLow_any n 2 _ hn (by omega)).mono ?_
    rintro e w1 ⟨v', rfl, hown, hb⟩
    have hlit := (Own.one w 253 253 rfl).nx hb
    have hn1 : Nx w w1 := ((Nx.refl w).alloc _).trans hb
    go_wp2_with (at_builtin; refine wpList_app rfl (.tmp 12) (.tmp 14) _ rfl Try.underlying29 info_u8 w.heap.size (.slice (some ⟨w.heap.size, 0, none⟩) 1 1) v' [253] (low n 2) rfl rfl hlit hown.rd ?c2 ?c3 ?_)
    case c2 => simp
    case c3 => exact hn1.size
    intro v2 w2 hown2 hb2 _
    go_wp2
    go_ret
    exact ⟨_, rfl, hown2, hn1.app hb2⟩
  · rw [show countL n = [254] ++ low n 4 by simp [countL, h2, mark]]
    clear h2
    have d1 : decide ((n : Int) < 253) = false := by simp; omega
    have d2 : decide ((n : Int) < 65536) = false := by simp; omega
    have d3 : decide ((n : Int) < 4294967296) = true := by simp; omega
    clear h1 h3
    go_enter Try.func54, Try.ntmps54
    go_wp2_with fail
    refine (refLow_any n 4 _ hn (by omega)).mono ?_
    rintro e w1 ⟨v', rfl, hown, hb⟩
    have hlit := (Own.one w 254 254 rfl).nx hb
    have hn1 : Nx w w1 := ((Nx.refl w).alloc _).trans hb
    go_wp2_with (at_builtin; refine wpList_app rfl (.tmp 19) (.tmp 21) _ rfl Try.underlying29 info_u8 w.heap.size (.slice (some ⟨w.heap.size, 0, none⟩) 1 1) v' [254] (low n 4) rfl rfl hlit hown.rd ?c2 ?c3 ?_)
    case c2 => simp
    case c3 => exact hn1.size
    intro v2 w2 hown2 hb2 _
    go_wp2
    go_ret
    exact ⟨_, rfl, hown2, hn1.app hb2⟩
  · rw [show countL n = [255] ++ low n 8 by simp [countL, h2, mark]]
    clear h2
    have d1 : decide ((n : Int) < 253) = false := by simp; omega
    have d2 : decide ((n : Int) < 65536) = false := by simp; omega
    have d3 : decide ((n : Int) < 4294967296) = false := by simp; omega
    clear h1
    go_enter Try.func54, Try.ntmps54
    go_wp2_with fail
    refine (refLow_any n 8 _ hn (by omega)).mono ?_
    rintro e w1 ⟨v', rfl, hown, hb⟩
    have hlit := (Own.one w 255 255 rfl).nx hb
    have hn1 : Nx w w1 := ((Nx.refl w).alloc _).trans hb
    go_wp2_with (at_builtin; refine wpList_app rfl (.tmp 23) (.tmp 25) _ rfl Try.underlying29 info_u8 w.heap.size (.slice (some ⟨w.heap.size, 0, none⟩) 1 1) v' [255] (low n 8) rfl rfl hlit hown.rd ?c2 ?c3 ?_)
    case c2 => simp
    case c3 => exact hn1.size
    intro v2 w2 hown2 hb2 _
    go_wp2
    go_ret
    exact ⟨_, rfl, hown2, hn1.app hb2⟩
end Go.Proofs.Ytniaiglfgknfiaa
