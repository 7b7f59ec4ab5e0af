/- LAYER 11: a push, a step: what the laws of layer 11 ask for besides. -/
import Derived.Test.YtbhoflmdhlchlaaRead4
import Derived.Test.YtbhoflmdhlchlaaStep8
import Derived.Test.YtbhoflmdhlchlaaStep9
namespace Go.Proofs.Ytbhoflmdhlchlaa
open Go Go.RowKit
set_option linter.unusedVariables false
set_option linter.unusedSimpArgs false
set_option linter.unusedVariables false
set_option linter.unusedSimpArgs false

theorem RdF.lits (w : World) (cs : List Value) (k m : Nat) (T : TypeId) (hk : cs.length = m * k) (hm : m ≤ 1000) (h1 : ∀ u ∈ cs, u.oneCell' = true) : RdF k (w.alloc (.cells cs.toArray T)) (.slice (some ⟨w.heap.size, 0, none⟩) m m) m cs := by
  refine ⟨hk, h1, _, _, rfl, Nat.le_refl _, by simp only [maxLen]; omega, fun _ => ⟨w.heap.size, 0, rfl, by simp, fun j hj => ?_⟩⟩
  rw [Nat.zero_add, World.cell?_alloc_at _ _ _ _ rfl]
  simp [List.getElem?_eq_getElem hj]
theorem step_some {w : World} {x : UInt8} {u : Value} {p : List UInt8} (h : Rd w u p) : AllE stepEl none w [.int .u8 (x.toNat : Int), u] [(x, p)] := AllE.single ⟨u, rfl, h, fun _ q hq => by cases hq⟩
set_option maxRecDepth 100000 in
set_option maxHeartbeats 4000000 in
theorem lives_any (w : World) : Calls Try.prog 20 #[] w fun e w' => e = .returned (.bool true) ∧ Nx w w' := by
  have e1 : putEr [(1, [7]), (7, [])] = 0 := by decide
  have e2 : putBs [(1, [7]), (7, [])] = [1, 7, 134] := by decide
  have e3 : readS [1, 7, 134] = ([(1, [7]), (7, [])], 0) := by decide
  have e4 : readS [255] = ([], 5) := by decide
  have e5 : putEr [(0, [])] = 2 := by decide
  have h1 := Rd.one w 7 7 5 rfl
  have NA := (Nx.refl w).alloc (.cells #[.int .u8 7] 5)
  have HS1 : (w.alloc (.cells #[.int .u8 7] 5)).heap.size = w.heap.size + 1 := by simp
  have HF := RdF.lits (w.alloc (.cells #[.int .u8 7] 5)) [.int .u8 1, .slice (some ⟨w.heap.size, 0, none⟩) 1 1, .int .u8 7, .slice none 0 0] 2 2 55 rfl (by decide) (by intro u hu; simp at hu; rcases hu with rfl | rfl | rfl | rfl <;> rfl)
  rw [HS1] at HF
  have HA : AllE stepEl none ((w.alloc (.cells #[.int .u8 7] 5)).alloc (.cells #[.int .u8 1, .slice (some ⟨w.heap.size, 0, none⟩) 1 1, .int .u8 7, .slice none 0 0] 55)) [.int .u8 1, .slice (some ⟨w.heap.size, 0, none⟩) 1 1, .int .u8 7, .slice none 0 0] [(1, [7]), (7, [])] :=
    AllE.append (step_some (x := 1) (h1.nx ((Nx.refl _).alloc _))) (step_some (x := 7) (Rd.nil _))
  have HE : RdE stepEl _ _ [(1, [7]), (7, [])] := ⟨_, HF, HA⟩
  have HP := Lib.hid (cput_any _ _ _ HE (by decide) (by decide))
  have NB := Lib.hid (NA.alloc (.cells #[.int .u8 1, .slice (some ⟨w.heap.size, 0, none⟩) 1 1, .int .u8 7, .slice none 0 0] 55))
  rw [e1, e2] at HP
  have HE3 := Lib.hid e3
  have HE4 := Lib.hid e4
  have HE5 := Lib.hid e5
  clear e1 e2 e3 e4 e5 h1 NA HF HA HE HS1
  go_enter Try.func20, Try.ntmps20
  go_wp2_with fail
  refine HP.out.mono ?_
  rintro e w1 ⟨v1, rfl, o1, n1⟩
  have HB := Lib.hid o1.rd
  have N1 := Lib.hid (NB.out.trans n1)
  have HR := Lib.hid (cread_any v1 _ _ o1.rd (by decide))
  rw [HE3.out] at HR
  obtain ⟨A1, c1, rfl, -, -, -⟩ := o1.rd
  clear o1 n1 HP NB
  go_wp2_with fail
  refine HR.out.mono ?_
  rintro e w2 ⟨v2, rfl, o2, n2⟩
  have HB2 := Lib.hid (HB.out.nx n2)
  have N2 := Lib.hid (N1.out.trans n2)
  obtain ⟨b, o, c2, u, hv2, hb2, g0, g1, -⟩ := step_at o2.rd 1 (by decide)
  subst hv2
  have G0 := Lib.hid g0
  have HB2L := Lib.hid hb2
  have H4 := Lib.hid (cread_any _ _ _ (Rd.one w2 255 255 5 rfl) (by decide))
  rw [HE4.out] at H4
  clear o2 n2 HR g0 g1 hb2
  go_wp2_with fail
  refine H4.out.mono ?_
  rintro e w3 ⟨v3, rfl, o3, n3⟩
  have N23 := Lib.hid (((Nx.refl w2).alloc (.cells #[.int .u8 255] 5)).trans n3)
  have HF3 := RdF.lits w3 [.int .u8 0, .slice none 0 0] 2 1 55 rfl (by decide) (by intro u hu; simp at hu; rcases hu with rfl | rfl <;> rfl)
  have HE6 : RdE stepEl _ _ [(0, [])] := ⟨_, HF3, step_some (x := 0) (Rd.nil _)⟩
  have H6 := Lib.hid (cput_any _ _ _ HE6 (by decide) (by decide))
  rw [HE5.out] at H6
  clear o3 n3 HF3 HE6 H4
  go_wp2_with fail
  refine H6.out.mono ?_
  rintro e w4 ⟨v4, rfl, o4, n4⟩
  have N24 := Lib.hid (N23.out.trans (((Nx.refl w3).alloc (.cells #[.int .u8 0, .slice none 0 0] 55)).trans n4))
  have HSM := Lib.hid (same_yes (.slice A1 3 c1) (.slice (some ⟨w4.heap.size, 0, none⟩) 3 3) [1, 7, 134] _ ((HB2.out.nx N24.out).alloc _) (Rd.three w4 1 7 134 1 7 134 rfl rfl rfl))
  clear o4 n4 H6 N23
  go_wp2_with fail
  refine HSM.out.mono ?_
  rintro e w5 ⟨rfl, n5⟩
  have N25 := Lib.hid (N24.out.trans (((Nx.refl w4).alloc (.cells #[.int .u8 1, .int .u8 7, .int .u8 134] 5)).trans n5))
  have k0 : w5.cell? ⟨b, o + 2, none⟩ = some (.int .u8 7) := (N25.out.cell (p := ⟨b, o + 1 * 2, none⟩) HB2L.out).trans G0.out
  clear n5 HSM G0
  go_wp2_with fail
  go_ret
  exact ⟨rfl, N2.out.trans N25.out⟩
end Go.Proofs.Ytbhoflmdhlchlaa
