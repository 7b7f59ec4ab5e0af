/- LAYER 6: the walk of CoinBack. -/
import Derived.Deep.DeepCutAuto
import Derived.Deep.RegionWith
import Derived.Test.YtniaiglfgknfiaaCoinB
import Derived.Test.YtniaiglfgknfiaaShaSl
import Derived.Test.YtniaiglfgknfiaaLawCoinGets
namespace Go.Proofs.Ytniaiglfgknfiaa
open Go Go.RowKit
set_option linter.unusedVariables false
set_option linter.unusedSimpArgs false
set_option linter.unusedVariables false
set_option linter.unusedSimpArgs false

set_option maxRecDepth 100000 in
set_option maxHeartbeats 8000000 in
theorem coinBack_law {w : World} (tx : List UInt8) (n h v : Nat) (b : Bool) (A : Option Addr) (l : List UInt8) (c : Nat) (ht : tx.length = 32) (hn : n < 65536) (hh : h < 4294967296) (hvv : (v : Int) ≤ 18446744073709551615) (hl : Rd w (.slice A l.length c) l) (hr : l.length ≤ 140737488351232)
    (v1 : Value) (ah : List UInt8) (h1 : Rd w v1 ah) (hr1 : ah.length ≤ 140737488351232) (v2 : Value) (be : List UInt8) (h2 : Rd w v2 be) (hr2 : be.length ≤ 140737488351232) (v3 : Value) (an : List UInt8) (h3 : Rd w v3 an) (hr3 : an.length ≤ 140737488351232)
    (hsum : ah.length + be.length + an.length ≤ 1048576) :
    Calls Try.prog 5 #[.agg (ccel tx n h v b (.slice A l.length c)), v1, v2, v3] w fun e w' => e = .returned (.bool true) ∧ Nx w w' := by
  have HC := Lib.hid (fun w hl => put_coin_any tx n h v b (.slice A l.length c) l w ht hn hh hl (by omega))
  obtain ⟨E, hE0⟩ : ∃ E, E = outE v l := ⟨_, rfl⟩
  rw [← hE0] at HC
  have HE := Lib.hid hE0
  clear hE0
  have HBK := Lib.hid (fun hm => coin_back tx n h v b l ah be ht hn hh hm)
  have HLT := Lib.hid ht
  have cz := Lib.hid (coinsz tx n h v b (.slice A l.length c) ht)
  have HS := Lib.hid hsum
  have HCL : Hid ((coinB tx n h v b l).length ≤ 200) := Lib.hid (by
    unfold coinB
    split
    · rename_i hm
      have := rowL_short l (mayB_true hm).2
      have := ptL_short tx n h ht
      have := putL_short v 8
      have := putL_short (if b = true then 1 else 0) 1
      simp only [List.length_append]
      omega
    · simp)
  have RC0 := Lib.hid (Row.new w (ccel tx n h v b (.slice A l.length c)) 31 _ rfl)
  have N0 := Lib.hid ((Nx.refl w).alloc (.cells (ccel tx n h v b (.slice A l.length c)) 31))
  have RL := Lib.hid (hl.nx N0.out)
  have h1' := h1.nx N0.out
  have h2' := h2.nx N0.out
  have h3' := h3.nx N0.out
  obtain ⟨A1, c1, rfl, -, -, -⟩ := h1
  obtain ⟨A2, c2, rfl, -, -, -⟩ := h2
  obtain ⟨A3, c3, rfl, hc3, hm3, -⟩ := h3
  obtain ⟨hz2, hzs2⟩ := zero_of_info info_coin
  have R0 := RC0.out
  clear hn hh hvv hl hr hr1 hr2 hr3 RC0 ht hsum
  go_enter Try.func5, Try.ntmps5
  go_upto_if 26 with (first | (refine wpList_load_row rfl 31 (.tmp 4) rfl w.heap.size rfl 31 (ccel tx n h v b (.slice A l.length c)) (0, 0) _ R0 Try.underlying31 rfl cz.out ?_) | (go_at_call 11; refine (HC.out _ RL.out).mono ?_; rintro e wp ⟨va, rfl, oa, na⟩))
  generalize w.alloc (.cells (ccel tx n h v b (.slice A l.length c)) 31) = W at *
  go_cut [8] (fun s wx => s = .bool false ∧ Nx W wx)
  case first =>
    rcases hb : mayB v l.length with _ | _
    · have hE : E = 2 := by rw [HE.out]; unfold outE; rw [hb]; rfl
      subst hE
      go_wp2_with fail
      go_meet
      exact ⟨rfl, na⟩
    · have hE : E = 0 := by rw [HE.out]; unfold outE; rw [hb]; rfl
      subst hE
      have HB := Lib.hid (HBK.out hb)
      clear hb
      have HG0 : Hid ((ah ++ coinB tx n h v b l ++ be).length ≤ 140737488355328) := Lib.hid (by have := HS.out; have := HCL.out; simp only [List.length_append]; omega)
      have HG : Hid (∀ (w : World) (v1 : Value), Rd w v1 (ah ++ coinB tx n h v b l ++ be) → Calls Try.prog 21 #[v1, .int .i64 (ah.length : Int)] w fun e w' => ∃ lk, e = .returned (.tuple #[.agg (ccel tx n h v b lk), .int .i64 ((ah.length : Int) + ((coinB tx n h v b l).length : Int)), .int .i64 0]) ∧ Own w.heap.size w' lk l ∧ Nx w w') := Lib.hid fun w v1 hrd => by
        have := get_coin_any v1 _ (ah.length : Int) w hrd HG0.out
        rw [HB.out] at this
        exact this
      clear HB HG0
      have ra := oa.rd
      generalize coinB tx n h v b l = L at *
      obtain ⟨Aa, ca, rfl, -, -, -⟩ := ra
      have r1 := h1'.nx na
      have r2 := h2'.nx na
      have R1 := R0.nx na
      have RL1 := Lib.hid (RL.out.nx na)
      go_wp2_with (first | (at_builtin; refine wpList_app rfl (.tmp 27) (.tmp 28) _ rfl Try.underlying29 info_u8p wp.heap.size (.slice none 0 0) (.slice A1 ah.length c1) [] ah rfl rfl (Own.nil _ _) r1 (by have := HS.out; simp; omega) (Nat.le_refl _) ?_; intro vx wx ox bx _) | (at_builtin; refine wpList_app rfl (.tmp 29) (.tmp 30) _ rfl Try.underlying29 info_u8p wp.heap.size vx (.slice Aa L.length ca) ([] ++ ah) L rfl rfl ox (oa.rd.nx bx) (by have := HS.out; have := HCL.out; simp; omega) bx.size ?_; intro vy wy oy bY _) | (at_builtin; refine wpList_app rfl (.tmp 31) (.tmp 32) _ rfl Try.underlying29 info_u8p wp.heap.size vy (.slice A2 be.length c2) ([] ++ ah ++ L) be rfl rfl oy (r2.nx (Nx.app bx bY)) (by have := HS.out; have := HCL.out; simp; omega) (Nat.le_trans bx.size bY.size) ?_; intro vz wz oz bz _))
      have nz := Nx.app (Nx.app bx bY) bz
      refine (HG.out _ _ (by simpa using oz.rd)).mono ?_
      rintro e w5 ⟨vl, rfl, o5, n5⟩
      have N5 := Lib.hid (nz.trans n5)
      have R2 := R1.nx N5.out
      have RL2 := Lib.hid (RL1.out.nx N5.out)
      have q5 := o5.rd
      have Q5 := Lib.hid q5
      obtain ⟨A5, c5, rfl, -, -⟩ := q5
      have x5 := Lib.hid (coinsz tx n h v b (.slice A5 l.length c5) HLT.out)
      have y5 : Hid ((ccel Z32 0 0 0 false (.slice none 0 0)).size = (ccel tx n h v b (.slice A5 l.length c5)).size) := Lib.hid (by rw [ccel_size _ _ _ _ _ _ HLT.out, ccel_size _ _ _ _ _ _ Z32_length])
      clear nz ox oy oz o5 n5 bx bY bz R1 RL1 oa
      have S5 : Nx w5 ((w5.alloc (.cells (ccel Z32 0 0 0 false (.slice none 0 0)) 31)).setRow w5.heap.size (ccel tx n h v b (.slice A5 l.length c5))) := ((Nx.refl w5).alloc _).setRow _ (Nat.le_refl _)
      have Z5 := Row.new w5 (ccel Z32 0 0 0 false (.slice none 0 0)) 31 _ rfl
      have R5 := Z5.setRow (ccel tx n h v b (.slice A5 l.length c5))
      have R3 := R2.nx S5
      have RLs := Lib.hid (RL2.out.nx S5)
      have RQs := Lib.hid (Q5.out.nx S5)
      have hne : ((ah.length : Int) + (L.length : Int) != (ah.length : Int) + (L.length : Int)) = false := by simp
      go_wp2_with (first | (refine wpList_store_row rfl 31 (.tmp 12) (.tmp 39) rfl w5.heap.size (ccel tx n h v b (.slice A5 l.length c5)) rfl rfl 31 (ccel Z32 0 0 0 false (.slice none 0 0)) Z5 x5.out y5.out (ccel_one _ _ _ _ _ _ _ _) ?_) | (refine wpList_load_row rfl 31 (.tmp 4) rfl w.heap.size rfl 31 (ccel tx n h v b (.slice A l.length c)) (0, 0) _ R3 Try.underlying31 rfl cz.out ?_) | (refine wpList_load_row rfl 31 (.tmp 12) rfl w5.heap.size rfl 31 (ccel tx n h v b (.slice A5 l.length c5)) (0, 0) _ R5 Try.underlying31 rfl x5.out ?_))
      refine (rsame_yes tx n h v b _ _ l _ HLT.out RLs.out RQs.out).mono ?_
      rintro e w6 ⟨rfl, n6⟩
      have N6 := Lib.hid (na.trans (N5.out.trans (S5.trans n6)))
      clear n6 S5 R3 R5 Z5
      have hwr : wrap64 ((ah.length : Int) + (L.length : Int)) = (ah.length : Int) + (L.length : Int) := by
        have h1 := HS.out
        have h2 := HCL.out
        unfold wrap64
        omega
      go_wp2_with fail
      go_meet
      exact ⟨rfl, N6.out⟩
  case rest =>
    obtain ⟨rfl, nx1⟩ := hcut
    have rn := h3'.nx nx1
    have NX1 := Lib.hid (N0.out.trans nx1)
    have HXL := Lib.hid (gcT_x an 0)
    have HGT := Lib.hid (fun hh => coin_got (l := an) hh)
    have HGE := Lib.hid (fun w hh => get_coin_any (.slice A3 an.length c3) an 0 w hh (by have := HS.out; omega))
    have hle : an.length ≤ 140737488351232 := by have := HS.out; omega
    have HLE := Lib.hid hle
    clear h1' h2' h3' HC HBK HS HCL RL R0 cz hle HE nx1
    obtain ⟨G, hG0⟩ : ∃ G, G = gcT an 0 := ⟨_, rfl⟩
    rw [← hG0] at HXL HGT HGE
    have HG := Lib.hid hG0
    clear hG0
    obtain ⟨GX, GN, GH, GV, GB, GL, GP, GE⟩ := G
    dsimp only at HXL HGT HGE
    go_upto_if 66 with (first | (go_at_call 21; refine (HGE.out _ rn).mono ?_; rintro e w2 ⟨vk, rfl, o2, n2⟩; have q2 := o2.rd; have Q2 := Lib.hid q2; obtain ⟨A9, c9, rfl, -, -⟩ := q2; have S2 : Nx w2 ((w2.alloc (.cells (ccel Z32 0 0 0 false (.slice none 0 0)) 31)).setRow w2.heap.size (ccel GX GN GH GV GB (.slice A9 GL.length c9))) := ((Nx.refl w2).alloc _).setRow _ (Nat.le_refl _); have Z2 := Row.new w2 (ccel Z32 0 0 0 false (.slice none 0 0)) 31 _ rfl; have R2 := Z2.setRow (ccel GX GN GH GV GB (.slice A9 GL.length c9)); have NN := Lib.hid (n2.trans S2); have RK := Lib.hid (Q2.out.nx S2); have RN := Lib.hid (rn.nx NN.out); have x2 := Lib.hid (coinsz GX GN GH GV GB (.slice A9 GL.length c9) HXL.out); have y2 : Hid ((ccel Z32 0 0 0 false (.slice none 0 0)).size = (ccel GX GN GH GV GB (.slice A9 GL.length c9)).size) := Lib.hid (by rw [ccel_size _ _ _ _ _ _ HXL.out, ccel_size _ _ _ _ _ _ Z32_length])) | (refine wpList_store_row rfl 31 (.tmp 15) (.tmp 62) rfl w2.heap.size (ccel GX GN GH GV GB (.slice A9 GL.length c9)) rfl rfl 31 (ccel Z32 0 0 0 false (.slice none 0 0)) Z2 x2.out y2.out (ccel_one _ _ _ _ _ _ _ _) ?_))
    have R3 := R2
    have NW := Lib.hid (NX1.out.trans NN.out)
    generalize (w2.alloc (.cells (ccel Z32 0 0 0 false (.slice none 0 0)) 31)).setRow w2.heap.size (ccel GX GN GH GV GB (.slice A9 GL.length c9)) = W2 at *
    clear S2 Z2 R2 n2 o2 Q2 y2 rn NX1 NN
    by_cases hz : GE = 0
    · obtain ⟨hm, -, hn, hh, k, hp, hk, hcb⟩ := HGT.out hz
      subst hz
      subst hp
      have hE : outE GV GL = 0 := by unfold outE; rw [hm]; rfl
      have hmm := mayB_true hm
      have HP : Hid (∀ w v, Rd w v GL → Calls Try.prog 11 #[.agg (ccel GX GN GH GV GB v)] w fun e w' => ∃ r, e = .returned (.tuple #[r, .int .i64 0]) ∧ Own w.heap.size w' r (an.take k) ∧ Nx w w') := Lib.hid fun w v hr => by
        have := put_coin_any GX GN GH GV GB v GL w HXL.out hn hh hr (by omega)
        rw [hcb, hE] at this
        exact this
      have HCB := Lib.hid hcb
      have hs := slice_to (P := Try.prog) 29 5 Try.underlying29 Try.sizeOf5 A3 an.length c3 k k rfl (by omega)
      have RT : Hid (∀ w, Rd w (.slice A3 an.length c3) an → Rd w (.slice A3 k c3) (an.take k)) := Lib.hid fun w hr => by
        obtain ⟨A', c', e', q1, q2, q3⟩ := hr
        injection e' with e1 e2 e3
        subst e1 e3
        exact Rd.pre q3 hk (by omega) q2
      have k0 : (0 : Int) ≤ (k : Int) := by omega
      have k1 : (k : Int) ≤ (an.length : Int) := by omega
      clear hm hn hh hcb hE hmm HCB HGT HGE HG
      go_wp2_with (first | (refine wpList_load_row rfl 31 (.tmp 15) rfl w2.heap.size rfl 31 (ccel GX GN GH GV GB (.slice A9 GL.length c9)) (0, 0) _ R3 Try.underlying31 rfl x2.out ?_))
      refine (HP.out _ _ RK.out).mono ?_
      rintro e w3 ⟨vp, rfl, o3, n3⟩
      have ON := Lib.hid o3.rd
      have N3 := Lib.hid n3
      have RN3 := Lib.hid (RT.out _ (RN.out.nx n3))
      clear n3 o3
      go_wp2_with fail
      refine (same_yes _ _ (an.take k) _ ON.out RN3.out).mono ?_
      rintro e w4 ⟨rfl, n4⟩
      have N4 := Lib.hid n4
      clear n4
      go_wp2_with fail
      refine (works_any _).mono ?_
      rintro e w5 ⟨rfl, n5⟩
      have N5 := Lib.hid n5
      clear n5
      go_wp2_with fail
      go_ret
      exact ⟨rfl, NW.out.trans (N3.out.trans (N4.out.trans N5.out))⟩
    · have hne : (GE != 0) = true := by simpa using hz
      clear hz HGT HGE HG
      go_wp2_with fail
      refine (works_any _).mono ?_
      rintro e w5 ⟨rfl, n5⟩
      have N5 := Lib.hid n5
      clear n5
      go_wp2_with fail
      go_ret
      exact ⟨rfl, NW.out.trans N5.out⟩
end Go.Proofs.Ytniaiglfgknfiaa