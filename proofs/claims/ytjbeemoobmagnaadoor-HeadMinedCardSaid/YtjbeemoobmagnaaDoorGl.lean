/- TEXTS OF OUR OWN, IN ONE FILE. -/
import Derived.Test.YtjbeemoobmagnaaDoorGi
import Derived.Test.YtjbeemoobmagnaaDoorGk
import Derived.Deep.Cut
import Derived.Deep.CutRange
import Derived.Deep.DeepCutAuto
import Derived.Test.YtjbeemoobmagnaaDoorGd
import Derived.Test.YtjbeemoobmagnaaDoorGh
import Derived.Test.YtjbeemoobmagnaaDoorGb
section
namespace Go.Proofs.YtjbeemoobmagnaaDoor
open Go.RowKit
set_option linter.unusedVariables false
set_option linter.unusedSimpArgs false

theorem refOf_0 (w : World) : Calls Tryd.prog 94 #[.int .u64 0] w fun e w' => e = .returned (.agg #[.int .u64 0, .int .u64 0, .int .u64 0, .int .u64 0]) ∧ Nx w w' := by
  have h := refOf_any 0 w (by omega)
  obtain ⟨z0, z1, z2, z3⟩ := lim_nought
  rw [z0, z1, z2, z3] at h
  exact h
theorem of_res (b : Nat) (s p q : Bool) (hs : decide (b / 8388608 % 2 = 1) = s) (hp : decide (tN b = 0) = p) (hq : decide (bN (tN b) = b) = q) :
    (ofE b = if s || p || !q then 5 else 0) ∧ (ofT b = if s || p || !q then 0 else tN b) := by
  rcases s with _ | _
  · unfold ofE ofT
    have e : (tN b = 0 ∨ bN (tN b) ≠ b) ↔ (false || p || !q) = true := by
      rw [← hp, ← hq]
      simp
    by_cases h : (false || p || !q) = true
    · rw [if_pos (e.2 h), if_pos (e.2 h), if_pos h, if_pos h]
      exact ⟨rfl, rfl⟩
    · rw [if_neg (fun h2 => h (e.1 h2)), if_neg (fun h2 => h (e.1 h2)), if_neg h, if_neg h]
      exact ⟨rfl, rfl⟩
  · have := sign_no b (by simpa using hs)
    rw [this.1, this.2]
    exact ⟨rfl, rfl⟩
theorem hbK_next (b k e : Nat) (he : b / 16777216 = e) : hbK b (k + 1) = if 3 ≤ e + k ∧ e + k < 35 then (hbK b k).set (e + k - 3) (UInt8.ofNat (b % 8388608 / 256 ^ k)) else hbK b k := by
  rw [← he]
  rfl

set_option maxHeartbeats 4000000 in
set_option maxRecDepth 100000 in
theorem refTOf_any (b : Nat) (w : World) (hb : (b : Int) ≤ 4294967295) :
    Calls Tryd.prog 63 #[.int .u32 (b : Int)] w fun e w' => e = .returned (.tuple #[.agg #[.int .u64 (lim (ofT b) 0 : Int), .int .u64 (lim (ofT b) 1 : Int), .int .u64 (lim (ofT b) 2 : Int), .int .u64 (lim (ofT b) 3 : Int)], .int .i64 (ofE b)]) ∧ Nx w w' := by
  have HB := Lib.hid (fun w => refTBits_any (tN b) w (tN_lt b))
  obtain ⟨s, hs⟩ : ∃ s, decide (b / 8388608 % 2 = 1) = s := ⟨_, rfl⟩
  obtain ⟨p, hp⟩ : ∃ p, decide (tN b = 0) = p := ⟨_, rfl⟩
  obtain ⟨q, hq⟩ : ∃ q, decide (bN (tN b) = b) = q := ⟨_, rfl⟩
  have heq : ∀ w, (Op.equalIn 10000 81 (.agg #[.int .u64 (lim (tN b) 0 : Int), .int .u64 (lim (tN b) 1 : Int), .int .u64 (lim (tN b) 2 : Int), .int .u64 (lim (tN b) 3 : Int)]) (.agg #[.int .u64 0, .int .u64 0, .int .u64 0, .int .u64 0])).run Tryd.prog w = .ok p w := fun w => by rw [eqU0 _ (tN_lt b) w, hp]
  have hne : (((bN (tN b) : Nat) : Int) == (b : Int)) = q := by
    rw [← hq, Bool.eq_iff_iff]
    simp only [beq_iff_eq, decide_eq_true_eq]
    omega
  have hne2 : (((bN (tN b) : Nat) : Int) != (b : Int)) = !q := by rw [← hne]; rfl
  have hsg : decide ((b : Int) / 8388608 % 2 = 1) = s := by
    rw [← hs, Bool.eq_iff_iff]
    simp only [decide_eq_true_eq]
    omega
  have hsg3 : ((IntKind.u32.wrap ((b : Int) / 8388608)).tmod 2 == 1) = s := by
    rw [IntKind.wrap_u32, Int.tmod_eq_emod_of_nonneg (by omega), ← hs, Bool.eq_iff_iff]
    simp only [beq_iff_eq, decide_eq_true_eq]
    omega
  have hsg2 : ((b : Int) / 8388608 % 2 == 1) = s := by
    rw [← hs, Bool.eq_iff_iff]
    simp only [beq_iff_eq, decide_eq_true_eq]
    omega
  have HRES := Lib.hid (of_res b s p q hs hp hq)
  have HOUT := Lib.hid (fun k hk h => outB_no b k hk h)
  have HNUM := Lib.hid (hbK_num b)
  have HOFH := Lib.hid (fun w => refOfHash_any (hbK b 3) w (hbK_length b 3))
  have HL := Lib.hid (hbK_length b)
  obtain ⟨zz0, zz1, zz2, zz3⟩ := lim_nought
  obtain ⟨e, he⟩ : ∃ e : Nat, b / 16777216 = e := ⟨_, rfl⟩
  have HNX := Lib.hid (fun k => hbK_next b k e he)
  have HZ : Hid (hbK b 0 = z32) := Lib.hid rfl
  have hei : (b : Int) / 16777216 = (e : Int) := by omega
  have hel : (e : Int) ≤ 255 := by omega
  have HBO : Hid (∀ k, outB b k ↔ (35 ≤ e + k ∧ b % 8388608 / 256 ^ k % 256 ≠ 0)) := Lib.hid (fun k => by unfold outB; rw [he])
  obtain ⟨m0, hm0⟩ : ∃ m0 : Nat, b % 8388608 = m0 := ⟨_, rfl⟩
  have hmi : (b : Int) % 8388608 = (m0 : Int) := by omega
  have hml : (m0 : Int) < 8388608 := by omega
  rw [hm0] at HBO HNX
  have HDIV : Hid (∀ k, m0 / 256 ^ k / 256 = m0 / 256 ^ (k + 1)) := Lib.hid (fun k => by rw [Nat.div_div_eq_div_mul, ← Nat.pow_succ])
  have HLE : Hid (∀ k, m0 / 256 ^ k ≤ m0) := Lib.hid (fun k => Nat.div_le_self _ _)
  clear hs hp hq hm0 he
  generalize bN (tN b) = B at *
  generalize ofE b = E at *
  generalize ofT b = T at *
  generalize tN b = t at *
  go_enter Tryd.func63, Tryd.ntmps63
  go_wp2
  go_loopw [4, 7] (fun m i wr => ∃ k : Nat, k ≤ 3 ∧ i = .int .i64 k ∧ m = .int .u32 ((m0 / 256 ^ k : Nat) : Int) ∧ Hid (∀ j, j < k → ¬ outB b j) ∧ Hid (Nx w wr) ∧ Row wr w.heap.size #[.int .u64 0, .int .u64 0, .int .u64 0, .int .u64 0] 81 ∧ Row wr (w.heap.size + 1) (hcel (hbK b k)) 30) (fun _ i _ => 3 - (intOf i).toNat)
  case atStart =>
    refine ⟨0, by omega, rfl, by rw [Nat.pow_zero, Nat.div_one, ← hmi], fun j hj => absurd hj (by omega), ((Nx.refl w).alloc _).alloc _, (Row.new _ _ _ _ rfl).alloc _, ?_⟩
    rw [HZ.out]
    exact Row.new2 _ _ _ _
  case round =>
    obtain ⟨k, hk, rfl, rfl, HNO, HN, RZ, RH⟩ := hrel
    by_cases hlt : k < 3
    · have hki : (k : Int) < 3 := by omega
      have hk0 : (0 : Int) ≤ (k : Int) := by omega
      have HD := Lib.hid (HDIV.out k)
      have hle := HLE.out k
      have HB1 := HBO.out k
      have HNX1 := Lib.hid (HNX.out k)
      have HOUT1 := Lib.hid (HOUT.out k hlt)
      have HLK := Lib.hid (HL.out k)
      have hyl : ((m0 / 256 ^ k : Nat) : Int) ≤ 8388607 := by omega
      generalize m0 / 256 ^ k = y at *
      obtain ⟨x, hx⟩ : ∃ x : Nat, y % 256 = x := ⟨_, rfl⟩
      have hxi : (y : Int) % 256 = (x : Int) := by omega
      have hxl : (x : Int) ≤ 255 := by omega
      have hwx : IntKind.u8.wrap (x : Int) = (x : Int) := by rw [IntKind.wrap_u8]; omega
      have hwx2 : IntKind.u32.wrap (x : Int) = (x : Int) := by rw [IntKind.wrap_u32]; omega
      have hwy : IntKind.u32.wrap ((y : Int) / 256) = (y : Int) / 256 := by rw [IntKind.wrap_u32]; omega
      have HY : Hid ((y : Int) / 256 = ((y / 256 : Nat) : Int)) := show _ = _ by omega
      have hwa : IntKind.i64.wrap ((e : Int) - 3) = (e : Int) - 3 := IntWalk.i64_in _ (by omega)
      rw [hx] at HB1
      have fz := RZ.frozen
      obtain ⟨z0, z1, z2, z3⟩ := RZ.zero4
      by_cases hlow : 3 ≤ e + k
      · obtain ⟨d, hd⟩ : ∃ d : Nat, e + k - 3 = d := ⟨_, rfl⟩
        have hdi : (e : Int) - 3 + (k : Int) = (d : Int) := by omega
        have hwb : IntKind.i64.wrap ((e : Int) - 3 + (k : Int)) = (d : Int) := by rw [hdi]; exact IntWalk.i64_in _ (by omega)
        have hd0 : (0 : Int) ≤ (d : Int) := by omega
        by_cases hhi : e + k < 35
        · have hd1 : (d : Int) < 32 := by omega
          have hd2 : decide ((32 : Int) ≤ (d : Int)) = false := by rw [decide_eq_false_iff_not]; omega
          have hdl : d < (hbK b k).length := by rw [HLK.out]; omega
          obtain ⟨vh, ch⟩ : ∃ v, wr.cell? ⟨w.heap.size + 1, d, none⟩ = some v := ⟨_, RH.cell (hcel_get _ d hdl)⟩
          have fh := RH.frozen
          have HCS : Hid ((hcel (hbK b k)).setIfInBounds d (.int .u8 (x : Int)) = hcel (hbK b (k + 1))) := by
            show _ = _
            rw [HNX1.out, if_pos ⟨hlow, hhi⟩, hd, ← hcel_set _ _ _ hdl, bv, UInt8.toNat_ofNat']
            rw [show y % 2 ^ 8 = x from hx]
          have HNO2 : Hid (∀ j, j < k + 1 → ¬ outB b j) := by
            intro j hj
            rcases Nat.lt_or_eq_of_le (Nat.le_of_lt_succ hj) with h | rfl
            · exact HNO.out j h
            · rw [HB1]; omega
          clear HB1 HNX HNX1 HOUT HOUT1 HBO HNO hdl hhi hlow hd hx hle HLE HL HLK HOFH HNUM
          go_wp2
          go_roundw
          case rel =>
            refine ⟨k + 1, by omega, by go_num, by rw [← HD.out, HY.out], HNO2, HN.out.setAt _ (by omega), RZ.other _ _ _ (by omega), ?_⟩
            rw [← HCS.out]
            exact RH.set d _
          case measure => simp [intOf]; omega
        · have hd1 : decide ((d : Int) < 32) = false := by rw [decide_eq_false_iff_not]; omega
          have hd2 : (32 : Int) ≤ (d : Int) := by omega
          have HKK : Hid (hbK b (k + 1) = hbK b k) := by show _ = _; rw [HNX1.out, if_neg (by omega)]
          by_cases hx0 : x = 0
          · have HNO2 : Hid (∀ j, j < k + 1 → ¬ outB b j) := by
              intro j hj
              rcases Nat.lt_or_eq_of_le (Nat.le_of_lt_succ hj) with h | rfl
              · exact HNO.out j h
              · rw [HB1]; omega
            have hxz : (x : Int) = 0 := by omega
            clear HB1 HNX HNX1 HOUT HOUT1 HBO HNO hhi hlow hd hx hle HLE HL HLK HOFH HNUM
            subst hx0
            go_wp2
            go_roundw
            case rel =>
              refine ⟨k + 1, by omega, by go_num, by rw [← HD.out, HY.out], HNO2, HN, RZ, ?_⟩
              rw [HKK.out]
              exact RH
            case measure => simp [intOf]; omega
          · obtain ⟨hE, hT⟩ := HOUT1.out (HB1.2 ⟨by omega, hx0⟩)
            have hxz : ((x : Int) != 0) = true := by rw [bne_iff_ne]; omega
            have hxz2 : ((x : Int) == 0) = false := by rw [beq_eq_false_iff_ne]; omega
            replace hE := Lib.hid hE
            replace hT := Lib.hid hT
            clear HB1 HNX HNX1 HOUT HOUT1 HBO HNO hhi hlow hd hx hle HLE HL HLK HOFH HNUM HRES
            go_upto_if 34 with (fail)
            go_wp2
            exact bodyPost_ret (v := .tuple #[.agg #[.int .u64 0, .int .u64 0, .int .u64 0, .int .u64 0], .int .i64 5]) (by simp [results, Tryd.results63, go_sem, z0, z1, z2, z3, fz]) rfl
              ⟨by rw [hE.out, hT.out]; simp [zz0, zz1, zz2, zz3], by repeat (first | with_reducible exact HN.out | with_reducible refine Nx.setAt ?_ _ (by omega))⟩
      · have hneg : decide ((0 : Int) ≤ (e : Int) - 3 + (k : Int)) = false := by rw [decide_eq_false_iff_not]; omega
        have hneg2 : decide ((32 : Int) ≤ (e : Int) - 3 + (k : Int)) = false := by rw [decide_eq_false_iff_not]; omega
        have hwb : IntKind.i64.wrap ((e : Int) - 3 + (k : Int)) = (e : Int) - 3 + (k : Int) := IntWalk.i64_in _ (by omega)
        have HKK : Hid (hbK b (k + 1) = hbK b k) := by show _ = _; rw [HNX1.out, if_neg (by omega)]
        have HNO2 : Hid (∀ j, j < k + 1 → ¬ outB b j) := by
          intro j hj
          rcases Nat.lt_or_eq_of_le (Nat.le_of_lt_succ hj) with h | rfl
          · exact HNO.out j h
          · rw [HB1]; omega
        clear HB1 HNX HNX1 HOUT HOUT1 HBO HNO hlow hx hle HLE HL HLK HOFH HNUM
        go_wp2
        go_roundw
        case rel =>
          refine ⟨k + 1, by omega, by go_num, by rw [← HD.out, HY.out], HNO2, HN, RZ, ?_⟩
          rw [HKK.out]
          exact RH
        case measure => simp [intOf]; omega
    · obtain rfl : k = 3 := by omega
      have hsz := Lib.hid (show (Tryd.prog.info? 30).map (·.size) = some (hcel (hbK b 3)).size by rw [hcel_size, HL.out]; exact info_hash)
      have hnum := HNUM.out HNO.out
      rw [hnum] at HOFH
      clear hnum HNUM HNO HOUT HBO HNX HL HLE HDIV hlt hk
      generalize m0 / 256 ^ 3 = y at *
      generalize hbK b 3 = l at *
      have RH' := RH
      go_wp2_with (first | (refine wpList_load_row rfl 30 (.tmp 6) rfl (w.heap.size + 1) rfl 30 (hcel l) (0, 0) _ RH' Tryd.underlying30 rfl hsz.out ?_) | fail)
      refine (HOFH.out _).mono ?_
      rintro e1 w1 ⟨rfl, hb1⟩
      have N1 := Lib.hid ((HN.out.trans hb1).alloc (.cells #[.int .u64 (lim t 0 : Int), .int .u64 (lim t 1 : Int), .int .u64 (lim t 2 : Int), .int .u64 (lim t 3 : Int)] 81))
      replace RZ := (RZ.nx hb1).alloc (.cells #[.int .u64 (lim t 0 : Int), .int .u64 (lim t 1 : Int), .int .u64 (lim t 2 : Int), .int .u64 (lim t 3 : Int)] 81)
      have RT : Row (w1.alloc (.cells #[.int .u64 (lim t 0 : Int), .int .u64 (lim t 1 : Int), .int .u64 (lim t 2 : Int), .int .u64 (lim t 3 : Int)] 81)) w1.heap.size #[.int .u64 (lim t 0 : Int), .int .u64 (lim t 1 : Int), .int .u64 (lim t 2 : Int), .int .u64 (lim t 3 : Int)] 81 := Row.new w1 _ _ _ rfl
      clear hb1 RH RH' HN HOFH hsz
      go_wp2_with fail
      generalize w1.heap.size = gT at *
      generalize (w1.alloc (.cells #[.int .u64 (lim t 0 : Int), .int .u64 (lim t 1 : Int), .int .u64 (lim t 2 : Int), .int .u64 (lim t 3 : Int)] 81)) = W at *
      have qt0 : ∀ d os, (Sort.grow (redrawn W d) os).cell? ⟨gT, 0, none⟩ = some (.int .u64 (lim t 0 : Int)) := fun d os => cell_regrown (RT.cell rfl) d os
      have qt1 : ∀ d os, (Sort.grow (redrawn W d) os).cell? ⟨gT, 1, none⟩ = some (.int .u64 (lim t 1 : Int)) := fun d os => cell_regrown (RT.cell rfl) d os
      have qt2 : ∀ d os, (Sort.grow (redrawn W d) os).cell? ⟨gT, 2, none⟩ = some (.int .u64 (lim t 2 : Int)) := fun d os => cell_regrown (RT.cell rfl) d os
      have qt3 : ∀ d os, (Sort.grow (redrawn W d) os).cell? ⟨gT, 3, none⟩ = some (.int .u64 (lim t 3 : Int)) := fun d os => cell_regrown (RT.cell rfl) d os
      obtain ⟨hE, hT⟩ := HRES.out
      replace hE := Lib.hid hE
      replace hT := Lib.hid hT
      clear HRES
      rcases s with _ | _ <;> rcases p with _ | _ <;> rcases q with _ | _
      all_goals
        refine wp_region_quiet_below (by kernel_rfl) (by kernel_rfl) ?_
        repeat (first
          | quiet_step ((first
            | (go_at_call 94; with_reducible exact Calls.regrown_of (refOf_0 _))
            | (go_at_call 95; with_reducible exact Calls.regrown_of (HB.out _)))))
        refine wpQuiet_nil ?_
        intro _ hw'
        obtain ⟨⟨dq, osq⟩, hw''⟩ := hw'
        subst hw''
        have HG := below_regrown W dq osq
        have RZ2 := Row.nx RZ HG
        have RT2 := Row.nx RT HG
        have N2 := Lib.hid (N1.out.trans HG)
        clear HG
        generalize Sort.grow (redrawn W dq) osq = W2 at *
        obtain ⟨z0, z1, z2, z3⟩ := RZ2.zero4
        obtain ⟨t0, t1, t2, t3⟩ := RT2.four
        have fz := RZ2.frozen
        clear qt0 qt1 qt2 qt3 RZ RT RZ2 RT2 N1
        go_wp2
      · exact bodyPost_ret (v := .tuple #[.agg #[.int .u64 0, .int .u64 0, .int .u64 0, .int .u64 0], .int .i64 5]) (by simp [results, Tryd.results63, go_sem, z0, z1, z2, z3, fz]) rfl
          ⟨by rw [hE.out, hT.out]; simp [zz0, zz1, zz2, zz3], by repeat (first | with_reducible exact N2.out | with_reducible refine Nx.setAt ?_ _ (by omega))⟩
      · exact bodyPost_ret (v := .tuple #[.agg #[.int .u64 (lim t 0 : Int), .int .u64 (lim t 1 : Int), .int .u64 (lim t 2 : Int), .int .u64 (lim t 3 : Int)], .int .i64 0]) (by simp [results, Tryd.results63, go_sem, z0, z1, z2, z3, fz]) rfl
          ⟨by rw [hE.out, hT.out]; simp, by repeat (first | with_reducible exact N2.out | with_reducible refine Nx.setAt ?_ _ (by omega))⟩
      · exact bodyPost_ret (v := .tuple #[.agg #[.int .u64 0, .int .u64 0, .int .u64 0, .int .u64 0], .int .i64 5]) (by simp [results, Tryd.results63, go_sem, z0, z1, z2, z3, fz]) rfl
          ⟨by rw [hE.out, hT.out]; simp [zz0, zz1, zz2, zz3], by repeat (first | with_reducible exact N2.out | with_reducible refine Nx.setAt ?_ _ (by omega))⟩
      · exact bodyPost_ret (v := .tuple #[.agg #[.int .u64 0, .int .u64 0, .int .u64 0, .int .u64 0], .int .i64 5]) (by simp [results, Tryd.results63, go_sem, z0, z1, z2, z3, fz]) rfl
          ⟨by rw [hE.out, hT.out]; simp [zz0, zz1, zz2, zz3], by repeat (first | with_reducible exact N2.out | with_reducible refine Nx.setAt ?_ _ (by omega))⟩
      · exact bodyPost_ret (v := .tuple #[.agg #[.int .u64 0, .int .u64 0, .int .u64 0, .int .u64 0], .int .i64 5]) (by simp [results, Tryd.results63, go_sem, z0, z1, z2, z3, fz]) rfl
          ⟨by rw [hE.out, hT.out]; simp [zz0, zz1, zz2, zz3], by repeat (first | with_reducible exact N2.out | with_reducible refine Nx.setAt ?_ _ (by omega))⟩
      · exact bodyPost_ret (v := .tuple #[.agg #[.int .u64 0, .int .u64 0, .int .u64 0, .int .u64 0], .int .i64 5]) (by simp [results, Tryd.results63, go_sem, z0, z1, z2, z3, fz]) rfl
          ⟨by rw [hE.out, hT.out]; simp [zz0, zz1, zz2, zz3], by repeat (first | with_reducible exact N2.out | with_reducible refine Nx.setAt ?_ _ (by omega))⟩
      · exact bodyPost_ret (v := .tuple #[.agg #[.int .u64 0, .int .u64 0, .int .u64 0, .int .u64 0], .int .i64 5]) (by simp [results, Tryd.results63, go_sem, z0, z1, z2, z3, fz]) rfl
          ⟨by rw [hE.out, hT.out]; simp [zz0, zz1, zz2, zz3], by repeat (first | with_reducible exact N2.out | with_reducible refine Nx.setAt ?_ _ (by omega))⟩
      · exact bodyPost_ret (v := .tuple #[.agg #[.int .u64 0, .int .u64 0, .int .u64 0, .int .u64 0], .int .i64 5]) (by simp [results, Tryd.results63, go_sem, z0, z1, z2, z3, fz]) rfl
          ⟨by rw [hE.out, hT.out]; simp [zz0, zz1, zz2, zz3], by repeat (first | with_reducible exact N2.out | with_reducible refine Nx.setAt ?_ _ (by omega))⟩
end Go.Proofs.YtjbeemoobmagnaaDoor
end

section
namespace Go.Proofs.YtjbeemoobmagnaaDoor
open Go.RowKit
set_option linter.unusedVariables false
set_option linter.unusedSimpArgs false

theorem less_is (a b : Nat) (v : Bool) (w : World) (ha : a < top) (hb : b < top) (h : subB a b = v) :
    Calls Tryd.prog 84 #[.agg #[.int .u64 (lim a 0 : Int), .int .u64 (lim a 1 : Int), .int .u64 (lim a 2 : Int), .int .u64 (lim a 3 : Int)], .agg #[.int .u64 (lim b 0 : Int), .int .u64 (lim b 1 : Int), .int .u64 (lim b 2 : Int), .int .u64 (lim b 3 : Int)]] w fun e w' => e = .returned (.bool v) ∧ Nx w w' := by
  have := less_any a b w ha hb
  rw [h] at this
  exact this
def meN (h : List UInt8) (b : Nat) : Bool := decide (ofE b = 0) && !subB (ofT b) (num h)

set_option maxHeartbeats 2000000 in
set_option maxRecDepth 100000 in
theorem tmeets_case (h : List UInt8) (hh : h.length = 32) (b : Nat) (hb : (b : Int) ≤ 4294967295) (w : World) (e0 : Int) (he : ofE b = e0) (h0 : e0 = 0 ∨ e0 = 5) (v : Bool) (hv : subB (ofT b) (num h) = v) :
    Calls Tryd.prog 54 #[.agg (hcel h), .int .u32 (b : Int)] w fun e w' => e = .returned (.bool (decide (e0 = 0) && !v)) ∧ Nx w w' := by
  have HO := Lib.hid (fun w => tof_any b w hb)
  have HOF := Lib.hid (fun w => ofHash_any h w hh)
  have HL := Lib.hid (fun w => less_is (ofT b) (num h) v w (ofT_lt b) (num_top h hh) hv)
  rw [he] at HO
  have hsz := Lib.hid (show (Tryd.prog.info? 30).map (·.size) = some (hcel h).size by rw [hcel_size, hh]; exact info_hash)
  clear hh he hv
  generalize ofT b = t at *
  generalize num h = x at *
  go_enter Tryd.func54, Tryd.ntmps54
  go_wp2_with fail
  refine (HO.out _).mono ?_
  rintro e w1 ⟨rfl, hb1⟩
  have RH := ((Row.new w (hcel h) 30 _ rfl).nx hb1).alloc (.cells #[.int .u64 (lim t 0 : Int), .int .u64 (lim t 1 : Int), .int .u64 (lim t 2 : Int), .int .u64 (lim t 3 : Int)] 81)
  have RT : Row (w1.alloc (.cells #[.int .u64 (lim t 0 : Int), .int .u64 (lim t 1 : Int), .int .u64 (lim t 2 : Int), .int .u64 (lim t 3 : Int)] 81)) w1.heap.size #[.int .u64 (lim t 0 : Int), .int .u64 (lim t 1 : Int), .int .u64 (lim t 2 : Int), .int .u64 (lim t 3 : Int)] 81 := Row.new w1 _ _ _ rfl
  have N1 := Lib.hid ((((Nx.refl w).alloc (.cells (hcel h) 30)).trans hb1).alloc (.cells #[.int .u64 (lim t 0 : Int), .int .u64 (lim t 1 : Int), .int .u64 (lim t 2 : Int), .int .u64 (lim t 3 : Int)] 81))
  clear hb1 HO
  rcases h0 with rfl | rfl
  all_goals
    go_wp2_with fail
    generalize w1.heap.size = g5 at *
    generalize (w1.alloc (.cells #[.int .u64 (lim t 0 : Int), .int .u64 (lim t 1 : Int), .int .u64 (lim t 2 : Int), .int .u64 (lim t 3 : Int)] 81)) = W at *
    have qt0 : ∀ d os, (Sort.grow (redrawn W d) os).cell? ⟨g5, 0, none⟩ = some (.int .u64 (lim t 0 : Int)) := fun d os => cell_regrown (RT.cell rfl) d os
    have qt1 : ∀ d os, (Sort.grow (redrawn W d) os).cell? ⟨g5, 1, none⟩ = some (.int .u64 (lim t 1 : Int)) := fun d os => cell_regrown (RT.cell rfl) d os
    have qt2 : ∀ d os, (Sort.grow (redrawn W d) os).cell? ⟨g5, 2, none⟩ = some (.int .u64 (lim t 2 : Int)) := fun d os => cell_regrown (RT.cell rfl) d os
    have qt3 : ∀ d os, (Sort.grow (redrawn W d) os).cell? ⟨g5, 3, none⟩ = some (.int .u64 (lim t 3 : Int)) := fun d os => cell_regrown (RT.cell rfl) d os
    have qh := Lib.hid (fun (w' : World) (hw : ∃ p : Regrown, w' = Sort.grow (redrawn W p.d) p.os) => show Row w' w.heap.size (hcel h) 30 by obtain ⟨p, rfl⟩ := hw; exact Row.nx RH (below_regrown W p.d p.os))
    clear RH RT
    refine wp_region_quiet_below (by kernel_rfl) (by kernel_rfl) ?_
    repeat (first
      | (refine wpQuiet_step (fun K hK => ?_); rw [if_pos (by rfl)]; refine quiet_load 30 (.tmp 2) rfl w.heap.size rfl 30 (hcel h) (0, 0) _ qh.out Tryd.underlying30 rfl hsz.out ?_; refine hK _ ?_; clear hK K)
      | quiet_step ((first
        | (go_at_call 85; with_reducible exact Calls.regrown_of (HOF.out _))
        | (go_at_call 84; with_reducible exact Calls.regrown_of (HL.out _)))))
    refine wpQuiet_nil ?_
    intro _ hw'
    obtain ⟨⟨dq, osq⟩, hw''⟩ := hw'
    subst hw''
    go_wp2
    go_ret
    exact ⟨by simp, N1.out.trans (below_regrown W dq osq)⟩
theorem tmeets_any (h : List UInt8) (hh : h.length = 32) (b : Nat) (hb : (b : Int) ≤ 4294967295) (w : World) :
    Calls Tryd.prog 54 #[.agg (hcel h), .int .u32 (b : Int)] w fun e w' => e = .returned (.bool (meN h b)) ∧ Nx w w' :=
  tmeets_case h hh b hb w _ rfl (by unfold ofE; split <;> simp) _ rfl
end Go.Proofs.YtjbeemoobmagnaaDoor
end

section
namespace Go.Proofs.YtjbeemoobmagnaaDoor
open Go.RowKit
set_option linter.unusedVariables false
set_option linter.unusedSimpArgs false

/-- What Less says of bits from above, those below k not looked at yet. -/
theorem less_step (a b k : Nat) (he : a / 2 ^ (k + 1) = b / 2 ^ (k + 1)) : (a.testBit k = b.testBit k → a / 2 ^ k = b / 2 ^ k) ∧ (a.testBit k ≠ b.testBit k → decide (a < b) = b.testBit k) := by
  have h1 := bit_mod a k
  have h2 := bit_mod b k
  rw [Nat.pow_succ, ← Nat.div_div_eq_div_mul, ← Nat.div_div_eq_div_mul] at he
  have hp : 0 < 2 ^ k := Nat.pow_pos (by decide)
  have ea := Nat.div_add_mod a (2 ^ k)
  have eb := Nat.div_add_mod b (2 ^ k)
  have la := Nat.mod_lt a hp
  have lb := Nat.mod_lt b hp
  refine ⟨fun h => ?_, fun h => ?_⟩
  · rw [h] at h1
    omega
  · rcases ha : a.testBit k with _ | _ <;> rcases hb : b.testBit k with _ | _
    · rw [ha, hb] at h; exact absurd rfl h
    · rw [ha] at h1; rw [hb] at h2
      simp only [Bool.toNat_false, Bool.toNat_true] at h1 h2
      have hd : a / 2 ^ k + 1 = b / 2 ^ k := by omega
      rw [← hd, Nat.mul_add] at eb
      simp only [decide_eq_true_eq]
      omega
    · rw [ha] at h1; rw [hb] at h2
      simp only [Bool.toNat_false, Bool.toNat_true] at h1 h2
      have hd : a / 2 ^ k = b / 2 ^ k + 1 := by omega
      rw [hd, Nat.mul_add] at ea
      simp only [decide_eq_false_iff_not]
      omega
    · rw [ha, hb] at h; exact absurd rfl h

/-- What holds while both numbers' bits are laid, whatever the order. -/
def LessInv (t tb : TypeId) (a b : Nat) (w W : World) (L : Nat → Bool) (ac : Act) (wr : World) : Prop :=
  ∃ x5 x6 x8 x9 x10 x11 : Value, ac = ⟨#[.agg #[.int .u64 (lim a 0 : Int), .int .u64 (lim a 1 : Int), .int .u64 (lim a 2 : Int), .int .u64 (lim a 3 : Int)], .agg #[.int .u64 (lim b 0 : Int), .int .u64 (lim b 1 : Int), .int .u64 (lim b 2 : Int), .int .u64 (lim b 3 : Int)], .pointer (some ⟨w.heap.size, 0, none⟩), .pointer (some ⟨w.heap.size + 1, 0, none⟩), .bool false, x5, x6, undef, x8, x9, x10, x11,
    undef, undef, undef, undef, undef, undef, undef, undef, undef, undef, undef, undef, undef, undef], []⟩ ∧ Nx W wr ∧
    (L 0 = true → x8 = .agg #[.int .u64 (lim a 0 : Int), .int .u64 (lim a 1 : Int), .int .u64 (lim a 2 : Int), .int .u64 (lim a 3 : Int)]) ∧ (L 1 = true → x9 = .agg (bcel (bitsL a))) ∧ (L 2 = true → x10 = .agg #[.int .u64 (lim b 0 : Int), .int .u64 (lim b 1 : Int), .int .u64 (lim b 2 : Int), .int .u64 (lim b 3 : Int)]) ∧ (L 3 = true → x11 = .agg (bcel (bitsL b))) ∧
    (L 4 = true → ∃ g, x5 = .pointer (some ⟨g, 0, none⟩) ∧ W.heap.size ≤ g ∧ Row wr g (if L 6 = true then bcel (bitsL a) else bcel zb) tb) ∧
    (L 5 = true → ∃ g, x6 = .pointer (some ⟨g, 0, none⟩) ∧ W.heap.size ≤ g ∧ Row wr g (if L 7 = true then bcel (bitsL b) else bcel zb) tb) ∧
    (L 4 = true → L 5 = true → x5 ≠ x6) ∧ (L 6 = true → L 4 = true) ∧ (L 7 = true → L 5 = true)

set_option maxHeartbeats 4000000 in
set_option maxRecDepth 100000 in
theorem refLess_any (a b : Nat) (w : World) (ha : a < top) (hb : b < top) :
    Calls Tryd.prog 86 #[.agg #[.int .u64 (lim a 0 : Int), .int .u64 (lim a 1 : Int), .int .u64 (lim a 2 : Int), .int .u64 (lim a 3 : Int)], .agg #[.int .u64 (lim b 0 : Int), .int .u64 (lim b 1 : Int), .int .u64 (lim b 2 : Int), .int .u64 (lim b 3 : Int)]] w fun e w' => e = .returned (.bool (subB a b)) ∧ Nx w w' := by
  obtain ⟨hz, hs⟩ := zero_of_info info_bits
  have hsa : Hid ((Tryd.prog.info? 120).map (·.size) = some (bcel (bitsL a)).size) := Lib.hid (by rw [bcel_size, bitsL_length]; exact hs)
  have hsb : Hid ((Tryd.prog.info? 120).map (·.size) = some (bcel (bitsL b)).size) := Lib.hid (by rw [bcel_size, bitsL_length]; exact hs)
  have hoa : Hid ((bcel zb).size = (bcel (bitsL a)).size) := Lib.hid (by rw [bcel_size, bcel_size, bitsL_length, zb, List.length_replicate])
  have hob : Hid ((bcel zb).size = (bcel (bitsL b)).size) := Lib.hid (by rw [bcel_size, bcel_size, bitsL_length, zb, List.length_replicate])
  replace hs := Lib.hid hs
  go_enter Tryd.func86, Tryd.ntmps86
  go_upto_region 1 with (fail)
  go_cut [5, 6] (fun s5 s6 wx => ∃ gX gY : Nat, s5 = .pointer (some ⟨gX, 0, none⟩) ∧ s6 = .pointer (some ⟨gY, 0, none⟩) ∧ Hid (Nx w wx) ∧ Hid (Row wx gX (bcel (bitsL a)) 120) ∧ Hid (Row wx gY (bcel (bitsL b)) 120))
  case first =>
    have RA := (Row.new w #[.int .u64 (lim a 0 : Int), .int .u64 (lim a 1 : Int), .int .u64 (lim a 2 : Int), .int .u64 (lim a 3 : Int)] 81 _ rfl).alloc (.cells #[.int .u64 (lim b 0 : Int), .int .u64 (lim b 1 : Int), .int .u64 (lim b 2 : Int), .int .u64 (lim b 3 : Int)] 81)
    have RB := Row.new2 w (.cells #[.int .u64 (lim a 0 : Int), .int .u64 (lim a 1 : Int), .int .u64 (lim a 2 : Int), .int .u64 (lim a 3 : Int)] 81) #[.int .u64 (lim b 0 : Int), .int .u64 (lim b 1 : Int), .int .u64 (lim b 2 : Int), .int .u64 (lim b 3 : Int)] 81
    have N := ((Nx.refl w).alloc (.cells #[.int .u64 (lim a 0 : Int), .int .u64 (lim a 1 : Int), .int .u64 (lim a 2 : Int), .int .u64 (lim a 3 : Int)] 81)).alloc (.cells #[.int .u64 (lim b 0 : Int), .int .u64 (lim b 1 : Int), .int .u64 (lim b 2 : Int), .int .u64 (lim b 3 : Int)] 81)
    generalize ((w.alloc (.cells #[.int .u64 (lim a 0 : Int), .int .u64 (lim a 1 : Int), .int .u64 (lim a 2 : Int), .int .u64 (lim a 3 : Int)] 81)).alloc (.cells #[.int .u64 (lim b 0 : Int), .int .u64 (lim b 1 : Int), .int .u64 (lim b 2 : Int), .int .u64 (lim b 3 : Int)] 81)) = W at *
    refine wp_region_inv [[], [0], [], [2, 1], [], [], [4, 1, 3, 0, 1, 4, 5], [5, 3, 6, 0, 1, 2, 3, 4, 5, 6]] (LessInv 81 120 a b w W) (by kernel_rfl) (by kernel_rfl) (hord_of (by decide)) ?_ ?_ ?_
    · exact ⟨undef, undef, undef, undef, undef, undef, rfl, (Nx.refl _).drew, (fun h => by cases h), (fun h => by cases h), (fun h => by cases h), (fun h => by cases h), (fun h => by cases h), (fun h => by cases h), (fun h => by cases h), (fun h => by cases h), (fun h => by cases h)⟩
    · rintro L ac wr ⟨x5, x6, x8, x9, x10, x11, rfl, HNW, F0, F1, F2, F3, F4, F5, F45, F6, F7⟩ i hi hL hd K hK
      have hi8 : i < 8 := hi
      have hcs : i = 0 ∨ i = 1 ∨ i = 2 ∨ i = 3 ∨ i = 4 ∨ i = 5 ∨ i = 6 ∨ i = 7 := by omega
      clear hi hi8
      rcases hcs with rfl | rfl | rfl | rfl | rfl | rfl | rfl | rfl
      · refine wpOp_of rfl rfl (wp_load_row 81 (.tmp 2) rfl w.heap.size rfl 81 #[.int .u64 (lim a 0 : Int), .int .u64 (lim a 1 : Int), .int .u64 (lim a 2 : Int), .int .u64 (lim a 3 : Int)] (0, 0) _ (RA.nx HNW) Tryd.underlying81 rfl (by kernel_rfl) (hK _ _ ?_))
        exact ⟨x5, x6, _, x9, x10, x11, rfl, HNW, (fun _ => rfl), F1, F2, F3, F4, F5, F45, F6, F7⟩
      · have e8 := F0 (hd 0 (by decide))
        subst e8
        refine wpOp_of rfl rfl (wp_call_of (some 9) rfl 102 #[.agg #[.int .u64 (lim a 0 : Int), .int .u64 (lim a 1 : Int), .int .u64 (lim a 2 : Int), .int .u64 (lim a 3 : Int)]] (by kernel_rfl) _ (refBits_any a wr) (fun w' hn => hK _ _ ?_))
        exact ⟨x5, x6, _, _, x10, x11, rfl, HNW.trans hn, F0, (fun _ => rfl), F2, F3, (fun h => by obtain ⟨g, e, hg, r⟩ := F4 h; exact ⟨g, e, hg, r.nx hn⟩), (fun h => by obtain ⟨g, e, hg, r⟩ := F5 h; exact ⟨g, e, hg, r.nx hn⟩), F45, F6, F7⟩
      · refine wpOp_of rfl rfl (wp_load_row 81 (.tmp 3) rfl (w.heap.size + 1) rfl 81 #[.int .u64 (lim b 0 : Int), .int .u64 (lim b 1 : Int), .int .u64 (lim b 2 : Int), .int .u64 (lim b 3 : Int)] (0, 0) _ (RB.nx HNW) Tryd.underlying81 rfl (by kernel_rfl) (hK _ _ ?_))
        exact ⟨x5, x6, x8, x9, _, x11, rfl, HNW, F0, F1, (fun _ => rfl), F3, F4, F5, F45, F6, F7⟩
      · have e10 := F2 (hd 2 (by decide))
        subst e10
        refine wpOp_of rfl rfl (wp_call_of (some 11) rfl 102 #[.agg #[.int .u64 (lim b 0 : Int), .int .u64 (lim b 1 : Int), .int .u64 (lim b 2 : Int), .int .u64 (lim b 3 : Int)]] (by kernel_rfl) _ (refBits_any b wr) (fun w' hn => hK _ _ ?_))
        exact ⟨x5, x6, x8, x9, _, _, rfl, HNW.trans hn, F0, F1, F2, (fun _ => rfl), (fun h => by obtain ⟨g, e, hg, r⟩ := F4 h; exact ⟨g, e, hg, r.nx hn⟩), (fun h => by obtain ⟨g, e, hg, r⟩ := F5 h; exact ⟨g, e, hg, r.nx hn⟩), F45, F6, F7⟩
      · have h6 : L 6 = false := by
          rcases h : L 6 with _ | _
          · rfl
          · rw [F6 h] at hL; cases hL
        refine wpOp_of rfl rfl (wp_alloc_of (some 5) rfl 120 rfl (bcel zb) hz (hK _ _ ?_))
        refine ⟨_, x6, x8, x9, x10, x11, rfl, HNW.alloc _, F0, F1, F2, F3, (fun _ => ⟨_, rfl, HNW.size, ?_⟩), (fun h => by obtain ⟨g, e, hg, r⟩ := F5 h; exact ⟨g, e, hg, r.alloc _⟩), (fun _ h => ?_), (fun _ => rfl), F7⟩
        · show Row _ _ (if L 6 = true then _ else _) _
          rw [h6]; exact Row.new _ _ _ _ rfl
        · obtain ⟨g, e, hg, r⟩ := F5 h
          rw [e]
          exact ptr_ne (Nat.ne_of_lt r.lt)
      · have h7 : L 7 = false := by
          rcases h : L 7 with _ | _
          · rfl
          · rw [F7 h] at hL; cases hL
        refine wpOp_of rfl rfl (wp_alloc_of (some 6) rfl 120 rfl (bcel zb) hz (hK _ _ ?_))
        refine ⟨x5, _, x8, x9, x10, x11, rfl, HNW.alloc _, F0, F1, F2, F3, (fun h => by obtain ⟨g, e, hg, r⟩ := F4 h; exact ⟨g, e, hg, r.alloc _⟩), (fun _ => ⟨_, rfl, HNW.size, ?_⟩), (fun h _ => ?_), F6, (fun _ => rfl)⟩
        · show Row _ _ (if L 7 = true then _ else _) _
          rw [h7]; exact Row.new _ _ _ _ rfl
        · obtain ⟨g, e, hg, r⟩ := F4 h
          rw [e]
          exact ptr_ne (Nat.ne_of_gt r.lt)
      · have e9 := F1 (hd 1 (by decide))
        obtain ⟨g, e5, hg, r⟩ := F4 (hd 4 (by decide))
        obtain ⟨g', e6, hg', r'⟩ := F5 (hd 5 (by decide))
        have hne := F45 (hd 4 (by decide)) (hd 5 (by decide))
        have hgg : g ≠ g' := fun h => hne (by rw [e5, e6, h])
        subst e9 e5 e6
        rw [if_neg (by rw [hL]; decide)] at r
        refine wpOp_of rfl rfl (wp_store_row 120 (.tmp 5) (.tmp 9) rfl g (bcel (bitsL a)) rfl rfl 120 (bcel zb) r hsa.out hoa.out (bcel_one _) (hK _ _ ?_))
        exact ⟨_, _, x8, _, x10, x11, rfl, HNW.setRow _ hg, F0, F1, F2, F3, (fun _ => ⟨g, rfl, hg, r.setRow _⟩), (fun _ => ⟨g', rfl, hg', r'.setRow_other _ (Ne.symm hgg)⟩), F45, (fun _ => hd 4 (by decide)), F7⟩
      · have e11 := F3 (hd 3 (by decide))
        obtain ⟨g, e5, hg, r⟩ := F4 (hd 4 (by decide))
        obtain ⟨g', e6, hg', r'⟩ := F5 (hd 5 (by decide))
        have hne := F45 (hd 4 (by decide)) (hd 5 (by decide))
        have hgg : g ≠ g' := fun h => hne (by rw [e5, e6, h])
        subst e11 e5 e6
        rw [if_neg (by rw [hL]; decide)] at r'
        refine wpOp_of rfl rfl (wp_store_row 120 (.tmp 6) (.tmp 11) rfl g' (bcel (bitsL b)) rfl rfl 120 (bcel zb) r' hsb.out hob.out (bcel_one _) (hK _ _ ?_))
        exact ⟨_, _, x8, x9, x10, _, rfl, HNW.setRow _ hg', F0, F1, F2, F3, (fun _ => ⟨g, rfl, hg, r.setRow_other _ hgg⟩), (fun _ => ⟨g', rfl, hg', r'.setRow _⟩), F45, F6, (fun _ => hd 5 (by decide))⟩
    · rintro L ac wr ⟨x5, x6, x8, x9, x10, x11, rfl, HNW, F0, F1, F2, F3, F4, F5, F45, F6, F7⟩ hall
      have hall' : ∀ i, i < 8 → L i = true := hall
      obtain ⟨g, e5, hg, r⟩ := F4 (hall' 4 (by decide))
      obtain ⟨g', e6, hg', r'⟩ := F5 (hall' 5 (by decide))
      rw [if_pos (hall' 6 (by decide))] at r
      rw [if_pos (hall' 7 (by decide))] at r'
      subst e5 e6
      have NF := Lib.hid (N.trans HNW)
      have RF := Lib.hid r
      have RF' := Lib.hid r'
      clear F0 F1 F2 F3 F4 F5 F45 F6 F7 hall hall' HNW N RA RB r r'
      go_wp2_with fail
      go_meet
      exact ⟨g, g', rfl, rfl, NF, RF, RF'⟩
  case rest =>
    obtain ⟨gX, gY, rfl, rfl, HN, HX, HY⟩ := hcut
    have HE0 : Hid (a / 2 ^ 256 = b / 2 ^ 256) := Lib.hid (by rw [← top_eq, Nat.div_eq_of_lt ha, Nat.div_eq_of_lt hb])
    have HF : Hid (a / 2 ^ 0 = b / 2 ^ 0 → subB a b = false) := Lib.hid (by
      simp only [Nat.pow_zero, Nat.div_one]
      intro h
      subst h
      unfold subB
      simp)
    clear hsa hsb hoa hob hs hz ha hb
    go_wp2
    go_loopw [7] (fun i wr => ∃ k : Nat, k ≤ 256 ∧ i = .int .i64 ((k : Int) - 1) ∧ Hid (a / 2 ^ k = b / 2 ^ k) ∧ ∃ n, wr = wc.drewN n) (fun i _ => (intOf i + 1).toNat)
    case atStart => exact ⟨256, by omega, rfl, HE0, 0, rfl⟩
    case round =>
      obtain ⟨k, hk, rfl, HE, n, rfl⟩ := hrel
      by_cases hk0 : k = 0
      · subst hk0
        have hfin := Lib.hid (HF.out HE.out)
        go_wp2
        go_ret
        exact ⟨by rw [hfin.out]; rfl, HN.out.drewN _⟩
      · obtain ⟨j, rfl⟩ : ∃ j, k = j + 1 := ⟨k - 1, by omega⟩
        have ej : (((j + 1 : Nat) : Int) - 1) = (j : Int) := by omega
        rw [ej]
        clear ej
        have hj0 : (0 : Int) ≤ (j : Int) := by omega
        have hj1 : (j : Int) < 256 := by omega
        have cx := HX.out.cell (bcel_get (bitsL a) j (by rw [bitsL_length]; omega))
        have cy := HY.out.cell (bcel_get (bitsL b) j (by rw [bitsL_length]; omega))
        rw [bitsL_get] at cx cy
        obtain ⟨HS1, HS2⟩ := less_step a b j HE.out
        replace HS1 := Lib.hid HS1
        replace HS2 := Lib.hid HS2
        generalize a.testBit j = x at *
        generalize b.testBit j = y at *
        rcases x with _ | _ <;> rcases y with _ | _
        · go_wp2
          go_quiet (fail)
          go_wp2
          go_roundw
          case rel => exact ⟨j, by omega, rfl, Lib.hid (HS1.out (by simp)), _, rfl⟩
          case measure => simp [intOf]
        · have hv : Hid (subB a b = true) := Lib.hid (HS2.out (by simp))
          go_wp2
          go_quiet (fail)
          go_wp2
          go_ret
          exact ⟨by first | exact hv.out | (rw [hv.out]; rfl) | exact hv.out.symm, by repeat (first | with_reducible exact HN.out | with_reducible apply Nx.drew | with_reducible apply Nx.drewN)⟩
        · have hv : Hid (subB a b = false) := Lib.hid (HS2.out (by simp))
          go_wp2
          go_quiet (fail)
          go_wp2
          go_ret
          exact ⟨by first | exact hv.out | (rw [hv.out]; rfl) | exact hv.out.symm, by repeat (first | with_reducible exact HN.out | with_reducible apply Nx.drew | with_reducible apply Nx.drewN)⟩
        · go_wp2
          go_quiet (fail)
          go_wp2
          go_roundw
          case rel => exact ⟨j, by omega, rfl, Lib.hid (HS1.out (by simp)), _, rfl⟩
          case measure => simp [intOf]
end Go.Proofs.YtjbeemoobmagnaaDoor
end

section
namespace Go.Proofs.YtjbeemoobmagnaaDoor
open Go.RowKit
set_option linter.unusedVariables false
set_option linter.unusedSimpArgs false

theorem less_of (a b : Nat) (v : Bool) (w : World) (ha : a < top) (hb : b < top) (h : subB a b = v) :
    Calls Tryd.prog 86 #[.agg #[.int .u64 (lim a 0 : Int), .int .u64 (lim a 1 : Int), .int .u64 (lim a 2 : Int), .int .u64 (lim a 3 : Int)], .agg #[.int .u64 (lim b 0 : Int), .int .u64 (lim b 1 : Int), .int .u64 (lim b 2 : Int), .int .u64 (lim b 3 : Int)]] w fun e w' => e = .returned (.bool v) ∧ Nx w w' := by
  have := refLess_any a b w ha hb
  rw [h] at this
  exact this

set_option maxHeartbeats 2000000 in
set_option maxRecDepth 100000 in
theorem refTMeets_case (h : List UInt8) (hh : h.length = 32) (b : Nat) (hb : (b : Int) ≤ 4294967295) (w : World) (e0 : Int) (he : ofE b = e0) (h0 : e0 = 0 ∨ e0 = 5) (v : Bool) (hv : subB (ofT b) (num h) = v) :
    Calls Tryd.prog 55 #[.agg (hcel h), .int .u32 (b : Int)] w fun e w' => e = .returned (.bool (decide (e0 = 0) && !v)) ∧ Nx w w' := by
  have HO := Lib.hid (fun w => refTOf_any b w hb)
  have HOF := Lib.hid (fun w => refOfHash_any h w hh)
  have HL := Lib.hid (fun w => less_of (ofT b) (num h) v w (ofT_lt b) (num_top h hh) hv)
  rw [he] at HO
  have hsz := Lib.hid (show (Tryd.prog.info? 30).map (·.size) = some (hcel h).size by rw [hcel_size, hh]; exact info_hash)
  clear hh he hv
  generalize ofT b = t at *
  generalize num h = x at *
  go_enter Tryd.func55, Tryd.ntmps55
  go_wp2_with fail
  refine (HO.out _).mono ?_
  rintro e w1 ⟨rfl, hb1⟩
  have RH := ((Row.new w (hcel h) 30 _ rfl).nx hb1).alloc (.cells #[.int .u64 (lim t 0 : Int), .int .u64 (lim t 1 : Int), .int .u64 (lim t 2 : Int), .int .u64 (lim t 3 : Int)] 81)
  have RT : Row (w1.alloc (.cells #[.int .u64 (lim t 0 : Int), .int .u64 (lim t 1 : Int), .int .u64 (lim t 2 : Int), .int .u64 (lim t 3 : Int)] 81)) w1.heap.size #[.int .u64 (lim t 0 : Int), .int .u64 (lim t 1 : Int), .int .u64 (lim t 2 : Int), .int .u64 (lim t 3 : Int)] 81 := Row.new w1 _ _ _ rfl
  have N1 := Lib.hid ((((Nx.refl w).alloc (.cells (hcel h) 30)).trans hb1).alloc (.cells #[.int .u64 (lim t 0 : Int), .int .u64 (lim t 1 : Int), .int .u64 (lim t 2 : Int), .int .u64 (lim t 3 : Int)] 81))
  clear hb1 HO
  rcases h0 with rfl | rfl
  all_goals
    go_wp2_with fail
    generalize w1.heap.size = g5 at *
    generalize (w1.alloc (.cells #[.int .u64 (lim t 0 : Int), .int .u64 (lim t 1 : Int), .int .u64 (lim t 2 : Int), .int .u64 (lim t 3 : Int)] 81)) = W at *
    have qt0 : ∀ d os, (Sort.grow (redrawn W d) os).cell? ⟨g5, 0, none⟩ = some (.int .u64 (lim t 0 : Int)) := fun d os => cell_regrown (RT.cell rfl) d os
    have qt1 : ∀ d os, (Sort.grow (redrawn W d) os).cell? ⟨g5, 1, none⟩ = some (.int .u64 (lim t 1 : Int)) := fun d os => cell_regrown (RT.cell rfl) d os
    have qt2 : ∀ d os, (Sort.grow (redrawn W d) os).cell? ⟨g5, 2, none⟩ = some (.int .u64 (lim t 2 : Int)) := fun d os => cell_regrown (RT.cell rfl) d os
    have qt3 : ∀ d os, (Sort.grow (redrawn W d) os).cell? ⟨g5, 3, none⟩ = some (.int .u64 (lim t 3 : Int)) := fun d os => cell_regrown (RT.cell rfl) d os
    have qh := Lib.hid (fun (w' : World) (hw : ∃ p : Regrown, w' = Sort.grow (redrawn W p.d) p.os) => show Row w' w.heap.size (hcel h) 30 by obtain ⟨p, rfl⟩ := hw; exact Row.nx RH (below_regrown W p.d p.os))
    clear RH RT
    refine wp_region_quiet_below (by kernel_rfl) (by kernel_rfl) ?_
    repeat (first
      | (refine wpQuiet_step (fun K hK => ?_); rw [if_pos (by rfl)]; refine quiet_load 30 (.tmp 2) rfl w.heap.size rfl 30 (hcel h) (0, 0) _ qh.out Tryd.underlying30 rfl hsz.out ?_; refine hK _ ?_; clear hK K)
      | quiet_step ((first
        | (go_at_call 87; with_reducible exact Calls.regrown_of (HOF.out _))
        | (go_at_call 86; with_reducible exact Calls.regrown_of (HL.out _)))))
    refine wpQuiet_nil ?_
    intro _ hw'
    obtain ⟨⟨dq, osq⟩, hw''⟩ := hw'
    subst hw''
    go_wp2
    go_ret
    exact ⟨by simp, N1.out.trans (below_regrown W dq osq)⟩
theorem refTMeets_any (h : List UInt8) (hh : h.length = 32) (b : Nat) (hb : (b : Int) ≤ 4294967295) (w : World) :
    Calls Tryd.prog 55 #[.agg (hcel h), .int .u32 (b : Int)] w fun e w' => e = .returned (.bool (meN h b)) ∧ Nx w w' :=
  refTMeets_case h hh b hb w _ rfl (by unfold ofE; split <;> simp) _ rfl
end Go.Proofs.YtjbeemoobmagnaaDoor
end
