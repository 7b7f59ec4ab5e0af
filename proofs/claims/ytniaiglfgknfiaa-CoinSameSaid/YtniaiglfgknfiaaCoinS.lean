/- LAYER 6: Same, of the program and of the document, of any coins. -/
import Derived.Deep.DeepCutAuto
import Derived.Test.YtniaiglfgknfiaaLawCoinGets
import Derived.Test.YtniaiglfgknfiaaBCmp
namespace Go.Proofs.Ytniaiglfgknfiaa
open Go Go.RowKit
set_option linter.unusedVariables false
set_option linter.unusedSimpArgs false
set_option linter.unusedVariables false
set_option linter.unusedSimpArgs false

/-- Are two coins alike? -/
def sameC (tx : List UInt8) (n h v : Nat) (b : Bool) (l ty : List UInt8) (m k u : Nat) (d : Bool) (r : List UInt8) : Bool :=
  decide (tx = ty ∧ n = m ∧ h = k) && (decide (v = u) && ((b == d) && (l == r)))
theorem same_dec (v1 v2 : Value) (l1 l2 : List UInt8) (w : World) (h1 : Rd w v1 l1) (h2 : Rd w v2 l2) :
    Calls Try.prog 13 #[v1, v2] w fun e w' => e = .returned (.bool (l1 == l2)) ∧ Nx w w' := by
  by_cases he : l1 = l2
  · subst he
    rw [beq_self_eq_true]
    exact same_yes v1 v2 l1 w h1 h2
  · rw [beq_false_of_ne he]
    exact same_no v1 v2 l1 l2 w h1 h2 he
theorem eq_points (tx ty : List UInt8) (n h m k : Nat) (hx : tx.length = 32) (hy : ty.length = 32) (w : World) :
    (Op.equalIn 10000 27 (.agg (pcel tx n h)) (.agg (pcel ty m k))).run Try.prog w = .ok (decide (tx = ty ∧ n = m ∧ h = k)) w := by
  rw [eq_point2 tx ty n h m k hx hy w]
  congr 1
  rw [Bool.eq_iff_iff]
  simp

set_option maxRecDepth 100000 in
set_option maxHeartbeats 8000000 in
theorem csame_any (tx : List UInt8) (n h v : Nat) (b : Bool) (v1 : Value) (l : List UInt8) (ty : List UInt8) (m k u : Nat) (d : Bool) (v2 : Value) (r : List UInt8) (w : World) (ht : tx.length = 32) (hy : ty.length = 32) (h1 : Rd w v1 l) (h2 : Rd w v2 r) :
    Calls Try.prog 28 #[.agg (ccel tx n h v b v1), .agg (ccel ty m k u d v2)] w fun e w' => e = .returned (.bool (sameC tx n h v b l ty m k u d r)) ∧ Nx w w' := by
  obtain ⟨A1, c1, rfl, hc1, hm1, ha1⟩ := h1
  obtain ⟨A2, c2, rfl, hc2, hm2, ha2⟩ := h2
  unfold maxLen at hm1
  have NN := Lib.hid (((Nx.refl w).alloc (.cells (ccel tx n h v b (.slice A1 l.length c1)) 31)).alloc (.cells (ccel ty m k u d (.slice A2 r.length c2)) 31))
  have K0 := (Row.new w (ccel tx n h v b (.slice A1 l.length c1)) 31 _ rfl).alloc (.cells (ccel ty m k u d (.slice A2 r.length c2)) 31)
  have K1 := Row.new2 w (.cells (ccel tx n h v b (.slice A1 l.length c1)) 31) (ccel ty m k u d (.slice A2 r.length c2)) 31
  have RD1 : Hid (Rd ((w.alloc (.cells (ccel tx n h v b (.slice A1 l.length c1)) 31)).alloc (.cells (ccel ty m k u d (.slice A2 r.length c2)) 31)) (.slice A1 l.length c1) l) := Lib.hid ⟨A1, c1, rfl, hc1, hm1, ha1.nx NN.out⟩
  have RD2 : Hid (Rd ((w.alloc (.cells (ccel tx n h v b (.slice A1 l.length c1)) 31)).alloc (.cells (ccel ty m k u d (.slice A2 r.length c2)) 31)) (.slice A2 r.length c2) r) := Lib.hid ⟨A2, c2, rfl, hc2, hm2, ha2.nx NN.out⟩
  have HA1 := Lib.hid (ha1.nx NN.out)
  have HA2 := Lib.hid (ha2.nx NN.out)
  have HPX := Lib.hid (pointsz tx n h ht)
  have HPY := Lib.hid (pointsz ty m k hy)
  have HEQ := Lib.hid (fun w => eq_points tx ty n h m k ht hy w)
  have a34 := K0.cell (ccel_v tx n h v b (.slice A1 l.length c1) ht)
  have b34 := K1.cell (ccel_v ty m k u d (.slice A2 r.length c2) hy)
  have a35 := K0.cell (ccel_b tx n h v b (.slice A1 l.length c1) ht)
  have b35 := K1.cell (ccel_b ty m k u d (.slice A2 r.length c2) hy)
  have a36 := K0.cell (ccel_l tx n h v b (.slice A1 l.length c1) ht)
  have b36 := K1.cell (ccel_l ty m k u d (.slice A2 r.length c2) hy)
  have HC0 := Lib.hid (fun j x hj => K0.cell (ccel_p tx n h v b (.slice A1 l.length c1) j x hj))
  have HC1 := Lib.hid (fun j x hj => K1.cell (ccel_p ty m k u d (.slice A2 r.length c2) j x hj))
  have HMX : Hid (l.length ≤ 9223372036854775807) := Lib.hid (by omega)
  clear ha1 ha2 K0 K1 ht hy hc1 hc2 hm1 hm2
  generalize hP : decide (tx = ty ∧ n = m ∧ h = k) = P at HEQ
  generalize hV : decide (v = u) = V
  generalize hB : (b == d) = B
  have HSC : Hid (sameC tx n h v b l ty m k u d r = (P && (V && (B && (l == r))))) := Lib.hid (by unfold sameC; rw [hP, hV, hB])
  clear hP
  rcases P with _ | _
  · have HQ : Hid (∀ w : World, (Op.equalIn 10000 27 (.agg (pcel tx n h)) (.agg (pcel ty m k))).run Try.prog w = .ok false w) := Lib.hid fun w => HEQ.out w
    clear HEQ hV hB
    go_enter Try.func28, Try.ntmps28
    go_wp2_with (first | go_skip | (refine wpList_load_at rfl 27 (.tmp 5) rfl (w.heap.size) 0 rfl (pcel tx n h) _ (fun j x hj => by rw [Nat.zero_add]; exact HC0.out j x hj) Try.underlying27 rfl HPX.out ?_) | (refine wpList_load_at rfl 27 (.tmp 7) rfl (w.heap.size + 1) 0 rfl (pcel ty m k) _ (fun j x hj => by rw [Nat.zero_add]; exact HC1.out j x hj) Try.underlying27 rfl HPY.out ?_) | (refine wpList_val (some 9) rfl rfl (.bool false) (run_eqp 27 (.tmp 6) (.tmp 8) _ rfl _ _ rfl rfl (by kernel_rfl) _ (HQ.out _)) ?_))
    go_ret
    exact ⟨by rw [HSC.out]; rfl, NN.out⟩
  have HQ : Hid (∀ w : World, (Op.equalIn 10000 27 (.agg (pcel tx n h)) (.agg (pcel ty m k))).run Try.prog w = .ok true w) := Lib.hid fun w => HEQ.out w
  clear HEQ
  rcases V with _ | _
  · have hv : ((v : Int) == (u : Int)) = false := by
      have := of_decide_eq_false hV
      simp
      omega
    clear hV hB
    go_enter Try.func28, Try.ntmps28
    go_wp2_with (first | go_skip | (refine wpList_load_at rfl 27 (.tmp 5) rfl (w.heap.size) 0 rfl (pcel tx n h) _ (fun j x hj => by rw [Nat.zero_add]; exact HC0.out j x hj) Try.underlying27 rfl HPX.out ?_) | (refine wpList_load_at rfl 27 (.tmp 7) rfl (w.heap.size + 1) 0 rfl (pcel ty m k) _ (fun j x hj => by rw [Nat.zero_add]; exact HC1.out j x hj) Try.underlying27 rfl HPY.out ?_) | (refine wpList_val (some 9) rfl rfl (.bool true) (run_eqp 27 (.tmp 6) (.tmp 8) _ rfl _ _ rfl rfl (by kernel_rfl) _ (HQ.out _)) ?_))
    go_ret
    exact ⟨by rw [HSC.out]; rfl, NN.out⟩
  obtain rfl : v = u := of_decide_eq_true hV
  have hv : ((v : Int) == (v : Int)) = true := by simp
  clear hV
  rcases B with _ | _
  · rcases b with _ | _ <;> rcases d with _ | _
    · cases hB
    · clear hB
      go_enter Try.func28, Try.ntmps28
      go_wp2_with (first | go_skip | (refine wpList_load_at rfl 27 (.tmp 5) rfl (w.heap.size) 0 rfl (pcel tx n h) _ (fun j x hj => by rw [Nat.zero_add]; exact HC0.out j x hj) Try.underlying27 rfl HPX.out ?_) | (refine wpList_load_at rfl 27 (.tmp 7) rfl (w.heap.size + 1) 0 rfl (pcel ty m k) _ (fun j x hj => by rw [Nat.zero_add]; exact HC1.out j x hj) Try.underlying27 rfl HPY.out ?_) | (refine wpList_val (some 9) rfl rfl (.bool true) (run_eqp 27 (.tmp 6) (.tmp 8) _ rfl _ _ rfl rfl (by kernel_rfl) _ (HQ.out _)) ?_))
      go_ret
      exact ⟨by rw [HSC.out]; rfl, NN.out⟩
    · clear hB
      go_enter Try.func28, Try.ntmps28
      go_wp2_with (first | go_skip | (refine wpList_load_at rfl 27 (.tmp 5) rfl (w.heap.size) 0 rfl (pcel tx n h) _ (fun j x hj => by rw [Nat.zero_add]; exact HC0.out j x hj) Try.underlying27 rfl HPX.out ?_) | (refine wpList_load_at rfl 27 (.tmp 7) rfl (w.heap.size + 1) 0 rfl (pcel ty m k) _ (fun j x hj => by rw [Nat.zero_add]; exact HC1.out j x hj) Try.underlying27 rfl HPY.out ?_) | (refine wpList_val (some 9) rfl rfl (.bool true) (run_eqp 27 (.tmp 6) (.tmp 8) _ rfl _ _ rfl rfl (by kernel_rfl) _ (HQ.out _)) ?_))
      go_ret
      exact ⟨by rw [HSC.out]; rfl, NN.out⟩
    · cases hB
  obtain rfl : b = d := by simpa using hB
  have hb : (b == b) = true := by simp
  clear hB
  go_enter Try.func28, Try.ntmps28
  go_wp2_with (first | go_skip | (refine wpList_load_at rfl 27 (.tmp 5) rfl (w.heap.size) 0 rfl (pcel tx n h) _ (fun j x hj => by rw [Nat.zero_add]; exact HC0.out j x hj) Try.underlying27 rfl HPX.out ?_) | (refine wpList_load_at rfl 27 (.tmp 7) rfl (w.heap.size + 1) 0 rfl (pcel ty m k) _ (fun j x hj => by rw [Nat.zero_add]; exact HC1.out j x hj) Try.underlying27 rfl HPY.out ?_) | (refine wpList_val (some 9) rfl rfl (.bool true) (run_eqp 27 (.tmp 6) (.tmp 8) _ rfl _ _ rfl rfl (by kernel_rfl) _ (HQ.out _)) ?_))
  refine (bequal_any _ _ l r _ RD1.out RD2.out).mono ?_
  rintro e w1 ⟨rfl, n1⟩
  have N1 := Lib.hid n1
  have HL : Hid ((true && (true && (true && (l == r)))) = (l == r)) := Lib.hid rfl
  generalize (l == r) = L at *
  clear n1 hv hb a34 b34 a35 b35 a36 b36
  go_wp2_with fail
  go_ret
  exact ⟨by rw [HSC.out, HL.out]; rfl, NN.out.trans N1.out⟩

set_option maxRecDepth 100000 in
set_option maxHeartbeats 8000000 in
theorem rsame_any (tx : List UInt8) (n h v : Nat) (b : Bool) (v1 : Value) (l : List UInt8) (ty : List UInt8) (m k u : Nat) (d : Bool) (v2 : Value) (r : List UInt8) (w : World) (ht : tx.length = 32) (hy : ty.length = 32) (h1 : Rd w v1 l) (h2 : Rd w v2 r) :
    Calls Try.prog 25 #[.agg (ccel tx n h v b v1), .agg (ccel ty m k u d v2)] w fun e w' => e = .returned (.bool (sameC tx n h v b l ty m k u d r)) ∧ Nx w w' := by
  obtain ⟨A1, c1, rfl, hc1, hm1, ha1⟩ := h1
  obtain ⟨A2, c2, rfl, hc2, hm2, ha2⟩ := h2
  unfold maxLen at hm1
  have NN := Lib.hid (((Nx.refl w).alloc (.cells (ccel tx n h v b (.slice A1 l.length c1)) 31)).alloc (.cells (ccel ty m k u d (.slice A2 r.length c2)) 31))
  have K0 := (Row.new w (ccel tx n h v b (.slice A1 l.length c1)) 31 _ rfl).alloc (.cells (ccel ty m k u d (.slice A2 r.length c2)) 31)
  have K1 := Row.new2 w (.cells (ccel tx n h v b (.slice A1 l.length c1)) 31) (ccel ty m k u d (.slice A2 r.length c2)) 31
  have RD1 : Hid (Rd ((w.alloc (.cells (ccel tx n h v b (.slice A1 l.length c1)) 31)).alloc (.cells (ccel ty m k u d (.slice A2 r.length c2)) 31)) (.slice A1 l.length c1) l) := Lib.hid ⟨A1, c1, rfl, hc1, hm1, ha1.nx NN.out⟩
  have RD2 : Hid (Rd ((w.alloc (.cells (ccel tx n h v b (.slice A1 l.length c1)) 31)).alloc (.cells (ccel ty m k u d (.slice A2 r.length c2)) 31)) (.slice A2 r.length c2) r) := Lib.hid ⟨A2, c2, rfl, hc2, hm2, ha2.nx NN.out⟩
  have HA1 := Lib.hid (ha1.nx NN.out)
  have HA2 := Lib.hid (ha2.nx NN.out)
  have HPX := Lib.hid (pointsz tx n h ht)
  have HPY := Lib.hid (pointsz ty m k hy)
  have HEQ := Lib.hid (fun w => eq_points tx ty n h m k ht hy w)
  have a34 := K0.cell (ccel_v tx n h v b (.slice A1 l.length c1) ht)
  have b34 := K1.cell (ccel_v ty m k u d (.slice A2 r.length c2) hy)
  have a35 := K0.cell (ccel_b tx n h v b (.slice A1 l.length c1) ht)
  have b35 := K1.cell (ccel_b ty m k u d (.slice A2 r.length c2) hy)
  have a36 := K0.cell (ccel_l tx n h v b (.slice A1 l.length c1) ht)
  have b36 := K1.cell (ccel_l ty m k u d (.slice A2 r.length c2) hy)
  have HC0 := Lib.hid (fun j x hj => K0.cell (ccel_p tx n h v b (.slice A1 l.length c1) j x hj))
  have HC1 := Lib.hid (fun j x hj => K1.cell (ccel_p ty m k u d (.slice A2 r.length c2) j x hj))
  have HMX : Hid (l.length ≤ 9223372036854775807) := Lib.hid (by omega)
  clear ha1 ha2 K0 K1 ht hy hc1 hc2 hm1 hm2
  generalize hP : decide (tx = ty ∧ n = m ∧ h = k) = P at HEQ
  generalize hV : decide (v = u) = V
  generalize hB : (b == d) = B
  have HSC : Hid (sameC tx n h v b l ty m k u d r = (P && (V && (B && (l == r))))) := Lib.hid (by unfold sameC; rw [hP, hV, hB])
  clear hP
  rcases P with _ | _
  · have HQ : Hid (∀ w : World, (Op.equalIn 10000 27 (.agg (pcel tx n h)) (.agg (pcel ty m k))).run Try.prog w = .ok false w) := Lib.hid fun w => HEQ.out w
    clear HEQ hV hB
    go_enter Try.func25, Try.ntmps25
    go_upto_if 33 with (first | go_skip | (refine wpList_load_at rfl 27 (.tmp 6) rfl (w.heap.size) 0 rfl (pcel tx n h) _ (fun j x hj => by rw [Nat.zero_add]; exact HC0.out j x hj) Try.underlying27 rfl HPX.out ?_) | (refine wpList_load_at rfl 27 (.tmp 8) rfl (w.heap.size + 1) 0 rfl (pcel ty m k) _ (fun j x hj => by rw [Nat.zero_add]; exact HC1.out j x hj) Try.underlying27 rfl HPY.out ?_) | (refine wpList_val (some 10) rfl rfl (.bool true) (run_neqp 27 (.tmp 7) (.tmp 9) _ rfl _ _ rfl rfl (by kernel_rfl) false (HQ.out _)) ?_))
    go_wp2_with fail
    go_ret
    exact ⟨by rw [HSC.out]; rfl, NN.out⟩
  have HQ : Hid (∀ w : World, (Op.equalIn 10000 27 (.agg (pcel tx n h)) (.agg (pcel ty m k))).run Try.prog w = .ok true w) := Lib.hid fun w => HEQ.out w
  clear HEQ
  rcases V with _ | _
  · have hv : ((v : Int) != (u : Int)) = true := by
      have := of_decide_eq_false hV
      simp
      omega
    clear hV hB
    go_enter Try.func25, Try.ntmps25
    go_upto_if 33 with (first | go_skip | (refine wpList_load_at rfl 27 (.tmp 6) rfl (w.heap.size) 0 rfl (pcel tx n h) _ (fun j x hj => by rw [Nat.zero_add]; exact HC0.out j x hj) Try.underlying27 rfl HPX.out ?_) | (refine wpList_load_at rfl 27 (.tmp 8) rfl (w.heap.size + 1) 0 rfl (pcel ty m k) _ (fun j x hj => by rw [Nat.zero_add]; exact HC1.out j x hj) Try.underlying27 rfl HPY.out ?_) | (refine wpList_val (some 10) rfl rfl (.bool false) (run_neqp 27 (.tmp 7) (.tmp 9) _ rfl _ _ rfl rfl (by kernel_rfl) true (HQ.out _)) ?_))
    go_wp2_with fail
    go_ret
    exact ⟨by rw [HSC.out]; rfl, NN.out⟩
  obtain rfl : v = u := of_decide_eq_true hV
  have hv : ((v : Int) != (v : Int)) = false := by simp
  clear hV
  rcases B with _ | _
  · rcases b with _ | _ <;> rcases d with _ | _
    · cases hB
    · clear hB
      go_enter Try.func25, Try.ntmps25
      go_upto_if 33 with (first | go_skip | (refine wpList_load_at rfl 27 (.tmp 6) rfl (w.heap.size) 0 rfl (pcel tx n h) _ (fun j x hj => by rw [Nat.zero_add]; exact HC0.out j x hj) Try.underlying27 rfl HPX.out ?_) | (refine wpList_load_at rfl 27 (.tmp 8) rfl (w.heap.size + 1) 0 rfl (pcel ty m k) _ (fun j x hj => by rw [Nat.zero_add]; exact HC1.out j x hj) Try.underlying27 rfl HPY.out ?_) | (refine wpList_val (some 10) rfl rfl (.bool false) (run_neqp 27 (.tmp 7) (.tmp 9) _ rfl _ _ rfl rfl (by kernel_rfl) true (HQ.out _)) ?_))
      go_wp2_with fail
      go_ret
      exact ⟨by rw [HSC.out]; rfl, NN.out⟩
    · clear hB
      go_enter Try.func25, Try.ntmps25
      go_upto_if 33 with (first | go_skip | (refine wpList_load_at rfl 27 (.tmp 6) rfl (w.heap.size) 0 rfl (pcel tx n h) _ (fun j x hj => by rw [Nat.zero_add]; exact HC0.out j x hj) Try.underlying27 rfl HPX.out ?_) | (refine wpList_load_at rfl 27 (.tmp 8) rfl (w.heap.size + 1) 0 rfl (pcel ty m k) _ (fun j x hj => by rw [Nat.zero_add]; exact HC1.out j x hj) Try.underlying27 rfl HPY.out ?_) | (refine wpList_val (some 10) rfl rfl (.bool false) (run_neqp 27 (.tmp 7) (.tmp 9) _ rfl _ _ rfl rfl (by kernel_rfl) true (HQ.out _)) ?_))
      go_wp2_with fail
      go_ret
      exact ⟨by rw [HSC.out]; rfl, NN.out⟩
    · cases hB
  obtain rfl : b = d := by simpa using hB
  have hb : (b != b) = false := by simp
  clear hB
  by_cases hl : l.length = r.length
  · have hle : ((l.length : Int) != (r.length : Int)) = false := by simp [hl]
    have HLL := Lib.hid hl
    clear hl
    go_enter Try.func25, Try.ntmps25
    go_upto_if 33 with (first | go_skip | (refine wpList_load_at rfl 27 (.tmp 6) rfl (w.heap.size) 0 rfl (pcel tx n h) _ (fun j x hj => by rw [Nat.zero_add]; exact HC0.out j x hj) Try.underlying27 rfl HPX.out ?_) | (refine wpList_load_at rfl 27 (.tmp 8) rfl (w.heap.size + 1) 0 rfl (pcel ty m k) _ (fun j x hj => by rw [Nat.zero_add]; exact HC1.out j x hj) Try.underlying27 rfl HPY.out ?_) | (refine wpList_val (some 10) rfl rfl (.bool false) (run_neqp 27 (.tmp 7) (.tmp 9) _ rfl _ _ rfl rfl (by kernel_rfl) true (HQ.out _)) ?_))
    go_wp2_with fail
    generalize (w.alloc (.cells (ccel tx n h v b (.slice A1 l.length c1)) 31)).alloc (.cells (ccel ty m k v b (.slice A2 r.length c2)) 31) = W at *
    go_loopw [5] (fun i wr => ∃ q : Nat, q ≤ l.length ∧ i = .int .i64 q ∧ Hid (l.take q = r.take q) ∧ ∃ z, wr = W.drewN z) (fun i _ => l.length - (intOf i).toNat)
    case atStart => exact ⟨0, by omega, rfl, show _ = _ by simp, 0, rfl⟩
    case round =>
      obtain ⟨q, hq, rfl, HE, z, rfl⟩ := hrel
      by_cases hlt : q < l.length
      · have hlr : q < r.length := by have := HLL.out; omega
        obtain ⟨b1, o1, rfl, hb1, hc1⟩ := HA1.out (by omega)
        obtain ⟨b2, o2, rfl, hb2, hc2⟩ := HA2.out (by omega)
        have g1 := hc1 q hlt
        have g2 := hc2 q hlr
        clear hc1 hc2 hle
        have hlt' : (q : Int) < (l.length : Int) := by omega
        have hlr' : (q : Int) < (r.length : Int) := by omega
        have hmx : (l.length : Int) ≤ 9223372036854775807 := by have := HMX.out; omega
        by_cases hxy : l[q] = r[q]
        · have hne2 : ((l[q].toNat : Int) != (r[q].toNat : Int)) = false := by rw [hxy]; simp
          have HXY := Lib.hid hxy
          clear hxy
          go_wp2
          go_quiet (fail)
          go_wp2
          go_roundw
          case rel => exact ⟨q + 1, by omega, by go_num, show _ = _ by rw [List.take_add_one, List.take_add_one, HE.out, List.getElem?_eq_getElem hlt, List.getElem?_eq_getElem hlr, HXY.out], _, rfl⟩
          case measure => simp [intOf]; omega
        · have hne2 : ((l[q].toNat : Int) != (r[q].toNat : Int)) = true := by
            simp only [bne_iff_ne, ne_eq]
            intro e
            exact hxy (UInt8.toNat_inj.1 (by omega))
          have HNE : Hid ((l == r) = false) := Lib.hid (beq_false_of_ne fun e => hxy (by subst e; rfl))
          clear hxy
          go_wp2
          go_quiet (fail)
          go_wp2
          go_ret
          exact ⟨by rw [HSC.out, HNE.out]; rfl, (NN.out.drewN _).drewN _⟩
      · have HYE : Hid ((l == r) = true) := Lib.hid (by
          have := HE.out
          rw [List.take_of_length_le (by omega), List.take_of_length_le (by have := HLL.out; omega)] at this
          rw [this]; exact beq_self_eq_true r)
        clear hle
        have hlt' : ¬ (q : Int) < (l.length : Int) := by omega
        go_wp2
        go_ret
        exact ⟨by rw [HSC.out, HYE.out]; rfl, NN.out.drewN _⟩
  · have hle : ((l.length : Int) != (r.length : Int)) = true := by simp; omega
    have HNE : Hid ((l == r) = false) := Lib.hid (beq_false_of_ne fun e => hl (by rw [e]))
    clear hl
    go_enter Try.func25, Try.ntmps25
    go_upto_if 33 with (first | go_skip | (refine wpList_load_at rfl 27 (.tmp 6) rfl (w.heap.size) 0 rfl (pcel tx n h) _ (fun j x hj => by rw [Nat.zero_add]; exact HC0.out j x hj) Try.underlying27 rfl HPX.out ?_) | (refine wpList_load_at rfl 27 (.tmp 8) rfl (w.heap.size + 1) 0 rfl (pcel ty m k) _ (fun j x hj => by rw [Nat.zero_add]; exact HC1.out j x hj) Try.underlying27 rfl HPY.out ?_) | (refine wpList_val (some 10) rfl rfl (.bool false) (run_neqp 27 (.tmp 7) (.tmp 9) _ rfl _ _ rfl rfl (by kernel_rfl) true (HQ.out _)) ?_))
    go_wp2_with fail
    go_ret
    exact ⟨by rw [HSC.out, HNE.out]; rfl, NN.out⟩

end Go.Proofs.Ytniaiglfgknfiaa