/- LAYER 9: Hashes; the laws' works; what Way and Leads come to. -/
import Derived.Test.YtjbeemoobmagnaaDoorMer10
namespace Go.Proofs.YtjbeemoobmagnaaDoor
open Go Go.RowKit
set_option linter.unusedVariables false
set_option linter.unusedSimpArgs false
set_option linter.unusedVariables false
set_option linter.unusedSimpArgs false

theorem wp_neq_of {P : Program} {o : Oper} {a : Act} {w : World} {K : Act → World → Prop} {Q : Exit → Act → World → Prop} (dst : Option Tmp) (hd : o.dst = dst) (T : TypeId) (x y : Operand) (T' : TypeId) (ho : o.op = .binOp .neq T x y T') (X Y : Array Value)
    (hx : a.eval x = .agg X) (hy : a.eval y = .agg Y) (hgt : P.eqGuardType P.depth T = false) (b : Bool) (heq : (Op.equalIn 10000 T (.agg X) (.agg Y)).run P w = .ok b w) (h : K (a.put dst (.bool (!b))) w) : o.wp P a w K Q := by
  refine wp_val_of dst hd (.bool (!b)) ?_ h
  unfold execOp
  simp only [ho]
  have e1 : (eqGuard .neq T x y (a.eval x) (a.eval y)).run P w = .ok () w := by
    rw [hx, hy]
    simp [eqGuard, hgt, Sem.run_bind, Sem.run_pure, run_program]
  have e2 : (binOp .neq T (a.eval x) (a.eval y)).run P w = .ok (.bool (!b)) w := by
    rw [hx, hy]
    have : (Op.equal T (.agg X) (.agg Y)).run P w = .ok b w := heq
    simp [binOp, Sem.run_bind, this]
  simp only [Sem.run_bind, e1, e2, Result.andThen_ok, Sem.run_pure]

set_option maxRecDepth 100000 in
set_option maxHeartbeats 4000000 in
theorem hashes_any (v1 v2 : Value) (l1 l2 : Hs) (w : World) (r1 : RdE elH w v1 l1) (r2 : RdE elH w v2 l2) (hb : l1.length ≤ 1000000) :
    Calls Tryd.prog 37 #[v1, v2] w fun e w' => e = .returned (.bool (decide (l1 = l2))) ∧ Nx w w' := by
  have H1 := Lib.hid r1.h32
  have H2 := Lib.hid r2.h32
  obtain ⟨A1, c1, rfl, -, -, -, hq1⟩ := r1.h_parts
  obtain ⟨A2, c2, rfl, -, -, -, hq2⟩ := r2.h_parts
  clear r1 r2
  by_cases hl : l1.length = l2.length
  · rw [← hl]
    have HG : Hid (∀ k, k < l1.length → ∃ b1 o1 b2 o2, A1 = some ⟨b1, o1, none⟩ ∧ A2 = some ⟨b2, o2, none⟩ ∧ b1 < w.heap.size ∧ b2 < w.heap.size ∧ (∀ i u, (hcel (l1.getD k []))[i]? = some u → w.cell? ⟨b1, o1 + k * 32 + i, none⟩ = some u) ∧ (∀ i u, (hcel (l2.getD k []))[i]? = some u → w.cell? ⟨b2, o2 + k * 32 + i, none⟩ = some u)) := Lib.hid fun k hk => by
      obtain ⟨b1, o1, e1, hb1, hc1⟩ := hq1 (by omega)
      obtain ⟨b2, o2, e2, hb2, hc2⟩ := hq2 (by omega)
      exact ⟨b1, o1, b2, o2, e1, e2, hb1, hb2, fun i u hu => getD_cells hc1 k hk i u hu, fun i u hu => getD_cells hc2 k (by omega) i u hu⟩
    have HEQ : Hid (∀ k, k < l1.length → ((l1.take k = l2.take k ∧ l1.getD k [] = l2.getD k []) ↔ l1.take (k + 1) = l2.take (k + 1))) := Lib.hid fun k hk => by
      rw [List.take_succ_eq_append_getElem hk, List.take_succ_eq_append_getElem (show k < l2.length by omega), List.getD_eq_getElem?_getD, List.getD_eq_getElem?_getD, List.getElem?_eq_getElem hk, List.getElem?_eq_getElem (show k < l2.length by omega)]
      constructor
      · rintro ⟨h1, h2⟩
        rw [h1]
        have : l1[k] = l2[k] := h2
        rw [this]
      · intro h
        have hl1 : (l1.take k).length = (l2.take k).length := by rw [List.length_take, List.length_take]; omega
        obtain ⟨h1, h2⟩ := List.append_inj h hl1
        exact ⟨h1, by simpa using h2⟩
    have HNE : Hid (∀ k, k < l1.length → l1.getD k [] ≠ l2.getD k [] → decide (l1 = l2) = false) := Lib.hid fun k hk h => by
      simp only [decide_eq_false_iff_not]
      rintro rfl
      exact h rfl
    have HAL : Hid (l1.take l1.length = l2.take l1.length → decide (l1 = l2) = true) := Lib.hid fun h => by
      rw [List.take_of_length_le (Nat.le_refl _), List.take_of_length_le (by omega)] at h
      simp [h]
    have HL1 := Lib.hid (fun k (hk : k < l1.length) => H1.out.getD hk)
    have HL2 : Hid (∀ k, k < l1.length → (l2.getD k []).length = 32) := Lib.hid (fun k (hk : k < l1.length) => H2.out.getD (by omega))
    have hbi : (l1.length : Int) ≤ 1000000 := by omega
    clear hq1 hq2 hl hb H1 H2
    generalize hD : decide (l1 = l2) = D at *
    clear hD
    generalize l1.length = n at *
    have hne : ((n : Int) != (n : Int)) = false := by simp
    go_enter Tryd.func37, Tryd.ntmps37
    go_wp2_with fail
    go_loopw [5] (fun i wr => ∃ k : Nat, i = .int .i64 (k : Int) ∧ Hid (k ≤ n) ∧ Hid (l1.take k = l2.take k) ∧ Hid (Nx w wr)) (fun i _ => n - (intOf i).toNat)
    case atStart => exact ⟨0, rfl, Lib.hid (Nat.zero_le _), Lib.hid (by rw [List.take_zero, List.take_zero]), Lib.hid (Nx.refl w)⟩
    case round =>
      obtain ⟨k, rfl, hk, HT, HN⟩ := hrel
      by_cases hlt : k < n
      · have hlti : (k : Int) < (n : Int) := by omega
        obtain ⟨b1, o1, b2, o2, rfl, rfl, hb1, hb2, hc1, hc2⟩ := HG.out k hlt
        have C1 : Hid (∀ wr', Nx w wr' → ∀ i u, (hcel (l1.getD k []))[i]? = some u → wr'.cell? ⟨b1, o1 + k * 32 + i, none⟩ = some u) := Lib.hid fun wr' hx i u hu => (hx.cell (p := ⟨b1, o1 + k * 32 + i, none⟩) hb1).trans (hc1 i u hu)
        have C2 : Hid (∀ wr', Nx w wr' → ∀ i u, (hcel (l2.getD k []))[i]? = some u → wr'.cell? ⟨b2, o2 + k * 32 + i, none⟩ = some u) := Lib.hid fun wr' hx i u hu => (hx.cell (p := ⟨b2, o2 + k * 32 + i, none⟩) hb2).trans (hc2 i u hu)
        have L1 := Lib.hid (HL1.out k hlt)
        have L2 := Lib.hid (HL2.out k hlt)
        have HQ := Lib.hid (HEQ.out k hlt)
        have HQN := Lib.hid (HNE.out k hlt)
        clear hc1 hc2 hb1 hb2
        generalize l1.getD k [] = h1 at *
        generalize l2.getD k [] = h2 at *
        have Z1 := Lib.hid (hashsz h1 L1.out)
        have Z2 := Lib.hid (hashsz h2 L2.out)
        have EQ := Lib.hid (fun w => eq_hash2 h1 h2 L1.out L2.out w)
        replace hlt := Lib.hid hlt
        go_wp2_with fail
        refine wp_region_nx 9 [[], [], [0, 1], [2], [], [], [4, 5], [6], [3, 7]] [some 17, some 18, some 19, some 20, some 21, some 22, some 23, some 24, some 25]
          [.eq (.slice (some ⟨b1, o1, none⟩) n c1), .eq (.int .i64 (k : Int)), .eq (.pointer (some ⟨b1, o1 + k * 32, none⟩)), .eq (.agg (hcel h1)), .eq (.slice (some ⟨b2, o2, none⟩) n c2), .eq (.int .i64 (k : Int)), .eq (.pointer (some ⟨b2, o2 + k * 32, none⟩)), .eq (.agg (hcel h2)), .eq (.bool (!decide (h1 = h2)))]
          (by kernel_rfl) (by kernel_rfl) (hord_of (by decide)) (by kernel_rfl) (by decide) (by decide) (htail_of (by decide)) ?_ _ (by rfl) ?_
        · intro x tm wr htm hx i hi hd K hK
          simp only [fillA, List.setIfInBounds_toArray, List.set_cons_zero, List.set_cons_succ] at htm
          subst htm
          have hcs : i = 0 ∨ i = 1 ∨ i = 2 ∨ i = 3 ∨ i = 4 ∨ i = 5 ∨ i = 6 ∨ i = 7 ∨ i = 8 := by omega
          clear hi
          rcases hcs with rfl | rfl | rfl | rfl | rfl | rfl | rfl | rfl | rfl
          · exact wpOp_of rfl rfl (wp_val_of (some 17) rfl (.slice (some ⟨b1, o1, none⟩) n c1) (by kernel_rfl) (hK _ _ rfl (Nx.refl _)))
          · exact wpOp_of rfl rfl (wp_val_of (some 18) rfl (.int .i64 (k : Int)) (by kernel_rfl) (hK _ _ rfl (Nx.refl _)))
          · have e0 : x 0 = .slice (some ⟨b1, o1, none⟩) n c1 := hd 0 (by decide)
            have e1 : x 1 = .int .i64 (k : Int) := hd 1 (by decide)
            generalize x 0 = y0 at e0 hK ⊢
            subst e0
            generalize x 1 = y1 at e1 hK ⊢
            subst e1
            exact wpOp_of rfl rfl (wp_ix_of (some 19) rfl 46 30 (.tmp 17) (.tmp 18) rfl Tryd.underlying46 32 Tryd.sizeOf30 b1 o1 n c1 k (k : Int) rfl rfl rfl hlt.out (hK _ _ rfl (Nx.refl _)))
          · have e2 : x 2 = .pointer (some ⟨b1, o1 + k * 32, none⟩) := hd 2 (by decide)
            generalize x 2 = y2 at e2 hK ⊢
            subst e2
            exact wpOp_of rfl rfl (wp_load_at (some 20) rfl 30 (.tmp 19) rfl b1 (o1 + k * 32) rfl (hcel h1) _ (C1.out wr (HN.out.trans hx)) Tryd.underlying30 rfl Z1.out (hK _ _ rfl (Nx.refl _)))
          · exact wpOp_of rfl rfl (wp_val_of (some 21) rfl (.slice (some ⟨b2, o2, none⟩) n c2) (by kernel_rfl) (hK _ _ rfl (Nx.refl _)))
          · exact wpOp_of rfl rfl (wp_val_of (some 22) rfl (.int .i64 (k : Int)) (by kernel_rfl) (hK _ _ rfl (Nx.refl _)))
          · have e4 : x 4 = .slice (some ⟨b2, o2, none⟩) n c2 := hd 4 (by decide)
            have e5 : x 5 = .int .i64 (k : Int) := hd 5 (by decide)
            generalize x 4 = y4 at e4 hK ⊢
            subst e4
            generalize x 5 = y5 at e5 hK ⊢
            subst e5
            exact wpOp_of rfl rfl (wp_ix_of (some 23) rfl 46 30 (.tmp 21) (.tmp 22) rfl Tryd.underlying46 32 Tryd.sizeOf30 b2 o2 n c2 k (k : Int) rfl rfl rfl hlt.out (hK _ _ rfl (Nx.refl _)))
          · have e6 : x 6 = .pointer (some ⟨b2, o2 + k * 32, none⟩) := hd 6 (by decide)
            generalize x 6 = y6 at e6 hK ⊢
            subst e6
            exact wpOp_of rfl rfl (wp_load_at (some 24) rfl 30 (.tmp 23) rfl b2 (o2 + k * 32) rfl (hcel h2) _ (C2.out wr (HN.out.trans hx)) Tryd.underlying30 rfl Z2.out (hK _ _ rfl (Nx.refl _)))
          · have e3 : x 3 = .agg (hcel h1) := hd 3 (by decide)
            have e7 : x 7 = .agg (hcel h2) := hd 7 (by decide)
            generalize x 3 = y3 at e3 hK ⊢
            subst e3
            generalize x 7 = y7 at e7 hK ⊢
            subst e7
            exact wpOp_of rfl rfl (wp_neq_of (some 25) rfl 30 _ _ _ rfl (hcel h1) (hcel h2) rfl rfl (by kernel_rfl) (decide (h1 = h2)) (EQ.out wr) (hK _ _ rfl (Nx.refl _)))
        · intro x tm wr htm hx hv
          simp only [fillA, List.setIfInBounds_toArray, List.set_cons_zero, List.set_cons_succ] at htm
          subst htm
          have e8 : x 8 = .bool (!decide (h1 = h2)) := hv 8 (by decide)
          rw [e8]
          refine wpList_nil ?_
          have NQ := Lib.hid (HN.out.trans hx)
          clear hv C1 C2
          by_cases hh : h1 = h2
          · have hd : decide (h1 = h2) = true := by simp [hh]
            have HT2 := Lib.hid (HQ.out.1 ⟨HT.out, hh⟩)
            rw [hd]
            clear hh hd
            go_wp2_with fail
            go_roundw
            case rel => exact ⟨k + 1, by go_num, Lib.hid (by have := hlt.out; omega), HT2, NQ⟩
            case measure => have := hlt.out; simp [intOf]; omega
          · have hd : decide (h1 = h2) = false := by simp [hh]
            have hD := Lib.hid (HQN.out hh)
            rw [hd]
            clear hh hd
            go_wp2_with fail
            go_ret
            exact ⟨by rw [hD.out]; rfl, NQ.out⟩
      · have hkn : k = n := by have := hk.out; omega
        subst hkn
        have hD := Lib.hid (HAL.out HT.out)
        clear hlt
        go_wp2_with fail
        go_ret
        exact ⟨by rw [hD.out]; rfl, HN.out⟩
  · have hne : ((l1.length : Int) != (l2.length : Int)) = true := by simp; omega
    have hD : Hid (decide (l1 = l2) = false) := Lib.hid (by simp; rintro rfl; exact hl rfl)
    generalize decide (l1 = l2) = D at *
    clear hq1 hq2 hl hb H1 H2
    generalize l1.length = n1 at *
    generalize l2.length = n2 at *
    go_enter Tryd.func37, Tryd.ntmps37
    go_wp2_with fail
    go_ret
    exact ⟨by rw [hD.out]; rfl, Nx.refl w⟩

/-- What Way comes to. -/
def wayO (l : Hs) (n : Int) : Hs := if 0 ≤ n ∧ n < l.length then wayF l n.toNat else []
def wayE (l : Hs) (n : Int) : Int := if 0 ≤ n ∧ n < l.length then 0 else 2
theorem mway_all (v : Value) (l : Hs) (n : Int) (w : World) (hr : RdE elH w v l) (hn : l.length ≤ 1000) (hk : KIs w) :
    Calls Tryd.prog 33 #[v, .int .i64 n] w fun e w' => ∃ v', e = .returned (.tuple #[v', .int .i64 (wayE l n)]) ∧ OwnE elH w.heap.size w' v' (wayO l n) ∧ Nx w w' := by
  by_cases h : 0 ≤ n ∧ n < l.length
  · obtain ⟨m, rfl⟩ := Int.eq_ofNat_of_zero_le h.1
    have := mway_yes v l m w hr hn (by omega) hk
    unfold wayO wayE
    rw [if_pos h, if_pos h]
    exact this
  · unfold wayO wayE
    rw [if_neg h, if_neg h]
    exact (mway_no v l n w hr hn (by omega)).mono fun e w' ⟨h1, h2⟩ => ⟨_, h1, by rw [h2]; exact OwnE.nil _ _, by rw [h2]; exact Nx.refl w⟩
theorem rway_all (v : Value) (l : Hs) (n : Int) (w : World) (hr : RdE elH w v l) (hn : l.length ≤ 1000) :
    Calls Tryd.prog 34 #[v, .int .i64 n] w fun e w' => ∃ v', e = .returned (.tuple #[v', .int .i64 (wayE l n)]) ∧ OwnE elH w.heap.size w' v' (wayO l n) ∧ Nx w w' := by
  by_cases h : 0 ≤ n ∧ n < l.length
  · obtain ⟨m, rfl⟩ := Int.eq_ofNat_of_zero_le h.1
    have := rway_yes v l m w hr hn (by omega)
    unfold wayO wayE
    rw [if_pos h, if_pos h]
    exact this
  · unfold wayO wayE
    rw [if_neg h, if_neg h]
    exact (rway_no v l n w hr (by omega)).mono fun e w' ⟨h1, h2⟩ => ⟨_, h1, by rw [h2]; exact OwnE.nil _ _, by rw [h2]; exact Nx.refl w⟩
/-- What Leads comes to. -/
def leadsO (h : List UInt8) (n many : Int) (way : Hs) : List UInt8 × Int := if 0 ≤ n ∧ n < many ∧ many ≤ 1048576 then (if way.length = belowF many.toNat then (leadsF h n.toNat many.toNat way, 0) else (hZ, 5)) else (hZ, 2)
theorem leadsO_length (h : List UInt8) (n many : Int) (way : Hs) (hh : h.length = 32) : (leadsO h n many way).1.length = 32 := by
  unfold leadsO
  split
  · split
    · exact leadsF_length _ _ _ _ hh
    · exact hZ_length
  · exact hZ_length
theorem mleads_all (h : List UInt8) (n many : Int) (v : Value) (way : Hs) (w : World) (hh : h.length = 32) (hr : RdE elH w v way) (hk : KIs w) :
    Calls Tryd.prog 35 #[.agg (hcel h), .int .i64 n, .int .i64 many, v] w fun e w' => e = .returned (.tuple #[.agg (hcel (leadsO h n many way).1), .int .i64 (leadsO h n many way).2]) ∧ Nx w w' := by
  unfold leadsO
  by_cases h1 : 0 ≤ n ∧ n < many ∧ many ≤ 1048576
  · obtain ⟨m, rfl⟩ := Int.eq_ofNat_of_zero_le h1.1
    obtain ⟨k, rfl⟩ := Int.eq_ofNat_of_zero_le (show 0 ≤ many by omega)
    rw [if_pos h1]
    simp only [Int.toNat_natCast]
    by_cases h2 : way.length = belowF k
    · rw [if_pos h2]
      exact mleads_yes h m k v way w hh hr h2 (by omega) (by omega) hk
    · rw [if_neg h2]
      exact mleads_form h m k v way w hh hr h2 (by omega) (by omega)
  · rw [if_neg h1]
    exact mleads_arg h n many v w hh h1
theorem rleads_all (h : List UInt8) (n many : Int) (v : Value) (way : Hs) (w : World) (hh : h.length = 32) (hr : RdE elH w v way) :
    Calls Tryd.prog 36 #[.agg (hcel h), .int .i64 n, .int .i64 many, v] w fun e w' => e = .returned (.tuple #[.agg (hcel (leadsO h n many way).1), .int .i64 (leadsO h n many way).2]) ∧ Nx w w' := by
  unfold leadsO
  by_cases h1 : 0 ≤ n ∧ n < many ∧ many ≤ 1048576
  · obtain ⟨m, rfl⟩ := Int.eq_ofNat_of_zero_le h1.1
    obtain ⟨k, rfl⟩ := Int.eq_ofNat_of_zero_le (show 0 ≤ many by omega)
    rw [if_pos h1]
    simp only [Int.toNat_natCast]
    by_cases h2 : way.length = belowF k
    · rw [if_pos h2]
      exact rleads_yes h m k v way w hh hr h2 (by omega) (by omega)
    · rw [if_neg h2]
      exact rleads_form h m k v way w hh hr h2 (by omega) (by omega)
  · rw [if_neg h1]
    exact rleads_arg h n many v w hh h1
end Go.Proofs.YtjbeemoobmagnaaDoor
