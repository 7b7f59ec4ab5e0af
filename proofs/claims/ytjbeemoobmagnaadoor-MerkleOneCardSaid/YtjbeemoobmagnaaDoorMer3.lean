/- LAYER 9: Root. -/
import Derived.Test.YtjbeemoobmagnaaDoorMer2
import Derived.Test.YtjbeemoobmagnaaDoorEqH
import Derived.WalkMore
import Derived.Test.YtjbeemoobmagnaaDoorResCell
namespace Go.Proofs.YtjbeemoobmagnaaDoor
open Go Go.RowKit
set_option linter.unusedVariables false
set_option linter.unusedSimpArgs false
set_option linter.unusedVariables false
set_option linter.unusedSimpArgs false

theorem noGoto_ret {Q : Exit → Act → World → Prop} {a : Act} {w : World} (h : Q .ret a w) : Exit.noGoto Q .ret a w := h
def lenOf : Value → Nat | .slice _ n _ => n | _ => 0
/-- The first pairs are of unlike ones. -/
def okTo (l : Hs) (k : Nat) : Bool := (List.range k).all fun i => decide (l.getD (2 * i) [] ≠ l.getD (2 * i + 1) [])
theorem okTo_next (l : Hs) (k : Nat) : okTo l (k + 1) = (okTo l k && decide (l.getD (2 * k) [] ≠ l.getD (2 * k + 1) [])) := okRow_next l k
theorem okRow_to (l : Hs) : okRow l = okTo l (l.length / 2) := rfl
theorem okTo_false (l : Hs) : ∀ (k m : Nat), k ≤ m → okTo l k = false → okTo l m = false := by
  intro k m h hk
  induction m with
  | zero =>
    obtain rfl : k = 0 := by omega
    exact hk
  | succ m ih =>
    rcases Nat.lt_or_ge k (m + 1) with h1 | h1
    · rw [okTo_next, ih (by omega)]; rfl
    · obtain rfl : k = m + 1 := by omega
      exact hk
set_option maxRecDepth 100000 in
set_option maxHeartbeats 4000000 in
theorem mroot_any (v : Value) (l : Hs) (w : World) (hr : RdE elH w v l) (hn : l.length ≤ 1000) (hk : KIs w) :
    Calls Tryd.prog 31 #[v] w fun e w' => e = .returned (.tuple #[.agg (hcel (rootH l)), .bool (rootB l)]) ∧ Nx w w' := by
  obtain ⟨hz, hzs⟩ := zero_of_info info_hash'
  have HK := Lib.hid hk
  obtain ⟨RH, hRH⟩ : ∃ RH, rootH l = RH := ⟨_, rfl⟩
  obtain ⟨RB, hRB⟩ : ∃ RB, rootB l = RB := ⟨_, rfl⟩
  have hr32 : RH.length = 32 := by
    obtain ⟨A, c, _, _, _, h32, _⟩ := hr.h_parts
    rw [← hRH]; exact rootH_length h32
  have HZL : Hid ((List.replicate 32 (0 : UInt8)).length = 32) := Lib.hid List.length_replicate
  have HR0 : Hid (∀ {l : Hs}, l.length = 0 → rootH l = List.replicate 32 0) := Lib.hid rootH_zero
  have HRN : Hid (∀ {l : Hs}, ¬ l.length ≤ 1 → okRow l = false → rootH l = List.replicate 32 0) := Lib.hid rootH_no
  generalize List.replicate 32 (0 : UInt8) = ZZ at *
  have iR := Lib.hid (hashsz RH hr32)
  have oR := Lib.hid (hashsame ZZ RH HZL.out hr32)
  rw [hRH, hRB]
  replace hRH := Lib.hid hRH
  replace hRB := Lib.hid hRB
  replace hr := Lib.hid hr
  clear hk hr32
  go_enter Tryd.func31, Tryd.ntmps31
  go_wp2_with fail
  go_step3
  go_wp2_with fail
  go_step3
  go_wp2_with fail
  have R0 := Row.new w (hcel ZZ) 30 _ rfl
  have N0 := Lib.hid ((Nx.refl w).alloc (.cells (hcel ZZ) 30))
  have HR := Lib.hid (hr.out.nx N0.out)
  have HLn := Lib.hid hn
  generalize hW : w.alloc (.cells (hcel ZZ) 30) = W at *
  clear hW hr
  go_loopw [4] (fun u wr => ∃ L : Hs, Hid (RdE elH wr u L) ∧ Hid (L.length ≤ 1000) ∧ Hid (rootH L = RH) ∧ Hid (rootB L = RB) ∧ Hid (Nx w wr) ∧ Row wr w.heap.size (hcel ZZ) 30) (fun u _ => lenOf u)
  case atStart => exact ⟨l, HR, HLn, hRH, hRB, N0, R0⟩
  case round =>
    clear HR hRH hRB N0 R0 HLn hn
    obtain ⟨L, HR, HLN, hRH, hRB, HN, R0⟩ := hrel
    have HNW := HN
    obtain ⟨wo, hwo⟩ : ∃ x, x = wr := ⟨_, rfl⟩
    subst hwo
    obtain ⟨A, c, rfl, hc1, hc2, h32, hcq⟩ := HR.out.h_parts
    have HNI : (L.length : Int) ≤ 1000 := by have := HLN.out; omega
    by_cases h0 : L.length = 0
    · have e1 : Hid (RH = ZZ) := Lib.hid (by rw [← hRH.out]; exact HR0.out h0)
      have e2 : Hid (RB = false) := Lib.hid (by rw [← hRB.out]; exact rootB_zero h0)
      have h0i : decide ((0 : Int) < (L.length : Int)) = false := by rw [h0]; rfl
      have h0n : decide (0 < L.length) = false := by rw [h0]; rfl
      clear hcq hc1 hc2 h32 h0
      rw [← e1.out] at hz
      go_wp2_with (refine wpList_store_row rfl 30 (.tmp 2) (.tmp 34) rfl w.heap.size (hcel RH) rfl rfl 30 (hcel ZZ) R0 iR.out oR.out (hcel_one _) ?_)
      exact noGoto_ret (bodyPost_ret (results_cell_two Tryd.results31 _ _ w.heap.size 30 (hcel RH) (0, 0) _ rfl (R0.setRow _) Tryd.underlying30 rfl iR.out) rfl ⟨by rw [e2.out]; rfl, HN.out.setRow _ (Nat.le_refl _)⟩)
    · have hcq2 := hcq (by omega)
      clear hcq
      obtain ⟨b, o, rfl, hb, hcell⟩ := hcq2
      have HGC := Lib.hid (fun j hj => getD_cells hcell j hj)
      have HGL := Lib.hid (fun j (hj : j < L.length) => h32.getD hj)
      have HB := Lib.hid hb
      clear hcell hb h32
      have h0i : decide ((0 : Int) < (L.length : Int)) = true := by simp; omega
      have h0n : decide (0 < L.length) = true := by simp; omega
      by_cases h1 : L.length = 1
      · have e1 : Hid (RH = L.getD 0 []) := Lib.hid (by rw [← hRH.out]; exact rootH_one h1)
        have e2 : Hid (RB = true) := Lib.hid (by rw [← hRB.out]; exact rootB_one h1)
        have h1i : ((L.length : Int) == 1) = true := by simp; omega
        have C1 : Hid (∀ i u, (hcel RH)[i]? = some u → wo.cell? ⟨b, o + 0 * 32 + i, none⟩ = some u) := Lib.hid fun i u hu => HGC.out 0 (by omega) i u (by rw [← e1.out]; exact hu)
        simp only [Nat.zero_mul, Nat.add_zero] at C1
        clear h0 HGC HGL
        rw [h1] at h0i h0n h1i HNI ⊢
        clear h1
        go_wp2_with (first | (refine wpList_load_at rfl 30 (.tmp 14) rfl b o rfl (hcel RH) _ C1.out Tryd.underlying30 rfl iR.out ?_) | (refine wpList_store_row rfl 30 (.tmp 2) (.tmp 15) rfl w.heap.size (hcel RH) rfl rfl 30 (hcel ZZ) R0 iR.out oR.out (hcel_one _) ?_))
        exact noGoto_ret (bodyPost_ret (results_cell_two Tryd.results31 _ _ w.heap.size 30 (hcel RH) (0, 0) _ rfl (R0.setRow _) Tryd.underlying30 rfl iR.out) rfl ⟨by rw [e2.out]; rfl, HN.out.setRow _ (Nat.le_refl _)⟩)
      · have hgt : ¬ L.length ≤ 1 := by omega
        have h1i : ((L.length : Int) == 1) = false := by simp; omega
        have HKR := Lib.hid (HK.out.nx HN.out)
        have HAB := Lib.hid (fun W (h : Nx wo W) => mabove_any _ L W (HR.out.nx h) (by omega) HLN.out (HKR.out.nx h))
        have HUP : Hid (okRow L = true → rootH (abv L) = RH ∧ rootB (abv L) = RB) := Lib.hid fun hk => ⟨by rw [← hRH.out, rootH_up hgt hk], by rw [← hRB.out, rootB_up hgt hk]⟩
        have HDN : Hid (okRow L = false → RH = ZZ ∧ RB = false) := Lib.hid fun hk => ⟨by rw [← hRH.out]; exact HRN.out hgt hk, by rw [← hRB.out, rootB_no hgt hk]⟩
        have HAL := Lib.hid (abv_length L)
        have HLT := Lib.hid (abv_lt hgt)
        have HH : Hid (halfN L.length ≤ 1000) := Lib.hid (by have := HLN.out; unfold halfN; omega)
        have HOR := Lib.hid (okRow_to L)
        have HG2 : Hid (2 ≤ L.length) := Lib.hid (by omega)
        clear h0 h1 hgt
        generalize hn : L.length = n at *
        replace hn := Lib.hid hn
        go_wp2_with fail
        have HX0 := Lib.hid (Nx.refl wo)
        go_loopw [5] (fun i wq => ∃ k : Nat, i = .int .i64 ((2 * k + 1 : Nat) : Int) ∧ Hid (2 * k ≤ n) ∧ Hid (okTo L k = true) ∧ Hid (Nx wo wq)) (fun i _ => n - (intOf i).toNat)
        case atStart => exact ⟨0, rfl, Lib.hid (Nat.zero_le _), Lib.hid rfl, HX0⟩
        case round =>
          clear HX0
          obtain ⟨k, rfl, hk, hok, HN⟩ := hrel
          by_cases hlt : 2 * k + 1 < n
          · have hlti : ((2 * k + 1 : Nat) : Int) < (n : Int) := by omega
            have HM2 : Hid (IntKind.i64.wrap (((2 * k + 1 : Nat) : Int) - 1) = ((2 * k : Nat) : Int)) := Lib.hid (by rw [IntWalk.i64_in _ (by have := HLN.out; omega)]; omega)
            have HM3 : Hid (((2 * k + 1 : Nat) : Int) + 2 = ((2 * (k + 1) + 1 : Nat) : Int)) := Lib.hid (by omega)
            have HJ1 : Hid (2 * k < n) := Lib.hid (by omega)
            have HJ2 : Hid (2 * k + 1 < n) := Lib.hid hlt
            have L1 := Lib.hid (HGL.out _ HJ1.out)
            have L2 := Lib.hid (HGL.out _ HJ2.out)
            have C1 : Hid (∀ wr', Nx wo wr' → ∀ i u, (hcel (L.getD (2 * k) []))[i]? = some u → wr'.cell? ⟨b, o + 2 * k * 32 + i, none⟩ = some u) := Lib.hid fun wr' hx i u hu => (hx.cell (p := ⟨b, o + 2 * k * 32 + i, none⟩) HB.out).trans (HGC.out _ HJ1.out i u hu)
            have C2 : Hid (∀ wr', Nx wo wr' → ∀ i u, (hcel (L.getD (2 * k + 1) []))[i]? = some u → wr'.cell? ⟨b, o + (2 * k + 1) * 32 + i, none⟩ = some u) := Lib.hid fun wr' hx i u hu => (hx.cell (p := ⟨b, o + (2 * k + 1) * 32 + i, none⟩) HB.out).trans (HGC.out _ HJ2.out i u hu)
            have HOK := Lib.hid (okTo_next L k)
            have HOF : Hid (okTo L (k + 1) = false → okRow L = false) := Lib.hid fun h => by rw [HOR.out]; exact okTo_false L _ _ (by have := HJ2.out; omega) h
            generalize L.getD (2 * k) [] = h1 at *
            generalize L.getD (2 * k + 1) [] = h2 at *
            have Z1 := Lib.hid (hashsz h1 L1.out)
            have Z2 := Lib.hid (hashsz h2 L2.out)
            have EQ := Lib.hid (fun w => eq_hash2 h1 h2 L1.out L2.out w)
            have hki : ((2 * k + 1 : Nat) : Int) ≤ 1000 := by have := HLN.out; omega
            replace hlt := Lib.hid hlt
            go_wp2_with fail
            refine wp_region_nx 10 [[], [], [1], [0, 2], [3], [], [], [5, 6], [7], [4, 8]] [some 22, some 23, some 24, some 25, some 26, some 27, some 28, some 29, some 30, some 31]
              [.eq (.slice (some ⟨b, o, none⟩) n c), .eq (.int .i64 ((2 * k + 1 : Nat) : Int)), .eq (.int .i64 ((2 * k : Nat) : Int)), .eq (.pointer (some ⟨b, o + 2 * k * 32, none⟩)), .eq (.agg (hcel h1)), .eq (.slice (some ⟨b, o, none⟩) n c), .eq (.int .i64 ((2 * k + 1 : Nat) : Int)), .eq (.pointer (some ⟨b, o + (2 * k + 1) * 32, none⟩)), .eq (.agg (hcel h2)), .eq (.bool (decide (h1 = h2)))]
              (by kernel_rfl) (by kernel_rfl) (hord_of (by decide)) (by kernel_rfl) (by decide) (by decide) (htail_of (by decide)) ?_ _ (by rfl) ?_
            · intro x tm wr htm hx i hi hd K hK
              simp only [fillA, List.setIfInBounds_toArray, List.set_cons_zero, List.set_cons_succ] at htm
              subst htm
              have hcs : i = 0 ∨ i = 1 ∨ i = 2 ∨ i = 3 ∨ i = 4 ∨ i = 5 ∨ i = 6 ∨ i = 7 ∨ i = 8 ∨ i = 9 := by omega
              clear hi
              rcases hcs with rfl | rfl | rfl | rfl | rfl | rfl | rfl | rfl | rfl | rfl
              · exact wpOp_of rfl rfl (wp_val_of (some 22) rfl (.slice (some ⟨b, o, none⟩) n c) (by kernel_rfl) (hK _ _ rfl (Nx.refl _)))
              · exact wpOp_of rfl rfl (wp_val_of (some 23) rfl (.int .i64 ((2 * k + 1 : Nat) : Int)) (by kernel_rfl) (hK _ _ rfl (Nx.refl _)))
              · have e1 : x 1 = .int .i64 ((2 * k + 1 : Nat) : Int) := hd 1 (by decide)
                generalize x 1 = y1 at e1 hK ⊢
                subst e1
                exact wpOp_of rfl rfl (wp_val_of (some 24) rfl (.int .i64 (IntKind.i64.wrap (((2 * k + 1 : Nat) : Int) - 1))) (by kernel_rfl) (hK _ _ (show _ = _ by rw [HM2.out]) (Nx.refl _)))
              · have e0 : x 0 = .slice (some ⟨b, o, none⟩) n c := hd 0 (by decide)
                have e2 : x 2 = .int .i64 ((2 * k : Nat) : Int) := hd 2 (by decide)
                generalize x 0 = y0 at e0 hK ⊢
                subst e0
                generalize x 2 = y2 at e2 hK ⊢
                subst e2
                exact wpOp_of rfl rfl (wp_ix_of (some 25) rfl 46 30 (.tmp 22) (.tmp 24) rfl Tryd.underlying46 32 Tryd.sizeOf30 b o n c (2 * k) ((2 * k : Nat) : Int) rfl rfl rfl HJ1.out (hK _ _ rfl (Nx.refl _)))
              · have e3 : x 3 = .pointer (some ⟨b, o + 2 * k * 32, none⟩) := hd 3 (by decide)
                generalize x 3 = y3 at e3 hK ⊢
                subst e3
                exact wpOp_of rfl rfl (wp_load_at (some 26) rfl 30 (.tmp 25) rfl b (o + 2 * k * 32) rfl (hcel h1) _ (C1.out wr (HN.out.trans hx)) Tryd.underlying30 rfl Z1.out (hK _ _ rfl (Nx.refl _)))
              · exact wpOp_of rfl rfl (wp_val_of (some 27) rfl (.slice (some ⟨b, o, none⟩) n c) (by kernel_rfl) (hK _ _ rfl (Nx.refl _)))
              · exact wpOp_of rfl rfl (wp_val_of (some 28) rfl (.int .i64 ((2 * k + 1 : Nat) : Int)) (by kernel_rfl) (hK _ _ rfl (Nx.refl _)))
              · have e5 : x 5 = .slice (some ⟨b, o, none⟩) n c := hd 5 (by decide)
                have e6 : x 6 = .int .i64 ((2 * k + 1 : Nat) : Int) := hd 6 (by decide)
                generalize x 5 = y5 at e5 hK ⊢
                subst e5
                generalize x 6 = y6 at e6 hK ⊢
                subst e6
                exact wpOp_of rfl rfl (wp_ix_of (some 29) rfl 46 30 (.tmp 27) (.tmp 28) rfl Tryd.underlying46 32 Tryd.sizeOf30 b o n c (2 * k + 1) ((2 * k + 1 : Nat) : Int) rfl rfl rfl HJ2.out (hK _ _ rfl (Nx.refl _)))
              · have e7 : x 7 = .pointer (some ⟨b, o + (2 * k + 1) * 32, none⟩) := hd 7 (by decide)
                generalize x 7 = y7 at e7 hK ⊢
                subst e7
                exact wpOp_of rfl rfl (wp_load_at (some 30) rfl 30 (.tmp 29) rfl b (o + (2 * k + 1) * 32) rfl (hcel h2) _ (C2.out wr (HN.out.trans hx)) Tryd.underlying30 rfl Z2.out (hK _ _ rfl (Nx.refl _)))
              · have e4 : x 4 = .agg (hcel h1) := hd 4 (by decide)
                have e8 : x 8 = .agg (hcel h2) := hd 8 (by decide)
                generalize x 4 = y4 at e4 hK ⊢
                subst e4
                generalize x 8 = y8 at e8 hK ⊢
                subst e8
                exact wpOp_of rfl rfl (wp_eql_of (some 31) rfl 30 _ _ _ rfl (hcel h1) (hcel h2) rfl rfl (by kernel_rfl) (decide (h1 = h2)) (EQ.out wr) (hK _ _ rfl (Nx.refl _)))
            · intro x tm wr htm hx hv
              simp only [fillA, List.setIfInBounds_toArray, List.set_cons_zero, List.set_cons_succ] at htm
              subst htm
              have e9 : x 9 = .bool (decide (h1 = h2)) := hv 9 (by decide)
              rw [e9]
              refine wpList_nil ?_
              have NQ := Lib.hid (HN.out.trans hx)
              clear hv C1 C2
              by_cases hh : h1 = h2
              · have hd : decide (h1 = h2) = true := by simp [hh]
                obtain ⟨p1, p2⟩ := HDN.out (HOF.out (by rw [HOK.out, hh]; simp))
                have q1 := Lib.hid p1
                have q2 := Lib.hid p2
                clear p1 p2
                rw [hd]
                have hz' := hz
                rw [← q1.out] at hz'
                clear hh hd hz
                have RR := R0.nx NQ.out
                have NN := Lib.hid (HNW.out.trans NQ.out)
                go_wp2_with (refine wpList_store_row rfl 30 (.tmp 2) (.tmp 34) rfl w.heap.size (hcel RH) rfl rfl 30 (hcel ZZ) RR iR.out oR.out (hcel_one _) ?_)
                exact noGoto_ret (bodyPost_ret (results_cell_two Tryd.results31 _ _ w.heap.size 30 (hcel RH) (0, 0) _ rfl (RR.setRow _) Tryd.underlying30 rfl iR.out) rfl ⟨by rw [q2.out]; rfl, NN.out.setRow _ (Nat.le_refl _)⟩)
              · have hd : decide (h1 = h2) = false := by simp [hh]
                have hok2 : Hid (okTo L (k + 1) = true) := Lib.hid (by rw [HOK.out, hok.out]; simp [hh])
                rw [hd]
                clear hh hd
                go_wp2_with fail
                go_roundw
                case rel => exact ⟨k + 1, by rw [show 2 * (k : Int) + 1 + 2 = ((2 * (k + 1) + 1 : Nat) : Int) by omega], Lib.hid (by have := hlt.out; omega), hok2, NQ⟩
                case measure => have := hlt.out; simp [intOf]; omega
          · have hlti : ¬ ((2 * k + 1 : Nat) : Int) < (n : Int) := by omega
            have hkn : okRow L = true := by
              rw [HOR.out, show n / 2 = k by have := hk.out; omega]; exact hok.out
            obtain ⟨p1, p2⟩ := HUP.out hkn
            have q1 := Lib.hid p1
            have q2 := Lib.hid p2
            clear p1 p2
            clear hkn hlt
            generalize ((2 * k + 1 : Nat) : Int) = z at *
            go_wp2_with fail
            refine (HAB.out _ HN.out).mono ?_
            rintro e w2 ⟨v2, rfl, o2, n2⟩
            have NN := Lib.hid (HNW.out.trans (HN.out.trans n2))
            have RR := R0.nx (HN.out.trans n2)
            have HR2 := Lib.hid o2.rd
            obtain ⟨A2, c2, rfl, -⟩ := o2.rd.h_parts
            clear n2 o2
            go_wp2_with fail
            go_roundw
            case rel => exact ⟨abv L, HR2, Lib.hid (by rw [HAL.out]; exact HH.out), q1, q2, NN, RR⟩
            case measure => exact HLT.out
end Go.Proofs.YtjbeemoobmagnaaDoor
