/- LAYER 9, the laws': pair. -/
import Derived.Test.YtjbeemoobmagnaaDoorMerO
import Derived.Test.YtjbeemoobmagnaaDoorMer11
namespace Go.Proofs.YtjbeemoobmagnaaDoor
open Go Go.RowKit
set_option linter.unusedVariables false
set_option linter.unusedSimpArgs false
set_option linter.unusedVariables false
set_option linter.unusedSimpArgs false

theorem Row.grown {w w' : World} {g : Nat} {cs : Array Value} {t : TypeId} {s : Option Nat} (h : Row w g cs t) (x : w.grownBy w' s) (hs : ∀ q, s = some q → q ≠ g) : Row w' g cs t := by
  have := x.block g h.lt (fun e => hs g e.symm rfl)
  unfold Row at *
  rw [this]; exact h
set_option maxRecDepth 100000 in
set_option maxHeartbeats 4000000 in
theorem mpair_any (v : Value) (l : Hs) (k : Nat) (w : World) (hr : RdE elH w v l) (hk : 2 * k < l.length) (hn : l.length ≤ 1000) :
    Calls Tryd.prog 72 #[v, .int .i64 ((2 * k : Nat) : Int)] w fun e w' => ∃ v', e = .returned v' ∧ Own w.heap.size w' v' (textP l k) ∧ Nx w w' := by
  obtain ⟨hz, hzs⟩ := zero_of_info info_hash'
  change ∀ w, (zeroValue 30).run Tryd.prog w = .ok (.agg (hcel hZ)) w at hz
  have LZ := Lib.hid hZ_length
  have HTX : Hid (textP l k = l.getD (2 * k) [] ++ l.getD (nbr (2 * k) l.length) []) := Lib.hid rfl
  obtain ⟨TX, hTX⟩ : ∃ TX, textP l k = TX := ⟨_, rfl⟩
  rw [hTX] at HTX ⊢
  clear hTX
  generalize hZ = ZZ at *
  obtain ⟨A, c, rfl, -, -, h32, hcq⟩ := hr.h_parts
  have hcq2 := hcq (by omega)
  clear hcq
  obtain ⟨b, o, rfl, hb, hcell⟩ := hcq2
  have HB := Lib.hid hb
  have HGC := Lib.hid (fun j hj => getD_cells hcell j hj)
  have LA := Lib.hid (h32.getD hk)
  have HJ1 := Lib.hid hk
  have LB := Lib.hid (h32.getD (nbr_lt hk))
  have HBN : Hid (l.getD (nbr (2 * k) l.length) [] = if 2 * k + 1 < l.length then l.getD (2 * k + 1) [] else l.getD (2 * k) []) := Lib.hid (by
    unfold nbr
    rw [if_neg (by omega)]
    split <;> rfl)
  have hki : ((2 * k : Nat) : Int) ≤ 1000 := by omega
  have C1 : Hid (∀ wr', Nx w wr' → ∀ i u, (hcel (l.getD (2 * k) []))[i]? = some u → wr'.cell? ⟨b, o + 2 * k * 32 + i, none⟩ = some u) := Lib.hid fun wr' hx i u hu => (hx.cell (p := ⟨b, o + 2 * k * 32 + i, none⟩) hb).trans (getD_cells hcell _ hk i u hu)
  clear hr h32 hcell hb hk hn
  generalize hd2 : 2 * k = d at *
  clear hd2
  generalize l.length = n at *
  generalize hae : l.getD (d) [] = a at *
  generalize hbe : l.getD (nbr (d) n) [] = be at *
  clear hae hbe
  have Z1 := Lib.hid (hashsz a LA.out)
  have oA := Lib.hid (hashsame ZZ a LZ.out LA.out)
  have ZE := Lib.hid (hashsz be LB.out)
  have oE := Lib.hid (hashsame a be LA.out LB.out)
  have HGA : Hid (∀ i (h : i < a.length), (hcel a)[i]? = some (bv a[i])) := Lib.hid (hcel_get a)
  have HGE : Hid (∀ i (h : i < be.length), (hcel be)[i]? = some (bv be[i])) := Lib.hid (hcel_get be)
  go_enter Tryd.func72, Tryd.ntmps72
  go_wp2_with fail
  refine wp_region_bk 12 [[], [], [0, 1], [2], [], [], [4, 5], [6], [], [], [8, 3, 0, 1, 2, 3, 8, 9], [9, 7, 10, 0, 1, 2, 3, 4, 5, 6, 7, 8, 9, 10]] [some 10, some 11, some 12, some 13, some 14, some 15, some 16, some 17, some 5, some 6, none, none]
    [.slice (some ⟨b, o, none⟩) n c, .int .i64 (d : Int), .pointer (some ⟨b, o + d * 32, none⟩), .agg (hcel a), .slice (some ⟨b, o, none⟩) n c, .int .i64 (d : Int), .pointer (some ⟨b, o + d * 32, none⟩), .agg (hcel a), undef, undef, undef, undef]
    [⟨8, 10, hcel ZZ, hcel a, 30⟩, ⟨9, 11, hcel ZZ, hcel a, 30⟩] [] [8, 9, 10, 11] [(8, 10), (9, 11)] rfl rfl
    (by kernel_rfl) (by kernel_rfl) (hord_of (by decide)) (by kernel_rfl) rfl (by decide) (by decide) (by decide) (by decide) (fun _ h => by cases h) (by decide) ?_ ?_ ?_ ?_ ?_
  · intro x tm wr htm hx i hi hs hd ho K hK
    simp only [fillA, List.setIfInBounds_toArray, List.set_cons_zero, List.set_cons_succ] at htm
    subst htm
    have hcs : i = 0 ∨ i = 1 ∨ i = 2 ∨ i = 3 ∨ i = 4 ∨ i = 5 ∨ i = 6 ∨ i = 7 ∨ i = 8 ∨ i = 9 ∨ i = 10 ∨ i = 11 := by omega
    clear hi
    rcases hcs with rfl | rfl | rfl | rfl | rfl | rfl | rfl | rfl | rfl | rfl | rfl | rfl
    · exact wpOp_of rfl rfl (wp_val_of (some 10) rfl (.slice (some ⟨b, o, none⟩) n c) (by kernel_rfl) (hK _ (Nx.refl _)))
    · exact wpOp_of rfl rfl (wp_val_of (some 11) rfl (.int .i64 (d : Int)) (by kernel_rfl) (hK _ (Nx.refl _)))
    · have e0 : x 0 = .slice (some ⟨b, o, none⟩) n c := hd 0 (by decide) (by decide)
      generalize x 0 = y0 at e0 hK ⊢
      subst e0
      have e1 : x 1 = .int .i64 (d : Int) := hd 1 (by decide) (by decide)
      generalize x 1 = y1 at e1 hK ⊢
      subst e1
      exact wpOp_of rfl rfl (wp_ix_of (some 12) rfl 46 30 (.tmp 10) (.tmp 11) rfl Tryd.underlying46 32 Tryd.sizeOf30 b o n c (d) (d : Int) rfl rfl rfl HJ1.out (hK _ (Nx.refl _)))
    · have e2 : x 2 = .pointer (some ⟨b, o + d * 32, none⟩) := hd 2 (by decide) (by decide)
      generalize x 2 = y2 at e2 hK ⊢
      subst e2
      exact wpOp_of rfl rfl (wp_load_at (some 13) rfl 30 (.tmp 12) rfl b (o + d * 32) rfl (hcel a) _ (C1.out wr (Kp.free hx)) Tryd.underlying30 rfl Z1.out (hK _ (Nx.refl _)))
    · exact wpOp_of rfl rfl (wp_val_of (some 14) rfl (.slice (some ⟨b, o, none⟩) n c) (by kernel_rfl) (hK _ (Nx.refl _)))
    · exact wpOp_of rfl rfl (wp_val_of (some 15) rfl (.int .i64 (d : Int)) (by kernel_rfl) (hK _ (Nx.refl _)))
    · have e4 : x 4 = .slice (some ⟨b, o, none⟩) n c := hd 4 (by decide) (by decide)
      generalize x 4 = y4 at e4 hK ⊢
      subst e4
      have e5 : x 5 = .int .i64 (d : Int) := hd 5 (by decide) (by decide)
      generalize x 5 = y5 at e5 hK ⊢
      subst e5
      exact wpOp_of rfl rfl (wp_ix_of (some 16) rfl 46 30 (.tmp 14) (.tmp 15) rfl Tryd.underlying46 32 Tryd.sizeOf30 b o n c (d) (d : Int) rfl rfl rfl HJ1.out (hK _ (Nx.refl _)))
    · have e6 : x 6 = .pointer (some ⟨b, o + d * 32, none⟩) := hd 6 (by decide) (by decide)
      generalize x 6 = y6 at e6 hK ⊢
      subst e6
      exact wpOp_of rfl rfl (wp_load_at (some 17) rfl 30 (.tmp 16) rfl b (o + d * 32) rfl (hcel a) _ (C1.out wr (Kp.free hx)) Tryd.underlying30 rfl Z1.out (hK _ (Nx.refl _)))
    · exact absurd (by decide) hs
    · exact absurd (by decide) hs
    · exact absurd (by decide) hs
    · exact absurd (by decide) hs
  · intro e he
    simp only [List.mem_cons, List.not_mem_nil, or_false] at he
    rcases he with rfl | rfl
    · intro tm wr K hK
      exact wpOp_of rfl rfl (wp_alloc_of (some 5) rfl 30 rfl (hcel ZZ) hz hK)
    · intro tm wr K hK
      exact wpOp_of rfl rfl (wp_alloc_of (some 6) rfl 30 rfl (hcel ZZ) hz hK)
  · intro e he
    simp only [List.mem_cons, List.not_mem_nil, or_false] at he
    rcases he with rfl | rfl
    · intro x tm wr g htm hd hp hr K hK
      dsimp only at hd
      simp only [fillA, List.setIfInBounds_toArray, List.set_cons_zero, List.set_cons_succ] at htm
      subst htm
      replace hp : x 8 = .pointer (some ⟨g, 0, none⟩) := hp
      generalize x 8 = y8 at hp hK ⊢
      subst hp
      have e3 : x 3 = .agg (hcel a) := hd 3 (by decide) (by decide)
      generalize x 3 = y3 at e3 hK ⊢
      subst e3
      have e0 : x 0 = .slice (some ⟨b, o, none⟩) n c := hd 0 (by decide) (by decide)
      generalize x 0 = y0 at e0 hK ⊢
      subst e0
      have e1 : x 1 = .int .i64 (d : Int) := hd 1 (by decide) (by decide)
      generalize x 1 = y1 at e1 hK ⊢
      subst e1
      have e2 : x 2 = .pointer (some ⟨b, o + d * 32, none⟩) := hd 2 (by decide) (by decide)
      generalize x 2 = y2 at e2 hK ⊢
      subst e2
      exact wpOp_of rfl rfl (wp_store_row 30 (.tmp 5) (.tmp 13) rfl g (hcel a) rfl rfl 30 (hcel ZZ) hr Z1.out oA.out (hcel_one _) hK)
    · intro x tm wr g htm hd hp hr K hK
      dsimp only at hd
      simp only [fillA, List.setIfInBounds_toArray, List.set_cons_zero, List.set_cons_succ] at htm
      subst htm
      replace hp : x 9 = .pointer (some ⟨g, 0, none⟩) := hp
      generalize x 9 = y9 at hp hK ⊢
      subst hp
      have e7 : x 7 = .agg (hcel a) := hd 7 (by decide) (by decide)
      generalize x 7 = y7 at e7 hK ⊢
      subst e7
      have e0 : x 0 = .slice (some ⟨b, o, none⟩) n c := hd 0 (by decide) (by decide)
      generalize x 0 = y0 at e0 hK ⊢
      subst e0
      have e1 : x 1 = .int .i64 (d : Int) := hd 1 (by decide) (by decide)
      generalize x 1 = y1 at e1 hK ⊢
      subst e1
      have e2 : x 2 = .pointer (some ⟨b, o + d * 32, none⟩) := hd 2 (by decide) (by decide)
      generalize x 2 = y2 at e2 hK ⊢
      subst e2
      have e3 : x 3 = .agg (hcel a) := hd 3 (by decide) (by decide)
      generalize x 3 = y3 at e3 hK ⊢
      subst e3
      have e4 : x 4 = .slice (some ⟨b, o, none⟩) n c := hd 4 (by decide) (by decide)
      generalize x 4 = y4 at e4 hK ⊢
      subst e4
      have e5 : x 5 = .int .i64 (d : Int) := hd 5 (by decide) (by decide)
      generalize x 5 = y5 at e5 hK ⊢
      subst e5
      have e6 : x 6 = .pointer (some ⟨b, o + d * 32, none⟩) := hd 6 (by decide) (by decide)
      generalize x 6 = y6 at e6 hK ⊢
      subst e6
      exact wpOp_of rfl rfl (wp_store_row 30 (.tmp 6) (.tmp 17) rfl g (hcel a) rfl rfl 30 (hcel ZZ) hr Z1.out oA.out (hcel_one _) hK)
  · intro e he
    cases he
  · intro x tm wr htm hx hv hn hdis ho
    simp only [fillA, List.setIfInBounds_toArray, List.set_cons_zero, List.set_cons_succ] at htm
    subst htm
    obtain ⟨gn0, p0, q0, r0⟩ := hn ⟨8, 10, hcel ZZ, hcel a, 30⟩ (.head _)
    obtain ⟨gn1, p1, q1, r1⟩ := hn ⟨9, 11, hcel ZZ, hcel a, 30⟩ (.tail _ (.head _))
    have hne01 : gn0 ≠ gn1 := fun h => hdis ⟨8, 10, hcel ZZ, hcel a, 30⟩ (.head _) ⟨9, 11, hcel ZZ, hcel a, 30⟩ (.tail _ (.head _)) (show ((8 : Nat) ≠ 9) by decide) (p0.trans (by rw [h]; exact p1.symm))
    replace p0 : x 8 = .pointer (some ⟨gn0, 0, none⟩) := p0
    rw [p0]
    replace p1 : x 9 = .pointer (some ⟨gn1, 0, none⟩) := p1
    rw [p1]
    have NX := Lib.hid (Kp.free hx)
    have RA0 := r0
    have RB0 := r1
    have hq0 := Lib.hid q0
    have hq1 := Lib.hid q1
    replace hne01 := Lib.hid hne01
    clear hx hv hn hdis ho p0 p1 q0 q1 r0 r1 C1
    go_upto_if 22 with (fail)
    go_cut [] (fun wx => Row wx gn0 (hcel a) 30 ∧ Row wx gn1 (hcel be) 30 ∧ Hid (Nx w wx))
    case first =>
      by_cases h2 : d + 1 < n
      · have h2i : (d : Int) + 1 < (n : Int) := by omega
        have hbe : l.getD (d + 1) [] = be := by rw [HBN.out, if_pos h2]
        have C2 : Hid (∀ i u, (hcel be)[i]? = some u → wr.cell? ⟨b, o + (d + 1) * 32 + i, none⟩ = some u) := Lib.hid fun i u hu => (NX.out.cell (p := ⟨b, o + (d + 1) * 32 + i, none⟩) HB.out).trans (HGC.out _ h2 i u (by rw [hbe]; exact hu))
        have RA1 := RA0.setRow_other (k := gn1) (hcel be) hne01.out
        have RB1 := RB0.setRow (hcel be)
        have NO3 := Lib.hid (NX.out.setRow (hcel be) hq1.out)
        clear hbe h2
        go_wp2_with (first | (refine wpList_load_at rfl 30 (.tmp 26) rfl b (o + (d + 1) * 32) rfl (hcel be) _ C2.out Tryd.underlying30 rfl ZE.out ?_) | (refine wpList_store_row rfl 30 (.tmp 6) (.tmp 27) rfl gn1 (hcel be) rfl rfl 30 (hcel a) RB0 ZE.out oE.out (hcel_one _) ?_))
        go_meet
        exact ⟨RA1, RB1, NO3⟩
      · have h2i : ¬ (d : Int) + 1 < (n : Int) := by omega
        have hbe : be = a := by rw [HBN.out, if_neg h2]
        replace hbe := Lib.hid hbe
        clear h2
        go_wp2_with fail
        go_meet
        exact ⟨RA0, by rw [hbe.out]; exact RB0, NX⟩
    case rest =>
      obtain ⟨RA1, RB1, NX1⟩ := hcut
      clear RA0 RB0 NX
      have HS : Hid (wc.heap.size = wc.heap.size) := Lib.hid rfl
      have HO0 := Lib.hid (Own.nil wc.heap.size wc)
      have HGL : Hid (gn0 < wc.heap.size ∧ gn1 < wc.heap.size) := Lib.hid ⟨RA1.lt, RB1.lt⟩
      clear HS
      go_wp2_with fail
      go_loopw [7, 8] (fun u i wr => ∃ j : Nat, i = .int .i64 (j : Int) ∧ Hid (j ≤ 32) ∧ Hid (Own wc.heap.size wr u (a.take j)) ∧ Hid (Nx wc wr)) (fun _ i _ => 32 - (intOf i).toNat)
      case atStart => exact ⟨0, rfl, Lib.hid (Nat.zero_le _), Lib.hid (by rw [List.take_zero]; exact HO0.out), Lib.hid (Nx.refl wc)⟩
      case round =>
        obtain ⟨j, rfl, hj, HO, HN⟩ := hrel
        have hji : (j : Int) ≤ 32 := by have := hj.out; omega
        by_cases hlt : j < 32
        · have hlti : (j : Int) < 32 := by omega
          have hja : j < a.length := by rw [LA.out]; exact hlt
          have c1 := (RA1.nx HN.out).cell (HGA.out j hja)
          have HT := Lib.hid (List.take_succ_eq_append_getElem hja)
          have HLL : Hid ((a.take j).length ≤ 32) := Lib.hid (by rw [List.length_take]; omega)
          have HSZ := Lib.hid HN.out.size
          generalize a[j] = x at *
          clear hja
          replace hlt := Lib.hid hlt
          go_wp2_with (at_builtin; refine wpList_app rfl (.tmp 32) (.tmp 36) _ rfl Tryd.underlying34 info_u8s wc.heap.size _ (.slice (some ⟨wr.heap.size, 0, none⟩) 1 1) (a.take j) [x] rfl rfl (HO.out.alloc _) (Rd.one _ _ _ _ rfl) ?c2 ?c3 ?_)
          case c2 => have := HLL.out; simp only [List.length_singleton]; omega
          case c3 => have := HSZ.out; simp; omega
          intro v' w' hown' hb' _
          have HNN := Lib.hid ((HN.out.alloc _).app hb')
          have HO2 : Hid (Own wc.heap.size w' v' (a.take (j + 1))) := Lib.hid (by rw [HT.out]; exact hown')
          clear hown' hb' HO
          go_wp2_with fail
          go_roundw
          case rel => exact ⟨j + 1, by go_num, Lib.hid (by have := hlt.out; omega), HO2, HNN⟩
          case measure => have := hlt.out; simp [intOf]; omega
        · have hlti : ¬ (j : Int) < 32 := by omega
          have HOA : Hid (Own wc.heap.size wr u7 a) := Lib.hid (by
            have := HO.out
            rwa [List.take_of_length_le (by rw [LA.out]; omega)] at this)
          clear HO hlt
          go_wp2_with fail
          go_loopw [7, 9] (fun u i wr => ∃ j : Nat, i = .int .i64 (j : Int) ∧ Hid (j ≤ 32) ∧ Hid (Own wc.heap.size wr u (a ++ be.take j)) ∧ Hid (Nx wc wr)) (fun _ i _ => 32 - (intOf i).toNat)
          case atStart => exact ⟨0, rfl, Lib.hid (Nat.zero_le _), Lib.hid (by rw [List.take_zero, List.append_nil]; exact HOA.out), HN⟩
          case round =>
            clear HOA HN hj hji
            obtain ⟨j, rfl, hj, HO, HN⟩ := hrel
            have hji : (j : Int) ≤ 32 := by have := hj.out; omega
            by_cases hlt : j < 32
            · have hlti : (j : Int) < 32 := by omega
              have hja : j < be.length := by rw [LB.out]; exact hlt
              have c1 := (RB1.nx HN.out).cell (HGE.out j hja)
              have HT := Lib.hid (List.take_succ_eq_append_getElem hja)
              have HLL : Hid ((a ++ be.take j).length ≤ 64) := Lib.hid (by rw [List.length_append, List.length_take, LA.out]; omega)
              have HSZ := Lib.hid HN.out.size
              generalize be[j] = x at *
              clear hja
              replace hlt := Lib.hid hlt
              go_wp2_with (at_builtin; refine wpList_app rfl (.tmp 42) (.tmp 46) _ rfl Tryd.underlying34 info_u8s wc.heap.size _ (.slice (some ⟨wr.heap.size, 0, none⟩) 1 1) (a ++ be.take j) [x] rfl rfl (HO.out.alloc _) (Rd.one _ _ _ _ rfl) ?d2 ?d3 ?_)
              case d2 => have := HLL.out; simp only [List.length_singleton]; omega
              case d3 => have := HSZ.out; simp; omega
              intro v' w' hown' hb' _
              have HNN := Lib.hid ((HN.out.alloc _).app hb')
              have HO2 : Hid (Own wc.heap.size w' v' (a ++ be.take (j + 1))) := Lib.hid (by rw [HT.out]; first | exact hown' | (rw [← List.append_assoc]; exact hown') | (rw [List.append_assoc] at hown'; exact hown'))
              clear hown' hb' HO
              go_wp2_with fail
              go_roundw
              case rel => exact ⟨j + 1, by go_num, Lib.hid (by have := hlt.out; omega), HO2, HNN⟩
              case measure => have := hlt.out; simp [intOf]; omega
            · have hlti : ¬ (j : Int) < 32 := by omega
              have HOB : Hid (Own wc.heap.size wr u7 TX) := Lib.hid (by
                have := HO.out
                rw [List.take_of_length_le (by rw [LB.out]; omega)] at this
                rw [HTX.out]; exact this)
              clear HO hlt
              go_wp2_with fail
              go_ret
              exact ⟨_, rfl, HOB.out.mono NX1.out.size, NX1.out.trans HN.out⟩
end Go.Proofs.YtjbeemoobmagnaaDoor
