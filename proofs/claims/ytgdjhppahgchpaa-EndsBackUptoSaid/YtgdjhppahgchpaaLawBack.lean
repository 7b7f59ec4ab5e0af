/- LAYER 1: the walk of EndsBack. -/
import Derived.Test.YtgdjhppahgchpaaLaw1
import Derived.Test.YtgdjhppahgchpaaEnds8
import Derived.Deep.RegionWith
import Derived.Deep.DeepCutAuto
import Derived.Deep.RegionHeld3
namespace Go.Proofs.Ytgdjhppahgchpaa
open Go.RowKit

theorem pow_many (s : Nat) : ∃ k : Nat, (k = 1 ∨ k = 2 ∨ k = 4 ∨ k = 8) ∧ wrap64 (2 ^ (s % 4)) = (k : Int) := by
  have h : s % 4 = 0 ∨ s % 4 = 1 ∨ s % 4 = 2 ∨ s % 4 = 3 := by omega
  rcases h with h | h | h | h <;> rw [h]
  · exact ⟨1, by omega, by simp [wrap64]⟩
  · exact ⟨2, by omega, by simp [wrap64]⟩
  · exact ⟨4, by omega, by simp [wrap64]⟩
  · exact ⟨8, by omega, by simp [wrap64]⟩

set_option maxRecDepth 100000 in
set_option maxHeartbeats 2000000 in
theorem endsBack_law {w : World} (n : Nat) (hn : (n : Int) ≤ 18446744073709551615) (s : Nat) (hs : (s : Int) ≤ 255) (v2 : Value) (row : List UInt8) (h2 : Rd w v2 row) (hr2 : row.length ≤ 140737488351232)
    (v3 : Value) (ah : List UInt8) (h3 : Rd w v3 ah) (hr3 : ah.length ≤ 140737488351232) (v4 : Value) (be : List UInt8) (h4 : Rd w v4 be) (hr4 : be.length ≤ 140737488351232)
    (hsum : row.length + ah.length + be.length ≤ 1048576) :
    Calls Try.prog 5 #[.int .u64 (n : Int), .int .u8 (s : Int), v2, v3, v4] w fun e w' => e = .returned (.bool true) ∧ Nx w w' := by
  obtain ⟨k, hk, hw⟩ := pow_many s
  have H1 := Lib.hid (fun w => put_any n k w)
  have HC := Lib.hid (fun w => count_any n w)
  have HR := Lib.hid (fun w h => row_any v2 row w h hr2)
  have HP := Lib.hid (part_of_put n k)
  have HN := Lib.hid hn
  have HS := Lib.hid hsum
  clear hn hsum hr2 hr3 hr4
  generalize putE n k = E at *
  generalize putL n k = L at *
  have h3' := h3
  have h2' := h2
  have h4' := h4
  obtain ⟨A2, c2, rfl, -, -, -⟩ := h2
  obtain ⟨A3, c3, rfl, -, -, -⟩ := h3
  obtain ⟨A4, c4, rfl, -, -, -⟩ := h4
  go_enter Try.func5, Try.ntmps5
  go_upto_if 34 with (go_at_call 8; refine (H1.out w).mono ?_; rintro e w1 ⟨v5, rfl, o1, b1⟩)
  go_cut [10] (fun s wx => s = .bool false ∧ Nx w wx)
  case first =>
    have hk8 : k ≤ 8 := by omega
    rcases HP.out with ⟨h1, -, -⟩ | ⟨k', hk', -, -, ⟨h5, h6, h7⟩ | ⟨h5, h6, h7⟩⟩
    · exact absurd h1 (by rcases hk with rfl | rfl | rfl | rfl <;> decide)
    · obtain rfl : k = k' := by omega
      subst h6
      subst h7
      have r5 := o1.rd
      obtain ⟨A5, c5, rfl, _, _, _⟩ := r5
      have hll : (low n k).length = k := low_length n k
      have r5 := o1.rd
      have HL := Lib.hid (num_low n k h5)
      have hl8 : (low n k).length ≤ 8 := by omega
      have hE := getE_mid ah (low n k) be ah.length k rfl hll.symm (by rcases hk with rfl | rfl | rfl | rfl <;> decide)
      have hN := getN_mid ah (low n k) be ah.length k rfl hll.symm (by rcases hk with rfl | rfl | rfl | rfl <;> decide)
      rw [HL.out] at hN
      have HG := Lib.hid (fun v w h => get_is v (ah ++ low n k ++ be) ah.length k n n 0 w h hN rfl hE)
      have e1 : ((n : Int) != (n : Int)) = false := by simp
      have e2 : ((k : Int) != (k : Int)) = false := by simp
      have r3 := h3'.nx b1
      have r4 := h4'.nx b1
      have HLL := Lib.hid hll
      clear hE hN h5 hll
      generalize low n k = L at *
      have e3 : ((L.length : Int) != (k : Int)) = false := by rw [HLL.out]; simp
      go_wp2_with (first | (at_builtin; refine wpList_app rfl (.tmp 35) (.tmp 36) _ rfl Try.underlying23 info_u8 w1.heap.size (.slice none 0 0) (.slice A3 ah.length c3) [] ah rfl rfl (Own.nil _ _) r3 (by have := HS.out; simp; omega) (Nat.le_refl _) ?_; intro va wa oa ba _) | (at_builtin; refine wpList_app rfl (.tmp 37) (.tmp 38) _ rfl Try.underlying23 info_u8 w1.heap.size va (.slice A5 L.length c5) ([] ++ ah) L rfl rfl oa (r5.nx ba) (by have := HS.out; simp; omega) ba.size ?_; intro vb wb ob bb _) | (at_builtin; refine wpList_app rfl (.tmp 39) (.tmp 40) _ rfl Try.underlying23 info_u8 w1.heap.size vb (.slice A4 be.length c4) ([] ++ ah ++ L) be rfl rfl ob (r4.nx (Below.trans ba bb)) (by have := HS.out; simp; omega) (Below.trans ba bb).size ?_; intro vc wc oc bc _))
      refine (HG.out vc wc (by simpa using oc.rd)).mono ?_
      rintro e w9 ⟨rfl, rfl⟩
      go_wp2_with fail
      go_meet
      exact ⟨rfl, b1.trans (Nx.app (Nx.app ba bb) bc)⟩
    · obtain rfl : k = k' := by omega
      subst h6
      have h8 : ((k : Int) == 8) = false := by
        have : k ≠ 8 := fun e => h5 (by subst e; have := HN.out; omega)
        simp; omega
      clear h5
      go_wp2
      go_meet
      exact ⟨rfl, b1⟩
  case rest =>
    obtain ⟨rfl, b0⟩ := hcut
    have hCl := countL_le n
    have hRl : (rowL row).length ≤ 9 + row.length := by have := countL_le row.length; simp [rowL]; omega
    have hgc := gc_count ah (rowL row ++ be) n HN.out
    have hgr := gr_row (ah ++ countL n) row be (by have := HS.out; omega)
    have hli : ah ++ countL n ++ (rowL row ++ be) = ah ++ countL n ++ rowL row ++ be := by simp
    rw [hli] at hgc
    have hbig : (ah ++ countL n ++ rowL row ++ be).length ≤ 140737488355328 := by have := HS.out; simp; omega
    have HGC := Lib.hid (fun v w h => getCount_any v (ah ++ countL n ++ rowL row ++ be) ah.length w h hbig)
    have HGR := Lib.hid (fun v w h => getRow_any v (ah ++ countL n ++ rowL row ++ be) ((ah ++ countL n).length : Nat) row.length w h hbig (by have := HS.out; omega))
    simp only [hgc] at HGC
    simp only [hgr] at HGR
    have hat : (((ah ++ countL n).length : Nat) : Int) = (ah.length : Int) + ((countL n).length : Int) := by simp
    simp only [hat] at HGR
    have r2 := h2'.nx b0
    have r3 := h3'.nx b0
    have r4 := h4'.nx b0
    have HCL := Lib.hid hCl
    have HRL := Lib.hid hRl
    clear hCl hRl hgc hgr hli hbig hat h2' h3' h4' HP H1 hk
    generalize countL n = C at *
    generalize rowL row = R at *
    have e1 : ((n : Int) == (n : Int)) = true := by simp
    go_wp2_with (first | (at_builtin; refine wpList_app rfl (.tmp 65) (.tmp 66) _ rfl Try.underlying23 info_u8 wc.heap.size (.slice none 0 0) (.slice A3 ah.length c3) [] ah rfl rfl (Own.nil _ _) r3 (by have := HS.out; simp; omega) (Nat.le_refl _) ?_; intro va wa oa ba _) | (go_at_call 20; refine (HC.out wa).mono ?_; rintro e w1 ⟨v1, rfl, o1, b1⟩) | (at_builtin; refine wpList_app rfl (.tmp 67) (.tmp 69) _ rfl Try.underlying23 info_u8 wc.heap.size va v1 ([] ++ ah) C rfl rfl (oa.nx b1) o1.rd (by have := HS.out; have := HCL.out; simp; omega) (Nat.le_trans ba.size b1.size) ?_; intro vb wb ob bb _) | (go_at_call 22; refine (HR.out wb (r2.nx (Nx.app (Nx.trans ba b1) (Below.mono bb (Nat.le_refl _))))).mono ?_; rintro e w2 ⟨vr, rfl, o2, b2⟩) | (at_builtin; refine wpList_app rfl (.tmp 70) (.tmp 72) _ rfl Try.underlying23 info_u8 wc.heap.size vb vr ([] ++ ah ++ C) R rfl rfl (ob.nx b2) o2.rd (by have := HS.out; have := HCL.out; have := HRL.out; simp; omega) (Nx.trans (Nx.app (Nx.trans ba b1) bb) b2).size ?_; intro vc2 w3 oc2 bc3 _) | (at_builtin; refine wpList_app rfl (.tmp 73) (.tmp 74) _ rfl Try.underlying23 info_u8 wc.heap.size vc2 (.slice A4 be.length c4) ([] ++ ah ++ C ++ R) be rfl rfl oc2 (r4.nx (Nx.app (Nx.trans (Nx.app (Nx.trans ba b1) bb) b2) bc3)) (by have := HS.out; have := HCL.out; have := HRL.out; simp; omega) (Nx.app (Nx.trans (Nx.app (Nx.trans ba b1) bb) b2) bc3).size ?_; intro vd w4 od bd _))
    have n4 : Nx wc w4 := Nx.app (Nx.app (Nx.trans (Nx.app (Nx.trans ba b1) bb) b2) bc3) bd
    have rd : Rd w4 vd (ah ++ C ++ R ++ be) := by simpa using od.rd
    clear o1 o2 oa ob oc2 od ba bb bc3 bd b1 b2 HC HR
    refine (HGC.out vd w4 rd).mono ?_
    rintro e w5 ⟨rfl, rfl⟩
    go_wp2_with fail
    refine (HGR.out vd w4 rd).mono ?_
    rintro e w6 ⟨v6, rfl, o6, b6⟩
    have rd6 := rd.nx b6
    obtain ⟨Ad, cd, rfl, -, -, -⟩ := rd
    go_wp2_with fail
    refine (same_yes _ _ row _ o6.rd ((r2.nx n4).nx b6)).mono ?_
    rintro e w7 ⟨rfl, b7⟩
    have hwr : wrap64 ((ah.length : Int) + ((C.length : Int) + ((R.length : Int) + (be.length : Int))) - (be.length : Int)) = (ah.length : Int) + (C.length : Int) + (R.length : Int) := by
      have h1 := HS.out
      have h2 := HCL.out
      have h3 := HRL.out
      unfold wrap64
      omega
    go_wp2_with fail
    refine (works_any _).mono ?_
    rintro e w8 ⟨rfl, b8⟩
    go_wp2
    go_ret
    exact ⟨rfl, (b0.trans n4).trans ((b6.trans b7).trans b8)⟩
end Go.Proofs.Ytgdjhppahgchpaa
