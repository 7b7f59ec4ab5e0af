/- LAYER 9: the walk of MerkleWays. -/
import Derived.Test.YtjbeemoobmagnaaDoorLawMer1
import Derived.Test.YtjbeemoobmagnaaDoorMerW
namespace Go.Proofs.YtjbeemoobmagnaaDoor
open Go Go.RowKit
set_option linter.unusedVariables false
set_option linter.unusedSimpArgs false
set_option linter.unusedVariables false
set_option linter.unusedSimpArgs false

set_option maxRecDepth 100000 in
set_option maxHeartbeats 8000000 in
theorem merkleWays_law {w : World} (v0 : Value) (l0 : Hs) (h0 : RdE elH w v0 l0) (n : Int) (hn1 : -9223372036854775808 ≤ n) (hn2 : n ≤ 9223372036854775807) (hk : KIs w) :
    Calls Tryd.prog 9 #[v0, .int .i64 n] w fun e w' => e = .returned (.bool true) ∧ Nx w w' := by
  obtain ⟨hz, hzs⟩ := zero_of_info info_hash'
  change ∀ w, (zeroValue 30).run Tryd.prog w = .ok (.agg (hcel hZ)) w at hz
  have LZ := Lib.hid hZ_length
  generalize hZ = ZZ at *
  have HK := Lib.hid hk
  obtain ⟨A0, c0, rfl, hc0, hm0, -⟩ := h0.h_parts
  have HR0 := Lib.hid h0
  have hc0' := Lib.hid hc0
  have hm0' := Lib.hid hm0
  clear h0 hk hc0 hm0
  go_enter Tryd.func9, Tryd.ntmps9
  go_upto_if 14 with fail
  go_cut [0] (fun sl wx => wx = w ∧ Hid (RdE elH wx sl (l0.take 100)))
  case first =>
    by_cases hle : l0.length ≤ 100
    · have ht : decide ((100 : Int) < (l0.length : Int)) = false := by simp; omega
      have ht2 : decide (100 < l0.length) = false := by simp; omega
      go_wp2_with fail
      go_meet
      exact ⟨rfl, Lib.hid (by rw [List.take_of_length_le hle]; exact HR0.out)⟩
    · have ht : decide ((100 : Int) < (l0.length : Int)) = true := by simp; omega
      have ht2 : decide (100 < l0.length) = true := by simp; omega
      have hs := slice_to_k (P := Tryd.prog) 46 30 Tryd.underlying46 32 Tryd.sizeOf30 A0 l0.length c0 100 100 rfl (by have := hc0'.out; omega)
      go_wp2_with fail
      go_meet
      exact ⟨rfl, Lib.hid (HR0.out.pre 100 c0 (by omega) (by have := hc0'.out; omega) hm0'.out)⟩
  case rest =>
    obtain ⟨rfl, HR1⟩ := hcut
    clear HR0
    have HL1 := Lib.hid (take_len l0 100)
    generalize l0.take 100 = l at *
    clear hc0' hm0'
    obtain ⟨Al, cl, hvl, -, -, -, hcq⟩ := HR1.out.h_parts
    subst hvl
    have H32 := Lib.hid HR1.out.h32
    have LRH := Lib.hid (rootH_length H32.out)
    have C1 := Lib.hid (fun W (x : Nx wc W) => mroot_any _ l W (HR1.out.nx x) (by have := HL1.out; omega) (HK.out.nx x))
    have C8 := Lib.hid (fun W (x : Nx wc W) => mworks_any W (HK.out.nx x))
    cases hs : rootB l
    · rw [hs] at C1
      generalize rootH l = RH at *
      have iR := Lib.hid (hashsz RH LRH.out)
      have oR := Lib.hid (hashsame ZZ RH LZ.out LRH.out)
      clear hcq
      go_wp2_with fail
      refine (C1.out _ (Nx.refl wc)).mono ?_
      rintro e w3 ⟨rfl, n3⟩
      have Z3 := Row.new w3 (hcel ZZ) 30 _ rfl
      have N3 := (n3.alloc (.cells (hcel ZZ) 30)).setRow (g := w3.heap.size) (hcel RH) n3.size
      go_wp2_with (refine wpList_store_row rfl 30 (.tmp 5) (.tmp 20) rfl w3.heap.size (hcel RH) rfl rfl 30 (hcel ZZ) Z3 iR.out oR.out (hcel_one _) ?_)
      refine (C8.out _ N3).mono ?_
      rintro e w4 ⟨rfl, n4⟩
      go_wp2_with fail
      go_ret
      exact ⟨rfl, N3.trans n4⟩
    · have hp := rootB_pos hs
      obtain ⟨N, hN⟩ : ∃ N : Nat, IntKind.u64.wrap n = (N : Int) := ⟨(n % 18446744073709551616).toNat, by rw [IntKind.wrap_u64]; omega⟩
      obtain ⟨k, hkk⟩ : ∃ k : Nat, N % l.length = k := ⟨_, rfl⟩
      have hkl : Hid (k < l.length) := Lib.hid (by rw [← hkk]; exact Nat.mod_lt _ hp)
      have hmx : max (l.length : Int) 1 = (l.length : Int) := by omega
      have hw1 : IntKind.u64.wrap (l.length : Int) = (l.length : Int) := by rw [IntKind.wrap_u64]; have := HL1.out; omega
      have hr1 : (N : Int).tmod (l.length : Int) = (k : Int) := by rw [← hkk]; rfl
      have hr2 : (N : Int) % (l.length : Int) = (k : Int) := by rw [← hkk]; rfl
      have hw2 : IntKind.i64.wrap (k : Int) = (k : Int) := IntWalk.i64_in _ (by have := hkl.out; have := HL1.out; omega)
      rw [hs] at C1
      clear hkk
      go_wp2_with fail
      refine (C1.out _ (Nx.refl wc)).mono ?_
      rintro e w3 ⟨rfl, n3⟩
      have RH3 := Lib.hid LRH.out
      generalize hRH : rootH l = RH at *
      replace hRH := Lib.hid hRH
      have iR := Lib.hid (hashsz RH LRH.out)
      have oR := Lib.hid (hashsame ZZ RH LZ.out LRH.out)
      have Z3 := Row.new w3 (hcel ZZ) 30 _ rfl
      have N3 := (n3.alloc (.cells (hcel ZZ) 30)).setRow (g := w3.heap.size) (hcel RH) n3.size
      have R3 := Z3.setRow (hcel RH)
      replace hs := Lib.hid hs
      replace hp := Lib.hid hp
      go_wp2_with (refine wpList_store_row rfl 30 (.tmp 5) (.tmp 20) rfl w3.heap.size (hcel RH) rfl rfl 30 (hcel ZZ) Z3 iR.out oR.out (hcel_one _) ?_)
      have hki : (k : Int) < (l.length : Int) := by have := hkl.out; omega
      have hki2 : ¬ (l.length : Int) ≤ (k : Int) := by omega
      have hcq2 := hcq hp.out
      clear hcq
      obtain ⟨b, o, rfl, hb, hcell⟩ := hcq2
      have CL : Hid (∀ W, Nx wc W → ∀ i u, (hcel (l.getD k []))[i]? = some u → W.cell? ⟨b, o + k * 32 + i, none⟩ = some u) := Lib.hid fun W h i u hu => (h.cell (p := ⟨b, o + k * 32 + i, none⟩) hb).trans (getD_cells hcell k hkl.out i u hu)
      have LX := Lib.hid (H32.out.getD hkl.out)
      have C3 := Lib.hid (fun W (x : Nx wc W) => mway_yes _ l k W (HR1.out.nx x) (by have := HL1.out; omega) hkl.out (HK.out.nx x))
      have C5 := Lib.hid (fun W v (x : Nx wc W) (hr : RdE elH W v (wayF l k)) => mleads_yes (l.getD k []) k l.length v (wayF l k) W LX.out hr (way_below l k) hkl.out (by have := HL1.out; omega) (HK.out.nx x))
      rw [root_way l k hkl.out hs.out, hRH.out] at C5
      generalize wayF l k = F at *
      generalize l.getD k [] = X at *
      have iX := Lib.hid (hashsz X LX.out)
      have EQ := Lib.hid (fun w => eq_hash' RH LRH.out w)
      clear hcell hb hw1 hw2 hr1 hr2 hmx hN
      generalize (w3.alloc (.cells (hcel ZZ) 30)).setRow w3.heap.size (hcel RH) = W3 at *
      clear n3 Z3
      refine (C3.out _ N3).mono ?_
      rintro e w4 ⟨v4, rfl, o4, n4⟩
      have RV := Lib.hid o4.rd
      have R4 := R3.nx n4
      have N4 := N3.trans n4
      have CX := Lib.hid (CL.out _ N4)
      clear o4 n4 N3 R3
      generalize hln : l.length = ln at *
      replace hln := Lib.hid hln
      go_wp2_with (refine wpList_load_at rfl 30 (.tmp 50) rfl b (o + k * 32) rfl (hcel X) _ CX.out Tryd.underlying30 rfl iX.out ?_)
      refine (C5.out _ _ N4 RV.out).mono ?_
      rintro e w5 ⟨rfl, n5⟩
      have Z5 := Row.new w5 (hcel ZZ) 30 _ rfl
      have R5 := Z5.setRow (hcel RH)
      have R4b := ((R4.nx n5).alloc (.cells (hcel ZZ) 30)).setRow_other (k := w5.heap.size) (hcel RH) (by have := (R4.nx n5).lt; omega)
      have N5 := ((N4.trans n5).alloc (.cells (hcel ZZ) 30)).setRow (g := w5.heap.size) (hcel RH) (N4.trans n5).size
      go_wp2_with (first | (refine wpList_store_row rfl 30 (.tmp 10) (.tmp 57) rfl w5.heap.size (hcel RH) rfl rfl 30 (hcel ZZ) Z5 iR.out oR.out (hcel_one _) ?_) | (refine wpList_gd (by rfl) fun K hK => ?_; first | (refine wp_load_row_of (some 62) rfl 30 (.tmp 10) rfl w5.heap.size rfl 30 (hcel RH) _ R5 Tryd.underlying30 rfl iR.out (hK _ _ ?_)) | (refine wp_load_row_of (some 63) rfl 30 (.tmp 5) rfl w3.heap.size rfl 30 (hcel RH) _ R4b Tryd.underlying30 rfl iR.out (hK _ _ ?_)) | (refine wp_eql_of (some 64) rfl 30 _ _ _ rfl (hcel RH) (hcel RH) rfl rfl (by kernel_rfl) true (EQ.out _) (hK _ _ ?_))))
      refine (C8.out _ N5).mono ?_
      rintro e w6 ⟨rfl, n6⟩
      go_wp2_with fail
      go_ret
      exact ⟨rfl, N5.trans n6⟩
end Go.Proofs.YtjbeemoobmagnaaDoor
