/- LAYER 12: the walk of CellPops. -/
import Derived.Deep.DeepCutAuto
import Derived.Test.YtbhoflmdhlchlaaLawStacks
namespace Go.Proofs.Ytbhoflmdhlchlaa
open Go Go.RowKit
set_option linter.unusedVariables false
set_option linter.unusedSimpArgs false
set_option linter.unusedVariables false
set_option linter.unusedSimpArgs false

theorem RdL.one0 {w : World} {A : Option Addr} {c : Nat} {l : List UInt8} (h : RdL w (.slice A 1 c) [l]) : ∃ b o A1 c1, A = some ⟨b, o, none⟩ ∧ w.cell? ⟨b, o, none⟩ = some (.slice A1 l.length c1) ∧ Rd w (.slice A1 l.length c1) l := by
  obtain ⟨A0, c0, vs, e, hc, hm, hv, ha⟩ := h.parts
  injection e with e1 e2 e3
  subst e1
  obtain ⟨b, o, rfl, hb, hcell⟩ := ha (by simp)
  have h1 : vs.length = 1 := hv.1
  have hr := hv.at 0 (by omega) (by simp)
  have h0 := hcell 0 (by omega)
  obtain ⟨A1, c1, e1, q1, q2, q3⟩ := hr
  rw [e1] at h0
  exact ⟨b, o, A1, c1, rfl, h0, ⟨A1, c1, rfl, q1, q2, q3⟩⟩
theorem VsL.apart {s : Option Nat} {w : World} {vs : List Value} {ls : List (List UInt8)} (h : VsL none w vs ls) (hs : ∀ k, s = some k → w.heap.size ≤ k) : VsL s w vs ls :=
  ⟨h.1, fun j u l h1 h2 => ⟨(h.2 j u l h1 h2).1, fun hp k hk he => by
    obtain ⟨k', e1, e2⟩ := (h.2 j u l h1 h2).1.blk hp
    rw [he] at e1
    have : k = k' := by simpa using e1
    have := hs k hk
    omega⟩⟩
theorem VsL.to {s : Option Nat} {w w' : World} {vs : List Value} {ls : List (List UInt8)} (h : VsL none w vs ls) (hn : Nx w w') (hs : ∀ k, s = some k → w.heap.size ≤ k) : VsL s w' vs ls := (h.apart hs).nx hn
set_option maxRecDepth 100000 in
set_option maxHeartbeats 4000000 in
theorem cellPops_law {w : World} (v0 : Value) (ls : List (List UInt8)) (h0 : RdL w v0 ls) (hl0 : ∀ l ∈ ls, l.length ≤ 140737488351232) (v1 : Value) (l : List UInt8) (h1 : Rd w v1 l) (hr1 : l.length ≤ 140737488351232) (n : Nat) (hn : (n : Int) ≤ 255) :
    Calls Try.prog 13 #[v0, v1, .int .u8 (n : Int)] w fun e w' => e = .returned (.bool true) ∧ Nx w w' := by
  have HL : Hid (∀ l ∈ ls, l.length ≤ 140737488355328) := Lib.hid fun l hl => by have := hl0 l hl; omega
  have HLR : Hid (l.length ≤ 140737488355328) := Lib.hid (by omega)
  have H0 := Lib.hid h0
  have H1 := Lib.hid h1
  have HGR := Lib.hid (fun w hh => great_any v0 ls w hh HL.out)
  have HP := Lib.hid (fun w hh hk => cpush_any v0 ls v1 l w hh hk HL.out HLR.out)
  have HO := Lib.hid (fun hq w hh => cpop_any v0 ls (n : Int) w hh hq HL.out)
  have HO1 : Hid (ls.length ≤ 81 → ∀ (w : World) (v : Value), RdL w v (ls ++ [l]) → Calls Try.prog 38 #[v, .int .i64 1] w fun e w' => ∃ ra rb, e = .returned (.tuple #[ra, rb, .int .i64 0]) ∧ OwnL w.heap.size w' ra ls ∧ OwnL w.heap.size w' rb [l] ∧ Nx w w') := Lib.hid fun hle w v hh => by
    have := cpop_any v (ls ++ [l]) 1 w hh (by rw [List.length_append, List.length_singleton]; omega) (fun q hq => by
      rcases List.mem_append.1 hq with h | h
      · exact HL.out q h
      · have : q = l := by simpa using h
        rw [this]; exact HLR.out)
    have e0 : ppE (ls ++ [l]) 1 = 0 := by unfold ppE; rw [if_neg (by decide), if_neg (by rw [List.length_append, List.length_singleton]; omega)]
    have e1 : ppA (ls ++ [l]) 1 = ls := by unfold ppA; rw [if_pos e0]; simp
    have e2 : ppB (ls ++ [l]) 1 = [l] := by unfold ppB; rw [if_pos e0]; simp
    rw [e0, e1, e2] at this
    exact this
  have HE1 : Hid ((psE ls l = 3) ∨ (psE ls l = 0 ∧ psL ls l = ls ++ [l])) := Lib.hid (by
    unfold psE psL
    by_cases hc : 64 ≤ ls.length ∨ 3000 < l.length
    · rw [if_pos hc]; exact .inl rfl
    · rw [if_neg hc, if_neg hc]; exact .inr ⟨rfl, rfl⟩)
  have HE2 : Hid ((ppE ls (n : Int) = 6 ∧ (ls.length : Int) < (n : Int)) ∨ (ppE ls (n : Int) = 0 ∧ ppA ls (n : Int) ++ ppB ls (n : Int) = ls)) := Lib.hid (by
    by_cases hc : (ls.length : Int) < (n : Int)
    · left
      unfold ppE
      rw [if_neg (by omega), if_pos hc]
      exact ⟨rfl, hc⟩
    · right
      have e0 : ppE ls (n : Int) = 0 := by unfold ppE; rw [if_neg (by omega), if_neg hc]
      unfold ppA ppB
      rw [e0, if_pos rfl, if_pos rfl, List.take_append_drop]
      exact ⟨rfl, rfl⟩)
  have HA2 := Lib.hid (ppA_len ls n)
  have HA3 := Lib.hid (ppB_len ls n)
  obtain ⟨A, c, vs, rfl, -, -, -, -⟩ := h0.parts
  obtain ⟨A1, c1, rfl, -, -, -⟩ := h1
  have hn0 : (0 : Int) ≤ (n : Int) := by omega
  clear h0 hl0 hr1 vs
  generalize psL ls l = PL at *
  generalize psE ls l = PE at *
  generalize ppA ls n = QA at *
  generalize ppB ls n = QB at *
  generalize ppE ls n = QE at *
  go_enter Try.func13, Try.ntmps13
  go_upto_if 22 with (first | (go_at_call 35; refine (HGR.out _ H0.out).mono ?_; rintro e w1 ⟨r, rfl, hg, n1⟩; have N := Lib.hid n1; clear n1; rcases hg with rfl | ⟨rfl, hle⟩))
  · go_wp2_with fail
    refine (clives_any _).mono ?_
    rintro e w2 ⟨rfl, n2⟩
    have N2 := Lib.hid (N.out.trans n2)
    clear n2
    go_wp2_with fail
    go_ret
    exact ⟨rfl, N2.out⟩
  have HLE := Lib.hid hle
  clear hle
  by_cases hb : 4000 < l.length
  · have hb' : (4000 : Int) < (l.length : Int) := by omega
    clear hb
    go_wp2_with fail
    refine (clives_any _).mono ?_
    rintro e w2 ⟨rfl, n2⟩
    have N2 := Lib.hid (N.out.trans n2)
    clear n2
    go_wp2_with fail
    go_ret
    exact ⟨rfl, N2.out⟩
  have hb' : ¬ (4000 : Int) < (l.length : Int) := by omega
  clear hb
  go_upto_if 31 with (first | (go_at_call 36; refine (HP.out _ (H0.out.nx N.out) (H1.out.nx N.out)).mono ?_; rintro e w2 ⟨va, rfl, oa, n2⟩))
  have hb2 := hb'
  go_cut [6] (fun s wx => s = .bool false ∧ Nx w wx)
  case first =>
    have RA := Lib.hid oa.rd
    replace N := Lib.hid (N.out.trans n2)
    clear n2 oa
    rcases HE1.out with rfl | ⟨rfl, rfl⟩
    · go_wp2_with fail
      go_meet
      exact ⟨rfl, N.out⟩
    · go_wp2_with fail
      refine (HO1.out HLE.out _ _ RA.out).mono ?_
      rintro e w3 ⟨vr, vp, rfl, or, op, n3⟩
      have RR := Lib.hid or.rd
      have rp := op.rd
      obtain ⟨A9, c9, us9, hvp, -, -, -, -⟩ := rp.parts
      subst hvp
      have rp1 : RdL w3 (.slice A9 1 c9) [l] := rp
      obtain ⟨b9, o9, B9, d9, rfl, hc9, hr9⟩ := rp1.one0
      have HC9 := Lib.hid hc9
      have HR9 := Lib.hid hr9
      replace N := Lib.hid (N.out.trans n3)
      have hlt9 := World.block_lt_of_cell? w3 _ hc9
      have HLT9 := Lib.hid hlt9
      clear n3 or op rp rp1 hc9 hr9 hlt9
      simp only [List.length_singleton]
      go_wp2_with fail
      refine (rsameL_yes _ _ ls _ RR.out (H0.out.nx N.out) (by have := HLE.out; omega)).mono ?_
      rintro e w4 ⟨rfl, n4⟩
      have hc9 : w4.cell? ⟨b9, o9, none⟩ = some (.slice B9 l.length d9) := (n4.cell (p := ⟨b9, o9, none⟩) HLT9.out).trans HC9.out
      have HR10 := Lib.hid (HR9.out.nx n4)
      replace N := Lib.hid (N.out.trans n4)
      clear n4
      go_wp2_with fail
      refine (same_yes _ _ l _ HR10.out (H1.out.nx N.out)).mono ?_
      rintro e w5 ⟨rfl, n5⟩
      replace N := Lib.hid (N.out.trans n5)
      clear n5 hc9
      go_wp2_with fail
      go_meet
      exact ⟨rfl, N.out⟩
  case rest =>
    obtain ⟨rfl, nx⟩ := hcut
    have N := Lib.hid nx
    clear nx HE1 HO1 HP HGR
    go_wp2_with fail
    refine (HO.out (by have := HLE.out; omega) _ (H0.out.nx N.out)).mono ?_
    rintro e w3 ⟨vr, vp, rfl, or, op, n3⟩
    have RR := Lib.hid or.rd
    have RP := Lib.hid op.rd
    replace N := Lib.hid (N.out.trans n3)
    clear n3 or op
    rcases HE2.out with ⟨rfl, hgt⟩ | ⟨rfl, hcat⟩
    · have HGT := Lib.hid hgt
      clear HE2 RR RP
      go_wp2_with fail
      refine (clives_any _).mono ?_
      rintro e w4 ⟨rfl, n4⟩
      replace N := Lib.hid (N.out.trans n4)
      clear n4
      go_wp2_with fail
      go_ret
      exact ⟨rfl, N.out⟩
    · have HCAT := Lib.hid hcat
      clear hcat HE2
      obtain ⟨us, g1, g2⟩ := RR.out
      obtain ⟨xs, k1, k2⟩ := RP.out
      have G1 := Lib.hid g1
      have G2 := Lib.hid g2
      have K1 := Lib.hid k1
      have K2 := Lib.hid k2
      clear g1 g2 k1 k2 RR RP
      go_wp2_with (first
        | (at_builtin; refine wpList_appL rfl (.tmp 77) (.tmp 78) _ rfl Try.underlying40 w3.heap.size (.slice none 0 0) vr [] QA us rfl rfl (OwnL.nil _ _) G1.out G2.out (by have := HA2.out; have := HLE.out; simp; omega) (Nat.le_refl _) ?_; intro va4 w4 oa4 ba4 _)
        | (at_builtin; refine wpList_appL rfl (.tmp 80) (.tmp 81) _ rfl Try.underlying40 w3.heap.size va4 vp ([] ++ QA) QB xs rfl rfl oa4 (K1.out.nx ba4) (K2.out.to ba4 (fun k hk => (oa4.blk k hk).1)) (by have := HA2.out; have := HA3.out; have := HLE.out; simp; omega) ba4.size ?_; intro va5 w5 oa5 ba5 _))
      have RF : Hid (RdL w5 va5 ls) := Lib.hid (by
        have := oa5.rd
        rw [List.nil_append, HCAT.out] at this
        exact this)
      replace N := Lib.hid (N.out.trans (Nx.app ba4 ba5))
      clear oa4 oa5 ba4 ba5
      go_wp2_with fail
      refine (rsameL_yes _ _ ls _ RF.out (H0.out.nx N.out) (by have := HLE.out; omega)).mono ?_
      rintro e w6 ⟨rfl, n6⟩
      replace N := Lib.hid (N.out.trans n6)
      clear n6 RF
      go_wp2_with fail
      refine (clives_any _).mono ?_
      rintro e w7 ⟨rfl, n7⟩
      replace N := Lib.hid (N.out.trans n7)
      clear n7
      go_wp2_with fail
      go_ret
      exact ⟨rfl, N.out⟩
end Go.Proofs.Ytbhoflmdhlchlaa
