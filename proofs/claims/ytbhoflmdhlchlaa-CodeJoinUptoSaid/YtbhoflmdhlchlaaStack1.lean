/- LAYER 12: lists of bytes copied, compared. -/
import Derived.Test.YtbhoflmdhlchlaaList
import Derived.Test.YtbhoflmdhlchlaaMore
import Derived.LoopTactic
import Derived.BigQuiet
import Derived.Deep.OwnRows
import Derived.Lib.QuietBelow
import Derived.Deep.QuietTactic
namespace Go.Proofs.Ytbhoflmdhlchlaa
open Go Go.RowKit Go.Sort
set_option linter.unusedVariables false
set_option linter.unusedSimpArgs false
set_option linter.unusedVariables false
set_option linter.unusedSimpArgs false

theorem info_u8s1 : (Try.prog.info? 5).map (fun i => (i.zero, i.size, i.bytes)) = some (some (.int .u8 0), 1, 1) := by kernel_rfl
theorem copy_any (v : Value) (l : List UInt8) (w : World) (h : Rd w v l) (hl : l.length ≤ 140737488355328) :
    Calls Try.prog 61 #[v] w fun e w' => ∃ v', e = .returned v' ∧ Own w.heap.size w' v' l ∧ Nx w w' := by
  have hrd := h
  obtain ⟨A, c, rfl, -, -, -⟩ := h
  go_enter Try.func61, Try.ntmps61
  go_wp2_with (at_builtin; refine wpList_app rfl (.tmp 4) (.tmp 5) _ rfl Try.underlying23 info_u8s1 w.heap.size (.slice none 0 0) (.slice A l.length c) [] l rfl rfl (Own.nil _ _) hrd (by simpa using hl) (Nat.le_refl _) ?_; intro v' w' o' b' _)
  go_ret
  exact ⟨_, rfl, by simpa using o', b'⟩
/-- The list of one, made as a literal. -/
theorem RdC.one1 (w : World) (u : Value) (t : TypeId) (h : u.oneCell' = true) : RdC (w.alloc (.cells #[u] t)) (.slice (some ⟨w.heap.size, 0, none⟩) 1 1) [u] := by
  refine ⟨some ⟨w.heap.size, 0, none⟩, 1, rfl, by simp, by simp [maxLen], by simpa using h, fun _ => ⟨w.heap.size, 0, rfl, by simp, fun j hj => ?_⟩⟩
  have : j = 0 := by simpa using hj
  subst this
  rw [cell_of_row _ w.heap.size (0 + 0) #[u] t (0, 0) (heap_alloc_new w _)]
  rfl
theorem RdL.parts {w : World} {v : Value} {ls : List (List UInt8)} (h : RdL w v ls) : ∃ A c vs, v = .slice A ls.length c ∧ ls.length ≤ c ∧ c ≤ maxLen ∧ VsL none w vs ls ∧ (0 < ls.length → ∃ b o, A = some ⟨b, o, none⟩ ∧ b < w.heap.size ∧ ∀ j (h : j < vs.length), w.cell? ⟨b, o + j, none⟩ = some vs[j]) := by
  obtain ⟨vs, ⟨A, c, rfl, h1, h2, h3, h4⟩, h5⟩ := h
  exact ⟨A, c, vs, by rw [h5.1], by rw [← h5.1]; exact h1, h2, h5, fun hp => h4 (by rw [h5.1]; exact hp)⟩
theorem VsL.at {s : Option Nat} {w : World} {vs : List Value} {ls : List (List UInt8)} (h : VsL s w vs ls) (j : Nat) (h1 : j < vs.length) (h2 : j < ls.length) : Rd w vs[j] ls[j] :=
  (h.2 j _ _ (List.getElem?_eq_getElem h1) (List.getElem?_eq_getElem h2)).1

theorem OwnL.blk {B : Nat} {w : World} {v : Value} {ls : List (List UInt8)} (h : OwnL B w v ls) : ∀ k, v.ownBlock = some k → B ≤ k ∧ k < w.heap.size := by
  obtain ⟨vs, h1, h2⟩ := h
  exact fun k hk => h1.block k hk
theorem VsL.single {s : Option Nat} {w : World} {u : Value} {l : List UInt8} (h : Rd w u l) (hs : ∀ k, s = some k → u.ownBlock ≠ some k) : VsL s w [u] [l] := by
  refine ⟨rfl, fun j u' l' h1 h2 => ?_⟩
  have hj : j = 0 := by
    have := (List.getElem?_eq_some_iff.1 h1).1
    simpa using this
  subst hj
  simp only [List.getElem?_cons_zero, Option.some.injEq] at h1 h2
  subst h1 h2
  exact ⟨h, fun _ => hs⟩

set_option maxHeartbeats 2000000 in
theorem rcopied_any (v : Value) (ls : List (List UInt8)) (w : World) (h : RdL w v ls) (hn : ls.length ≤ 1000) (hl : ∀ l ∈ ls, l.length ≤ 140737488355328) :
    Calls Try.prog 60 #[v] w fun e w' => ∃ v', e = .returned v' ∧ OwnL w.heap.size w' v' ls ∧ Nx w w' := by
  obtain ⟨A, c, vs, rfl, hc, hm, hv, ha⟩ := h.parts
  have HV := Lib.hid hv
  have HLN := Lib.hid hv.1
  have HL := Lib.hid hl
  clear h hv hl hc hm
  go_enter Try.func60, Try.ntmps60
  go_wp2_with fail
  go_loopw [3, 4] (fun u i wr => ∃ (j : Nat) (uu : Value), j ≤ ls.length ∧ i = .int .i64 j ∧ uu = u ∧ OwnL w.heap.size wr uu (ls.take j) ∧ Nx w wr) (fun _ i _ => ls.length - (intOf i).toNat)
  case atStart => exact ⟨0, _, by omega, rfl, rfl, by simpa using OwnL.nil _ _, Nx.refl _⟩
  case round =>
    obtain ⟨j, u, hj, rfl, rfl, hown, hb⟩ := hrel
    by_cases hlt : j < ls.length
    · obtain ⟨b, o, rfl, hbb, hcell⟩ := ha (by omega)
      have hjv : j < vs.length := by have := HLN.out; omega
      have g0 := (hb.cell (p := ⟨b, o + j, none⟩) hbb).trans (hcell j hjv)
      have hr := (HV.out.at j hjv hlt).nx hb
      have hrr := Lib.hid hr
      obtain ⟨A1, c1, e1, -, -, -⟩ := hr
      rw [e1] at g0 hrr
      have hlt' : (j : Int) < (ls.length : Int) := by omega
      have HX : Hid (ls.take (j + 1) = ls.take j ++ [ls[j]]) := Lib.hid (List.take_succ_eq_append_getElem hlt)
      have hll : ls[j].length ≤ 140737488355328 := HL.out _ (List.getElem_mem hlt)
      have HLL := Lib.hid hll
      have HN := Lib.hid hn
      have hj0 : (0 : Int) ≤ (j : Int) := by omega
      have hjb : (ls.length : Int) ≤ 1000 := by omega
      clear hcell e1 hll hn
      generalize ls[j] = lj at *
      go_wp2_with fail
      refine (copy_any _ lj _ hrr.out HLL.out).mono ?_
      rintro e w1 ⟨vx, rfl, ox, nx⟩
      have OX := Lib.hid ox
      obtain ⟨A2, c2, rfl, -, -, -⟩ := ox.rd
      have OW := Lib.hid (hown.nx nx)
      have NB := Lib.hid (hb.trans nx)
      have HSZ := Lib.hid nx.size
      have HOB := Lib.hid hown.blk
      clear hown hb
      have hvs : VsL u.ownBlock (w1.alloc (.cells #[.slice A2 lj.length c2] 23)) [.slice A2 lj.length c2] [lj] := VsL.single (ox.rd.alloc _) fun k hk he => by
        have h1 := (HOB.out k hk).2
        have h2 := ox.block k he
        omega
      have HVS := Lib.hid hvs
      clear ox nx hvs
      go_wp2_with (at_builtin; refine wpList_appL rfl (.tmp 11) (.tmp 17) _ rfl Try.underlying40 w.heap.size u (.slice (some ⟨w1.heap.size, 0, none⟩) 1 1) (ls.take j) [lj] [.slice A2 lj.length c2] rfl rfl (OW.out.nx ((Nx.refl w1).alloc _)) (RdC.one1 w1 _ _ rfl) HVS.out ?c2 ?c3 ?_)
      case c2 =>
        have h9 : ls.length ≤ 1000 := HN.out
        rw [List.length_take, List.length_singleton]
        omega
      case c3 => exact Nat.le_trans NB.out.size ((Nx.refl w1).alloc _).size
      intro v' w' o' b' _
      go_wp2
      go_roundw
      case rel => exact ⟨j + 1, _, by omega, by go_num, rfl, by rw [HX.out]; exact o', (NB.out.alloc _).app b'⟩
      case measure => simp [intOf]; omega
    · obtain rfl : j = ls.length := by omega
      rw [List.take_of_length_le (Nat.le_refl _)] at hown
      go_wp2_with fail
      go_ret
      exact ⟨_, rfl, hown, hb⟩
/-- Same of two lists that read alike. -/
theorem rsameL_yes (v1 v2 : Value) (ls : List (List UInt8)) (w : World) (h1 : RdL w v1 ls) (h2 : RdL w v2 ls) (hn : ls.length ≤ 100000) :
    Calls Try.prog 40 #[v1, v2] w fun e w' => e = .returned (.bool true) ∧ Nx w w' := by
  obtain ⟨A, c, vs, rfl, hc, hm, hv, ha⟩ := h1.parts
  obtain ⟨B, d, us, rfl, hd, hm2, hu, hb⟩ := h2.parts
  have HV := Lib.hid hv
  have HU := Lib.hid hu
  have hne : ((ls.length : Int) != (ls.length : Int)) = false := by simp
  clear hc hm hd hm2 h1 h2 hv hu
  go_enter Try.func40, Try.ntmps40
  go_wp2_with fail
  clear hne
  go_loopw [5] (fun i wr => ∃ j : Nat, j ≤ ls.length ∧ i = .int .i64 j ∧ Nx w wr) (fun i _ => ls.length - (intOf i).toNat)
  case atStart => exact ⟨0, by omega, rfl, Nx.refl _⟩
  case round =>
    obtain ⟨j, hj, rfl, hx⟩ := hrel
    by_cases hlt : j < ls.length
    · obtain ⟨b1, o1, rfl, hb1, hc1⟩ := ha (by omega)
      obtain ⟨b2, o2, rfl, hb2, hc2⟩ := hb (by omega)
      have hj1 : j < vs.length := by have := HV.out.1; omega
      have hj2 : j < us.length := by have := HU.out.1; omega
      have g1 := (hx.cell (p := ⟨b1, o1 + j, none⟩) hb1).trans (hc1 j hj1)
      have g2 := (hx.cell (p := ⟨b2, o2 + j, none⟩) hb2).trans (hc2 j hj2)
      have r1 := HV.out.at j hj1 hlt
      have r2 := HU.out.at j hj2 hlt
      have hr1 := Lib.hid r1
      have hr2 := Lib.hid r2
      obtain ⟨A1, d1, e1, -, -, -⟩ := r1
      obtain ⟨A2, d2, e2, -, -, -⟩ := r2
      rw [e1] at g1 hr1
      rw [e2] at g2 hr2
      have hlt' : (j : Int) < (ls.length : Int) := by omega
      have hj0 : (0 : Int) ≤ (j : Int) := by omega
      have hw1 : wrap64 ((j : Int) + 1) = (j : Int) + 1 := by unfold wrap64; omega
      have HX := Lib.hid hx
      clear e1 e2 hc1 hc2 ha hb
      generalize ls[j] = lj at *
      have HS : Hid (∀ w0, Below wr.heap.size wr w0 → Calls Try.prog 16 #[.slice A1 lj.length d1, .slice A2 lj.length d2] w0 fun e w' => e = .returned (.bool true) ∧ Below w0.heap.size w0 w') := Lib.hid fun w0 n0 => same_yes _ _ lj w0 (hr1.out.nx (HX.out.trans n0)) (hr2.out.nx (HX.out.trans n0))
      clear hr1 hr2
      have q1 : ∀ dd os, (Sort.grow (redrawn wr dd) os).cell? ⟨b1, o1 + j, none⟩ = some (.slice A1 lj.length d1) := fun dd os => cell_regrown g1 dd os
      have q2 : ∀ dd os, (Sort.grow (redrawn wr dd) os).cell? ⟨b2, o2 + j, none⟩ = some (.slice A2 lj.length d2) := fun dd os => cell_regrown g2 dd os
      clear g1 g2
      go_wp2
      refine wp_region_quiet_below (by kernel_rfl) (by kernel_rfl) ?_
      repeat (first
        | quiet_step ((first
          | (go_at_call 16; with_reducible exact Calls.regrown_of (HS.out _ (below_regrown wr _ _))))))
      refine wpQuiet_nil ?_
      intro _ hw'
      obtain ⟨⟨dq, osq⟩, hw''⟩ := hw'
      subst hw''
      go_wp2
      go_roundw
      case rel => exact ⟨j + 1, by omega, by go_num, HX.out.trans (below_regrown wr dq osq)⟩
      case measure => simp [intOf]; omega
    · go_wp2_with fail
      go_ret
      exact ⟨rfl, hx⟩
end Go.Proofs.Ytbhoflmdhlchlaa
