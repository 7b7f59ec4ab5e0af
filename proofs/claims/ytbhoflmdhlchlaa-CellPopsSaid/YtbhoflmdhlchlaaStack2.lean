/- LAYER 12: lists of bytes copied by the program; what is too great to go through. -/
import Derived.Test.YtbhoflmdhlchlaaStack1
import Derived.Test.YtbhoflmdhlchlaaCell5
import Derived.Test.YtbhoflmdhlchlaaRowW
namespace Go.Proofs.Ytbhoflmdhlchlaa
open Go Go.RowKit
set_option linter.unusedVariables false
set_option linter.unusedSimpArgs false
set_option linter.unusedVariables false
set_option linter.unusedSimpArgs false

theorem clone2_any (v : Value) (l : List UInt8) (w : World) (hr : Rd w v l) (hb : l.length ≤ 140737488355328) :
    Calls Try.prog 59 #[v] w fun e w' => ∃ v', e = .returned v' ∧ Rd w' v' l ∧ (0 < l.length → ∀ k, v'.ownBlock = some k → w.heap.size ≤ k) ∧ Nx w w' := by
  obtain ⟨A, c, rfl, hc, hm, ha⟩ := hr
  rcases A with _ | a
  · have h0 : l.length = 0 := by
      rcases Nat.eq_zero_or_pos l.length with h | h
      · exact h
      · obtain ⟨b, o, e, _⟩ := ha h; cases e
    refine (Try.bytes_Clone_nil l.length c w).mono fun e w' ⟨h1, h2⟩ => ⟨_, h1, ?_, by omega, by rw [h2]; exact Nx.refl _⟩
    obtain rfl := List.eq_nil_of_length_eq_zero h0
    exact Rd.nil _
  · have hcell : ∀ i, i < l.length → w.cell? (a.add i) = some (.int .u8 ((l.map fun x => (x.toNat : Int)).getD i 0)) := fun i hi => by
      obtain ⟨b, o, e, hb, hcc⟩ := ha (by omega)
      obtain rfl : a = ⟨b, o, none⟩ := by injection e
      rw [addr_add, hcc i hi]
      simp [List.getD_eq_getElem?_getD, List.getElem?_eq_getElem hi]
    refine (Try.bytes_Clone_at a l.length c (l.map fun x => (x.toNat : Int)) w (by simp) hb hcell).mono fun e w' ⟨v', h1, h2, h3, h4⟩ => ⟨v', h1, ?_, ?_, h4⟩
    · have hown := h2
      rcases h2.2 with ⟨rfl, h0⟩ | ⟨g, cap, cur, rfl, hbg, hg, hcap, hmax, hsz, htake⟩
      · exact absurd rfl h3
      · refine ⟨_, _, rfl, hcap, hmax, At.of_cells (Array.getElem?_eq_some_iff.1 hg).1 fun j hj => ?_⟩
        rw [Nat.zero_add, hown.cellAt j (by omega)]
        simp [List.getElem?_eq_getElem hj]
    · intro _ k hk
      rcases h2.2 with ⟨rfl, h0⟩ | ⟨g, cap, cur, rfl, hbg, hg, hcap, hmax, hsz, htake⟩
      · exact absurd rfl h3
      · obtain rfl : g = k := by simpa [Value.ownBlock] using hk
        exact hbg
theorem info_row2 : (Try.prog.info? 23).map (fun i => (i.zero, i.size, i.bytes)) = some (some (.slice none 0 0), 1, 24) := by kernel_rfl
theorem made_list (n : Nat) : madeCells #[(.slice none 0 0 : Value)] n = (List.replicate n (.slice none 0 0 : Value)).toArray := by
  apply Array.ext
  · simp [madeCells]
  · intro i h1 h2
    simp [madeCells, Nat.mod_one]

theorem VsL.single2 {s : Option Nat} {w : World} {u : Value} {l : List UInt8} (h : Rd w u l) (hs : 0 < l.length → ∀ k, s = some k → u.ownBlock ≠ some k) : VsL s w [u] [l] := by
  refine ⟨rfl, fun j u' l' h1 h2 => ?_⟩
  have hj : j = 0 := by
    have := (List.getElem?_eq_some_iff.1 h1).1
    simpa using this
  subst hj
  simp only [List.getElem?_cons_zero, Option.some.injEq] at h1 h2
  subst h1 h2
  exact ⟨h, hs⟩
def zl (n : Nat) : Array Value := (List.replicate n (.slice none 0 0 : Value)).toArray
set_option maxHeartbeats 1000000 in
theorem ccopied_any (v : Value) (ls : List (List UInt8)) (w : World) (h : RdL w v ls) (hn : ls.length ≤ 1000) (hl : ∀ l ∈ ls, l.length ≤ 140737488355328) :
    Calls Try.prog 58 #[v] w fun e w' => ∃ v', e = .returned v' ∧ OwnL w.heap.size w' v' ls ∧ Nx w w' := by
  obtain ⟨A, c, vs, rfl, hc, hm, hv, ha⟩ := h.parts
  have HV := Lib.hid hv
  have HLN := Lib.hid hv.1
  have HL := Lib.hid hl
  have hmk : ∀ w, (Instr.makeSlice 40 (.int .i64 (ls.length : Int)) (.int .i64 (ls.length : Int))).run Try.prog w = .ok (.slice (some ⟨w.heap.size, 0, none⟩) ls.length ls.length) (w.alloc (.cells (zl ls.length) 23)) := fun w => by
    have := run_make_row' (P := Try.prog) 40 23 (.slice none 0 0) 24 Try.underlying40 info_row2 rfl .i64 .i64 ls.length (by omega) (by omega) w
    rw [made_list] at this
    exact this
  clear h hv hl hc hm
  go_enter Try.func58, Try.ntmps58
  go_wp2_with fail
  have hjb : (ls.length : Int) ≤ 1000 := by omega
  have RW : Row (w.alloc (.cells (zl ls.length) 23)) w.heap.size (zl ls.length) 23 := Row.new w _ _ _ rfl
  have NW := Lib.hid ((Nx.refl w).alloc (.cells (zl ls.length) 23))
  generalize w.alloc (.cells (zl ls.length) 23) = W at *
  clear hmk
  go_loopw [11] (fun i wr => ∃ (j : Nat) (full : List Value), j ≤ ls.length ∧ i = .int .i64 j ∧ full.length = ls.length ∧ Row wr w.heap.size full.toArray 23 ∧ VsL (some w.heap.size) wr (full.take j) (ls.take j) ∧ Nx w wr) (fun i _ => ls.length - (intOf i).toNat)
  case atStart => exact ⟨0, List.replicate ls.length (.slice none 0 0 : Value), by omega, rfl, by simp, RW, by simpa using VsL.nil _ _, NW.out⟩
  case round =>
    obtain ⟨j, full, hj, rfl, hfl, hrow, hvl, hb⟩ := hrel
    by_cases hlt : j < ls.length
    · obtain ⟨b, o, rfl, hbb, hcell⟩ := ha (by omega)
      have hjv : j < vs.length := by have := HLN.out; omega
      have g0 := (hb.cell (p := ⟨b, o + j, none⟩) hbb).trans (hcell j hjv)
      have hr := (HV.out.at j hjv hlt).nx hb
      have hrr := Lib.hid hr
      obtain ⟨A1, c1, e1, -, -, -⟩ := hr
      rw [e1] at g0 hrr
      have hlt' : (j : Int) < (ls.length : Int) := by omega
      have HX : Hid (ls.take (j + 1) = ls.take j ++ [ls[j]]) := Lib.hid (List.take_succ_eq_append_getElem hlt)
      have hll : ls[j].length ≤ 140737488355328 := HL.out _ (List.getElem_mem hlt)
      have HLL := Lib.hid hll
      have hj0 : (0 : Int) ≤ (j : Int) := by omega
      have HFL := Lib.hid hfl
      clear hcell e1 hll hfl RW
      generalize ls[j] = lj at *
      go_wp2_with fail
      refine (clone2_any _ lj _ hrr.out HLL.out).mono ?_
      rintro e w1 ⟨vx, rfl, ox, hsep, nx⟩
      have R1 := hrow.nx nx
      have HR1 := Lib.hid R1
      have OX := Lib.hid ox
      have HSP := Lib.hid hsep
      have HB := Lib.hid hb
      have NB := Lib.hid (hb.trans nx)
      have HVL := Lib.hid (hvl.nx nx)
      obtain ⟨A2, c2, rfl, -, -, -⟩ := ox
      have hjf : j < full.length := by have := HFL.out; omega
      have cj := R1.cell (i := j) (v := full[j]) (by simp [List.getElem?_eq_getElem hjf])
      have fj := R1.frozen j
      have HSZ := Lib.hid (hrow.lt)
      clear hrow hvl hb nx hsep R1
      generalize full[j] = fjv at *
      go_wp2_with fail
      go_roundw
      case rel =>
        have hset := HR1.out.set j (.slice A2 lj.length c2)
        have e2 : full.toArray.setIfInBounds j (.slice A2 lj.length c2) = (full.set j (.slice A2 lj.length c2)).toArray := by simp
        rw [e2] at hset
        have hg : w1.grownBy (w1.setCell ⟨w.heap.size, j, none⟩ (.slice A2 lj.length c2)) (some w.heap.size) := ⟨rfl, rfl, rfl, by simp [World.setCell], fun k hk hne => heap_setCell_other w1 ⟨w.heap.size, j, none⟩ k _ (fun e => hne (by show some k = some w.heap.size; rw [e]))⟩
        refine ⟨j + 1, full.set j (.slice A2 lj.length c2), by omega, by go_num, by rw [List.length_set]; exact HFL.out, hset, ?_, NB.out.setAt (i := j) _ (Nat.le_refl _)⟩
        rw [HX.out]
        have e3 : (full.set j (.slice A2 lj.length c2)).take (j + 1) = full.take j ++ [.slice A2 lj.length c2] := by
          rw [List.take_succ_eq_append_getElem (by rw [List.length_set]; omega), List.getElem_set_self, List.take_set_of_le (Nat.le_refl _)]
        rw [e3]
        refine VsL.append ⟨HVL.out.1, fun q u l h1 h2 => ?_⟩ (VsL.single2 (OX.out.grownBy hg fun hp k hk he => ?_) fun hp k hk he => ?_)
        · obtain ⟨p1, p2⟩ := HVL.out.2 q u l h1 h2
          exact ⟨p1.grownBy hg p2, p2⟩
        · obtain rfl : w.heap.size = k := by simpa using hk
          have := HSP.out hp _ he
          have := HSZ.out
          omega
        · obtain rfl : w.heap.size = k := by simpa using hk
          have := HSP.out hp _ he
          have := HSZ.out
          omega
      case measure => simp [intOf]; omega
    · obtain rfl : j = ls.length := by omega
      go_wp2_with fail
      go_ret
      rw [List.take_of_length_le (Nat.le_refl _), List.take_of_length_le (by omega)] at hvl
      refine ⟨_, rfl, ⟨full, .inr ⟨w.heap.size, full, by rw [hfl]; rfl, Nat.le_refl _, hrow, Nat.le_refl _, by rw [hfl]; simp only [maxLen]; omega, List.take_of_length_le (Nat.le_refl _)⟩, ?_⟩, hb⟩
      exact hvl
end Go.Proofs.Ytbhoflmdhlchlaa
