/- TEXTS OF OUR OWN, IN ONE FILE. -/
import Derived.Test.YtpijehaciomkhaaDoorBk4
import Derived.Test.YtpijehaciomkhaaDoorTr
import Derived.Test.YtpijehaciomkhaaDoorBk5
section
namespace Go.Proofs.YtpijehaciomkhaaDoor
open Go Go.RowKit
set_option linter.unusedVariables false
set_option linter.unusedSimpArgs false
set_option linter.unusedVariables false
set_option linter.unusedSimpArgs false

def bcT (l : List UInt8) (at_ : Int) : Nat × Int × Int := if (gc l at_).2.2 ≠ 0 then (0, 0, (gc l at_).2.2) else if (gc l at_).1 = 0 then (0, 0, 5) else if 16 < (gc l at_).1 then (0, 0, 3) else ((gc l at_).1, (gc l at_).2.1, 0)
set_option maxRecDepth 100000 in
set_option maxHeartbeats 4000000 in
theorem bgetCount_any (v : Value) (l : List UInt8) (at_ : Int) (w : World) (h : Rd w v l) (hr : l.length ≤ 140737488355328) :
    Calls Tryd.prog 32 #[v, .int .i64 at_] w fun e w' => e = .returned (.tuple #[.int .i64 ((bcT l at_).1 : Int), .int .i64 (bcT l at_).2.1, .int .i64 (bcT l at_).2.2]) ∧ w = w' := by
  have HG := Lib.hid (getCount_any v l at_ w h hr)
  unfold bcT
  obtain ⟨A, c, rfl, -⟩ := h
  clear hr
  generalize gc l at_ = C at *
  obtain ⟨n, p, E⟩ := C
  dsimp only at *
  by_cases hE : E = 0
  · subst hE
    rw [if_neg (by simp)]
    by_cases hn : n = 0
    · subst hn
      rw [if_pos rfl]
      go_enter Tryd.func32, Tryd.ntmps32
      go_wp2_with fail
      refine HG.out.mono ?_
      rintro e w1 ⟨rfl, rfl⟩
      go_wp2_with fail
      exact bodyPost_ret (v := .tuple #[.int .i64 0, .int .i64 0, .int .i64 5]) (by simp [results, Tryd.results32, go_sem]) rfl ⟨rfl, rfl⟩
    · rw [if_neg hn]
      have h0 : ((n : Int) == 0) = false := by rw [beq_eq_false_iff_ne]; omega
      by_cases hx : 16 < n
      · rw [if_pos hx]
        have h16 : (16 : Int) < (n : Int) := by omega
        clear hn hx
        go_enter Tryd.func32, Tryd.ntmps32
        go_wp2_with fail
        refine HG.out.mono ?_
        rintro e w1 ⟨rfl, rfl⟩
        go_wp2_with fail
        exact bodyPost_ret (v := .tuple #[.int .i64 0, .int .i64 0, .int .i64 3]) (by simp [results, Tryd.results32, go_sem]) rfl ⟨rfl, rfl⟩
      · rw [if_neg hx]
        have h16 : ¬ (16 : Int) < (n : Int) := by omega
        have kn : IntKind.i64.wrap (n : Int) = (n : Int) := IntWalk.i64_in _ (by omega)
        clear hn hx
        go_enter Tryd.func32, Tryd.ntmps32
        go_wp2_with fail
        refine HG.out.mono ?_
        rintro e w1 ⟨rfl, rfl⟩
        go_wp2_with fail
        exact bodyPost_ret (v := .tuple #[.int .i64 (n : Int), .int .i64 p, .int .i64 0]) (by simp [results, Tryd.results32, go_sem]) rfl ⟨rfl, rfl⟩
  · rw [if_pos hE]
    have dE : (E != 0) = true := by simp [hE]
    clear hE
    go_enter Tryd.func32, Tryd.ntmps32
    go_wp2_with fail
    refine HG.out.mono ?_
    rintro e w1 ⟨rfl, rfl⟩
    go_wp2_with fail
    exact bodyPost_ret (v := .tuple #[.int .i64 0, .int .i64 0, .int .i64 E]) (by simp [results, Tryd.results32, go_sem]) rfl ⟨rfl, rfl⟩
def txzs (n : Nat) : List Value := (madeCells #[.slice none 0 0, .slice none 0 0, .int .u32 0] (n * 3)).toList
theorem txzs_length (n : Nat) : (txzs n).length = n * 3 := by simp [txzs, madeCells]
theorem info_tx3 : (Tryd.prog.info? 39).map (fun i => (i.zero, i.size, i.bytes)) = some (some (.agg #[.slice none 0 0, .slice none 0 0, .int .u32 0]), 3, 56) := by kernel_rfl
theorem run_mktx (n : Nat) (hn : n ≤ 1000) (w : World) : (Instr.makeSlice 27 (.int .i64 (n : Int)) (.int .i64 (n : Int))).run Tryd.prog w = .ok (.slice (some ⟨w.heap.size, 0, none⟩) n n) (w.alloc (.cells (txzs n).toArray 39)) := by
  obtain ⟨i, hi0, hz, hsz, hby⟩ : ∃ i, Tryd.prog.info? 39 = some i ∧ i.zero = some (.agg #[.slice none 0 0, .slice none 0 0, .int .u32 0]) ∧ i.size = 3 ∧ i.bytes = 56 := by
    have hi := info_tx3
    rcases hq : Tryd.prog.info? 39 with _ | i
    · rw [hq] at hi; cases hi
    · rw [hq] at hi
      simp only [Option.map_some, Option.some.injEq, Prod.mk.injEq] at hi
      exact ⟨i, rfl, hi.1, hi.2.1, hi.2.2⟩
  have := run_make (P := Tryd.prog) w 27 39 i _ Tryd.underlying27 hi0 hz .i64 .i64 (n : Int) (n : Int) (by omega) (by omega) (by rw [hby]; omega) (by omega)
  rw [hsz, Int.toNat_natCast, show (Value.agg #[.slice none 0 0, .slice none 0 0, .int .u32 0]).cells = #[.slice none 0 0, .slice none 0 0, .int .u32 0] from rfl] at this
  simpa [txzs] using this
/-- Transactions in a row, whose own memory lies behind B. -/
def FreeL (B : Nat) (w : World) (fs : List Value) (es : List Txn) : Prop := fs.length = es.length * 3 ∧ ∀ j (h : j < es.length), ∃ iv ov, (txE noF).cut fs j = tcl iv ov es[j].after ∧ TxFree B w iv ov es[j]
theorem FreeL.nil (B : Nat) (w : World) : FreeL B w [] [] := ⟨rfl, fun j h => by simp at h⟩
theorem FreeL.above {B : Nat} {w w' : World} {fs : List Value} {es : List Txn} (h : FreeL B w fs es) (k : Above B w w') : FreeL B w' fs es := ⟨h.1, fun j hj => by obtain ⟨iv, ov, a, b⟩ := h.2 j hj; exact ⟨iv, ov, a, b.above k⟩⟩
theorem FreeL.nx {B : Nat} {w w' : World} {fs : List Value} {es : List Txn} (h : FreeL B w fs es) (k : Nx w w') : FreeL B w' fs es := h.above (Above.of_nx k)
theorem gr_setRow2 (w : World) (g : Nat) (cs : Array Value) : w.grownBy (w.setRow g cs) (some g) := ⟨rfl, rfl, rfl, by rw [size_setRow]; exact Nat.le_refl _, fun k _ hk => setRow_other w g k _ (fun e => hk (by rw [e]))⟩
theorem Above.setRow {B g : Nat} {w : World} {cs : Array Value} (hg : g < B) : Above B w (w.setRow g cs) := Above.of_gr (gr_setRow2 w g cs) hg
theorem FreeL.snoc {B : Nat} {w : World} {fs : List Value} {es : List Txn} {x : Txn} {iv ov : Value} (h : FreeL B w fs es) (hx : TxFree B w iv ov x) : FreeL B w (fs ++ tcl iv ov x.after) (es ++ [x]) := by
  refine ⟨by rw [List.length_append, List.length_append, h.1, Nat.add_mul]; rfl, fun j hj => ?_⟩
  by_cases hlt : j < es.length
  · obtain ⟨u, v, a, b⟩ := h.2 j hlt
    refine ⟨u, v, ?_, ?_⟩
    · rw [El.cut_left (L := txE noF) h.1 hlt, List.getElem_append_left hlt]; exact a
    · rw [List.getElem_append_left hlt]; exact b
  · have hj2 : j = es.length := by simp at hj; omega
    subst hj2
    have e : (es ++ [x])[es.length]'hj = x := by simp
    rw [e]
    refine ⟨iv, ov, ?_, hx⟩
    have := El.cut_right (L := txE noF) (fs := fs) (us := tcl iv ov x.after) (n := es.length) (j := 0) h.1
    rw [Nat.add_zero] at this
    rw [this]
    rfl
theorem FreeL.all {B : Nat} {w : World} {fs : List Value} {es : List Txn} (h : FreeL B w fs es) : AllE (txE noF) none w fs es := ⟨h.1, fun j hj => by
  obtain ⟨iv, ov, a, b⟩ := h.2 j hj
  rw [a]
  exact txE_of b.1⟩
/-- What getTxs answers. -/
def GotT (w : World) (T : List Txn × Int × Int) (e : Ending) (w' : World) : Prop := ∃ v p ev, e = .returned (.tuple #[v, .int .i64 p, ev]) ∧ Nx w w' ∧
  ((T.2.2 = 0 ∧ p = T.2.1 ∧ ev = .nilIface ∧ ∀ W, Above w.heap.size w' W → RdE (txE noF) W v T.1) ∨ (T.2.2 ≠ 0 ∧ v = .slice none 0 0 ∧ p = 0 ∧ ErrV ev T.2.2))
theorem gotT_bad {w w' : World} {T : List Txn × Int × Int} {ev : Value} (n : Nx w w') (h : T.2.2 ≠ 0) (he : ErrV ev T.2.2) : GotT w T (.returned (.tuple #[.slice none 0 0, .int .i64 0, ev])) w' := ⟨_, _, _, rfl, n, .inr ⟨h, rfl, rfl, he⟩⟩
theorem gotT_good {w w' : World} {T : List Txn × Int × Int} {v : Value} {p : Int} (n : Nx w w') (h : T.2.2 = 0) (hp : p = T.2.1) (R : ∀ W, Above w.heap.size w' W → RdE (txE noF) W v T.1) : GotT w T (.returned (.tuple #[v, .int .i64 p, .nilIface])) w' := ⟨_, _, _, rfl, n, .inl ⟨h, hp, rfl, R⟩⟩
theorem tcl_one {iv ov : Value} {a : Nat} (h1 : iv.oneCell' = true) (h2 : ov.oneCell' = true) : (tcl iv ov a).toArray.all (·.oneCell') = true := by
  rw [Array.all_eq_true']
  intro x hx
  simp only [tcl, List.mem_toArray, List.mem_cons, List.not_mem_nil, or_false] at hx
  rcases hx with rfl | rfl | rfl
  · exact h1
  · exact h2
  · rfl
set_option maxRecDepth 100000 in
set_option maxHeartbeats 8000000 in
theorem bgetTxs_any (v : Value) (l : List UInt8) (at_ : Int) (n : Nat) (w : World) (h : Rd w v l) (hr : l.length ≤ 140737488355328) (hn : n ≤ 16) :
    Calls Tryd.prog 33 #[v, .int .i64 at_, .int .i64 (n : Int)] w (GotT w (lsT (tgT l) n at_)) := by
  have HT := Lib.hid (lsJ_begin (tgT l) n at_)
  have HTG := Lib.hid (fun q w h => tget_any v l q w h hr)
  dsimp only [tcel] at HTG
  have HRD := Lib.hid h
  obtain ⟨A, c, rfl, -⟩ := h
  generalize lsT (tgT l) n at_ = T at *
  have hmk := run_mktx n (by omega)
  have HN16 := Lib.hid hn
  have RZ := Lib.hid (Row.new w (txzs n).toArray 39 _ rfl)
  have NZ := Lib.hid ((Nx.refl w).alloc (.cells (txzs n).toArray 39))
  have HZL := Lib.hid (txzs_length n)
  clear hn hr
  generalize txzs n = ZL at *
  go_enter Tryd.func33, Tryd.ntmps33
  go_wp2_with fail
  generalize hW : w.alloc (.cells ZL.toArray 39) = W at *
  clear hW hmk
  replace HT : Hid (LsJ (tgT l) T [] (n - 0) at_) := HT
  go_loopw [1, 18] (fun av iv wr => ∃ (j : Nat) (es : List Txn) (fs : List Value) (q : Int), av = .int .i64 q ∧ iv = .int .i64 (j : Int) ∧ j ≤ n ∧ Hid (es.length = j) ∧ Hid (LsJ (tgT l) T es (n - j) q) ∧ Hid (fs.length = n * 3) ∧ Hid (Row wr w.heap.size fs.toArray 39) ∧ Hid (FreeL (w.heap.size + 1) wr (fs.take (j * 3)) es) ∧ Hid (Nx w wr)) (fun _ iv _ => n - (intOf iv).toNat)
  case atStart => exact ⟨0, [], ZL, at_, rfl, rfl, Nat.zero_le _, Lib.hid rfl, HT, HZL, RZ, Lib.hid (by rw [Nat.zero_mul, List.take_zero]; exact FreeL.nil _ _), NZ⟩
  case round =>
    clear HT RZ NZ HZL
    obtain ⟨j, es, fs, q, rfl, rfl, hj, HES, HJ, HFL, HRG, HIB, HN⟩ := hrel
    by_cases hlt : j < n
    · have HLT := Lib.hid hlt
      have hlt1 : (j : Int) < (n : Int) := by omega
      have hj16 : (j : Int) < 16 := by have := HN16.out; omega
      have HCL := Lib.hid (HTG.out q wr (HRD.out.nx HN.out))
      have HJ1 : Hid (LsJ (tgT l) T es ((n - (j + 1)) + 1) q) := Lib.hid (by rw [show n - (j + 1) + 1 = n - j by omega]; exact HJ.out)
      have HSTEP := Lib.hid (fun h => lsJ_step HJ1.out h)
      have HBAD := Lib.hid (fun h => lsJ_bad HJ1.out h)
      clear hlt hj HJ HJ1
      generalize tgT l q = X at *
      obtain ⟨x, q', E'⟩ := X
      dsimp only at *
      go_wp2_with fail
      refine HCL.out.mono ?_
      rintro e w1 ⟨iv, ov, rfl, TN, n1⟩
      have hgl : w.heap.size < wr.heap.size := HRG.out.lt
      obtain ⟨A1, c1, rfl⟩ := TN.i.sl
      obtain ⟨A2, c2, rfl⟩ := TN.o.sl
      have N1 := Lib.hid (HN.out.trans n1)
      have R1 := HRG.out.nx n1
      have F1 := Lib.hid ((HIB.out.nx n1).snoc (TxFree.of_new (TN.mono (show w.heap.size + 1 ≤ wr.heap.size + 1 by omega))))
      have S1 := (Nx.refl w1).alloc (.cells #[.slice A1 x.ins.length c1, .slice A2 x.outs.length c2, .int .u32 (x.after : Int)] 39)
      have R2 := R1.nx S1
      have F2 := Lib.hid (F1.out.nx S1)
      have N2 := Lib.hid (N1.out.trans S1)
      have M1 := Row.new w1 #[.slice A1 x.ins.length c1, .slice A2 x.outs.length c2, .int .u32 (x.after : Int)] 39 _ rfl
      have iz := Lib.hid (show (Tryd.prog.info? 39).map (·.size) = some (tcl (.slice A1 x.ins.length c1) (.slice A2 x.outs.length c2) x.after).toArray.size by exact txz _ _ _)
      have i1 := Lib.hid (tcl_one (a := x.after) (iv := .slice A1 x.ins.length c1) (ov := .slice A2 x.outs.length c2) rfl rfl)
      have hold : j * 3 + (tcl (.slice A1 x.ins.length c1) (.slice A2 x.outs.length c2) x.after).toArray.size ≤ fs.toArray.size := by
        have := HFL.out
        simp only [List.size_toArray, tcl, List.length_cons, List.length_nil]
        omega
      have HTK : Hid ((fs.take (j * 3) ++ tcl (.slice A1 x.ins.length c1) (.slice A2 x.outs.length c2) x.after ++ fs.drop (j * 3 + 3)).take ((j + 1) * 3) = fs.take (j * 3) ++ tcl (.slice A1 x.ins.length c1) (.slice A2 x.outs.length c2) x.after) := Lib.hid (by
        have e : (fs.take (j * 3) ++ tcl (.slice A1 x.ins.length c1) (.slice A2 x.outs.length c2) x.after).length = (j + 1) * 3 := by
          rw [List.length_append, List.length_take]
          have := HFL.out
          simp only [tcl, List.length_cons, List.length_nil]
          omega
        rw [← e]
        exact List.take_left)
      have HFL2 : Hid ((fs.take (j * 3) ++ tcl (.slice A1 x.ins.length c1) (.slice A2 x.outs.length c2) x.after ++ fs.drop (j * 3 + 3)).length = n * 3) := Lib.hid (by
        rw [List.length_append, List.length_append, List.length_take, List.length_drop]
        have := HFL.out
        simp only [tcl, List.length_cons, List.length_nil]
        omega)
      clear TN n1 HCL HRG HIB HN N1 R1 F1 S1
      by_cases hE' : E' = 0
      · subst hE'
        have HST := Lib.hid (HSTEP.out rfl)
        clear HSTEP HBAD
        go_wp2_with (first | (refine wpList_load_row rfl 39 (.tmp 11) rfl w1.heap.size rfl 39 (tcl (.slice A1 x.ins.length c1) (.slice A2 x.outs.length c2) x.after).toArray (0, 0) _ M1 Tryd.underlying39 rfl iz.out ?_) | (refine wpList_store_part rfl 39 (.tmp 38) (.tmp 36) rfl w.heap.size (j * 3) (tcl (.slice A1 x.ins.length c1) (.slice A2 x.outs.length c2) x.after).toArray (by rfl) rfl 39 fs.toArray R2 iz.out hold i1.out ?_))
        go_roundw
        case rel => exact ⟨j + 1, es ++ [x], fs.take (j * 3) ++ tcl (.slice A1 x.ins.length c1) (.slice A2 x.outs.length c2) x.after ++ fs.drop (j * 3 + 3), q', rfl, by go_num, HLT.out, Lib.hid (by rw [List.length_append, HES.out]; rfl), HST, HFL2, Lib.hid (by have := R2.setRow (fs.take (j * 3) ++ tcl (.slice A1 x.ins.length c1) (.slice A2 x.outs.length c2) x.after ++ fs.drop (j * 3 + 3)).toArray; rw [List.append_assoc] at this ⊢; exact this), Lib.hid (by rw [HTK.out]; exact F2.out.above (Above.setRow (Nat.lt_succ_self _))), Lib.hid (N2.out.setRow _ (Nat.le_refl _))⟩
        case measure => have := HLT.out; simp [intOf]; omega
      · have dE' : (E' != 0) = true := by simp [hE']
        have HB := Lib.hid (HBAD.out hE')
        have HE9 := Lib.hid hE'
        clear HSTEP HBAD hE' R2 F2 M1 hold
        go_wp2_with fail
        refine bodyPost_ret (v := .tuple #[.slice none 0 0, .int .i64 0, .iface 80 (.agg #[.int .i64 (j : Int), .int .i64 E'])]) ?_ ?_ ?_
        · simp [results, Tryd.results33, go_sem]
        · rfl
        · exact gotT_bad N2.out (by rw [HB.out]; exact HE9.out) (.inr ⟨_, by rw [HB.out]⟩)
    · obtain rfl : j = n := by omega
      have HE := lsJ_end (show LsJ (tgT l) T es 0 q by have := HJ.out; rwa [Nat.sub_self] at this)
      have HEH := Lib.hid HE
      have HRR : Hid (∀ W, Above w.heap.size wr W → RdE (txE noF) W (.slice (some ⟨w.heap.size, 0, none⟩) j j) es) := Lib.hid (fun W hab => by
        have HRW : Row W w.heap.size fs.toArray 39 := (hab.block _ (Nat.le_refl _) HRG.out.lt).trans HRG.out
        have := rdE_row (L := txE noF) (es := es) (c := j) HRW (by rw [HES.out]; exact (HIB.out.above (hab.mono (Nat.le_succ _))).all) (by have := HFL.out; have := HES.out; show es.length * 3 ≤ _; omega) (by rw [HES.out]; exact Nat.le_refl _) (by have := HN16.out; unfold maxLen; omega)
        rwa [HES.out] at this)
      clear HJ hlt hj HE
      go_wp2_with fail
      refine bodyPost_ret (v := .tuple #[.slice (some ⟨w.heap.size, 0, none⟩) j j, .int .i64 q, .nilIface]) ?_ ?_ ?_
      · simp [results, Tryd.results33, go_sem]
      · rfl
      · exact gotT_good HN.out (by rw [HEH.out]) (by rw [HEH.out]) (fun W hab => by rw [HEH.out]; exact HRR.out W hab)
end Go.Proofs.YtpijehaciomkhaaDoor
end

section
namespace Go.Proofs.YtpijehaciomkhaaDoor
open Go Go.RowKit
set_option linter.unusedVariables false
set_option linter.unusedSimpArgs false
set_option linter.unusedVariables false
set_option linter.unusedSimpArgs false

theorem bc_cases {l : List UInt8} {at_ : Int} (he : (hgT l at_).e = 0) : (∃ c, c ≠ 0 ∧ bcT l (hgT l at_).at_ = (0, 0, c) ∧ bgT l at_ = (blZ, 0, c)) ∨ (∃ n p, n ≠ 0 ∧ ¬ 16 < n ∧ gc l (hgT l at_).at_ = (n, p, 0) ∧ bcT l (hgT l at_).at_ = (n, p, 0)) := by
  rcases hg : gc l (hgT l at_).at_ with ⟨n, p, c⟩
  by_cases hc : c = 0
  · subst hc
    by_cases hn : n = 0
    · subst hn
      exact .inl ⟨5, by decide, by unfold bcT; rw [hg]; rfl, bg_c rfl he hg⟩
    · by_cases hx : 16 < n
      · exact .inl ⟨3, by decide, by unfold bcT; rw [hg]; simp [hn, hx], bg_d rfl he hg hn hx⟩
      · exact .inr ⟨n, p, hn, hx, rfl, by unfold bcT; rw [hg]; simp [hn, hx]⟩
  · exact .inl ⟨c, hc, by unfold bcT; rw [hg]; simp [hc], bg_b rfl he hg hc⟩
theorem bl_bounds {l : List UInt8} {at_ p q : Int} {n : Nat} {T : List Txn} (he : (hgT l at_).e = 0) (hg : gc l (hgT l at_).at_ = (n, p, 0)) (ht : lsT (tgT l) n p = (T, q, 0)) : 0 ≤ at_ ∧ at_ ≤ q ∧ q ≤ l.length := by
  obtain ⟨i, rfl, a1, a2, a3, a4⟩ := hgT_ok he
  obtain ⟨i2, k, b1, rfl, b2, b3, b4⟩ := gc_got hg
  obtain ⟨k2, c1, c2, c3, c4⟩ := ls_got (tgT l) txB l (fun p hp => by obtain ⟨_, i, k, x1, x2, x3, _, x4⟩ := tx_got hp; exact ⟨i, k, x1, x2, x3, x4⟩) n (i2 + k) (by omega) (by rw [ht])
  rw [ht] at c1
  dsimp only at c1
  omega
theorem info_blz : (Tryd.prog.info? 29).map (fun i => (i.zero, i.size)) = some (some (.agg (blc blZ (.slice none 0 0))), 68) := info_block
theorem run_blk0 (x0 x1 x2 x3 x4 x5 x6 x7 x8 x9 x10 x11 x12 x13 x14 x15 x16 x17 x18 x19 x20 x21 x22 x23 x24 x25 x26 x27 x28 x29 x30 x31 y0 y1 y2 y3 y4 y5 y6 y7 y8 y9 y10 y11 y12 y13 y14 y15 y16 y17 y18 y19 y20 y21 y22 y23 y24 y25 y26 y27 y28 y29 y30 y31 : UInt8) (t b n : Nat) (l : List Txn) (A : Option Addr) (k c : Nat) (w : World) :
    (Instr.build 29 #[(0, .agg (hdc [x0, x1, x2, x3, x4, x5, x6, x7, x8, x9, x10, x11, x12, x13, x14, x15, x16, x17, x18, x19, x20, x21, x22, x23, x24, x25, x26, x27, x28, x29, x30, x31] [y0, y1, y2, y3, y4, y5, y6, y7, y8, y9, y10, y11, y12, y13, y14, y15, y16, y17, y18, y19, y20, y21, y22, y23, y24, y25, y26, y27, y28, y29, y30, y31] t b n)), (1, .slice A k c)]).run Tryd.prog w = .ok (.agg (blc ⟨[x0, x1, x2, x3, x4, x5, x6, x7, x8, x9, x10, x11, x12, x13, x14, x15, x16, x17, x18, x19, x20, x21, x22, x23, x24, x25, x26, x27, x28, x29, x30, x31], [y0, y1, y2, y3, y4, y5, y6, y7, y8, y9, y10, y11, y12, y13, y14, y15, y16, y17, y18, y19, y20, y21, y22, y23, y24, y25, y26, y27, y28, y29, y30, y31], t, b, n, l⟩ (.slice A k c))) w := by kernel_rfl
theorem run_blk (p r : List UInt8) (hp : p.length = 32) (hr : r.length = 32) (t b n : Nat) (l : List Txn) (A : Option Addr) (k c : Nat) (w : World) :
    (Instr.build 29 #[(0, .agg (hdc p r t b n)), (1, .slice A k c)]).run Tryd.prog w = .ok (.agg (blc ⟨p, r, t, b, n, l⟩ (.slice A k c))) w := by
  obtain ⟨x0, x1, x2, x3, x4, x5, x6, x7, x8, x9, x10, x11, x12, x13, x14, x15, x16, x17, x18, x19, x20, x21, x22, x23, x24, x25, x26, x27, x28, x29, x30, x31, rfl⟩ := list32h p hp
  obtain ⟨y0, y1, y2, y3, y4, y5, y6, y7, y8, y9, y10, y11, y12, y13, y14, y15, y16, y17, y18, y19, y20, y21, y22, y23, y24, y25, y26, y27, y28, y29, y30, y31, rfl⟩ := list32h r hr
  exact run_blk0 x0 x1 x2 x3 x4 x5 x6 x7 x8 x9 x10 x11 x12 x13 x14 x15 x16 x17 x18 x19 x20 x21 x22 x23 x24 x25 x26 x27 x28 x29 x30 x31 y0 y1 y2 y3 y4 y5 y6 y7 y8 y9 y10 y11 y12 y13 y14 y15 y16 y17 y18 y19 y20 y21 y22 y23 y24 y25 y26 y27 y28 y29 y30 y31 t b n l A k c w
theorem blcsame (B C : Blk) (u v : Value) (H : HOk B.p B.r B.t B.b B.n) (K : HOk C.p C.r C.t C.b C.n) : (blc B u).size = (blc C v).size := by rw [blc_size B u H, blc_size C v K]
set_option maxRecDepth 100000 in
set_option maxHeartbeats 8000000 in
theorem bget_any (v : Value) (l : List UInt8) (at_ : Int) (w : World) (h : Rd w v l) (hr : l.length ≤ 140737488355328) (hg : EIs w) :
    Calls Tryd.prog 18 #[v, .int .i64 at_] w fun e w' => ∃ tv, e = .returned (.tuple #[.agg (blc (bgT l at_).1 tv), .int .i64 (bgT l at_).2.1, .int .i64 (bgT l at_).2.2]) ∧ (∀ W, Above w.heap.size w' W → BlAt W tv (bgT l at_).1) ∧ Nx w w' := by
  have HRD := Lib.hid h
  have HG := Lib.hid hg
  have HLN := Lib.hid hr
  have HHG := Lib.hid (fun w h => hget_any v l at_ w h hr)
  have HGC := Lib.hid (fun p w h => bgetCount_any v l p w h hr)
  have HGT := Lib.hid (fun p n w h hn => bgetTxs_any v l p n w h hr hn)
  obtain ⟨A, c, rfl, -⟩ := h
  have LP := Lib.hid (hgT_p l at_)
  have LR := Lib.hid (hgT_r l at_)
  have HOKK := Lib.hid (fun he => by obtain ⟨i, _, _, _, h, _⟩ := hgT_ok (l := l) (at_ := at_) he; exact h)
  have HCC := Lib.hid (fun he => bc_cases (l := l) (at_ := at_) he)
  have HBE := Lib.hid (fun he => bg_a (l := l) (at_ := at_) rfl he)
  have HBF := Lib.hid (fun he n p (T : List Txn) q c hg hn hx h3 hc => bg_e (l := l) (at_ := at_) (n := n) (p := p) (T := T) (q := q) (c := c) rfl he hg hn hx h3 hc)
  have HBH := Lib.hid (fun he n p (T : List Txn) q hg hn hx h3 hc => bg_f (l := l) (at_ := at_) (n := n) (p := p) (T := T) (q := q) rfl he hg hn hx h3 hc)
  have HBG := Lib.hid (fun he n p (T : List Txn) q hg hn hx h3 hc => bg_g (l := l) (at_ := at_) (n := n) (p := p) (T := T) (q := q) rfl he hg hn hx h3 hc)
  have HBB := Lib.hid (fun he p q n (T : List Txn) hg ht => bl_bounds (l := l) (at_ := at_) (p := p) (q := q) (n := n) (T := T) he hg ht)
  obtain ⟨hz, hzs⟩ := zero_of_info info_blz
  obtain ⟨hz2, hzs2⟩ := zero_of_info info_head
  have bsz := Lib.hid (blocksz blZ (.slice none 0 0) HOkZ)
  have bsE0 := Lib.hid (fun (B : Blk) tv h => blcsame blZ B (.slice none 0 0) tv HOkZ h)
  have oZB := Lib.hid (blc_one blZ (.slice none 0 0) rfl)
  have HRUN := Lib.hid (fun t b n (T : List Txn) A k c w => run_blk (hgT l at_).p (hgT l at_).r (hgT_p l at_) (hgT_r l at_) t b n T A k c w)
  generalize hZB : blc blZ (.slice none 0 0) = ZB at *
  have HZB := Lib.hid hZB
  clear hZB
  have R0 := Lib.hid (Row.new w ZB 29 _ rfl)
  have N0 := Lib.hid ((Nx.refl w).alloc (.cells ZB 29))
  clear hr hg
  generalize hH : hgT l at_ = H at *
  clear hH
  obtain ⟨P, R, TM, BT, NC, NXT, E⟩ := H
  dsimp only at *
  have hsz := Lib.hid (headsz P R TM BT NC LP.out LR.out)
  have hsm := Lib.hid (headsame Z32h Z32h P R 0 0 0 TM BT NC Z32_lengthh Z32_lengthh LP.out LR.out)
  have hon := Lib.hid (hd_one P R TM BT NC)
  generalize hdc Z32h Z32h 0 0 0 = ZH at *
  go_enter Tryd.func18, Tryd.ntmps18
  go_wp2_with fail
  refine (HHG.out _ (HRD.out.nx N0.out)).mono ?_
  rintro e w1 ⟨rfl, n1⟩
  have R1 := R0.out.nx n1
  have N1 := Lib.hid (N0.out.trans n1)
  have hne : w.heap.size ≠ w1.heap.size := by have := R1.lt; omega
  have RX := Row.new w1 ZH 26 _ rfl
  have NX1 := Lib.hid (((Nx.refl w1).alloc (.cells ZH 26)).setRow (g := w1.heap.size) (hdc P R TM BT NC) (Nat.le_refl _))
  have RH := Lib.hid (RX.setRow (hdc P R TM BT NC))
  have RB := Lib.hid (R1.nx NX1.out)
  have N2 := Lib.hid (N1.out.trans NX1.out)
  clear n1 R0 N0 HHG N1 R1 NX1 hne
  by_cases hE : E = 0
  · subst hE
    go_upto_region 4 with (refine wpList_store_row rfl 26 (.tmp 7) (.tmp 17) rfl w1.heap.size (hdc P R TM BT NC) rfl rfl 26 ZH RX hsz.out hsm.out hon.out ?_)
    generalize hg1 : w1.heap.size = g1 at *
    clear RX hg1
    generalize (w1.alloc (.cells ZH 26)).setRow g1 (hdc P R TM BT NC) = W2 at *
    go_wp2_with fail
    refine (HGC.out _ _ (HRD.out.nx N2.out)).mono ?_
    rintro e w2 ⟨rfl, rfl⟩
    rcases HCC.out (by trivial) with ⟨ce, hc0, hbc, hb⟩ | ⟨n, p, hn0, hn16, hgc, hbc⟩
    · rw [hbc]
      have HB := Lib.hid hb
      have dc : (ce != 0) = true := by simp [hc0]
      have RB2 := RB.out
      clear hc0 hbc hb
      go_wp2_with (refine wpList_store_row rfl 29 (.tmp 4) (.tmp 33) rfl w.heap.size ZB rfl rfl 29 ZB RB2 bsz.out rfl oZB.out ?_)
      refine bodyPost_ret (v := .tuple #[.agg ZB, .int .i64 0, .int .i64 ce]) ?_ ?_ ?_
      · exact results_cell_row3 Tryd.results18 _ _ w.heap.size 29 ZB (0, 0) _ rfl (RB2.setRow ZB) Tryd.underlying29 rfl bsz.out
      · rfl
      · exact ⟨.slice none 0 0, by rw [HB.out, HZB.out], fun W _ => by rw [HB.out]; exact blAt_z _, N2.out.setRow _ (Nat.le_refl _)⟩
    · rw [hbc]
      have HSZ : Hid (w.heap.size < W2.heap.size) := Lib.hid RB.out.lt
      have HGT1 := Lib.hid (HGT.out p n W2 (HRD.out.nx N2.out) (by omega))
      have HN0 := Lib.hid hn0
      have HN16 := Lib.hid hn16
      have HGCC := Lib.hid hgc
      clear hbc hgc hn0 hn16
      go_wp2_with fail
      refine HGT1.out.mono ?_
      rintro e w3 ⟨tv, q, ev, rfl, n3, hc⟩
      have RB3 := RB.out.nx n3
      have RH3 := RH.out.nx n3
      have N3 := Lib.hid (N2.out.trans n3)
      rcases hT : lsT (tgT l) n p with ⟨TL, TQ, TE⟩
      rw [hT] at hc
      dsimp only at hc
      clear n3 HGT1 N2 RB RH HGT
      rcases hc with ⟨rfl, rfl, rfl, hrd⟩ | ⟨hte, rfl, rfl, he⟩
      · have HRT := Lib.hid (hrd w3 (Above.of_nx (Nx.refl _)))
        have HRS := Lib.hid (fun cs W hab => hrd W ((Above.trans (Above.setRow (cs := cs) (Nat.lt_succ_self w.heap.size)) (Above.mono hab (Nat.le_succ _))).mono HSZ.out))
        replace hrd := hrd w3 (Above.of_nx (Nx.refl _))
        obtain ⟨b1, b2, b3⟩ := HBB.out (by trivial) p q n TL HGCC.out hT
        have kx : IntKind.i64.wrap (q - at_) = q - at_ := IntWalk.i64_in _ (by have := HLN.out; omega)
        obtain ⟨A1, c1, rfl, -⟩ := hrd.elem
        clear b1 b2 b3 hrd
        by_cases hx : 20000 < q - at_
        · have HB := Lib.hid (HBH.out (by trivial) n p TL q HGCC.out HN0.out HN16.out hT hx)
          clear hT
          go_wp2_with (refine wpList_store_row rfl 29 (.tmp 4) (.tmp 52) rfl w.heap.size ZB rfl rfl 29 ZB RB3 bsz.out rfl oZB.out ?_)
          refine bodyPost_ret (v := .tuple #[.agg ZB, .int .i64 0, .int .i64 3]) ?_ ?_ ?_
          · exact results_cell_row3 Tryd.results18 _ _ w.heap.size 29 ZB (0, 0) _ rfl (RB3.setRow ZB) Tryd.underlying29 rfl bsz.out
          · rfl
          · exact ⟨.slice none 0 0, by rw [HB.out, HZB.out], fun W _ => by rw [HB.out]; exact blAt_z _, N3.out.setRow _ (Nat.le_refl _)⟩
        · have HB := Lib.hid (HBG.out (by trivial) n p TL q HGCC.out HN0.out HN16.out hT (by omega))
          have HOK := Lib.hid (HOKK.out (by trivial))
          have bsB := Lib.hid (blocksz ⟨P, R, TM, BT, NC, TL⟩ (.slice A1 TL.length c1) HOK.out)
          have bsE := Lib.hid (bsE0.out ⟨P, R, TM, BT, NC, TL⟩ (.slice A1 TL.length c1) HOK.out)
          have oB := Lib.hid (blc_one ⟨P, R, TM, BT, NC, TL⟩ (.slice A1 TL.length c1) rfl)
          have HRU := Lib.hid (fun w => HRUN.out TM BT NC TL A1 TL.length c1 w)
          have BL : Hid (BlAt w3 (.slice A1 TL.length c1) ⟨P, R, TM, BT, NC, TL⟩) := Lib.hid ⟨HOK.out, HRT.out⟩
          have BL2 : Hid (∀ cs W, Above w.heap.size (w3.setRow w.heap.size cs) W → BlAt W (.slice A1 TL.length c1) ⟨P, R, TM, BT, NC, TL⟩) := Lib.hid (fun cs W hab => ⟨HOK.out, HRS.out cs W hab⟩)
          generalize hZC : blc ⟨P, R, TM, BT, NC, TL⟩ (.slice A1 TL.length c1) = ZC at *
          have HZC := Lib.hid hZC
          clear hZC
          clear hT
          go_wp2_with (first | (refine wpList_load_row rfl 26 (.tmp 7) rfl g1 rfl 26 (hdc P R TM BT NC) (0, 0) _ RH3 Tryd.underlying26 rfl hsz.out ?_) | (refine wpList_bld rfl 29 #[(0, .tmp 53), (1, .tmp 54)] rfl #[(0, .agg (hdc P R TM BT NC)), (1, .slice A1 TL.length c1)] (by kernel_rfl) _ (HRU.out _) ?_) | (refine wpList_store_row rfl 29 (.tmp 4) (.tmp 55) rfl w.heap.size ZC rfl rfl 29 ZB RB3 bsB.out bsE.out oB.out ?_))
          refine bodyPost_ret (v := .tuple #[.agg ZC, .int .i64 q, .int .i64 0]) ?_ ?_ ?_
          · exact results_cell_row3 Tryd.results18 _ _ w.heap.size 29 ZC (0, 0) _ rfl (RB3.setRow ZC) Tryd.underlying29 rfl bsB.out
          · rfl
          · exact ⟨.slice A1 TL.length c1, by rw [HB.out, HZC.out], fun W hab => by rw [HB.out]; exact BL2.out _ W hab, N3.out.setRow _ (Nat.le_refl _)⟩
      · have HB := Lib.hid (HBF.out (by trivial) n p TL TQ TE HGCC.out HN0.out HN16.out hT hte)
        have HNU := Lib.hid (fun w h => bnumber_any ev TE w he h)
        clear hT hte
        rcases he with rfl | ⟨i, rfl⟩
        all_goals
          go_wp2_with fail
          refine (HNU.out _ (HG.out.nx N3.out)).mono ?_
          rintro e w4 ⟨rfl, n4⟩
          have RB4 := RB3.nx n4
          have N4 := Lib.hid (N3.out.trans n4)
          clear n4 RB3 RH3 N3
          go_wp2_with (refine wpList_store_row rfl 29 (.tmp 4) (.tmp 45) rfl w.heap.size ZB rfl rfl 29 ZB RB4 bsz.out rfl oZB.out ?_)
          refine bodyPost_ret (v := .tuple #[.agg ZB, .int .i64 0, .int .i64 TE]) ?_ ?_ ?_
          · exact results_cell_row3 Tryd.results18 _ _ w.heap.size 29 ZB (0, 0) _ rfl (RB4.setRow ZB) Tryd.underlying29 rfl bsz.out
          · rfl
          · exact ⟨.slice none 0 0, by rw [HB.out, HZB.out], fun W _ => by rw [HB.out]; exact blAt_z _, N4.out.setRow _ (Nat.le_refl _)⟩
  · have HB := Lib.hid (HBE.out hE)
    have dE : (E != 0) = true := by simp [hE]
    have RB2 := RB.out
    clear hE
    go_wp2_with (first | (refine wpList_store_row rfl 26 (.tmp 7) (.tmp 17) rfl w1.heap.size (hdc P R TM BT NC) rfl rfl 26 ZH RX hsz.out hsm.out hon.out ?_) | (refine wpList_store_row rfl 29 (.tmp 4) (.tmp 22) rfl w.heap.size ZB rfl rfl 29 ZB RB2 bsz.out rfl oZB.out ?_))
    refine bodyPost_ret (v := .tuple #[.agg ZB, .int .i64 0, .int .i64 E]) ?_ ?_ ?_
    · exact results_cell_row3 Tryd.results18 _ _ w.heap.size 29 ZB (0, 0) _ rfl (RB2.setRow ZB) Tryd.underlying29 rfl bsz.out
    · rfl
    · exact ⟨.slice none 0 0, by rw [HB.out, HZB.out], fun W _ => by rw [HB.out]; exact blAt_z _, N2.out.setRow _ (Nat.le_refl _)⟩
theorem br_a {l : List UInt8} (h : (bgT l 0).2.2 ≠ 0) : brT l = (blZ, (bgT l 0).2.2) := by unfold brT; rw [if_pos h]
theorem br_b {l : List UInt8} (h : (bgT l 0).2.2 = 0) (h2 : (bgT l 0).2.1 ≠ l.length) : brT l = (blZ, 5) := by unfold brT; rw [if_neg (by simp [h]), if_pos h2]
theorem br_c {l : List UInt8} (h : (bgT l 0).2.2 = 0) (h2 : (bgT l 0).2.1 = l.length) : brT l = ((bgT l 0).1, 0) := by unfold brT; rw [if_neg (by simp [h]), if_neg (by simp [h2])]
theorem bgT_ok (l : List UInt8) (at_ : Int) : HOk (bgT l at_).1.p (bgT l at_).1.r (bgT l at_).1.t (bgT l at_).1.b (bgT l at_).1.n := by
  by_cases he : (hgT l at_).e = 0
  · rcases bc_cases he with ⟨c, _, _, h⟩ | ⟨n, p, hn, hx, hg, _⟩
    · rw [h]; exact HOkZ
    · rcases h3 : lsT (tgT l) n p with ⟨T, q, c⟩
      by_cases hc : c = 0
      · subst hc
        by_cases h20 : 20000 < q - at_
        · rw [bg_f rfl he hg hn hx h3 h20]; exact HOkZ
        · rw [bg_g rfl he hg hn hx h3 h20]
          obtain ⟨i, _, _, _, h, _⟩ := hgT_ok he
          exact h
      · rw [bg_e rfl he hg hn hx h3 hc]; exact HOkZ
  · rw [bg_a rfl he]; exact HOkZ
set_option maxRecDepth 100000 in
set_option maxHeartbeats 8000000 in
theorem bread_any (v : Value) (l : List UInt8) (w : World) (h : Rd w v l) (hr : l.length ≤ 140737488355328) (hg : EIs w) :
    Calls Tryd.prog 9 #[v] w fun e w' => ∃ tv, e = .returned (.tuple #[.agg (blc (brT l).1 tv), .int .i64 (brT l).2]) ∧ BlAt w' tv (brT l).1 ∧ Nx w w' := by
  have HRD := Lib.hid h
  have HG := Lib.hid hg
  have HLN := Lib.hid hr
  have HGE := Lib.hid (fun w h g => bget_any v l 0 w h hr g)
  obtain ⟨A, c, rfl, -⟩ := h
  have HA := Lib.hid (fun h => br_a (l := l) h)
  have HBx := Lib.hid (fun h h2 => br_b (l := l) h h2)
  have HC := Lib.hid (fun h h2 => br_c (l := l) h h2)
  have HOK := Lib.hid (bgT_ok l 0)
  obtain ⟨hz, hzs⟩ := zero_of_info info_blz
  have bsz := Lib.hid (blocksz blZ (.slice none 0 0) HOkZ)
  have bsE0 := Lib.hid (fun (B : Blk) tv h => blcsame blZ B (.slice none 0 0) tv HOkZ h)
  have oZB := Lib.hid (blc_one blZ (.slice none 0 0) rfl)
  generalize hZB : blc blZ (.slice none 0 0) = ZB at *
  have HZB := Lib.hid hZB
  clear hZB
  have R0 := Lib.hid (Row.new w ZB 29 _ rfl)
  have N0 := Lib.hid ((Nx.refl w).alloc (.cells ZB 29))
  clear hr hg
  generalize bgT l 0 = T at *
  obtain ⟨BB, q, E⟩ := T
  dsimp only at *
  go_enter Tryd.func9, Tryd.ntmps9
  go_wp2_with fail
  refine (HGE.out _ (HRD.out.nx N0.out) (HG.out.nx N0.out)).mono ?_
  rintro e w1 ⟨tv, rfl, hb, n1⟩
  have hb0 := hb w1 (Above.of_nx (Nx.refl _))
  obtain ⟨A1, c1, rfl, -⟩ := hb0.x.elem
  have R1 := R0.out.nx n1
  have N1 := Lib.hid (N0.out.trans n1)
  have hne : w.heap.size ≠ w1.heap.size := by have := R1.lt; omega
  have RX := Row.new w1 ZB 29 _ rfl
  have bsB := Lib.hid (blocksz BB (.slice A1 BB.txs.length c1) HOK.out)
  have bsE := Lib.hid (bsE0.out BB (.slice A1 BB.txs.length c1) HOK.out)
  have oB := Lib.hid (blc_one BB (.slice A1 BB.txs.length c1) rfl)
  have NX1 := Lib.hid (((Nx.refl w1).alloc (.cells ZB 29)).setRow (g := w1.heap.size) (blc BB (.slice A1 BB.txs.length c1)) (Nat.le_refl _))
  have HLT : Hid (w.heap.size < (w.alloc (.cells ZB 29)).heap.size) := Lib.hid (by simp)
  have BL2 : Hid (∀ cs, BlAt (((w1.alloc (.cells ZB 29)).setRow w1.heap.size (blc BB (.slice A1 BB.txs.length c1))).setRow w.heap.size cs) (.slice A1 BB.txs.length c1) BB) := Lib.hid (fun cs => hb _ ((Above.of_nx NX1.out).trans (Above.setRow HLT.out)))
  generalize hZC : blc BB (.slice A1 BB.txs.length c1) = ZC at *
  have HZC := Lib.hid hZC
  clear hZC
  have RX2 := RX.setRow ZC
  have R2 := R1.nx NX1.out
  have N2 := Lib.hid (N1.out.trans NX1.out)
  clear n1 R0 N0 HGE R1 N1 hne hb hb0 NX1
  by_cases hE : E = 0
  · subst hE
    by_cases hq : q = (l.length : Int)
    · subst hq
      have HB := Lib.hid (HC.out (by trivial) (by trivial))
      go_wp2_with (first | (refine wpList_store_row rfl 29 (.tmp 4) (.tmp 10) rfl w1.heap.size ZC rfl rfl 29 ZB RX bsB.out bsE.out oB.out ?_) | (refine wpList_load_row rfl 29 (.tmp 4) rfl w1.heap.size rfl 29 ZC (0, 0) _ RX2 Tryd.underlying29 rfl bsB.out ?_) | (refine wpList_store_row rfl 29 (.tmp 2) (.tmp 22) rfl w.heap.size ZC rfl rfl 29 ZB R2 bsB.out bsE.out oB.out ?_))
      refine bodyPost_ret (v := .tuple #[.agg ZC, .int .i64 0]) ?_ ?_ ?_
      · exact results_cell_row2 Tryd.results9 _ _ w.heap.size 29 ZC (0, 0) _ rfl (R2.setRow ZC) Tryd.underlying29 rfl bsB.out
      · rfl
      · exact ⟨.slice A1 BB.txs.length c1, by rw [HB.out, HZC.out], by rw [HB.out]; exact BL2.out _, N2.out.setRow _ (Nat.le_refl _)⟩
    · have HB := Lib.hid (HBx.out (by trivial) (by first | exact hq | simpa using hq))
      have dq : (q != (l.length : Int)) = true := by simp [hq]
      clear hq
      go_wp2_with (first | (refine wpList_store_row rfl 29 (.tmp 4) (.tmp 10) rfl w1.heap.size ZC rfl rfl 29 ZB RX bsB.out bsE.out oB.out ?_) | (refine wpList_store_row rfl 29 (.tmp 2) (.tmp 21) rfl w.heap.size ZB rfl rfl 29 ZB R2 bsz.out rfl oZB.out ?_))
      refine bodyPost_ret (v := .tuple #[.agg ZB, .int .i64 5]) ?_ ?_ ?_
      · exact results_cell_row2 Tryd.results9 _ _ w.heap.size 29 ZB (0, 0) _ rfl (R2.setRow ZB) Tryd.underlying29 rfl bsz.out
      · rfl
      · exact ⟨.slice none 0 0, by rw [HB.out, HZB.out], by rw [HB.out]; exact blAt_z _, N2.out.setRow _ (Nat.le_refl _)⟩
  · have HB := Lib.hid (HA.out (by first | exact hE | simpa using hE))
    have dE : (E != 0) = true := by simp [hE]
    clear hE
    go_wp2_with (first | (refine wpList_store_row rfl 29 (.tmp 4) (.tmp 10) rfl w1.heap.size ZC rfl rfl 29 ZB RX bsB.out bsE.out oB.out ?_) | (refine wpList_store_row rfl 29 (.tmp 2) (.tmp 15) rfl w.heap.size ZB rfl rfl 29 ZB R2 bsz.out rfl oZB.out ?_))
    refine bodyPost_ret (v := .tuple #[.agg ZB, .int .i64 E]) ?_ ?_ ?_
    · exact results_cell_row2 Tryd.results9 _ _ w.heap.size 29 ZB (0, 0) _ rfl (R2.setRow ZB) Tryd.underlying29 rfl bsz.out
    · rfl
    · exact ⟨.slice none 0 0, by rw [HB.out, HZB.out], by rw [HB.out]; exact blAt_z _, N2.out.setRow _ (Nat.le_refl _)⟩
end Go.Proofs.YtpijehaciomkhaaDoor
end
