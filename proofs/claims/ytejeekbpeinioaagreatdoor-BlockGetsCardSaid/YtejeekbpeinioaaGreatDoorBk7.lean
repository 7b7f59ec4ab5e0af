/- LAYER 10: how many, and the transactions themselves, got by the program. -/
import Derived.Test.YtejeekbpeinioaaGreatDoorBk4
import Derived.Test.YtejeekbpeinioaaGreatDoorTr
namespace Go.Proofs.YtejeekbpeinioaaGreatDoor
open Go Go.RowKit
set_option linter.unusedVariables false
set_option linter.unusedSimpArgs false
set_option linter.unusedVariables false
set_option linter.unusedSimpArgs false

def bcT (l : List UInt8) (at_ : Int) : Nat × Int × Int := if (gc l at_).2.2 ≠ 0 then (0, 0, (gc l at_).2.2) else if (gc l at_).1 = 0 then (0, 0, 5) else if 16 < (gc l at_).1 then (0, 0, 3) else ((gc l at_).1, (gc l at_).2.1, 0)
set_option maxRecDepth 100000 in
set_option maxHeartbeats 4000000 in
theorem bgetCount_any (v : Value) (l : List UInt8) (at_ : Int) (w : World) (h : Rd w v l) (hr : l.length ≤ 140737488355328) :
    Calls Tryz.prog 46 #[v, .int .i64 at_] w fun e w' => e = .returned (.tuple #[.int .i64 ((bcT l at_).1 : Int), .int .i64 (bcT l at_).2.1, .int .i64 (bcT l at_).2.2]) ∧ w = w' := by
  have HG := Lib.hid (getCount_any v l at_ w h hr)
  unfold bcT
  obtain ⟨A, c, rfl, -⟩ := h
  clear hr
  generalize gc l at_ = C at *
  obtain ⟨n, p, E⟩ := C
  dsimp only at *
  by_cases hE : E = 0
  · subst hE
    rw [if_neg (by simp)]
    by_cases hn : n = 0
    · subst hn
      rw [if_pos rfl]
      go_enter Tryz.func46, Tryz.ntmps46
      go_wp2_with fail
      refine HG.out.mono ?_
      rintro e w1 ⟨rfl, rfl⟩
      go_wp2_with fail
      exact bodyPost_ret (v := .tuple #[.int .i64 0, .int .i64 0, .int .i64 5]) (by simp [results, Tryz.results46, go_sem]) rfl ⟨rfl, rfl⟩
    · rw [if_neg hn]
      have h0 : ((n : Int) == 0) = false := by rw [beq_eq_false_iff_ne]; omega
      by_cases hx : 16 < n
      · rw [if_pos hx]
        have h16 : (16 : Int) < (n : Int) := by omega
        clear hn hx
        go_enter Tryz.func46, Tryz.ntmps46
        go_wp2_with fail
        refine HG.out.mono ?_
        rintro e w1 ⟨rfl, rfl⟩
        go_wp2_with fail
        exact bodyPost_ret (v := .tuple #[.int .i64 0, .int .i64 0, .int .i64 3]) (by simp [results, Tryz.results46, go_sem]) rfl ⟨rfl, rfl⟩
      · rw [if_neg hx]
        have h16 : ¬ (16 : Int) < (n : Int) := by omega
        have kn : IntKind.i64.wrap (n : Int) = (n : Int) := IntWalk.i64_in _ (by omega)
        clear hn hx
        go_enter Tryz.func46, Tryz.ntmps46
        go_wp2_with fail
        refine HG.out.mono ?_
        rintro e w1 ⟨rfl, rfl⟩
        go_wp2_with fail
        exact bodyPost_ret (v := .tuple #[.int .i64 (n : Int), .int .i64 p, .int .i64 0]) (by simp [results, Tryz.results46, go_sem]) rfl ⟨rfl, rfl⟩
  · rw [if_pos hE]
    have dE : (E != 0) = true := by simp [hE]
    clear hE
    go_enter Tryz.func46, Tryz.ntmps46
    go_wp2_with fail
    refine HG.out.mono ?_
    rintro e w1 ⟨rfl, rfl⟩
    go_wp2_with fail
    exact bodyPost_ret (v := .tuple #[.int .i64 0, .int .i64 0, .int .i64 E]) (by simp [results, Tryz.results46, go_sem]) rfl ⟨rfl, rfl⟩
def txzs (n : Nat) : List Value := (madeCells #[.slice none 0 0, .slice none 0 0, .int .u32 0] (n * 3)).toList
theorem txzs_length (n : Nat) : (txzs n).length = n * 3 := by simp [txzs, madeCells]
theorem info_tx3 : (Tryz.prog.info? 54).map (fun i => (i.zero, i.size, i.bytes)) = some (some (.agg #[.slice none 0 0, .slice none 0 0, .int .u32 0]), 3, 56) := by kernel_rfl
theorem run_mktx (n : Nat) (hn : n ≤ 1000) (w : World) : (Instr.makeSlice 27 (.int .i64 (n : Int)) (.int .i64 (n : Int))).run Tryz.prog w = .ok (.slice (some ⟨w.heap.size, 0, none⟩) n n) (w.alloc (.cells (txzs n).toArray 54)) := by
  obtain ⟨i, hi0, hz, hsz, hby⟩ : ∃ i, Tryz.prog.info? 54 = some i ∧ i.zero = some (.agg #[.slice none 0 0, .slice none 0 0, .int .u32 0]) ∧ i.size = 3 ∧ i.bytes = 56 := by
    have hi := info_tx3
    rcases hq : Tryz.prog.info? 54 with _ | i
    · rw [hq] at hi; cases hi
    · rw [hq] at hi
      simp only [Option.map_some, Option.some.injEq, Prod.mk.injEq] at hi
      exact ⟨i, rfl, hi.1, hi.2.1, hi.2.2⟩
  have := run_make (P := Tryz.prog) w 27 54 i _ Tryz.underlying27 hi0 hz .i64 .i64 (n : Int) (n : Int) (by omega) (by omega) (by rw [hby]; omega) (by omega)
  rw [hsz, Int.toNat_natCast, show (Value.agg #[.slice none 0 0, .slice none 0 0, .int .u32 0]).cells = #[.slice none 0 0, .slice none 0 0, .int .u32 0] from rfl] at this
  simpa [txzs] using this
/-- Transactions in a row, whose own memory lies behind B. -/
def FreeL (B : Nat) (w : World) (fs : List Value) (es : List Txn) : Prop := fs.length = es.length * 3 ∧ ∀ j (h : j < es.length), ∃ iv ov, (txE noF).cut fs j = tcl iv ov es[j].after ∧ TxFree B w iv ov es[j]
theorem FreeL.nil (B : Nat) (w : World) : FreeL B w [] [] := ⟨rfl, fun j h => by simp at h⟩
theorem FreeL.above {B : Nat} {w w' : World} {fs : List Value} {es : List Txn} (h : FreeL B w fs es) (k : Above B w w') : FreeL B w' fs es := ⟨h.1, fun j hj => by obtain ⟨iv, ov, a, b⟩ := h.2 j hj; exact ⟨iv, ov, a, b.above k⟩⟩
theorem FreeL.nx {B : Nat} {w w' : World} {fs : List Value} {es : List Txn} (h : FreeL B w fs es) (k : Nx w w') : FreeL B w' fs es := h.above (Above.of_nx k)
theorem gr_setRow2 (w : World) (g : Nat) (cs : Array Value) : w.grownBy (w.setRow g cs) (some g) := ⟨rfl, rfl, rfl, by rw [size_setRow]; exact Nat.le_refl _, fun k _ hk => setRow_other w g k _ (fun e => hk (by rw [e]))⟩
theorem Above.setRow {B g : Nat} {w : World} {cs : Array Value} (hg : g < B) : Above B w (w.setRow g cs) := Above.of_gr (gr_setRow2 w g cs) hg
theorem FreeL.snoc {B : Nat} {w : World} {fs : List Value} {es : List Txn} {x : Txn} {iv ov : Value} (h : FreeL B w fs es) (hx : TxFree B w iv ov x) : FreeL B w (fs ++ tcl iv ov x.after) (es ++ [x]) := by
  refine ⟨by rw [List.length_append, List.length_append, h.1, Nat.add_mul]; rfl, fun j hj => ?_⟩
  by_cases hlt : j < es.length
  · obtain ⟨u, v, a, b⟩ := h.2 j hlt
    refine ⟨u, v, ?_, ?_⟩
    · rw [El.cut_left (L := txE noF) h.1 hlt, List.getElem_append_left hlt]; exact a
    · rw [List.getElem_append_left hlt]; exact b
  · have hj2 : j = es.length := by simp at hj; omega
    subst hj2
    have e : (es ++ [x])[es.length]'hj = x := by simp
    rw [e]
    refine ⟨iv, ov, ?_, hx⟩
    have := El.cut_right (L := txE noF) (fs := fs) (us := tcl iv ov x.after) (n := es.length) (j := 0) h.1
    rw [Nat.add_zero] at this
    rw [this]
    rfl
theorem FreeL.all {B : Nat} {w : World} {fs : List Value} {es : List Txn} (h : FreeL B w fs es) : AllE (txE noF) none w fs es := ⟨h.1, fun j hj => by
  obtain ⟨iv, ov, a, b⟩ := h.2 j hj
  rw [a]
  exact txE_of b.1⟩
/-- What getTxs answers. -/
def GotT (w : World) (T : List Txn × Int × Int) (e : Ending) (w' : World) : Prop := ∃ v p ev, e = .returned (.tuple #[v, .int .i64 p, ev]) ∧ Nx w w' ∧
  ((T.2.2 = 0 ∧ p = T.2.1 ∧ ev = .nilIface ∧ ∀ W, Above w.heap.size w' W → RdE (txE noF) W v T.1) ∨ (T.2.2 ≠ 0 ∧ v = .slice none 0 0 ∧ p = 0 ∧ ErrV ev T.2.2))
theorem gotT_bad {w w' : World} {T : List Txn × Int × Int} {ev : Value} (n : Nx w w') (h : T.2.2 ≠ 0) (he : ErrV ev T.2.2) : GotT w T (.returned (.tuple #[.slice none 0 0, .int .i64 0, ev])) w' := ⟨_, _, _, rfl, n, .inr ⟨h, rfl, rfl, he⟩⟩
theorem gotT_good {w w' : World} {T : List Txn × Int × Int} {v : Value} {p : Int} (n : Nx w w') (h : T.2.2 = 0) (hp : p = T.2.1) (R : ∀ W, Above w.heap.size w' W → RdE (txE noF) W v T.1) : GotT w T (.returned (.tuple #[v, .int .i64 p, .nilIface])) w' := ⟨_, _, _, rfl, n, .inl ⟨h, hp, rfl, R⟩⟩
theorem tcl_one {iv ov : Value} {a : Nat} (h1 : iv.oneCell' = true) (h2 : ov.oneCell' = true) : (tcl iv ov a).toArray.all (·.oneCell') = true := by
  rw [Array.all_eq_true']
  intro x hx
  simp only [tcl, List.mem_toArray, List.mem_cons, List.not_mem_nil, or_false] at hx
  rcases hx with rfl | rfl | rfl
  · exact h1
  · exact h2
  · rfl
set_option maxRecDepth 100000 in
set_option maxHeartbeats 8000000 in
theorem bgetTxs_any (v : Value) (l : List UInt8) (at_ : Int) (n : Nat) (w : World) (h : Rd w v l) (hr : l.length ≤ 140737488355328) (hn : n ≤ 16) :
    Calls Tryz.prog 47 #[v, .int .i64 at_, .int .i64 (n : Int)] w (GotT w (lsT (tgT l) n at_)) := by
  have HT := Lib.hid (lsJ_begin (tgT l) n at_)
  have HTG := Lib.hid (fun q w h => tget_any v l q w h hr)
  dsimp only [tcel] at HTG
  have HRD := Lib.hid h
  obtain ⟨A, c, rfl, -⟩ := h
  generalize lsT (tgT l) n at_ = T at *
  have hmk := run_mktx n (by omega)
  have HN16 := Lib.hid hn
  have RZ := Lib.hid (Row.new w (txzs n).toArray 54 _ rfl)
  have NZ := Lib.hid ((Nx.refl w).alloc (.cells (txzs n).toArray 54))
  have HZL := Lib.hid (txzs_length n)
  clear hn hr
  generalize txzs n = ZL at *
  go_enter Tryz.func47, Tryz.ntmps47
  go_wp2_with fail
  generalize hW : w.alloc (.cells ZL.toArray 54) = W at *
  clear hW hmk
  replace HT : Hid (LsJ (tgT l) T [] (n - 0) at_) := HT
  go_loopw [1, 18] (fun av iv wr => ∃ (j : Nat) (es : List Txn) (fs : List Value) (q : Int), av = .int .i64 q ∧ iv = .int .i64 (j : Int) ∧ j ≤ n ∧ Hid (es.length = j) ∧ Hid (LsJ (tgT l) T es (n - j) q) ∧ Hid (fs.length = n * 3) ∧ Hid (Row wr w.heap.size fs.toArray 54) ∧ Hid (FreeL (w.heap.size + 1) wr (fs.take (j * 3)) es) ∧ Hid (Nx w wr)) (fun _ iv _ => n - (intOf iv).toNat)
  case atStart => exact ⟨0, [], ZL, at_, rfl, rfl, Nat.zero_le _, Lib.hid rfl, HT, HZL, RZ, Lib.hid (by rw [Nat.zero_mul, List.take_zero]; exact FreeL.nil _ _), NZ⟩
  case round =>
    clear HT RZ NZ HZL
    obtain ⟨j, es, fs, q, rfl, rfl, hj, HES, HJ, HFL, HRG, HIB, HN⟩ := hrel
    by_cases hlt : j < n
    · have HLT := Lib.hid hlt
      have hlt1 : (j : Int) < (n : Int) := by omega
      have hj16 : (j : Int) < 16 := by have := HN16.out; omega
      have HCL := Lib.hid (HTG.out q wr (HRD.out.nx HN.out))
      have HJ1 : Hid (LsJ (tgT l) T es ((n - (j + 1)) + 1) q) := Lib.hid (by rw [show n - (j + 1) + 1 = n - j by omega]; exact HJ.out)
      have HSTEP := Lib.hid (fun h => lsJ_step HJ1.out h)
      have HBAD := Lib.hid (fun h => lsJ_bad HJ1.out h)
      clear hlt hj HJ HJ1
      generalize tgT l q = X at *
      obtain ⟨x, q', E'⟩ := X
      dsimp only at *
      go_wp2_with fail
      refine HCL.out.mono ?_
      rintro e w1 ⟨iv, ov, rfl, TN, n1⟩
      have hgl : w.heap.size < wr.heap.size := HRG.out.lt
      obtain ⟨A1, c1, rfl⟩ := TN.i.sl
      obtain ⟨A2, c2, rfl⟩ := TN.o.sl
      have N1 := Lib.hid (HN.out.trans n1)
      have R1 := HRG.out.nx n1
      have F1 := Lib.hid ((HIB.out.nx n1).snoc (TxFree.of_new (TN.mono (show w.heap.size + 1 ≤ wr.heap.size + 1 by omega))))
      have S1 := (Nx.refl w1).alloc (.cells #[.slice A1 x.ins.length c1, .slice A2 x.outs.length c2, .int .u32 (x.after : Int)] 54)
      have R2 := R1.nx S1
      have F2 := Lib.hid (F1.out.nx S1)
      have N2 := Lib.hid (N1.out.trans S1)
      have M1 := Row.new w1 #[.slice A1 x.ins.length c1, .slice A2 x.outs.length c2, .int .u32 (x.after : Int)] 54 _ rfl
      have iz := Lib.hid (show (Tryz.prog.info? 54).map (·.size) = some (tcl (.slice A1 x.ins.length c1) (.slice A2 x.outs.length c2) x.after).toArray.size by exact txz _ _ _)
      have i1 := Lib.hid (tcl_one (a := x.after) (iv := .slice A1 x.ins.length c1) (ov := .slice A2 x.outs.length c2) rfl rfl)
      have hold : j * 3 + (tcl (.slice A1 x.ins.length c1) (.slice A2 x.outs.length c2) x.after).toArray.size ≤ fs.toArray.size := by
        have := HFL.out
        simp only [List.size_toArray, tcl, List.length_cons, List.length_nil]
        omega
      have HTK : Hid ((fs.take (j * 3) ++ tcl (.slice A1 x.ins.length c1) (.slice A2 x.outs.length c2) x.after ++ fs.drop (j * 3 + 3)).take ((j + 1) * 3) = fs.take (j * 3) ++ tcl (.slice A1 x.ins.length c1) (.slice A2 x.outs.length c2) x.after) := Lib.hid (by
        have e : (fs.take (j * 3) ++ tcl (.slice A1 x.ins.length c1) (.slice A2 x.outs.length c2) x.after).length = (j + 1) * 3 := by
          rw [List.length_append, List.length_take]
          have := HFL.out
          simp only [tcl, List.length_cons, List.length_nil]
          omega
        rw [← e]
        exact List.take_left)
      have HFL2 : Hid ((fs.take (j * 3) ++ tcl (.slice A1 x.ins.length c1) (.slice A2 x.outs.length c2) x.after ++ fs.drop (j * 3 + 3)).length = n * 3) := Lib.hid (by
        rw [List.length_append, List.length_append, List.length_take, List.length_drop]
        have := HFL.out
        simp only [tcl, List.length_cons, List.length_nil]
        omega)
      clear TN n1 HCL HRG HIB HN N1 R1 F1 S1
      by_cases hE' : E' = 0
      · subst hE'
        have HST := Lib.hid (HSTEP.out rfl)
        clear HSTEP HBAD
        go_wp2_with (first | (refine wpList_load_row rfl 54 (.tmp 11) rfl w1.heap.size rfl 54 (tcl (.slice A1 x.ins.length c1) (.slice A2 x.outs.length c2) x.after).toArray (0, 0) _ M1 Tryz.underlying54 rfl iz.out ?_) | (refine wpList_store_part rfl 54 (.tmp 38) (.tmp 36) rfl w.heap.size (j * 3) (tcl (.slice A1 x.ins.length c1) (.slice A2 x.outs.length c2) x.after).toArray (by rfl) rfl 54 fs.toArray R2 iz.out hold i1.out ?_))
        go_roundw
        case rel => exact ⟨j + 1, es ++ [x], fs.take (j * 3) ++ tcl (.slice A1 x.ins.length c1) (.slice A2 x.outs.length c2) x.after ++ fs.drop (j * 3 + 3), q', rfl, by go_num, HLT.out, Lib.hid (by rw [List.length_append, HES.out]; rfl), HST, HFL2, Lib.hid (by have := R2.setRow (fs.take (j * 3) ++ tcl (.slice A1 x.ins.length c1) (.slice A2 x.outs.length c2) x.after ++ fs.drop (j * 3 + 3)).toArray; rw [List.append_assoc] at this ⊢; exact this), Lib.hid (by rw [HTK.out]; exact F2.out.above (Above.setRow (Nat.lt_succ_self _))), Lib.hid (N2.out.setRow _ (Nat.le_refl _))⟩
        case measure => have := HLT.out; simp [intOf]; omega
      · have dE' : (E' != 0) = true := by simp [hE']
        have HB := Lib.hid (HBAD.out hE')
        have HE9 := Lib.hid hE'
        clear HSTEP HBAD hE' R2 F2 M1 hold
        go_wp2_with fail
        refine bodyPost_ret (v := .tuple #[.slice none 0 0, .int .i64 0, .iface 96 (.agg #[.int .i64 (j : Int), .int .i64 E'])]) ?_ ?_ ?_
        · simp [results, Tryz.results47, go_sem]
        · rfl
        · exact gotT_bad N2.out (by rw [HB.out]; exact HE9.out) (.inr ⟨_, by rw [HB.out]⟩)
    · obtain rfl : j = n := by omega
      have HE := lsJ_end (show LsJ (tgT l) T es 0 q by have := HJ.out; rwa [Nat.sub_self] at this)
      have HEH := Lib.hid HE
      have HRR : Hid (∀ W, Above w.heap.size wr W → RdE (txE noF) W (.slice (some ⟨w.heap.size, 0, none⟩) j j) es) := Lib.hid (fun W hab => by
        have HRW : Row W w.heap.size fs.toArray 54 := (hab.block _ (Nat.le_refl _) HRG.out.lt).trans HRG.out
        have := rdE_row (L := txE noF) (es := es) (c := j) HRW (by rw [HES.out]; exact (HIB.out.above (hab.mono (Nat.le_succ _))).all) (by have := HFL.out; have := HES.out; show es.length * 3 ≤ _; omega) (by rw [HES.out]; exact Nat.le_refl _) (by have := HN16.out; unfold maxLen; omega)
        rwa [HES.out] at this)
      clear HJ hlt hj HE
      go_wp2_with fail
      refine bodyPost_ret (v := .tuple #[.slice (some ⟨w.heap.size, 0, none⟩) j j, .int .i64 q, .nilIface]) ?_ ?_ ?_
      · simp [results, Tryz.results47, go_sem]
      · rfl
      · exact gotT_good HN.out (by rw [HEH.out]) (by rw [HEH.out]) (fun W hab => by rw [HEH.out]; exact HRR.out W hab)
end Go.Proofs.YtejeekbpeinioaaGreatDoor
