/- TEXTS OF OUR OWN, IN ONE FILE. -/
import Derived.Test.YtpijehaciomkhaaDoorBf
import Derived.Test.YtpijehaciomkhaaDoorBe
import Derived.Test.YtpijehaciomkhaaDoorTn
import Derived.Test.YtpijehaciomkhaaDoorTx19
section
namespace Go.Proofs.YtpijehaciomkhaaDoor
open Go Go.RowKit
set_option linter.unusedVariables false
set_option linter.unusedSimpArgs false
set_option linter.unusedVariables false
set_option linter.unusedSimpArgs false

theorem info_slice : (Tryd.prog.info? 43).map (fun i => (i.zero, i.size, i.bytes)) = some (some (.slice none 0 0), 1, 24) := by kernel_rfl
def nils (n : Nat) : List Value := List.replicate n (.slice none 0 0)
theorem made_rep (z : Value) (n : Nat) : madeCells #[z] n = (List.replicate n z).toArray := by
  apply Array.ext
  · simp [madeCells]
  · intro i h1 h2
    simp [madeCells, Nat.mod_one]
theorem run_mkrows (n : Nat) (hn : n ≤ 1000) (w : World) : (Instr.makeSlice 57 (.int .i64 (n : Int)) (.int .i64 (n : Int))).run Tryd.prog w = .ok (.slice (some ⟨w.heap.size, 0, none⟩) n n) (w.alloc (.cells (nils n).toArray 43)) := by
  obtain ⟨i, hi0, hz, hsz, hby⟩ : ∃ i, Tryd.prog.info? 43 = some i ∧ i.zero = some (.slice none 0 0) ∧ i.size = 1 ∧ i.bytes = 24 := by
    have hi := info_slice
    rcases hq : Tryd.prog.info? 43 with _ | i
    · rw [hq] at hi; cases hi
    · rw [hq] at hi
      simp only [Option.map_some, Option.some.injEq, Prod.mk.injEq] at hi
      exact ⟨i, rfl, hi.1, hi.2.1, hi.2.2⟩
  have := run_make (P := Tryd.prog) w 57 43 i _ Tryd.underlying57 hi0 hz .i64 .i64 (n : Int) (n : Int) (by omega) (by omega) (by rw [hby]; omega) (by omega)
  rw [hsz, Int.toNat_natCast, show (Value.slice none 0 0).cells = #[.slice none 0 0] from rfl, Nat.mul_one, made_rep] at this
  exact this
/-- Rows of the call's own, in cells. -/
def OwnR (B : Nat) (w : World) (vs : List Value) (ls : List (List UInt8)) : Prop := vs.length = ls.length ∧ ∀ i (h : i < ls.length), ∃ v, vs[i]? = some v ∧ Own B w v ls[i]
theorem OwnR.nil (B : Nat) (w : World) : OwnR B w [] [] := ⟨rfl, fun _ h => absurd h (by simp)⟩
theorem OwnR.nx {B : Nat} {w w' : World} {vs : List Value} {ls : List (List UInt8)} (h : OwnR B w vs ls) (k : Nx w w') : OwnR B w' vs ls := ⟨h.1, fun i hi => by obtain ⟨v, h1, h2⟩ := h.2 i hi; exact ⟨v, h1, h2.nx k⟩⟩
theorem OwnR.gr {B r : Nat} {w w' : World} {vs : List Value} {ls : List (List UInt8)} (h : OwnR B w vs ls) (k : w.grownBy w' (some r)) (hr : r < B) : OwnR B w' vs ls := ⟨h.1, fun i hi => by obtain ⟨v, h1, h2⟩ := h.2 i hi; exact ⟨v, h1, gr_own h2 k hr⟩⟩
theorem OwnR.snoc {B : Nat} {w : World} {vs : List Value} {ls : List (List UInt8)} {v : Value} {l : List UInt8} (h : OwnR B w vs ls) (ho : Own B w v l) : OwnR B w (vs ++ [v]) (ls ++ [l]) := by
  refine ⟨by rw [List.length_append, List.length_append, h.1]; rfl, fun i hi => ?_⟩
  by_cases hlt : i < ls.length
  · obtain ⟨u, a, b⟩ := h.2 i hlt
    refine ⟨u, ?_, ?_⟩
    · rw [List.getElem?_append_left (by rw [h.1]; exact hlt)]; exact a
    · rw [List.getElem_append_left hlt]; exact b
  · have hj2 : i = ls.length := by simp at hi; omega
    subst hj2
    refine ⟨v, ?_, ?_⟩
    · rw [← h.1]; simp
    · simpa using ho
theorem OwnR.vs {B : Nat} {w : World} {vs : List Value} {ls : List (List UInt8)} (h : OwnR B w vs ls) : Vs w vs ls := ⟨h.1, fun i hi => by obtain ⟨v, a, b⟩ := h.2 i hi; exact ⟨v, a, b.rd⟩⟩
theorem nils_set (vs : List Value) (j n : Nat) (v : Value) (hl : vs.length = j) (hj : j < n) : (vs ++ nils (n - j)).toArray.setIfInBounds j v = (vs ++ [v] ++ nils (n - (j + 1))).toArray := by
  subst hl
  rw [List.setIfInBounds_toArray, List.set_append_right _ _ (Nat.le_refl _), Nat.sub_self, show n - vs.length = (n - (vs.length + 1)) + 1 by omega]
  simp [nils, List.replicate_succ]
theorem nils_get (vs : List Value) (j n : Nat) (hl : vs.length = j) (hj : j < n) : (vs ++ nils (n - j)).toArray[j]? = some (.slice none 0 0) := by
  subst hl
  rw [List.getElem?_toArray, List.getElem?_append_right (Nat.le_refl _), Nat.sub_self, show n - vs.length = (n - (vs.length + 1)) + 1 by omega]
  rfl
/-- What is told of each: texts, or an error. -/
def EachP (w : World) (l : List Txn) (e : Ending) (w' : World) : Prop := ∃ v ev, e = .returned (.tuple #[v, ev]) ∧ Nx w w' ∧
  ((lisT l = true ∧ ev = .nilIface ∧ ∃ g vs, v = .slice (some ⟨g, 0, none⟩) l.length l.length ∧ Row w' g vs.toArray 43 ∧ Vs w' vs (l.map txB)) ∨ (lisT l = false ∧ v = .slice none 0 0 ∧ ErrV ev 2))
theorem eachP_bad {w w' : World} {l : List Txn} {ev : Value} (n : Nx w w') (h : lisT l = false) (he : ErrV ev 2) : EachP w l (.returned (.tuple #[.slice none 0 0, ev])) w' := ⟨_, _, rfl, n, .inr ⟨h, rfl, he⟩⟩
theorem eachP_good {w w' : World} {l : List Txn} {g : Nat} {vs : List Value} (n : Nx w w') (h : lisT l = true) (R : Row w' g vs.toArray 43) (V : Vs w' vs (l.map txB)) : EachP w l (.returned (.tuple #[.slice (some ⟨g, 0, none⟩) l.length l.length, .nilIface])) w' := ⟨_, _, rfl, n, .inl ⟨h, rfl, _, _, rfl, R, V⟩⟩
theorem ptE_cases (t : Txn) : (mayT t = true ∧ ptE t = 0) ∨ (mayT t = false ∧ ptE t = 2) := by
  unfold ptE
  cases h : mayT t <;> simp
set_option maxRecDepth 100000 in
set_option maxHeartbeats 8000000 in
theorem eachPut_any (tv : Value) (l : List Txn) (w : World) (h : RdE (txE noF) w tv l) :
    Calls Tryd.prog 13 #[tv, .func (.func 11) #[] #[]] w (EachP w l) := by
  obtain ⟨A, c, rfl, hc1, hc2, hel⟩ := h.elem
  clear h
  unfold maxLen at hc2
  by_cases hlen : ¬ (1 ≤ l.length ∧ l.length ≤ 16)
  · have hL := Lib.hid (lisT_len hlen)
    have h63 : (l.length : Int) < 9223372036854775808 := by omega
    by_cases h0 : l.length = 0
    · rw [h0] at *
      clear hlen hel hc1 hc2 h0 h63
      go_enter Tryd.func13, Tryd.ntmps13
      go_wp2_with fail
      go_ret2
      exact eachP_bad (Nx.refl w) hL.out (.inl rfl)
    · have h1 : (16 : Int) < (l.length : Int) := by omega
      have h2 : ((l.length : Int) == 0) = false := by rw [beq_eq_false_iff_ne]; omega
      clear hlen hel hc1 hc2 h63
      go_enter Tryd.func13, Tryd.ntmps13
      go_wp2_with fail
      go_ret2
      exact eachP_bad (Nx.refl w) hL.out (.inl rfl)
  obtain ⟨hl1, hl2⟩ := Classical.not_not.1 hlen
  clear hlen hc1 hc2
  have HL1 := Lib.hid hl1
  have HL2 := Lib.hid hl2
  have HEL := Lib.hid hel
  have hmk := run_mkrows l.length (by omega)
  have h1 : ¬ (16 : Int) < (l.length : Int) := by omega
  have h2 : ((l.length : Int) == 0) = false := by rw [beq_eq_false_iff_ne]; omega
  have RZ := Lib.hid (Row.new w (nils l.length).toArray 43 _ rfl)
  have NZ := Lib.hid ((Nx.refl w).alloc (.cells (nils l.length).toArray 43))
  clear hl1 hl2 hel
  go_enter Tryd.func13, Tryd.ntmps13
  go_wp2_with fail
  generalize hW : w.alloc (.cells (nils l.length).toArray 43) = W at *
  clear hW hmk
  go_loopw [25] (fun iv wr => ∃ (j : Nat) (vs : List Value), iv = .int .i64 (j : Int) ∧ j ≤ l.length ∧ Hid (vs.length = j) ∧ Hid (Nx w wr) ∧ Hid (Row wr w.heap.size (vs ++ nils (l.length - j)).toArray 43) ∧ Hid (OwnR (w.heap.size + 1) wr vs ((l.take j).map txB)) ∧ Hid (∀ i (h : i < l.length), i < j → mayT l[i] = true)) (fun iv _ => l.length - (intOf iv).toNat)
  case atStart => exact ⟨0, [], rfl, Nat.zero_le _, Lib.hid rfl, NZ, RZ, Lib.hid (OwnR.nil _ _), Lib.hid (fun i _ h => absurd h (Nat.not_lt_zero _))⟩
  case round =>
    clear RZ NZ
    obtain ⟨j, vs, rfl, hj, HV, HN, HR, HO, HM⟩ := hrel
    by_cases hlt : j < l.length
    · obtain ⟨b, o, cs, rfl, hb, ⟨iv, ov, rfl, hw⟩, hcell⟩ := HEL.out j hlt
      have HJ := Lib.hid hlt
      have hlt1 : (j : Int) < (l.length : Int) := by omega
      have hj16 : (j : Int) < 16 := by have := HL2.out; omega
      have HSN := Lib.hid (txsB_snocL l j hlt)
      have HTX := Lib.hid (hw wr (GrF.of_nx HN.out))
      have HBAD := Lib.hid (fun h => lisT_bad (l := l) j hlt h)
      have HGE : Hid (mayT l[j] = true → ∀ i (h : i < l.length), i < j + 1 → mayT l[i] = true) := Lib.hid (fun hs i h hi => by
        by_cases he : i = j
        · subst he; exact hs
        · exact HM.out i h (by omega))
      generalize hq : l[j] = q at *
      clear hq
      obtain ⟨A1, c1, A2, c2, rfl, rfl⟩ := HTX.out.slv
      have k0 : wr.cell? ⟨b, o + j * 3, none⟩ = some (.slice A1 q.ins.length c1) := by rw [HN.out.cell (p := ⟨b, o + j * 3, none⟩) hb]; exact hcell 0 _ rfl
      have k1 : wr.cell? ⟨b, o + j * 3 + 1, none⟩ = some (.slice A2 q.outs.length c2) := by rw [HN.out.cell (p := ⟨b, o + j * 3 + 1, none⟩) hb]; exact hcell 1 _ rfl
      have k2 : wr.cell? ⟨b, o + j * 3 + 2, none⟩ = some (.int .u32 (q.after : Int)) := by rw [HN.out.cell (p := ⟨b, o + j * 3 + 2, none⟩) hb]; exact hcell 2 _ rfl
      have S1 := Lib.hid ((Nx.refl wr).alloc (.cells #[.slice A1 q.ins.length c1, .slice A2 q.outs.length c2, .int .u32 (q.after : Int)] 39))
      have HP := Lib.hid (fun w (h : TxAt w (.slice A1 q.ins.length c1) (.slice A2 q.outs.length c2) q) => txput_any (.slice A1 q.ins.length c1) (.slice A2 q.outs.length c2) q w h.i h.o h.a h.g)
      have HC := Lib.hid (ptE_cases q)
      have HGT : Hid (w.heap.size < wr.heap.size) := Lib.hid HR.out.lt
      have HPT : Hid (mayT q = true → ptT q = txB q) := Lib.hid (fun h => by unfold ptT; rw [if_pos h])
      clear hlt hj hw hcell hb HM
      go_wp2_with fail
      refine (HP.out _ (HTX.out.nx S1.out)).mono ?_
      rintro e w1 ⟨r, rfl, ho, n1⟩
      obtain ⟨A3, c3, rfl, -⟩ := ho.rd
      generalize hr : Value.slice A3 (ptT q).length c3 = r at *
      have N1 := Lib.hid (S1.out.trans n1)
      have R1 := Lib.hid (HR.out.nx N1.out)
      have O1 := Lib.hid ((HO.out.nx N1.out).snoc (ho.mono (show w.heap.size + 1 ≤ _ by have := HGT.out; simp; omega)))
      have NN := Lib.hid (HN.out.trans N1.out)
      clear ho n1 HP HTX S1 HR HO HN N1 k0 k1 k2
      rcases HC.out with ⟨hm, he⟩ | ⟨hm, he⟩
      · rw [he]
        have HM2 := Lib.hid (HGE.out hm)
        have O2 : Hid (OwnR (w.heap.size + 1) w1 (vs ++ [r]) ((l.take (j + 1)).map txB)) := Lib.hid (by rw [HSN.out, ← HPT.out hm]; exact O1.out)
        have c1 := (R1.out.cell (i := j) (v := .slice none 0 0) (nils_get vs j l.length HV.out HJ.out))
        have f1 := R1.out.frozen j
        clear hm he HC HBAD HGE O1 HSN HPT
        subst hr
        go_wp2_with fail
        go_roundw
        case rel => exact ⟨j + 1, vs ++ [_], by go_num, HJ.out, Lib.hid (by rw [List.length_append, HV.out]; rfl), Lib.hid (NN.out.setAt _ (Nat.le_refl _)), Lib.hid (by have := R1.out.set j (.slice A3 (ptT q).length c3); rwa [nils_set vs j l.length _ HV.out HJ.out] at this), Lib.hid (O2.out.gr (gr_set _ _ _ _) (Nat.lt_succ_self _)), HM2⟩
        case measure => have := HJ.out; simp [intOf]; omega
      · rw [he]
        have HL := Lib.hid (HBAD.out hm)
        clear hm he HC HBAD HGE O1 HSN HPT R1
        go_wp2_with fail
        go_ret2
        exact eachP_bad NN.out HL.out (.inr ⟨_, rfl⟩)
    · obtain rfl : j = l.length := by omega
      have HT : Hid (lisT l = true) := Lib.hid (lisT_of HL1.out HL2.out (fun t ht => by
        obtain ⟨i, hi, rfl⟩ := List.getElem_of_mem ht
        exact HM.out i hi hi))
      have RR : Hid (Row wr w.heap.size vs.toArray 43) := Lib.hid (by have := HR.out; rwa [Nat.sub_self, show nils 0 = [] from rfl, List.append_nil] at this)
      have VV : Hid (Vs wr vs (l.map txB)) := Lib.hid (by have := HO.out.vs; rwa [List.take_of_length_le (Nat.le_refl _)] at this)
      clear hlt hj HEL HR HO HM
      go_wp2_with fail
      go_ret2
      exact eachP_good HN.out HT.out RR.out VV.out
end Go.Proofs.YtpijehaciomkhaaDoor
end

section
namespace Go.Proofs.YtpijehaciomkhaaDoor
open Go Go.RowKit
set_option linter.unusedVariables false
set_option linter.unusedSimpArgs false
set_option linter.unusedVariables false
set_option linter.unusedSimpArgs false

/-- What is told of each: ids, or an error. -/
def EachH (w : World) (l : List Txn) (e : Ending) (w' : World) : Prop := ∃ v ev, e = .returned (.tuple #[v, ev]) ∧ Nx w w' ∧
  ((lisT l = true ∧ ev = .nilIface ∧ RdE elH w' v (l.map idH)) ∨ (lisT l = false ∧ v = .slice none 0 0 ∧ ErrV ev 2))
theorem eachH_bad {w w' : World} {l : List Txn} {ev : Value} (n : Nx w w') (h : lisT l = false) (he : ErrV ev 2) : EachH w l (.returned (.tuple #[.slice none 0 0, ev])) w' := ⟨_, _, rfl, n, .inr ⟨h, rfl, he⟩⟩
theorem eachH_good {w w' : World} {l : List Txn} {v : Value} (n : Nx w w') (h : lisT l = true) (R : RdE elH w' v (l.map idH)) : EachH w l (.returned (.tuple #[v, .nilIface])) w' := ⟨_, _, rfl, n, .inl ⟨h, rfl, R⟩⟩
def someIds (l : List Txn) (j : Nat) : Hs := (l.take j).map idH ++ hzs (l.length - j)
theorem ids32 (l : List Txn) : H32 (l.map idH) := fun x hx => by
  obtain ⟨t, _, rfl⟩ := List.mem_map.1 hx
  exact idH_length t
theorem someIds_32 (l : List Txn) (j : Nat) : H32 (someIds l j) := (ids32 _).append (hzs_32 _)
theorem someIds_length (l : List Txn) (j : Nat) (h : j ≤ l.length) : (someIds l j).length = l.length := by
  simp only [someIds, List.length_append, List.length_map, List.length_take, hzs_length]; omega
theorem someIds_set (l : List Txn) (j : Nat) (h : j < l.length) : (someIds l j).set j (idH l[j]) = someIds l (j + 1) := by
  have e : ((l.take j).map idH).length = j := by simp only [List.length_map, List.length_take]; omega
  unfold someIds
  rw [List.set_append_right _ _ (by omega), e, Nat.sub_self, show l.length - j = (l.length - (j + 1)) + 1 by omega, hzs_succ, List.take_succ_eq_append_getElem h, List.map_append]
  simp
theorem someIds_end (l : List Txn) : someIds l l.length = l.map idH := by
  unfold someIds
  rw [Nat.sub_self, List.take_of_length_le (Nat.le_refl _)]
  simp [hzs]
set_option maxRecDepth 100000 in
set_option maxHeartbeats 8000000 in
theorem eachIds_any (tv : Value) (l : List Txn) (w : World) (h : RdE (txE noF) w tv l) (hk : KIs w) :
    Calls Tryd.prog 34 #[tv, .func (.func 35) #[] #[]] w (EachH w l) := by
  obtain ⟨A, c, rfl, hc1, hc2, hel⟩ := h.elem
  clear h
  unfold maxLen at hc2
  by_cases hlen : ¬ (1 ≤ l.length ∧ l.length ≤ 16)
  · have hL := Lib.hid (lisT_len hlen)
    have h63 : (l.length : Int) < 9223372036854775808 := by omega
    by_cases h0 : l.length = 0
    · rw [h0] at *
      clear hlen hel hc1 hc2 h0 h63
      go_enter Tryd.func34, Tryd.ntmps34
      go_wp2_with fail
      go_ret2
      exact eachH_bad (Nx.refl w) hL.out (.inl rfl)
    · have h1 : (16 : Int) < (l.length : Int) := by omega
      have h2 : ((l.length : Int) == 0) = false := by rw [beq_eq_false_iff_ne]; omega
      clear hlen hel hc1 hc2 h63
      go_enter Tryd.func34, Tryd.ntmps34
      go_wp2_with fail
      go_ret2
      exact eachH_bad (Nx.refl w) hL.out (.inl rfl)
  obtain ⟨hl1, hl2⟩ := Classical.not_not.1 hlen
  clear hlen hc1 hc2
  have HL1 := Lib.hid hl1
  have HL2 := Lib.hid hl2
  have HEL := Lib.hid hel
  have hmk := run_mkh l.length (by omega)
  have HK := Lib.hid hk
  obtain ⟨hz, hzs'⟩ := zero_of_info info_hash'
  have LZ := Lib.hid (show (List.replicate 32 (0 : UInt8)).length = 32 from List.length_replicate)
  clear hk
  generalize List.replicate 32 (0 : UInt8) = ZZ at *
  have h1 : ¬ (16 : Int) < (l.length : Int) := by omega
  have h2 : ((l.length : Int) == 0) = false := by rw [beq_eq_false_iff_ne]; omega
  have RZ := Lib.hid (Row.new w (hfs (hzs l.length)).toArray 23 _ rfl)
  have NZ := Lib.hid ((Nx.refl w).alloc (.cells (hfs (hzs l.length)).toArray 23))
  clear hl1 hl2 hel
  go_enter Tryd.func34, Tryd.ntmps34
  go_wp2_with fail
  generalize hW : w.alloc (.cells (hfs (hzs l.length)).toArray 23) = W at *
  clear hW hmk
  go_loopw [25] (fun iv wr => ∃ (j : Nat), iv = .int .i64 (j : Int) ∧ j ≤ l.length ∧ Hid (Nx w wr) ∧ Hid (Row wr w.heap.size (hfs (someIds l j)).toArray 23) ∧ Hid (∀ i (h : i < l.length), i < j → mayT l[i] = true)) (fun iv _ => l.length - (intOf iv).toNat)
  case atStart => exact ⟨0, rfl, Nat.zero_le _, NZ, Lib.hid (by have := RZ.out; simpa [someIds] using this), Lib.hid (fun i _ h => absurd h (Nat.not_lt_zero _))⟩
  case round =>
    clear RZ NZ
    obtain ⟨j, rfl, hj, HN, HR, HM⟩ := hrel
    by_cases hlt : j < l.length
    · obtain ⟨b, o, cs, rfl, hb, ⟨iv, ov, rfl, hw⟩, hcell⟩ := HEL.out j hlt
      have HJ := Lib.hid hlt
      have hlt1 : (j : Int) < (l.length : Int) := by omega
      have hj16 : (j : Int) < 16 := by have := HL2.out; omega
      have HSET := Lib.hid (hfs_hcel (someIds_32 l j) j (by rw [someIds_length l j (by omega)]; omega) (idH l[j]) (idH_length _))
      have HSN := Lib.hid (someIds_set l j hlt)
      have HFL := Lib.hid (show (hfs (someIds l j)).length = l.length * 32 by rw [hfs_length (someIds_32 l j), someIds_length l j (by omega)])
      have LH := Lib.hid (idH_length l[j])
      have HTX := Lib.hid (hw wr (GrF.of_nx HN.out))
      have HBAD := Lib.hid (fun h => lisT_bad (l := l) j hlt h)
      have HGE : Hid (mayT l[j] = true → ∀ i (h : i < l.length), i < j + 1 → mayT l[i] = true) := Lib.hid (fun hs i h hi => by
        by_cases he : i = j
        · subst he; exact hs
        · exact HM.out i h (by omega))
      generalize hq : l[j] = q at *
      clear hq
      obtain ⟨A1, c1, A2, c2, rfl, rfl⟩ := HTX.out.slv
      have k0 : wr.cell? ⟨b, o + j * 3, none⟩ = some (.slice A1 q.ins.length c1) := by rw [HN.out.cell (p := ⟨b, o + j * 3, none⟩) hb]; exact hcell 0 _ rfl
      have k1 : wr.cell? ⟨b, o + j * 3 + 1, none⟩ = some (.slice A2 q.outs.length c2) := by rw [HN.out.cell (p := ⟨b, o + j * 3 + 1, none⟩) hb]; exact hcell 1 _ rfl
      have k2 : wr.cell? ⟨b, o + j * 3 + 2, none⟩ = some (.int .u32 (q.after : Int)) := by rw [HN.out.cell (p := ⟨b, o + j * 3 + 2, none⟩) hb]; exact hcell 2 _ rfl
      have S1 := Lib.hid ((Nx.refl wr).alloc (.cells #[.slice A1 q.ins.length c1, .slice A2 q.outs.length c2, .int .u32 (q.after : Int)] 39))
      have HP := Lib.hid (fun w h k => txid_any (.slice A1 q.ins.length c1) (.slice A2 q.outs.length c2) q w h k)
      have HC := Lib.hid (ptE_cases q)
      have HGT : Hid (w.heap.size < wr.heap.size) := Lib.hid HR.out.lt
      have HEQ : Hid ((List.take (j * 32) (hfs (someIds l j)) ++ ((hcel (idH q)).toList ++ List.drop (j * 32 + (hcel (idH q)).size) (hfs (someIds l j)))).toArray = (hfs (someIds l (j + 1))).toArray) := Lib.hid (by
        rw [← HSN.out, ← HSET.out, ← List.append_assoc])
      generalize idH q = H at *
      have iH := Lib.hid (hashsz H LH.out)
      have oH := Lib.hid (hashsame ZZ H LZ.out LH.out)
      clear hlt hj hw hcell hb HM
      go_wp2_with fail
      refine (HP.out _ (HTX.out.nx S1.out) (HK.out.nx (HN.out.trans S1.out))).mono ?_
      rintro e w1 ⟨rfl, n1⟩
      have N1 := Lib.hid (S1.out.trans n1)
      have R1 := HR.out.nx N1.out
      have NN := Lib.hid ((HN.out.trans N1.out).alloc (.cells (hcel ZZ) 23))
      have hne : w.heap.size ≠ w1.heap.size := by have := R1.lt; omega
      have RZ := Row.new w1 (hcel ZZ) 23 _ rfl
      have RG := (R1.alloc (.cells (hcel ZZ) 23)).setRow_other (k := w1.heap.size) (hcel H) hne
      have RH := RZ.setRow (hcel H)
      have N2 := Lib.hid (NN.out.setRow (g := w1.heap.size) (hcel H) (by have := R1.lt; omega))
      have hold : j * 32 + (hcel H).size ≤ (hfs (someIds l j)).toArray.size := by rw [hcel_size, LH.out, List.size_toArray, HFL.out]; have := HJ.out; omega
      clear n1 HP HTX S1 HR HN k0 k1 k2 R1 N1 NN hne
      rcases HC.out with ⟨hm, he⟩ | ⟨hm, he⟩
      · rw [he]
        have HM2 := Lib.hid (HGE.out hm)
        clear hm he HC HBAD HGE
        go_wp2_with (first | (refine wpList_store_row rfl 23 (.tmp 9) (.tmp 34) rfl w1.heap.size (hcel H) rfl rfl 23 (hcel ZZ) RZ iH.out oH.out (hcel_one _) ?_) | (refine wpList_load_row rfl 23 (.tmp 9) rfl w1.heap.size rfl 23 (hcel H) (0, 0) _ RH Tryd.underlying23 rfl iH.out ?_) | (refine wpList_store_parth rfl 23 (.tmp 45) (.tmp 44) rfl w.heap.size (j * 32) (hcel H) (by rfl) rfl 23 (hfs (someIds l j)).toArray RG iH.out hold (hcel_one _) ?_))
        go_roundw
        case rel => exact ⟨j + 1, by go_num, HJ.out, Lib.hid (N2.out.setRow _ (Nat.le_refl _)), Lib.hid (by rw [HEQ.out]; exact RG.setRow _), HM2⟩
        case measure => have := HJ.out; simp [intOf]; omega
      · rw [he]
        have HL := Lib.hid (HBAD.out hm)
        clear hm he HC HBAD HGE RG RH
        go_wp2_with (first | (refine wpList_store_row rfl 23 (.tmp 9) (.tmp 34) rfl w1.heap.size (hcel H) rfl rfl 23 (hcel ZZ) RZ iH.out oH.out (hcel_one _) ?_))
        go_ret2
        exact eachH_bad N2.out HL.out (.inr ⟨_, rfl⟩)
    · obtain rfl : j = l.length := by omega
      have HT : Hid (lisT l = true) := Lib.hid (lisT_of HL1.out HL2.out (fun t ht => by
        obtain ⟨i, hi, rfl⟩ := List.getElem_of_mem ht
        exact HM.out i hi hi))
      have RR : Hid (RdE elH wr (.slice (some ⟨w.heap.size, 0, none⟩) l.length l.length) (l.map idH)) := Lib.hid ((OwnE.of_row (B := 0) (by have := HR.out; rwa [someIds_end] at this) (ids32 l) (Nat.zero_le _) (by simp) (by simp; have := HL2.out; unfold maxLen; omega)).rd)
      clear hlt hj HEL HR HM
      go_wp2_with fail
      go_ret2
      exact eachH_good HN.out HT.out RR.out
end Go.Proofs.YtpijehaciomkhaaDoor
end
