/- THE LAW TxSigns. -/
import Derived.Test.YtnbonmkecmgphaaDoorTx27
import Derived.Test.YtnbonmkecmgphaaDoorTx21
import Derived.Test.YtnbonmkecmgphaaDoorRegSq
import Derived.Test.YtnbonmkecmgphaaDoorTl
import Derived.Test.YtnbonmkecmgphaaDoorEqH
namespace Go.Proofs.YtnbonmkecmgphaaDoor
open Go Go.RowKit
set_option linter.unusedVariables false
set_option linter.unusedSimpArgs false
set_option linter.unusedVariables false
set_option linter.unusedSimpArgs false

theorem wp_eqi_ofS {P : Program} {o : Oper} {a : Act} {w : World} {K : Act → World → Prop} {Q : Exit → Act → World → Prop} (dst : Option Tmp) (hd : o.dst = dst) (T : TypeId) (x y : Operand) (T' : TypeId) (ho : o.op = .binOp .eql T x y T') (k : IntKind) (z : Int)
    (hx : a.eval x = .int k z) (hy : a.eval y = .int k z) (h : K (a.put dst (.bool true)) w) : o.wp P a w K Q := by
  refine wp_val_of dst hd (.bool true) ?_ h
  unfold execOp
  simp only [ho, hx, hy]
  have e1 : (eqGuard .eql T x y (.int k z) (.int k z)).run P w = .ok () w := by
    simp [eqGuard]
  have e2 : (binOp .eql T (.int k z) (.int k z)).run P w = .ok (.bool true) w := by
    simp [binOp, Op.intCmp]
  simp only [Sem.run_bind, e1, e2, Result.andThen_ok, Sem.run_pure]
theorem mod1 (q n j : Nat) (h : j = q % n) : (q : Int).tmod (n : Int) = (j : Int) := by rw [h]; exact (Int.ofNat_tmod q n).symm
theorem mod2 (q n j : Nat) (h : j = q % n) : (q : Int) % (n : Int) = (j : Int) := by rw [h]; exact (Int.natCast_emod q n).symm
theorem mod3 (j : Nat) (h : j < 9223372036854775807) : IntKind.u64.wrap (j : Int) = (j : Int) := by rw [IntKind.wrap_u64, Int.emod_eq_of_lt (by omega) (by omega)]
theorem mod4 (j : Nat) (h : j < 9223372036854775807) : IntKind.i64.wrap (j : Int) = (j : Int) := IntWalk.i64_in _ (by omega)
theorem mod6 (j : Nat) (h : j < 9223372036854775807) : wrap64 (j : Int) = (j : Int) := by unfold wrap64; omega
set_option maxRecDepth 100000 in
set_option maxHeartbeats 16000000 in
theorem txSigns_law {w : World} (iv ov : Value) (t : Txn) (ht : TxAt w iv ov t) (hbk : t.ins.length * 64 ≤ 140737488351232) (n : Int) (_ : -9223372036854775808 ≤ n) (_ : n ≤ 9223372036854775807) (x : List UInt8) (k h v : Nat) (b : Bool) (A : Option Addr) (l : List UInt8) (c : Nat) (hx : x.length = 32) (hk : k < 65536) (hh : h < 4294967296) (hvv : (v : Int) ≤ 18446744073709551615) (hl : Rd w (.slice A l.length c) l) (hr : l.length ≤ 140737488351232) (v3 : Value) (l3 : List UInt8) (h3 : Rd w v3 l3) (hr3 : l3.length ≤ 140737488351232) (hki : KIs w) :
    Calls Tryd.prog 6 #[.agg #[iv, ov, .int .u32 (t.after : Int)], .int .i64 n, .agg (ccel x k h v b (.slice A l.length c)), v3] w fun e w' => e = .returned (.bool true) ∧ Nx w w' := by
  have HGR := Lib.hid (fun W x => great_any iv ov t W x)
  have HT := Lib.hid ht
  have HL := Lib.hid hl
  have H3 := Lib.hid h3
  have cz := Lib.hid info_tx
  have hc1 := Lib.hid (coinsz x k h v b (.slice A l.length c) hx)
  have HKI := Lib.hid hki
  have HBK := Lib.hid hbk
  obtain ⟨fs, hrf, hall⟩ := ht.i
  have HALL := Lib.hid hall
  have HRF := Lib.hid hrf
  obtain ⟨A0, c0, hiv⟩ : ∃ A c, iv = .slice A t.ins.length c := by obtain ⟨A, c, e, _⟩ := ht.i.elem; exact ⟨A, c, e⟩
  subst hiv
  obtain ⟨B0, d0, hov⟩ : ∃ A c, ov = .slice A t.outs.length c := by obtain ⟨A, c, e, _⟩ := ht.o.elem; exact ⟨A, c, e⟩
  subst hov
  obtain ⟨A3, c3, rfl, -⟩ := h3
  have KT0 := Lib.hid ((Row.new w #[.slice A0 t.ins.length c0, .slice B0 t.outs.length d0, .int .u32 (t.after : Int)] 26 _ rfl).alloc (.cells (ccel x k h v b (.slice A l.length c)) 35))
  have KC0 := Lib.hid (Row.new2 w (.cells #[.slice A0 t.ins.length c0, .slice B0 t.outs.length d0, .int .u32 (t.after : Int)] 26) (ccel x k h v b (.slice A l.length c)) 35)
  have N0 := Lib.hid (((Nx.refl w).alloc (.cells #[.slice A0 t.ins.length c0, .slice B0 t.outs.length d0, .int .u32 (t.after : Int)] 26)).alloc (.cells (ccel x k h v b (.slice A l.length c)) 35))
  have HX := Lib.hid hx
  have HK := Lib.hid hk
  have HH := Lib.hid hh
  have HR := Lib.hid hr
  have HR3 := Lib.hid hr3
  clear ht hx hk hh hvv hl hr hki hrf hall hr3
  have a0 := KT0.out.cell (i := 0) (v := .slice A0 t.ins.length c0) rfl
  have a1 := KT0.out.cell (i := 1) (v := .slice B0 t.outs.length d0) rfl
  have a2 := KT0.out.cell (i := 2) (v := .int .u32 (t.after : Int)) rfl
  by_cases h30 : l3.length ≤ 3000
  · by_cases hn0 : 0 < t.ins.length
    · have d1 : decide ((3000 : Int) < (l3.length : Int)) = false := by simp; omega
      have d2 : decide (3000 < l3.length) = false := by simp; omega
      have d3 : ((t.ins.length : Int) == 0) = false := by rw [beq_eq_false_iff_ne]; omega
      obtain ⟨q, hq⟩ : ∃ q : Nat, IntKind.u64.wrap n = (q : Int) := ⟨(n % 18446744073709551616).toNat, by rw [IntKind.wrap_u64]; omega⟩
      obtain ⟨j, hjd⟩ : ∃ j : Nat, j = q % t.ins.length := ⟨_, rfl⟩
      have hj : j < t.ins.length := by rw [hjd]; exact Nat.mod_lt _ hn0
      have hlt1 : (j : Int) < (t.ins.length : Int) := by omega
      have hlt0 : (0 : Int) ≤ (j : Int) := by omega
      have hjb : j < 9223372036854775807 := by omega
      have hnb : t.ins.length < 9223372036854775807 := by omega
      have HQ := Lib.hid hq
      have HR1' := Lib.hid (mod1 q t.ins.length j hjd)
      have HR2' := Lib.hid (mod2 q t.ins.length j hjd)
      have HR3' := Lib.hid (mod3 j hjb)
      have HR4' := Lib.hid (mod4 j hjb)
      have HR5' := Lib.hid (mod3 t.ins.length hnb)
      have HR6' := Lib.hid (mod6 j hjb)
      have HLT1 := Lib.hid hlt1
      clear hq hjb hnb
      obtain ⟨bb, o, cs, hA, hbb, ⟨uv, rfl, hok, hu⟩, hcell⟩ : ∃ b o cs, A0 = some ⟨b, o, none⟩ ∧ b < w.heap.size ∧ inEl.rd none w cs t.ins[j] ∧ ∀ i u, cs[i]? = some u → w.cell? ⟨b, o + j * 35 + i, none⟩ = some u := by
        obtain ⟨A', c', e, -, -, hel⟩ := HT.out.i.elem
        injection e with e1 _ _
        subst e1
        exact hel j hj
      have HA := Lib.hid hA
      clear hA
      have HJ := Lib.hid hj
      have HCU : Hid (w.cell? ⟨bb, o + j * 35 + 34, none⟩ = some uv) := Lib.hid (hcell 34 uv (by have := icel_u t.ins[j] uv hok; unfold icel at this; rw [List.getElem?_toArray] at this; exact this))
      have HBB := Lib.hid hbb
      have HUU := Lib.hid hu.1
      obtain ⟨A7, c7, rfl⟩ := hu.sl
      have HUQ : Hid (t.ins[j].u = l3 → setU t j l3 = t) := Lib.hid (fun h => by rw [← h]; exact setU_same t j hj)
      generalize t.ins[j].u = ul at *
      have HN0 := Lib.hid hn0
      have H30 := Lib.hid h30
      clear hn0 h30 hjd hbb hok hu hcell hbk hlt1 hlt0 hj
      go_enter Tryd.func6, Tryd.ntmps6
      go_wp2_with fail
      refine (HGR.out _ (HT.out.nx N0.out)).mono ?_
      rintro e u0 ⟨B, rfl, n0⟩
      have KT := Lib.hid (KT0.out.nx n0)
      have KC := Lib.hid (KC0.out.nx n0)
      have NA := Lib.hid (N0.out.trans n0)
      have HW2 : Hid (w.heap.size + 2 ≤ u0.heap.size) := Lib.hid (by have := n0.size; simp at this; omega)
      clear n0 a0 a1 a2 N0 KT0 KC0 HGR
      cases B
      case true =>
        go_wp2_with fail
        refine (txwork_any _).mono ?_
        rintro e y1 ⟨rfl, n2⟩
        have N2 := Lib.hid (NA.out.trans n2)
        clear n2 NA
        go_wp2_with fail
        go_ret
        exact ⟨rfl, N2.out⟩
      case false =>
        have a0 := KT.out.cell (i := 0) (v := .slice A0 t.ins.length c0) rfl
        have a1 := KT.out.cell (i := 1) (v := .slice B0 t.outs.length d0) rfl
        have a2 := KT.out.cell (i := 2) (v := .int .u32 (t.after : Int)) rfl
        go_upto_region 5 with fail
        have KU := Lib.hid (Row.new u0 #[.slice A0 t.ins.length c0, .slice B0 t.outs.length d0, .int .u32 (t.after : Int)] 26 _ rfl)
        have NU := (Nx.refl u0).alloc (.cells #[.slice A0 t.ins.length c0, .slice B0 t.outs.length d0, .int .u32 (t.after : Int)] 26)
        have HSU : Hid ((u0.alloc (.cells #[.slice A0 t.ins.length c0, .slice B0 t.outs.length d0, .int .u32 (t.after : Int)] 26)).heap.size = u0.heap.size + 1) := Lib.hid (by simp)
        replace KT := Lib.hid (KT.out.nx NU)
        replace KC := Lib.hid (KC.out.nx NU)
        have NB := Lib.hid (NA.out.trans NU)
        clear a0 a1 a2 NA NU
        generalize u0.alloc (.cells #[.slice A0 t.ins.length c0, .slice B0 t.outs.length d0, .int .u32 (t.after : Int)] 26) = W at *
        have a0 := KT.out.cell (i := 0) (v := .slice A0 t.ins.length c0) rfl
        go_wp2_with (at_builtin; refine wpList_appF rfl (.tmp 35) (.tmp 37) 22 rfl 55 (.agg (icel inZ (.slice none 0 0))) 35 64 Tryd.underlying22 info_in3 inzsz (by decide) W.heap.size (.slice none 0 0) (.slice A0 t.ins.length c0) 0 t.ins.length [] fs rfl rfl (OwnF.nil _ _ _ _) (HRF.out.nx NB.out) (by have := HBK.out; omega) (by have := HBK.out; simp [maxLen]; omega) (Nat.le_refl _) ?_)
        intro v1 w1 o1 b1 _ _
        try simp only [Nat.zero_add, List.nil_append] at o1
        obtain ⟨hl0, ⟨-, h0⟩ | ⟨g, c1, full, hv, hB, hg, k1, k2, k3, k4⟩⟩ := o1
        · exact absurd h0 (by have := HN0.out; omega)
        subst hv
        have RG : Row w1 g full.toArray 55 := hg
        have hp : j * 35 + 34 < full.length := by
          have := HJ.out
          have : (j + 1) * 35 ≤ c1 * 35 := Nat.mul_le_mul_right _ (by omega)
          omega
        have g0 := RG.cell (i := j * 35 + 34) (v := full[j * 35 + 34]) (by simp [hp])
        have g1 := RG.frozen (j * 35 + 34)
        have O3 := Lib.hid (ownF_set RG hB k1 k2 k3 (j * 35 + 34) (.slice A3 l3.length c3) (by rw [k4]; exact hl0))
        rw [k4] at O3
        have hgw : u0.heap.size < g := by have := HSU.out; omega
        have hwu := NB.out.size
        have hw0 : w.heap.size + 2 ≤ u0.heap.size := HW2.out
        have KU1 := KU.out.nx (show Nx W w1 from b1)
        have KU2 := KU1.other g (j * 35 + 34) (.slice A3 l3.length c3) (by omega)
        have KU3 := Lib.hid (KU2.set 0 (.slice (some ⟨g, 0, none⟩) t.ins.length c1))
        have KT3 := Lib.hid (((KT.out.nx (show Nx W w1 from b1)).other g (j * 35 + 34) (.slice A3 l3.length c3) (by omega)).other u0.heap.size 0 (.slice (some ⟨g, 0, none⟩) t.ins.length c1) (by omega))
        have KC3 := Lib.hid (((KC.out.nx (show Nx W w1 from b1)).other g (j * 35 + 34) (.slice A3 l3.length c3) (by omega)).other u0.heap.size 0 (.slice (some ⟨g, 0, none⟩) t.ins.length c1) (by omega))
        have O4 := Lib.hid (ownF_beside (K := u0.heap.size) O3.out (by have := HSU.out; omega) (gr_set (w1.setCell ⟨g, j * 35 + 34, none⟩ (.slice A3 l3.length c3)) u0.heap.size 0 (.slice (some ⟨g, 0, none⟩) t.ins.length c1)))
        have NX := Lib.hid (((NB.out.app (b1.mono hwu)).setAt (k := g) (i := j * 35 + 34) (.slice A3 l3.length c3) (by omega)).setAt (k := u0.heap.size) (i := 0) (.slice (some ⟨g, 0, none⟩) t.ins.length c1) (by omega))
        have TU : Hid (TxAt ((w1.setCell ⟨g, j * 35 + 34, none⟩ (.slice A3 l3.length c3)).setCell ⟨u0.heap.size, 0, none⟩ (.slice (some ⟨g, 0, none⟩) t.ins.length c1)) (.slice (some ⟨g, 0, none⟩) t.ins.length c1) (.slice B0 t.outs.length d0) (setU t j l3)) := Lib.hid
          ⟨⟨fs.set (j * 35 + 34) (.slice A3 l3.length c3), by rw [setU_len]; exact O4.out.rd (one_set HALL.out.one _ _ rfl), allE_setU HALL.out NX.out j HJ.out _ _ (H3.out.nx NX.out)⟩, HT.out.o.nx NX.out, HT.out.a, ⟨fun i hi => by
            rcases List.mem_or_eq_of_mem_set (show i ∈ t.ins.set j (uIn (t.ins.getD j inZ) l3) from hi) with h1 | rfl
            · exact HT.out.g.1 i h1
            · exact HR3.out, HT.out.g.2⟩⟩
        have u0c := KU2.cell (i := 0) (v := .slice A0 t.ins.length c0) rfl
        have u0f := KU2.frozen 0
        generalize full[j * 35 + 34] = old at *
        clear hl0 hB hg k1 k2 k3 k4 RG hp O3 hgw hwu hw0 KU1 KU2 KU KT KC b1 NB a0 O4
        have hlt0 : (0 : Int) ≤ (j : Int) := by omega
        have hne : ¬ t.ins = [] := fun e => by have := HN0.out; rw [e] at this; simp at this
        have hq := HQ.out
        have hr1 := HR1'.out
        have hr2 := HR2'.out
        have hr3 := HR3'.out
        have hr4 := HR4'.out
        have hr5 := HR5'.out
        have hr6 := HR6'.out
        have hlt1 := HLT1.out
        go_upto_region 9 with fail
        clear hq hr1 hr2 hr3 hr4 hr5 hr6 hne hlt1 HQ HR1' HR2' HR3' HR4' HR5' HR6'
        clear u0c u0f g0 g1
        generalize (w1.setCell ⟨g, j * 35 + 34, none⟩ (.slice A3 l3.length c3)).setCell ⟨u0.heap.size, 0, none⟩ (.slice (some ⟨g, 0, none⟩) t.ins.length c1) = W9 at *
        have HM1 := Lib.hid (fun W x => txmay_any (.slice A0 t.ins.length c0) (.slice B0 t.outs.length d0) t W x)
        have HM2 : Hid (∀ W, TxAt W (.slice (some ⟨g, 0, none⟩) t.ins.length c1) (.slice B0 t.outs.length d0) (setU t j l3) → Calls Tryd.prog 18 #[.agg #[.slice (some ⟨g, 0, none⟩) t.ins.length c1, .slice B0 t.outs.length d0, .int .u32 (t.after : Int)]] W fun e w' => e = .returned (.bool (mayT (setU t j l3))) ∧ Nx W w') := Lib.hid (fun W x => txmay_any _ _ (setU t j l3) W x)
        have a0 := KT3.out.cell (i := 0) (v := .slice A0 t.ins.length c0) rfl
        have a1 := KT3.out.cell (i := 1) (v := .slice B0 t.outs.length d0) rfl
        have a2 := KT3.out.cell (i := 2) (v := .int .u32 (t.after : Int)) rfl
        cases hm1 : mayT t
        · rw [hm1] at HM1
          go_wp2_with fail
          refine (HM1.out _ (HT.out.nx NX.out)).mono ?_
          rintro e z1 ⟨rfl, n1⟩
          have N1 := Lib.hid (NX.out.trans n1)
          clear a0 a1 a2 n1 NX
          go_wp2_with fail
          refine (txwork_any _).mono ?_
          rintro e y6 ⟨rfl, n2⟩
          have N2 := Lib.hid (N1.out.trans n2)
          clear n2 N1
          go_wp2_with fail
          go_ret
          exact ⟨rfl, N2.out⟩
        rw [hm1] at HM1
        cases hm2 : mayT (setU t j l3)
        · rw [hm2] at HM2
          go_wp2_with fail
          refine (HM1.out _ (HT.out.nx NX.out)).mono ?_
          rintro e z1 ⟨rfl, n1⟩
          have N1 := Lib.hid (NX.out.trans n1)
          replace TU := Lib.hid (TU.out.nx n1)
          replace KU3 := Lib.hid (KU3.out.nx n1)
          clear a0 a1 a2 n1 NX
          have b0 := KU3.out.cell (i := 0) (v := .slice (some ⟨g, 0, none⟩) t.ins.length c1) rfl
          have b1 := KU3.out.cell (i := 1) (v := .slice B0 t.outs.length d0) rfl
          have b2 := KU3.out.cell (i := 2) (v := .int .u32 (t.after : Int)) rfl
          go_wp2_with fail
          refine (HM2.out _ TU.out).mono ?_
          rintro e z2 ⟨rfl, n2⟩
          have N3 := Lib.hid (N1.out.trans n2)
          clear b0 b1 b2 n2 N1
          go_wp2_with fail
          refine (txwork_any _).mono ?_
          rintro e y7 ⟨rfl, n2⟩
          have N2 := Lib.hid (N3.out.trans n2)
          clear n2 N3
          go_wp2_with fail
          go_ret
          exact ⟨rfl, N2.out⟩
        · rw [hm2] at HM2
          obtain ⟨eH, eE⟩ := dg_setU t j l3 HJ.out j x k h v b l hm1 hm2
          have HDT := Lib.hid (fun W (y : TxAt W (.slice A0 t.ins.length c0) (.slice B0 t.outs.length d0) t) hl hki => tdigest_any (.slice A0 t.ins.length c0) (.slice B0 t.outs.length d0) t j x k h v b A l c W y HX.out HK.out HH.out hl (by have := HR.out; omega) hki)
          have HDU : Hid (∀ W, TxAt W (.slice (some ⟨g, 0, none⟩) t.ins.length c1) (.slice B0 t.outs.length d0) (setU t j l3) → Rd W (.slice A l.length c) l → KIs W → Calls Tryd.prog 15 #[.agg #[.slice (some ⟨g, 0, none⟩) t.ins.length c1, .slice B0 t.outs.length d0, .int .u32 (t.after : Int)], .int .i64 (j : Int), .agg (ccel x k h v b (.slice A l.length c))] W fun e w' => e = .returned (.tuple #[.agg (hcel (dgH t j x k h v b l)), .int .i64 (dgE t j v l)]) ∧ Nx W w') := Lib.hid (fun W y hl hki => by
            have := tdigest_any (.slice (some ⟨g, 0, none⟩) t.ins.length c1) (.slice B0 t.outs.length d0) (setU t j l3) j x k h v b A l c W y HX.out HK.out HH.out hl (by have := HR.out; omega) hki
            rw [eH, eE] at this
            exact this)
          have HIT : Hid (∀ W, TxAt W (.slice A0 t.ins.length c0) (.slice B0 t.outs.length d0) t → KIs W → Calls Tryd.prog 13 #[.agg #[.slice A0 t.ins.length c0, .slice B0 t.outs.length d0, .int .u32 (t.after : Int)]] W fun e w' => e = .returned (.tuple #[.agg (hcel (idH t)), .int .i64 0]) ∧ Nx W w') := Lib.hid (fun W y hk => by
            have := txid_any _ _ t W y hk
            rw [(pt_yes hm1).1] at this
            exact this)
          have HIU : Hid (∀ W, TxAt W (.slice (some ⟨g, 0, none⟩) t.ins.length c1) (.slice B0 t.outs.length d0) (setU t j l3) → KIs W → Calls Tryd.prog 13 #[.agg #[.slice (some ⟨g, 0, none⟩) t.ins.length c1, .slice B0 t.outs.length d0, .int .u32 (t.after : Int)]] W fun e w' => e = .returned (.tuple #[.agg (hcel (idH (setU t j l3))), .int .i64 0]) ∧ Nx W w') := Lib.hid (fun W y hk => by
            have := txid_any _ _ (setU t j l3) W y hk
            rw [(pt_yes hm2).1] at this
            exact this)
          obtain ⟨hz, hzs⟩ := zero_of_info info_hash7
          have HZL : Hid (Z32.length = 32) := Lib.hid Z32_length
          have L1 := idH_length t
          have LU := idH_length (setU t j l3)
          have L2 := dgH_length t j x k h v b l
          have i1 := Lib.hid (hashsz (idH t) L1)
          have i1z := Lib.hid (hashsame Z32 (idH t) HZL.out L1)
          have iu := Lib.hid (hashsz (idH (setU t j l3)) LU)
          have iuz := Lib.hid (hashsame Z32 (idH (setU t j l3)) HZL.out LU)
          have i2 := Lib.hid (hashsz (dgH t j x k h v b l) L2)
          have i2z := Lib.hid (hashsame Z32 (dgH t j x k h v b l) HZL.out L2)
          have EQ2 := Lib.hid (fun w => eq_hash' (dgH t j x k h v b l) L2 w)
          have EQI := Lib.hid (fun w => eq_hash2 (idH t) (idH (setU t j l3)) L1 LU w)
          have HNE : Hid (decide (idH t = idH (setU t j l3)) = false → ul ≠ l3) := Lib.hid (fun hd e => by rw [HUQ.out e] at hd; simp at hd)
          clear hm1 hm2 eH eE L1 LU L2
          generalize dgH t j x k h v b l = I2 at *
          generalize dgE t j v l = DE at *
          generalize idH t = I1 at *
          generalize idH (setU t j l3) = IU at *
          go_wp2_with fail
          refine (HM1.out _ (HT.out.nx NX.out)).mono ?_
          rintro e z1 ⟨rfl, n1⟩
          have N1 := Lib.hid (NX.out.trans n1)
          replace TU := Lib.hid (TU.out.nx n1)
          replace KU3 := Lib.hid (KU3.out.nx n1)
          replace KT3 := Lib.hid (KT3.out.nx n1)
          replace KC3 := Lib.hid (KC3.out.nx n1)
          clear a0 a1 a2 n1 NX HM1
          have a0 := KT3.out.cell (i := 0) (v := .slice A0 t.ins.length c0) rfl
          have a1 := KT3.out.cell (i := 1) (v := .slice B0 t.outs.length d0) rfl
          have a2 := KT3.out.cell (i := 2) (v := .int .u32 (t.after : Int)) rfl
          have b0 := KU3.out.cell (i := 0) (v := .slice (some ⟨g, 0, none⟩) t.ins.length c1) rfl
          have b1 := KU3.out.cell (i := 1) (v := .slice B0 t.outs.length d0) rfl
          have b2 := KU3.out.cell (i := 2) (v := .int .u32 (t.after : Int)) rfl
          have RC := KC3.out
          go_wp2_with fail
          refine (HM2.out _ TU.out).mono ?_
          rintro e z2 ⟨rfl, n2⟩
          have N2 := Lib.hid (N1.out.trans n2)
          replace TU := Lib.hid (TU.out.nx n2)
          replace KU3 := Lib.hid (KU3.out.nx n2)
          replace KT3 := Lib.hid (KT3.out.nx n2)
          replace KC3 := Lib.hid (KC3.out.nx n2)
          clear n2 N1 HM2
          clear a0 a1 a2 b0 b1 b2 RC
          have a0 := KT3.out.cell (i := 0) (v := .slice A0 t.ins.length c0) rfl
          have a1 := KT3.out.cell (i := 1) (v := .slice B0 t.outs.length d0) rfl
          have a2 := KT3.out.cell (i := 2) (v := .int .u32 (t.after : Int)) rfl
          have b0 := KU3.out.cell (i := 0) (v := .slice (some ⟨g, 0, none⟩) t.ins.length c1) rfl
          have b1 := KU3.out.cell (i := 1) (v := .slice B0 t.outs.length d0) rfl
          have b2 := KU3.out.cell (i := 2) (v := .int .u32 (t.after : Int)) rfl
          have RC := KC3.out
          go_wp2_with (refine wpList_load_row rfl 35 (.tmp 6) rfl (w.heap.size + 1) rfl 35 (ccel x k h v b (.slice A l.length c)) (0, 0) _ RC Tryd.underlying35 rfl hc1.out ?_)
          refine (HDT.out _ (HT.out.nx N2.out) (HL.out.nx N2.out) (HKI.out.nx N2.out)).mono ?_
          rintro e u3 ⟨rfl, n3⟩
          clear a0 a1 a2 b0 b1 b2 RC
          have Z3 := Row.new u3 (hcel Z32) 28 _ rfl
          have S3 : Nx u3 ((u3.alloc (.cells (hcel Z32) 28)).setRow u3.heap.size (hcel I2)) := ((Nx.refl u3).alloc _).setRow _ (Nat.le_refl _)
          have RX3 := Lib.hid (Z3.setRow (hcel I2))
          have m3 := n3.trans S3
          have N3 := Lib.hid (N2.out.trans m3)
          replace KT3 := Lib.hid (KT3.out.nx m3)
          replace KU3 := Lib.hid (KU3.out.nx m3)
          replace KC3 := Lib.hid (KC3.out.nx m3)
          replace TU := Lib.hid (TU.out.nx m3)
          have a0 := KT3.out.cell (i := 0) (v := .slice A0 t.ins.length c0) rfl
          have a1 := KT3.out.cell (i := 1) (v := .slice B0 t.outs.length d0) rfl
          have a2 := KT3.out.cell (i := 2) (v := .int .u32 (t.after : Int)) rfl
          have b0 := KU3.out.cell (i := 0) (v := .slice (some ⟨g, 0, none⟩) t.ins.length c1) rfl
          have b1 := KU3.out.cell (i := 1) (v := .slice B0 t.outs.length d0) rfl
          have b2 := KU3.out.cell (i := 2) (v := .int .u32 (t.after : Int)) rfl
          have RC := KC3.out
          go_wp2_with (first | (refine wpList_store_row rfl 28 (.tmp 12) (.tmp 67) rfl u3.heap.size (hcel I2) rfl rfl 28 (hcel Z32) Z3 i2.out i2z.out (hcel_one _) ?_) | (refine wpList_load_row rfl 35 (.tmp 6) rfl (w.heap.size + 1) rfl 35 (ccel x k h v b (.slice A l.length c)) (0, 0) _ RC Tryd.underlying35 rfl hc1.out ?_))
          clear Z3 n3 m3
          clear a0 a1 a2 b0 b1 b2 RC
          generalize (u3.alloc (.cells (hcel Z32) 28)).setRow u3.heap.size (hcel I2) = W3 at *
          clear S3
          refine (HDU.out _ TU.out (HL.out.nx N3.out) (HKI.out.nx N3.out)).mono ?_
          rintro e u4 ⟨rfl, n4⟩
          have Z4 := Row.new u4 (hcel Z32) 28 _ rfl
          have S4 : Nx u4 ((u4.alloc (.cells (hcel Z32) 28)).setRow u4.heap.size (hcel I2)) := ((Nx.refl u4).alloc _).setRow _ (Nat.le_refl _)
          have RX4 := Lib.hid (Z4.setRow (hcel I2))
          have m4 := n4.trans S4
          have N4 := Lib.hid (N3.out.trans m4)
          replace KT3 := Lib.hid (KT3.out.nx m4)
          replace KU3 := Lib.hid (KU3.out.nx m4)
          replace KC3 := Lib.hid (KC3.out.nx m4)
          replace TU := Lib.hid (TU.out.nx m4)
          replace RX3 := Lib.hid (RX3.out.nx m4)
          have a0 := KT3.out.cell (i := 0) (v := .slice A0 t.ins.length c0) rfl
          have a1 := KT3.out.cell (i := 1) (v := .slice B0 t.outs.length d0) rfl
          have a2 := KT3.out.cell (i := 2) (v := .int .u32 (t.after : Int)) rfl
          have b0 := KU3.out.cell (i := 0) (v := .slice (some ⟨g, 0, none⟩) t.ins.length c1) rfl
          have b1 := KU3.out.cell (i := 1) (v := .slice B0 t.outs.length d0) rfl
          have b2 := KU3.out.cell (i := 2) (v := .int .u32 (t.after : Int)) rfl
          have RC := KC3.out
          go_wp2_with (first | (refine wpList_store_row rfl 28 (.tmp 14) (.tmp 74) rfl u4.heap.size (hcel I2) rfl rfl 28 (hcel Z32) Z4 i2.out i2z.out (hcel_one _) ?_) | (refine wpList_load_row rfl 35 (.tmp 6) rfl (w.heap.size + 1) rfl 35 (ccel x k h v b (.slice A l.length c)) (0, 0) _ RC Tryd.underlying35 rfl hc1.out ?_))
          clear Z4 n4 m4
          clear a0 a1 a2 b0 b1 b2 RC
          generalize (u4.alloc (.cells (hcel Z32) 28)).setRow u4.heap.size (hcel I2) = W4 at *
          clear S4
          refine (HIT.out _ (HT.out.nx N4.out) (HKI.out.nx N4.out)).mono ?_
          rintro e u5 ⟨rfl, n5⟩
          have Z5 := Row.new u5 (hcel Z32) 28 _ rfl
          have S5 : Nx u5 ((u5.alloc (.cells (hcel Z32) 28)).setRow u5.heap.size (hcel I1)) := ((Nx.refl u5).alloc _).setRow _ (Nat.le_refl _)
          have RX5 := Lib.hid (Z5.setRow (hcel I1))
          have m5 := n5.trans S5
          have N5 := Lib.hid (N4.out.trans m5)
          replace KT3 := Lib.hid (KT3.out.nx m5)
          replace KU3 := Lib.hid (KU3.out.nx m5)
          replace KC3 := Lib.hid (KC3.out.nx m5)
          replace TU := Lib.hid (TU.out.nx m5)
          replace RX3 := Lib.hid (RX3.out.nx m5)
          replace RX4 := Lib.hid (RX4.out.nx m5)
          have a0 := KT3.out.cell (i := 0) (v := .slice A0 t.ins.length c0) rfl
          have a1 := KT3.out.cell (i := 1) (v := .slice B0 t.outs.length d0) rfl
          have a2 := KT3.out.cell (i := 2) (v := .int .u32 (t.after : Int)) rfl
          have b0 := KU3.out.cell (i := 0) (v := .slice (some ⟨g, 0, none⟩) t.ins.length c1) rfl
          have b1 := KU3.out.cell (i := 1) (v := .slice B0 t.outs.length d0) rfl
          have b2 := KU3.out.cell (i := 2) (v := .int .u32 (t.after : Int)) rfl
          have RC := KC3.out
          go_wp2_with (first | (refine wpList_store_row rfl 28 (.tmp 16) (.tmp 79) rfl u5.heap.size (hcel I1) rfl rfl 28 (hcel Z32) Z5 i1.out i1z.out (hcel_one _) ?_) | (refine wpList_load_row rfl 35 (.tmp 6) rfl (w.heap.size + 1) rfl 35 (ccel x k h v b (.slice A l.length c)) (0, 0) _ RC Tryd.underlying35 rfl hc1.out ?_))
          clear Z5 n5 m5
          clear a0 a1 a2 b0 b1 b2 RC
          generalize (u5.alloc (.cells (hcel Z32) 28)).setRow u5.heap.size (hcel I1) = W5 at *
          clear S5
          refine (HIU.out _ TU.out (HKI.out.nx N5.out)).mono ?_
          rintro e u6 ⟨rfl, n6⟩
          have Z6 := Row.new u6 (hcel Z32) 28 _ rfl
          have S6 : Nx u6 ((u6.alloc (.cells (hcel Z32) 28)).setRow u6.heap.size (hcel IU)) := ((Nx.refl u6).alloc _).setRow _ (Nat.le_refl _)
          have RX6 := Lib.hid (Z6.setRow (hcel IU))
          have m6 := n6.trans S6
          have N6 := Lib.hid (N5.out.trans m6)
          replace KT3 := Lib.hid (KT3.out.nx m6)
          replace KU3 := Lib.hid (KU3.out.nx m6)
          replace KC3 := Lib.hid (KC3.out.nx m6)
          replace TU := Lib.hid (TU.out.nx m6)
          replace RX3 := Lib.hid (RX3.out.nx m6)
          replace RX4 := Lib.hid (RX4.out.nx m6)
          replace RX5 := Lib.hid (RX5.out.nx m6)
          have Z6' := Z6
          go_upto_region 15 with (refine wpList_store_row rfl 28 (.tmp 18) (.tmp 84) rfl u6.heap.size (hcel IU) rfl rfl 28 (hcel Z32) Z6 iu.out iuz.out (hcel_one _) ?_)
          clear Z6 Z6' n6 m6
          generalize (u6.alloc (.cells (hcel Z32) 28)).setRow u6.heap.size (hcel IU) = W6 at *
          clear S6
          have R3 := RX3.out
          have R4 := RX4.out
          have R5 := RX5.out
          have R6 := RX6.out
          have e0 : ((DE : Int) == DE) = true := by simp
          cases hd : decide (I1 = IU)
          · have hne := HNE.out hd
            have hA := HA.out
            subst hA
            have HCX : Hid (W6.cell? ⟨bb, o + j * 35 + 34, none⟩ = some (.slice A7 ul.length c7)) := Lib.hid ((N6.out.cell (p := ⟨bb, o + j * 35 + 34, none⟩) HBB.out).trans HCU.out)
            have hcx := HCX.out
            have k0 := KT3.out.cell (i := 0) (v := .slice (some ⟨bb, o, none⟩) t.ins.length c0) rfl
            have hlt1 := HLT1.out
            have HSN := Lib.hid (fun W x y => same_no (.slice A7 ul.length c7) (.slice A3 l3.length c3) ul l3 W x y hne)
            have HQN : Hid (∀ w, (Op.equalIn 10000 28 (.agg (hcel I1)) (.agg (hcel IU))).run Tryd.prog w = .ok false w) := Lib.hid (fun w => by rw [EQI.out w, hd])
            clear hd hne
            have KT9 := KT3.out
            have HBW : Hid (bb < W6.heap.size) := Lib.hid (Nat.lt_of_lt_of_le HBB.out N6.out.size)
            clear k0 hcx hlt1 e0
            refine wp_region_sq 36 [some 86, some 87, some 88, some 89, some 90, some 91, some 92, some 93, some 94, some 95, some 96, some 97, some 98, some 99, some 100, some 101, some 102, some 103, some 104, some 105, some 106, some 107, some 108, some 109, some 110, some 111, some 112, some 113, some 114, some 115, some 116, some 117, some 118, some 119, some 120, some 8]
              [.eq (.agg (hcel I2)), .eq (.agg (hcel I2)), .eq (.bool true), .eq (.bool true), .eq (.int .i64 DE), .eq (.int .i64 DE), .eq (.bool true), .eq (.bool true), .eq (.bool true), .eq (.int .i64 0), .eq (.bool true), .eq (.bool true), .eq (.bool true), .eq (.int .i64 0), .eq (.bool true), .eq (.bool true), .eq (.bool true), .eq (.agg (hcel I1)), .eq (.agg (hcel IU)), .eq (.bool false), .eq (.bool false), .eq (.pointer (some ⟨w.heap.size, 0, none⟩)), .eq (.slice (some ⟨bb, o, none⟩) t.ins.length c0), .eq (.int .i64 (j : Int)), .eq (.pointer (some ⟨bb, o + j * 35, none⟩)), .eq (.pointer (some ⟨bb, o + j * 35 + 34, none⟩)), .eq (.slice A7 ul.length c7), .eq (.slice A3 l3.length c3), .eq (.bool false), .eq (.bool true), .eq (.bool true), .eq (.bool true), .eq (.bool true), .eq (.bool true), .eq (.bool true), .eq (.bool true)]
              (by kernel_rfl) (by decide) (by decide) ?_ ?_
            · intro x tm wr htm hx i hi hd K hK
              simp only [fillA, List.setIfInBounds_toArray, List.set_cons_zero, List.set_cons_succ] at htm
              subst htm
              have hcs : i = 0 ∨ i = 1 ∨ i = 2 ∨ i = 3 ∨ i = 4 ∨ i = 5 ∨ i = 6 ∨ i = 7 ∨ i = 8 ∨ i = 9 ∨ i = 10 ∨ i = 11 ∨ i = 12 ∨ i = 13 ∨ i = 14 ∨ i = 15 ∨ i = 16 ∨ i = 17 ∨ i = 18 ∨ i = 19 ∨ i = 20 ∨ i = 21 ∨ i = 22 ∨ i = 23 ∨ i = 24 ∨ i = 25 ∨ i = 26 ∨ i = 27 ∨ i = 28 ∨ i = 29 ∨ i = 30 ∨ i = 31 ∨ i = 32 ∨ i = 33 ∨ i = 34 ∨ i = 35 := by omega
              clear hi
              rcases hcs with rfl | rfl | rfl | rfl | rfl | rfl | rfl | rfl | rfl | rfl | rfl | rfl | rfl | rfl | rfl | rfl | rfl | rfl | rfl | rfl | rfl | rfl | rfl | rfl | rfl | rfl | rfl | rfl | rfl | rfl | rfl | rfl | rfl | rfl | rfl | rfl
              · exact sq_of rfl rfl (wp_load_row_of (some 86) rfl 28 (.tmp 12) rfl (u3.heap.size) rfl 28 (hcel I2) _ (R3.nx hx) Tryd.underlying28 rfl i2.out (hK _ _ rfl (Nx.refl _)))
              · exact sq_of rfl rfl (wp_load_row_of (some 87) rfl 28 (.tmp 14) rfl (u4.heap.size) rfl 28 (hcel I2) _ (R4.nx hx) Tryd.underlying28 rfl i2.out (hK _ _ rfl (Nx.refl _)))
              · have e0 : x 0 = .agg (hcel I2) := hd 0 (by decide)
                have e1 : x 1 = .agg (hcel I2) := hd 1 (by decide)
                generalize x 0 = y0 at e0 hK ⊢
                subst e0
                generalize x 1 = y1 at e1 hK ⊢
                subst e1
                exact sq_of rfl rfl (wp_eql_of (some 88) rfl 28 _ _ _ rfl (hcel I2) (hcel I2) rfl rfl (by kernel_rfl) true (EQ2.out wr) (hK _ _ rfl (Nx.refl _)))
              · have e2 : x 2 = .bool true := hd 2 (by decide)
                generalize x 2 = y2 at e2 hK ⊢
                subst e2
                exact sq_of rfl rfl (wp_val_of (some 89) rfl (.bool true) (by kernel_rfl) (hK _ _ rfl (Nx.refl _)))
              · have e3 : x 3 = .bool true := hd 3 (by decide)
                generalize x 3 = y3 at e3 hK ⊢
                subst e3
                exact sq_g rfl (by rfl) (wp_val_of (some 90) rfl (.int .i64 DE) (by kernel_rfl) (hK _ _ rfl (Nx.refl _)))
              · have e3 : x 3 = .bool true := hd 3 (by decide)
                generalize x 3 = y3 at e3 hK ⊢
                subst e3
                exact sq_g rfl (by rfl) (wp_val_of (some 91) rfl (.int .i64 DE) (by kernel_rfl) (hK _ _ rfl (Nx.refl _)))
              · have e4 : x 4 = .int .i64 DE := hd 4 (by decide)
                have e5 : x 5 = .int .i64 DE := hd 5 (by decide)
                have e3 : x 3 = .bool true := hd 3 (by decide)
                generalize x 4 = y4 at e4 hK ⊢
                subst e4
                generalize x 5 = y5 at e5 hK ⊢
                subst e5
                generalize x 3 = y3 at e3 hK ⊢
                subst e3
                exact sq_g rfl (by rfl) (wp_eqi_ofS (some 92) rfl _ _ _ _ rfl .i64 (DE) rfl rfl (hK _ _ rfl (Nx.refl _)))
              · have e6 : x 6 = .bool true := hd 6 (by decide)
                have e3 : x 3 = .bool true := hd 3 (by decide)
                generalize x 6 = y6 at e6 hK ⊢
                subst e6
                generalize x 3 = y3 at e3 hK ⊢
                subst e3
                exact sq_of rfl rfl (wp_val_of (some 93) rfl (.bool true) (by kernel_rfl) (hK _ _ rfl (Nx.refl _)))
              · have e7 : x 7 = .bool true := hd 7 (by decide)
                generalize x 7 = y7 at e7 hK ⊢
                subst e7
                exact sq_of rfl rfl (wp_val_of (some 94) rfl (.bool true) (by kernel_rfl) (hK _ _ rfl (Nx.refl _)))
              · have e8 : x 8 = .bool true := hd 8 (by decide)
                generalize x 8 = y8 at e8 hK ⊢
                subst e8
                exact sq_g rfl (by rfl) (wp_val_of (some 95) rfl (.int .i64 0) (by kernel_rfl) (hK _ _ rfl (Nx.refl _)))
              · have e9 : x 9 = .int .i64 0 := hd 9 (by decide)
                have e8 : x 8 = .bool true := hd 8 (by decide)
                generalize x 9 = y9 at e9 hK ⊢
                subst e9
                generalize x 8 = y8 at e8 hK ⊢
                subst e8
                exact sq_g rfl (by rfl) (wp_eqi_ofS (some 96) rfl _ _ _ _ rfl .i64 (0) rfl rfl (hK _ _ rfl (Nx.refl _)))
              · have e10 : x 10 = .bool true := hd 10 (by decide)
                have e8 : x 8 = .bool true := hd 8 (by decide)
                generalize x 10 = y10 at e10 hK ⊢
                subst e10
                generalize x 8 = y8 at e8 hK ⊢
                subst e8
                exact sq_of rfl rfl (wp_val_of (some 97) rfl (.bool true) (by kernel_rfl) (hK _ _ rfl (Nx.refl _)))
              · have e11 : x 11 = .bool true := hd 11 (by decide)
                generalize x 11 = y11 at e11 hK ⊢
                subst e11
                exact sq_of rfl rfl (wp_val_of (some 98) rfl (.bool true) (by kernel_rfl) (hK _ _ rfl (Nx.refl _)))
              · have e12 : x 12 = .bool true := hd 12 (by decide)
                generalize x 12 = y12 at e12 hK ⊢
                subst e12
                exact sq_g rfl (by rfl) (wp_val_of (some 99) rfl (.int .i64 0) (by kernel_rfl) (hK _ _ rfl (Nx.refl _)))
              · have e13 : x 13 = .int .i64 0 := hd 13 (by decide)
                have e12 : x 12 = .bool true := hd 12 (by decide)
                generalize x 13 = y13 at e13 hK ⊢
                subst e13
                generalize x 12 = y12 at e12 hK ⊢
                subst e12
                exact sq_g rfl (by rfl) (wp_eqi_ofS (some 100) rfl _ _ _ _ rfl .i64 (0) rfl rfl (hK _ _ rfl (Nx.refl _)))
              · have e14 : x 14 = .bool true := hd 14 (by decide)
                have e12 : x 12 = .bool true := hd 12 (by decide)
                generalize x 14 = y14 at e14 hK ⊢
                subst e14
                generalize x 12 = y12 at e12 hK ⊢
                subst e12
                exact sq_of rfl rfl (wp_val_of (some 101) rfl (.bool true) (by kernel_rfl) (hK _ _ rfl (Nx.refl _)))
              · have e15 : x 15 = .bool true := hd 15 (by decide)
                generalize x 15 = y15 at e15 hK ⊢
                subst e15
                exact sq_of rfl rfl (wp_val_of (some 102) rfl (.bool true) (by kernel_rfl) (hK _ _ rfl (Nx.refl _)))
              · have e16 : x 16 = .bool true := hd 16 (by decide)
                generalize x 16 = y16 at e16 hK ⊢
                subst e16
                exact sq_g rfl (by rfl) (wp_load_row_of (some 103) rfl 28 (.tmp 16) rfl (u5.heap.size) rfl 28 (hcel I1) _ (R5.nx hx) Tryd.underlying28 rfl i1.out (hK _ _ rfl (Nx.refl _)))
              · have e16 : x 16 = .bool true := hd 16 (by decide)
                generalize x 16 = y16 at e16 hK ⊢
                subst e16
                exact sq_g rfl (by rfl) (wp_load_row_of (some 104) rfl 28 (.tmp 18) rfl (u6.heap.size) rfl 28 (hcel IU) _ (R6.nx hx) Tryd.underlying28 rfl iu.out (hK _ _ rfl (Nx.refl _)))
              · have e17 : x 17 = .agg (hcel I1) := hd 17 (by decide)
                have e18 : x 18 = .agg (hcel IU) := hd 18 (by decide)
                have e16 : x 16 = .bool true := hd 16 (by decide)
                generalize x 17 = y17 at e17 hK ⊢
                subst e17
                generalize x 18 = y18 at e18 hK ⊢
                subst e18
                generalize x 16 = y16 at e16 hK ⊢
                subst e16
                exact sq_g rfl (by rfl) (wp_eql_of (some 105) rfl 28 _ _ _ rfl (hcel I1) (hcel IU) rfl rfl (by kernel_rfl) false (HQN.out wr) (hK _ _ rfl (Nx.refl _)))
              · have e19 : x 19 = .bool false := hd 19 (by decide)
                have e16 : x 16 = .bool true := hd 16 (by decide)
                generalize x 19 = y19 at e19 hK ⊢
                subst e19
                generalize x 16 = y16 at e16 hK ⊢
                subst e16
                exact sq_g rfl (by rfl) (wp_val_of (some 106) rfl (.bool false) (by kernel_rfl) (hK _ _ rfl (Nx.refl _)))
              · have e20 : x 20 = .bool false := hd 20 (by decide)
                generalize x 20 = y20 at e20 hK ⊢
                subst e20
                exact sq_g rfl (by rfl) (wp_val_of (some 107) rfl (.pointer (some ⟨w.heap.size, 0, none⟩)) (by kernel_rfl) (hK _ _ rfl (Nx.refl _)))
              · have e21 : x 21 = .pointer (some ⟨w.heap.size, 0, none⟩) := hd 21 (by decide)
                have e20 : x 20 = .bool false := hd 20 (by decide)
                generalize x 21 = y21 at e21 hK ⊢
                subst e21
                generalize x 20 = y20 at e20 hK ⊢
                subst e20
                exact sq_g rfl (by rfl) (wp_load_cell (some 108) rfl 22 (.tmp 107) rfl w.heap.size 0 rfl (.slice (some ⟨bb, o, none⟩) t.ins.length c0) _ ((KT9.nx hx).cell (i := 0) rfl) Tryd.underlying22 rfl (hK _ _ rfl (Nx.refl _)))
              · have e20 : x 20 = .bool false := hd 20 (by decide)
                generalize x 20 = y20 at e20 hK ⊢
                subst e20
                exact sq_g rfl (by rfl) (wp_val_of (some 109) rfl (.int .i64 (j : Int)) (by kernel_rfl) (hK _ _ rfl (Nx.refl _)))
              · have e22 : x 22 = .slice (some ⟨bb, o, none⟩) t.ins.length c0 := hd 22 (by decide)
                have e23 : x 23 = .int .i64 (j : Int) := hd 23 (by decide)
                have e20 : x 20 = .bool false := hd 20 (by decide)
                generalize x 22 = y22 at e22 hK ⊢
                subst e22
                generalize x 23 = y23 at e23 hK ⊢
                subst e23
                generalize x 20 = y20 at e20 hK ⊢
                subst e20
                exact sq_g rfl (by rfl) (wp_ix_of (some 110) rfl 22 55 (.tmp 108) (.tmp 109) rfl Tryd.underlying22 35 Tryd.sizeOf55 bb o t.ins.length c0 j (j : Int) rfl rfl rfl HJ.out (hK _ _ rfl (Nx.refl _)))
              · have e24 : x 24 = .pointer (some ⟨bb, o + j * 35, none⟩) := hd 24 (by decide)
                have e20 : x 20 = .bool false := hd 20 (by decide)
                generalize x 24 = y24 at e24 hK ⊢
                subst e24
                generalize x 20 = y20 at e20 hK ⊢
                subst e20
                exact sq_g rfl (by rfl) (wp_val_of (some 111) rfl (.pointer (some ⟨bb, o + j * 35 + 34, none⟩)) (by kernel_rfl) (hK _ _ rfl (Nx.refl _)))
              · have e25 : x 25 = .pointer (some ⟨bb, o + j * 35 + 34, none⟩) := hd 25 (by decide)
                have e20 : x 20 = .bool false := hd 20 (by decide)
                generalize x 25 = y25 at e25 hK ⊢
                subst e25
                generalize x 20 = y20 at e20 hK ⊢
                subst e20
                exact sq_g rfl (by rfl) (wp_load_cell (some 112) rfl 33 (.tmp 111) rfl bb (o + j * 35 + 34) rfl (.slice A7 ul.length c7) _ ((hx.cell (p := ⟨bb, o + j * 35 + 34, none⟩) HBW.out).trans HCX.out) Tryd.underlying33 rfl (hK _ _ rfl (Nx.refl _)))
              · have e20 : x 20 = .bool false := hd 20 (by decide)
                generalize x 20 = y20 at e20 hK ⊢
                subst e20
                exact sq_g rfl (by rfl) (wp_val_of (some 113) rfl (.slice A3 l3.length c3) (by kernel_rfl) (hK _ _ rfl (Nx.refl _)))
              · have e26 : x 26 = .slice A7 ul.length c7 := hd 26 (by decide)
                have e27 : x 27 = .slice A3 l3.length c3 := hd 27 (by decide)
                have e20 : x 20 = .bool false := hd 20 (by decide)
                generalize x 26 = y26 at e26 hK ⊢
                subst e26
                generalize x 27 = y27 at e27 hK ⊢
                subst e27
                generalize x 20 = y20 at e20 hK ⊢
                subst e20
                refine sq_g rfl (by rfl) (wp_call_of (some 114) rfl 17 #[(.slice A7 ul.length c7), (.slice A3 l3.length c3)] (by kernel_rfl) (.bool false) ?_ (fun w' h => hK _ w' rfl h))
                exact HSN.out wr (HUU.out.nx (N6.out.trans hx)) (H3.out.nx (N6.out.trans hx))
              · have e28 : x 28 = .bool false := hd 28 (by decide)
                have e20 : x 20 = .bool false := hd 20 (by decide)
                generalize x 28 = y28 at e28 hK ⊢
                subst e28
                generalize x 20 = y20 at e20 hK ⊢
                subst e20
                exact sq_g rfl (by rfl) (wp_val_of (some 115) rfl (.bool true) (by kernel_rfl) (hK _ _ rfl (Nx.refl _)))
              · have e20 : x 20 = .bool false := hd 20 (by decide)
                have e29 : x 29 = .bool true := hd 29 (by decide)
                have e16 : x 16 = .bool true := hd 16 (by decide)
                generalize x 20 = y20 at e20 hK ⊢
                subst e20
                generalize x 29 = y29 at e29 hK ⊢
                subst e29
                generalize x 16 = y16 at e16 hK ⊢
                subst e16
                exact sq_g rfl (by rfl) (wp_val_of (some 116) rfl (.bool true) (by kernel_rfl) (hK _ _ rfl (Nx.refl _)))
              · have e30 : x 30 = .bool true := hd 30 (by decide)
                have e16 : x 16 = .bool true := hd 16 (by decide)
                generalize x 30 = y30 at e30 hK ⊢
                subst e30
                generalize x 16 = y16 at e16 hK ⊢
                subst e16
                exact sq_of rfl rfl (wp_val_of (some 117) rfl (.bool true) (by kernel_rfl) (hK _ _ rfl (Nx.refl _)))
              · have e31 : x 31 = .bool true := hd 31 (by decide)
                generalize x 31 = y31 at e31 hK ⊢
                subst e31
                exact sq_of rfl rfl (wp_val_of (some 118) rfl (.bool true) (by kernel_rfl) (hK _ _ rfl (Nx.refl _)))
              · have e32 : x 32 = .bool true := hd 32 (by decide)
                generalize x 32 = y32 at e32 hK ⊢
                subst e32
                refine sq_g rfl (by rfl) (wp_call_of (some 119) rfl 10 #[] (by kernel_rfl) (.bool true) ?_ (fun w' h => hK _ w' rfl h))
                exact txwork_any wr
              · have e33 : x 33 = .bool true := hd 33 (by decide)
                have e32 : x 32 = .bool true := hd 32 (by decide)
                generalize x 33 = y33 at e33 hK ⊢
                subst e33
                generalize x 32 = y32 at e32 hK ⊢
                subst e32
                exact sq_of rfl rfl (wp_val_of (some 120) rfl (.bool true) (by kernel_rfl) (hK _ _ rfl (Nx.refl _)))
              · have e34 : x 34 = .bool true := hd 34 (by decide)
                generalize x 34 = y34 at e34 hK ⊢
                subst e34
                exact sq_of rfl rfl (wp_val_of (some 8) rfl (.bool true) (by kernel_rfl) (hK _ _ rfl (Nx.refl _)))
            · intro x tm wr htm hx hv
              simp only [fillA, List.setIfInBounds_toArray, List.set_cons_zero, List.set_cons_succ] at htm
              subst htm
              have e35 : x 35 = .bool true := hv 35 (by decide)
              rw [e35]
              go_wp2_with fail
              go_ret
              exact ⟨rfl, N6.out.trans hx⟩
          · have HQN : Hid (∀ w, (Op.equalIn 10000 28 (.agg (hcel I1)) (.agg (hcel IU))).run Tryd.prog w = .ok true w) := Lib.hid (fun w => by rw [EQI.out w, hd])
            clear hd
            clear e0
            refine wp_region_sq 36 [some 86, some 87, some 88, some 89, some 90, some 91, some 92, some 93, some 94, some 95, some 96, some 97, some 98, some 99, some 100, some 101, some 102, some 103, some 104, some 105, some 106, some 107, some 108, some 109, some 110, some 111, some 112, some 113, some 114, some 115, some 116, some 117, some 118, some 119, some 120, some 8]
              [.eq (.agg (hcel I2)), .eq (.agg (hcel I2)), .eq (.bool true), .eq (.bool true), .eq (.int .i64 DE), .eq (.int .i64 DE), .eq (.bool true), .eq (.bool true), .eq (.bool true), .eq (.int .i64 0), .eq (.bool true), .eq (.bool true), .eq (.bool true), .eq (.int .i64 0), .eq (.bool true), .eq (.bool true), .eq (.bool true), .eq (.agg (hcel I1)), .eq (.agg (hcel IU)), .eq (.bool true), .eq (.bool true), .eq (undef), .eq (undef), .eq (undef), .eq (undef), .eq (undef), .eq (undef), .eq (undef), .eq (undef), .eq (undef), .eq (.bool true), .eq (.bool true), .eq (.bool true), .eq (.bool true), .eq (.bool true), .eq (.bool true)]
              (by kernel_rfl) (by decide) (by decide) ?_ ?_
            · intro x tm wr htm hx i hi hd K hK
              simp only [fillA, List.setIfInBounds_toArray, List.set_cons_zero, List.set_cons_succ] at htm
              subst htm
              have hcs : i = 0 ∨ i = 1 ∨ i = 2 ∨ i = 3 ∨ i = 4 ∨ i = 5 ∨ i = 6 ∨ i = 7 ∨ i = 8 ∨ i = 9 ∨ i = 10 ∨ i = 11 ∨ i = 12 ∨ i = 13 ∨ i = 14 ∨ i = 15 ∨ i = 16 ∨ i = 17 ∨ i = 18 ∨ i = 19 ∨ i = 20 ∨ i = 21 ∨ i = 22 ∨ i = 23 ∨ i = 24 ∨ i = 25 ∨ i = 26 ∨ i = 27 ∨ i = 28 ∨ i = 29 ∨ i = 30 ∨ i = 31 ∨ i = 32 ∨ i = 33 ∨ i = 34 ∨ i = 35 := by omega
              clear hi
              rcases hcs with rfl | rfl | rfl | rfl | rfl | rfl | rfl | rfl | rfl | rfl | rfl | rfl | rfl | rfl | rfl | rfl | rfl | rfl | rfl | rfl | rfl | rfl | rfl | rfl | rfl | rfl | rfl | rfl | rfl | rfl | rfl | rfl | rfl | rfl | rfl | rfl
              · exact sq_of rfl rfl (wp_load_row_of (some 86) rfl 28 (.tmp 12) rfl (u3.heap.size) rfl 28 (hcel I2) _ (R3.nx hx) Tryd.underlying28 rfl i2.out (hK _ _ rfl (Nx.refl _)))
              · exact sq_of rfl rfl (wp_load_row_of (some 87) rfl 28 (.tmp 14) rfl (u4.heap.size) rfl 28 (hcel I2) _ (R4.nx hx) Tryd.underlying28 rfl i2.out (hK _ _ rfl (Nx.refl _)))
              · have e0 : x 0 = .agg (hcel I2) := hd 0 (by decide)
                have e1 : x 1 = .agg (hcel I2) := hd 1 (by decide)
                generalize x 0 = y0 at e0 hK ⊢
                subst e0
                generalize x 1 = y1 at e1 hK ⊢
                subst e1
                exact sq_of rfl rfl (wp_eql_of (some 88) rfl 28 _ _ _ rfl (hcel I2) (hcel I2) rfl rfl (by kernel_rfl) true (EQ2.out wr) (hK _ _ rfl (Nx.refl _)))
              · have e2 : x 2 = .bool true := hd 2 (by decide)
                generalize x 2 = y2 at e2 hK ⊢
                subst e2
                exact sq_of rfl rfl (wp_val_of (some 89) rfl (.bool true) (by kernel_rfl) (hK _ _ rfl (Nx.refl _)))
              · have e3 : x 3 = .bool true := hd 3 (by decide)
                generalize x 3 = y3 at e3 hK ⊢
                subst e3
                exact sq_g rfl (by rfl) (wp_val_of (some 90) rfl (.int .i64 DE) (by kernel_rfl) (hK _ _ rfl (Nx.refl _)))
              · have e3 : x 3 = .bool true := hd 3 (by decide)
                generalize x 3 = y3 at e3 hK ⊢
                subst e3
                exact sq_g rfl (by rfl) (wp_val_of (some 91) rfl (.int .i64 DE) (by kernel_rfl) (hK _ _ rfl (Nx.refl _)))
              · have e4 : x 4 = .int .i64 DE := hd 4 (by decide)
                have e5 : x 5 = .int .i64 DE := hd 5 (by decide)
                have e3 : x 3 = .bool true := hd 3 (by decide)
                generalize x 4 = y4 at e4 hK ⊢
                subst e4
                generalize x 5 = y5 at e5 hK ⊢
                subst e5
                generalize x 3 = y3 at e3 hK ⊢
                subst e3
                exact sq_g rfl (by rfl) (wp_eqi_ofS (some 92) rfl _ _ _ _ rfl .i64 (DE) rfl rfl (hK _ _ rfl (Nx.refl _)))
              · have e6 : x 6 = .bool true := hd 6 (by decide)
                have e3 : x 3 = .bool true := hd 3 (by decide)
                generalize x 6 = y6 at e6 hK ⊢
                subst e6
                generalize x 3 = y3 at e3 hK ⊢
                subst e3
                exact sq_of rfl rfl (wp_val_of (some 93) rfl (.bool true) (by kernel_rfl) (hK _ _ rfl (Nx.refl _)))
              · have e7 : x 7 = .bool true := hd 7 (by decide)
                generalize x 7 = y7 at e7 hK ⊢
                subst e7
                exact sq_of rfl rfl (wp_val_of (some 94) rfl (.bool true) (by kernel_rfl) (hK _ _ rfl (Nx.refl _)))
              · have e8 : x 8 = .bool true := hd 8 (by decide)
                generalize x 8 = y8 at e8 hK ⊢
                subst e8
                exact sq_g rfl (by rfl) (wp_val_of (some 95) rfl (.int .i64 0) (by kernel_rfl) (hK _ _ rfl (Nx.refl _)))
              · have e9 : x 9 = .int .i64 0 := hd 9 (by decide)
                have e8 : x 8 = .bool true := hd 8 (by decide)
                generalize x 9 = y9 at e9 hK ⊢
                subst e9
                generalize x 8 = y8 at e8 hK ⊢
                subst e8
                exact sq_g rfl (by rfl) (wp_eqi_ofS (some 96) rfl _ _ _ _ rfl .i64 (0) rfl rfl (hK _ _ rfl (Nx.refl _)))
              · have e10 : x 10 = .bool true := hd 10 (by decide)
                have e8 : x 8 = .bool true := hd 8 (by decide)
                generalize x 10 = y10 at e10 hK ⊢
                subst e10
                generalize x 8 = y8 at e8 hK ⊢
                subst e8
                exact sq_of rfl rfl (wp_val_of (some 97) rfl (.bool true) (by kernel_rfl) (hK _ _ rfl (Nx.refl _)))
              · have e11 : x 11 = .bool true := hd 11 (by decide)
                generalize x 11 = y11 at e11 hK ⊢
                subst e11
                exact sq_of rfl rfl (wp_val_of (some 98) rfl (.bool true) (by kernel_rfl) (hK _ _ rfl (Nx.refl _)))
              · have e12 : x 12 = .bool true := hd 12 (by decide)
                generalize x 12 = y12 at e12 hK ⊢
                subst e12
                exact sq_g rfl (by rfl) (wp_val_of (some 99) rfl (.int .i64 0) (by kernel_rfl) (hK _ _ rfl (Nx.refl _)))
              · have e13 : x 13 = .int .i64 0 := hd 13 (by decide)
                have e12 : x 12 = .bool true := hd 12 (by decide)
                generalize x 13 = y13 at e13 hK ⊢
                subst e13
                generalize x 12 = y12 at e12 hK ⊢
                subst e12
                exact sq_g rfl (by rfl) (wp_eqi_ofS (some 100) rfl _ _ _ _ rfl .i64 (0) rfl rfl (hK _ _ rfl (Nx.refl _)))
              · have e14 : x 14 = .bool true := hd 14 (by decide)
                have e12 : x 12 = .bool true := hd 12 (by decide)
                generalize x 14 = y14 at e14 hK ⊢
                subst e14
                generalize x 12 = y12 at e12 hK ⊢
                subst e12
                exact sq_of rfl rfl (wp_val_of (some 101) rfl (.bool true) (by kernel_rfl) (hK _ _ rfl (Nx.refl _)))
              · have e15 : x 15 = .bool true := hd 15 (by decide)
                generalize x 15 = y15 at e15 hK ⊢
                subst e15
                exact sq_of rfl rfl (wp_val_of (some 102) rfl (.bool true) (by kernel_rfl) (hK _ _ rfl (Nx.refl _)))
              · have e16 : x 16 = .bool true := hd 16 (by decide)
                generalize x 16 = y16 at e16 hK ⊢
                subst e16
                exact sq_g rfl (by rfl) (wp_load_row_of (some 103) rfl 28 (.tmp 16) rfl (u5.heap.size) rfl 28 (hcel I1) _ (R5.nx hx) Tryd.underlying28 rfl i1.out (hK _ _ rfl (Nx.refl _)))
              · have e16 : x 16 = .bool true := hd 16 (by decide)
                generalize x 16 = y16 at e16 hK ⊢
                subst e16
                exact sq_g rfl (by rfl) (wp_load_row_of (some 104) rfl 28 (.tmp 18) rfl (u6.heap.size) rfl 28 (hcel IU) _ (R6.nx hx) Tryd.underlying28 rfl iu.out (hK _ _ rfl (Nx.refl _)))
              · have e17 : x 17 = .agg (hcel I1) := hd 17 (by decide)
                have e18 : x 18 = .agg (hcel IU) := hd 18 (by decide)
                have e16 : x 16 = .bool true := hd 16 (by decide)
                generalize x 17 = y17 at e17 hK ⊢
                subst e17
                generalize x 18 = y18 at e18 hK ⊢
                subst e18
                generalize x 16 = y16 at e16 hK ⊢
                subst e16
                exact sq_g rfl (by rfl) (wp_eql_of (some 105) rfl 28 _ _ _ rfl (hcel I1) (hcel IU) rfl rfl (by kernel_rfl) true (HQN.out wr) (hK _ _ rfl (Nx.refl _)))
              · have e19 : x 19 = .bool true := hd 19 (by decide)
                have e16 : x 16 = .bool true := hd 16 (by decide)
                generalize x 19 = y19 at e19 hK ⊢
                subst e19
                generalize x 16 = y16 at e16 hK ⊢
                subst e16
                exact sq_g rfl (by rfl) (wp_val_of (some 106) rfl (.bool true) (by kernel_rfl) (hK _ _ rfl (Nx.refl _)))
              · have e20 : x 20 = .bool true := hd 20 (by decide)
                generalize x 20 = y20 at e20 hK ⊢
                subst e20
                exact sq_skip (some 107) rfl rfl (by rfl) (hK _ _ rfl (Nx.refl _))
              · have e20 : x 20 = .bool true := hd 20 (by decide)
                generalize x 20 = y20 at e20 hK ⊢
                subst e20
                exact sq_skip (some 108) rfl rfl (by rfl) (hK _ _ rfl (Nx.refl _))
              · have e20 : x 20 = .bool true := hd 20 (by decide)
                generalize x 20 = y20 at e20 hK ⊢
                subst e20
                exact sq_skip (some 109) rfl rfl (by rfl) (hK _ _ rfl (Nx.refl _))
              · have e20 : x 20 = .bool true := hd 20 (by decide)
                generalize x 20 = y20 at e20 hK ⊢
                subst e20
                exact sq_skip (some 110) rfl rfl (by rfl) (hK _ _ rfl (Nx.refl _))
              · have e20 : x 20 = .bool true := hd 20 (by decide)
                generalize x 20 = y20 at e20 hK ⊢
                subst e20
                exact sq_skip (some 111) rfl rfl (by rfl) (hK _ _ rfl (Nx.refl _))
              · have e20 : x 20 = .bool true := hd 20 (by decide)
                generalize x 20 = y20 at e20 hK ⊢
                subst e20
                exact sq_skip (some 112) rfl rfl (by rfl) (hK _ _ rfl (Nx.refl _))
              · have e20 : x 20 = .bool true := hd 20 (by decide)
                generalize x 20 = y20 at e20 hK ⊢
                subst e20
                exact sq_skip (some 113) rfl rfl (by rfl) (hK _ _ rfl (Nx.refl _))
              · have e20 : x 20 = .bool true := hd 20 (by decide)
                generalize x 20 = y20 at e20 hK ⊢
                subst e20
                exact sq_skip (some 114) rfl rfl (by rfl) (hK _ _ rfl (Nx.refl _))
              · have e20 : x 20 = .bool true := hd 20 (by decide)
                generalize x 20 = y20 at e20 hK ⊢
                subst e20
                exact sq_skip (some 115) rfl rfl (by rfl) (hK _ _ rfl (Nx.refl _))
              · have e20 : x 20 = .bool true := hd 20 (by decide)
                have e29 : x 29 = undef := hd 29 (by decide)
                have e16 : x 16 = .bool true := hd 16 (by decide)
                generalize x 20 = y20 at e20 hK ⊢
                subst e20
                generalize x 29 = y29 at e29 hK ⊢
                subst e29
                generalize x 16 = y16 at e16 hK ⊢
                subst e16
                exact sq_g rfl (by rfl) (wp_val_of (some 116) rfl (.bool true) (by kernel_rfl) (hK _ _ rfl (Nx.refl _)))
              · have e30 : x 30 = .bool true := hd 30 (by decide)
                have e16 : x 16 = .bool true := hd 16 (by decide)
                generalize x 30 = y30 at e30 hK ⊢
                subst e30
                generalize x 16 = y16 at e16 hK ⊢
                subst e16
                exact sq_of rfl rfl (wp_val_of (some 117) rfl (.bool true) (by kernel_rfl) (hK _ _ rfl (Nx.refl _)))
              · have e31 : x 31 = .bool true := hd 31 (by decide)
                generalize x 31 = y31 at e31 hK ⊢
                subst e31
                exact sq_of rfl rfl (wp_val_of (some 118) rfl (.bool true) (by kernel_rfl) (hK _ _ rfl (Nx.refl _)))
              · have e32 : x 32 = .bool true := hd 32 (by decide)
                generalize x 32 = y32 at e32 hK ⊢
                subst e32
                refine sq_g rfl (by rfl) (wp_call_of (some 119) rfl 10 #[] (by kernel_rfl) (.bool true) ?_ (fun w' h => hK _ w' rfl h))
                exact txwork_any wr
              · have e33 : x 33 = .bool true := hd 33 (by decide)
                have e32 : x 32 = .bool true := hd 32 (by decide)
                generalize x 33 = y33 at e33 hK ⊢
                subst e33
                generalize x 32 = y32 at e32 hK ⊢
                subst e32
                exact sq_of rfl rfl (wp_val_of (some 120) rfl (.bool true) (by kernel_rfl) (hK _ _ rfl (Nx.refl _)))
              · have e34 : x 34 = .bool true := hd 34 (by decide)
                generalize x 34 = y34 at e34 hK ⊢
                subst e34
                exact sq_of rfl rfl (wp_val_of (some 8) rfl (.bool true) (by kernel_rfl) (hK _ _ rfl (Nx.refl _)))
            · intro x tm wr htm hx hv
              simp only [fillA, List.setIfInBounds_toArray, List.set_cons_zero, List.set_cons_succ] at htm
              subst htm
              have e35 : x 35 = .bool true := hv 35 (by decide)
              rw [e35]
              go_wp2_with fail
              go_ret
              exact ⟨rfl, N6.out.trans hx⟩
    · have hz : t.ins.length = 0 := by omega
      have d1 : decide ((3000 : Int) < (l3.length : Int)) = false := by simp; omega
      have d2 : decide (3000 < l3.length) = false := by simp; omega
      have d3 : ((t.ins.length : Int) == 0) = true := by rw [beq_iff_eq]; omega
      have HZ := Lib.hid hz
      clear hn0 h30 hz hbk
      go_enter Tryd.func6, Tryd.ntmps6
      go_wp2_with fail
      refine (HGR.out _ (HT.out.nx N0.out)).mono ?_
      rintro e u0 ⟨B, rfl, n0⟩
      have KT := Lib.hid (KT0.out.nx n0)
      have NA := Lib.hid (N0.out.trans n0)
      clear n0 a0 a1 a2 N0 KT0 KC0 HGR
      have a0 := KT.out.cell (i := 0) (v := .slice A0 t.ins.length c0) rfl
      cases B
      case true =>
        go_wp2_with fail
        refine (txwork_any _).mono ?_
        rintro e y2 ⟨rfl, n2⟩
        have N2 := Lib.hid (NA.out.trans n2)
        clear n2 NA
        go_wp2_with fail
        go_ret
        exact ⟨rfl, N2.out⟩
      case false =>
        go_wp2_with fail
        refine (txwork_any _).mono ?_
        rintro e y3 ⟨rfl, n2⟩
        have N2 := Lib.hid (NA.out.trans n2)
        clear n2 NA
        go_wp2_with fail
        go_ret
        exact ⟨rfl, N2.out⟩
  · have d1 : decide ((3000 : Int) < (l3.length : Int)) = true := by simp; omega
    have d2 : decide (3000 < l3.length) = true := by simp; omega
    clear h30
    go_enter Tryd.func6, Tryd.ntmps6
    go_wp2_with fail
    refine (HGR.out _ (HT.out.nx N0.out)).mono ?_
    rintro e u0 ⟨B, rfl, n0⟩
    have NA := Lib.hid (N0.out.trans n0)
    clear n0 a0 a1 a2 N0 KT0 KC0 HGR
    cases B
    case true =>
      go_wp2_with fail
      refine (txwork_any _).mono ?_
      rintro e y4 ⟨rfl, n2⟩
      have N2 := Lib.hid (NA.out.trans n2)
      clear n2 NA
      go_wp2_with fail
      go_ret
      exact ⟨rfl, N2.out⟩
    case false =>
      go_wp2_with fail
      refine (txwork_any _).mono ?_
      rintro e y5 ⟨rfl, n2⟩
      have N2 := Lib.hid (NA.out.trans n2)
      clear n2 NA
      go_wp2_with fail
      go_ret
      exact ⟨rfl, N2.out⟩
end Go.Proofs.YtnbonmkecmgphaaDoor
