/- TEXTS OF OUR OWN, IN ONE FILE. -/
import Derived.Test.YtejeekbpeinioaaGreatDoorTa
import Derived.Lib.Bytes
import Derived.Laws.BytesArg
import Derived.Lib.BytesEntry
import Derived.Lib.Bytealg
import Derived.Test.YtejeekbpeinioaaGreatDoorTx19
import Derived.Deep.DeepCutAuto
section
namespace Go.Proofs.YtejeekbpeinioaaGreatDoor
open Go Go.RowKit
set_option linter.unusedVariables false
set_option linter.unusedSimpArgs false
set_option linter.unusedVariables false
set_option linter.unusedSimpArgs false

def natsOf (l : List UInt8) : List Int := l.map fun x => (x.toNat : Int)
theorem natsOf_get {l : List UInt8} {i : Nat} (hi : i < l.length) : (natsOf l).getD i 0 = (l[i].toNat : Int) := by
  simp [natsOf, List.getD_eq_getElem?_getD, List.getElem?_eq_getElem hi]
theorem natsOf_back (l : List UInt8) : (natsOf l).map (fun n => UInt8.ofNat n.toNat) = l := by
  unfold natsOf
  rw [List.map_map]
  conv => rhs; rw [← List.map_id l]
  exact List.map_congr_left fun x _ => by simp
theorem conv_bytes {w : World} {v : Value} {l : List UInt8} (h : Rd w v l) : (convert 32 9 v).run Tryz.prog w = .ok (.string ⟨l.toArray⟩) w := by
  obtain ⟨A, c, rfl, _, _, ha⟩ := h
  rcases Nat.eq_zero_or_pos l.length with h0 | h0
  · obtain rfl := List.eq_nil_of_length_eq_zero h0
    rw [List.length_nil, run_convert_bytes_string w 32 9 5 _ 0 c Tryz.underlying32 Tryz.underlying5 Tryz.underlying9]
    cases A <;> simp [Conv.bytesToString, loadCells]
    all_goals rfl
  · obtain ⟨b, o, rfl, hb, hc⟩ := ha h0
    have := run_convert_bytes_arg (P := Tryz.prog) w 32 5 Tryz.underlying32 Tryz.underlying5 b o l.length c (natsOf l) (by simp [natsOf]) (fun i hi => by rw [hc i hi, natsOf_get hi]) 9 Tryz.underlying9
    rw [this]
    unfold strOfNums
    rw [natsOf_back]
theorem run_bytesOf_rd {P : Program} {w : World} {v : Value} {l : List UInt8} (h : Rd w v l) : (Extern.Bytes.bytesOf v).run P w = .ok ⟨l.toArray⟩ w := by
  obtain ⟨A, c, rfl, _, _, ha⟩ := h
  rcases Nat.eq_zero_or_pos l.length with h0 | h0
  · obtain rfl := List.eq_nil_of_length_eq_zero h0
    cases A <;> simp [Extern.Bytes.bytesOf, Extern.Bytes.loadBytes]
    all_goals rfl
  · obtain ⟨b, o, rfl, hb, hc⟩ := ha h0
    have hl := Lib.run_loadBytesX (P := P) w (natsOf l) ⟨b, o, none⟩ .empty (fun j x hj => by
      have hjl : j < l.length := by
        have := (List.getElem?_eq_some_iff.1 hj).1
        simpa [natsOf] using this
      rw [addr_add, hc j hjl]
      have : (natsOf l)[j]? = some (l[j].toNat : Int) := by simp [natsOf, List.getElem?_eq_getElem hjl]
      rw [this] at hj
      injection hj with hj
      rw [← hj])
    have hlen : (natsOf l).length = l.length := by simp [natsOf]
    rw [hlen] at hl
    simp only [Extern.Bytes.bytesOf, hl]
    have e : Lib.bytesOf (natsOf l) = l := natsOf_back l
    rw [e]
    congr 1
    apply ByteArray.ext
    show (#[] : Array UInt8) ++ l.toArray = l.toArray
    simp
theorem run_compare_rd {P : Program} {w : World} {v1 v2 : Value} {l1 l2 : List UInt8} (h1 : Rd w v1 l1) (h2 : Rd w v2 l2) : (Extern.BytealgCompare.compare #[v1, v2]).run P w = .ok (.int .i64 (Lib.compareBytes l1 l2)) w := by
  change Sem.run P (do pure (goInt (Extern.BytealgCompare.cmp (← Extern.Bytes.bytesOf v1) (← Extern.Bytes.bytesOf v2)))) w = _
  simp only [Sem.run_bind, Sem.run_pure, Result.andThen, run_bytesOf_rd h1, run_bytesOf_rd h2]
  rw [Lib.cmp_eq]
  rfl

theorem bequal_any (v1 v2 : Value) (l1 l2 : List UInt8) (w : World) (h1 : Rd w v1 l1) (h2 : Rd w v2 l2) :
    Calls Tryz.prog 106 #[v1, v2] w fun e w' => e = .returned (.bool (l1 == l2)) ∧ Nx w w' := by
  have hc1 := conv_bytes h1
  have hc2 := conv_bytes h2
  obtain ⟨A1, c1, rfl, -, -, -⟩ := h1
  obtain ⟨A2, c2, rfl, -, -, -⟩ := h2
  go_enter Tryz.func106, Tryz.ntmps106
  go_wp2_with fail
  go_ret
  exact ⟨rfl, Nx.refl _⟩
end Go.Proofs.YtejeekbpeinioaaGreatDoor
end

section
namespace Go.Proofs.YtejeekbpeinioaaGreatDoor
open Go Go.RowKit
set_option linter.unusedVariables false
set_option linter.unusedSimpArgs false
set_option linter.unusedVariables false
set_option linter.unusedSimpArgs false

theorem wpList_eqlT {P : Program} {ops : Array Oper} {Q : Exit → Act → World → Prop} {o : Oper} {rest : List Oper} {a : Act} {w : World} (hgd : o.guard = none) (T : TypeId) (x y : Operand) (T' : TypeId) (ho : o.op = .binOp .eql T x y T') (X Y : Array Value)
    (hx : a.eval x = .agg X) (hy : a.eval y = .agg Y) (hgt : P.eqGuardType P.depth T = false) (b : Bool) (heq : (Op.equalIn 10000 T (.agg X) (.agg Y)).run P w = .ok b w) (h : wpList P ops Q rest (a.put o.dst (.bool b)) w) : wpList P ops Q (o :: rest) a w :=
  wpList_plain hgd fun _ hK => wp_eql_of _ rfl T x y T' ho X Y hx hy hgt b heq (hK _ _ h)
theorem bequal_yes (v1 v2 : Value) (l : List UInt8) (w : World) (h1 : Rd w v1 l) (h2 : Rd w v2 l) : Calls Tryz.prog 106 #[v1, v2] w fun e w' => e = .returned (.bool true) ∧ Nx w w' := by
  have := bequal_any v1 v2 l l w h1 h2
  rw [show (l == l) = true by simp] at this
  exact this
set_option maxRecDepth 100000 in
set_option maxHeartbeats 4000000 in
theorem sameIn_yes (a : Inp) (u v : Value) (w : World) (hok : InOk a) (h1 : Rd w u a.u) (h2 : Rd w v a.u) :
    Calls Tryz.prog 81 #[.agg (icel a u), .agg (icel a v)] w fun e w' => e = .returned (.bool true) ∧ Nx w w' := by
  have HBE := Lib.hid (fun w h1 h2 => bequal_yes u v a.u w h1 h2)
  have N0 := ((Nx.refl w).alloc (.cells (icel a u) 59)).alloc (.cells (icel a v) 59)
  have H1 := Lib.hid (h1.nx N0)
  have H2 := Lib.hid (h2.nx N0)
  have NN := Lib.hid N0
  have R1 := (Row.new w (icel a u) 59 _ rfl).alloc (.cells (icel a v) 59)
  have R2 := Row.new2 w (.cells (icel a u) 59) (icel a v) 59
  have HPS := Lib.hid (pointsz a.x a.n a.h hok.1)
  have HEQ := Lib.hid (fun w => eq_point_yes a.x a.n a.h hok.1 w)
  have HG0 := Lib.hid (fun i x (h : (pcel a.x a.n a.h)[i]? = some x) => (show ((w.alloc (.cells (icel a u) 59)).alloc (.cells (icel a v) 59)).cell? ⟨w.heap.size, 0 + i, none⟩ = some x by rw [Nat.zero_add]; exact R1.cell (icel_p a u i x h)))
  have HF0 := Lib.hid (fun i x (h : (pcel a.x a.n a.h)[i]? = some x) => (show ((w.alloc (.cells (icel a u) 59)).alloc (.cells (icel a v) 59)).cell? ⟨w.heap.size + 1, 0 + i, none⟩ = some x by rw [Nat.zero_add]; exact R2.cell (icel_p a v i x h)))
  have k1 := R1.cell (icel_u a u hok)
  have k2 := R2.cell (icel_u a v hok)
  obtain ⟨A1, c1, rfl, -⟩ := h1
  obtain ⟨A2, c2, rfl, -⟩ := h2
  clear N0 R1 R2 hok
  go_enter Tryz.func81, Tryz.ntmps81
  go_upto_region 1 with fail
  generalize (w.alloc (.cells (icel a (.slice A1 a.u.length c1)) 59)).alloc (.cells (icel a (.slice A2 a.u.length c2)) 59) = W at *
  go_wp2_with (first
    | (refine wpList_load_at rfl 57 (.tmp 5) rfl w.heap.size 0 rfl (pcel a.x a.n a.h) _ HG0.out Tryz.underlying57 rfl HPS.out ?_)
    | (refine wpList_load_at rfl 57 (.tmp 7) rfl (w.heap.size + 1) 0 rfl (pcel a.x a.n a.h) _ HF0.out Tryz.underlying57 rfl HPS.out ?_)
    | (refine wpList_eqlT rfl 57 (.tmp 6) (.tmp 8) _ rfl _ _ rfl rfl (by kernel_rfl) true (HEQ.out _) ?_))
  refine (HBE.out _ H1.out H2.out).mono ?_
  rintro e w1 ⟨rfl, n1⟩
  replace NN := Lib.hid (NN.out.trans n1)
  clear n1 HG0 HF0 k1 k2
  go_wp2_with fail
  go_ret
  exact ⟨rfl, NN.out⟩
set_option maxRecDepth 100000 in
set_option maxHeartbeats 4000000 in
theorem sameOut_yes (a : Outp) (u v : Value) (w : World) (h1 : Rd w u a.l) (h2 : Rd w v a.l) :
    Calls Tryz.prog 83 #[.agg #[.int .u64 (a.v : Int), u], .agg #[.int .u64 (a.v : Int), v]] w fun e w' => e = .returned (.bool true) ∧ Nx w w' := by
  have HBE := Lib.hid (fun w h1 h2 => bequal_yes u v a.l w h1 h2)
  have N0 := ((Nx.refl w).alloc (.cells #[.int .u64 (a.v : Int), u] 62)).alloc (.cells #[.int .u64 (a.v : Int), v] 62)
  have H1 := Lib.hid (h1.nx N0)
  have H2 := Lib.hid (h2.nx N0)
  have NN := Lib.hid N0
  have R1 := (Row.new w #[.int .u64 (a.v : Int), u] 62 _ rfl).alloc (.cells #[.int .u64 (a.v : Int), v] 62)
  have R2 := Row.new2 w (.cells #[.int .u64 (a.v : Int), u] 62) #[.int .u64 (a.v : Int), v] 62
  have k0 := R1.cell (i := 0) (v := .int .u64 (a.v : Int)) rfl
  have k1 := R1.cell (i := 1) (v := u) rfl
  have k2 := R2.cell (i := 0) (v := .int .u64 (a.v : Int)) rfl
  have k3 := R2.cell (i := 1) (v := v) rfl
  have e1 : ((a.v : Int) == (a.v : Int)) = true := by simp
  obtain ⟨A1, c1, rfl, -⟩ := h1
  obtain ⟨A2, c2, rfl, -⟩ := h2
  clear N0 R1 R2
  go_enter Tryz.func83, Tryz.ntmps83
  go_wp2_with fail
  refine (HBE.out _ H1.out H2.out).mono ?_
  rintro e w1 ⟨rfl, n1⟩
  replace NN := Lib.hid (NN.out.trans n1)
  clear n1 k0 k1 k2 k3
  go_wp2_with fail
  go_ret
  exact ⟨rfl, NN.out⟩
end Go.Proofs.YtejeekbpeinioaaGreatDoor
end

section
namespace Go.Proofs.YtejeekbpeinioaaGreatDoor
open Go Go.RowKit
set_option linter.unusedVariables false
set_option linter.unusedSimpArgs false
set_option linter.unusedVariables false
set_option linter.unusedSimpArgs false

set_option maxRecDepth 100000 in
set_option maxHeartbeats 4000000 in
theorem eqIns_yes (v1 v2 : Value) (es : List Inp) (w : World) (h1 : RdE inEl w v1 es) (h2 : RdE inEl w v2 es) :
    Calls Tryz.prog 80 #[v1, v2, .func (.func 81) #[] #[]] w fun e w' => e = .returned (.bool true) ∧ Nx w w' := by
  have HL := Lib.hid (show es.length ≤ 9223372036854775807 by have := h1.elem; obtain ⟨_, _, e, k1, k2, -⟩ := this; unfold maxLen at k2; omega)
  obtain ⟨A, c, rfl, -, -, hel⟩ := h1.elem
  obtain ⟨B, d, rfl, -, -, hel2⟩ := h2.elem
  have HEL := Lib.hid hel
  have HEL2 := Lib.hid hel2
  have e2 : ((es.length : Int) != (es.length : Int)) = false := by simp
  obtain ⟨hz, hzs⟩ := zero_of_info info_in
  clear h1 h2 hel hel2
  go_enter Tryz.func80, Tryz.ntmps80
  go_wp2_with fail
  clear e2
  go_loopw [17] (fun i wr => ∃ j : Nat, j ≤ es.length ∧ i = .int .i64 j ∧ Hid (Nx w wr)) (fun i _ => es.length - (intOf i).toNat)
  case atStart => exact ⟨0, Nat.zero_le _, rfl, Lib.hid (Nx.refl _)⟩
  case round =>
    obtain ⟨j, hj, rfl, HN⟩ := hrel
    by_cases hlt : j < es.length
    · obtain ⟨b, o, cs, rfl, hb, HE1, hcell⟩ := HEL.out j hlt
      obtain ⟨b2, o2, cs2, rfl, hb2, HE2, hcell2⟩ := HEL2.out j hlt
      have HJ := Lib.hid hlt
      have hlt1 : (j : Int) < (es.length : Int) := by omega
      have hj16 : (j : Int) < 9223372036854775807 := by have := HL.out; omega
      generalize hq : es[j] = q at *
      clear hq
      obtain ⟨u, rfl, hok, hu⟩ := HE1
      obtain ⟨z, rfl, -, hz2⟩ := HE2
      have S1 : Nx wr ((wr.alloc (.cells (icel inZ (.slice none 0 0)) 59)).setRow wr.heap.size (icel q u)) := ((Nx.refl wr).alloc _).setRow _ (Nat.le_refl _)
      have HG : Hid (∀ i v, (icel q u)[i]? = some v → wr.cell? ⟨b, o + j * 35 + i, none⟩ = some v) := Lib.hid (fun i v hv => by
        rw [HN.out.cell (p := ⟨b, o + j * 35 + i, none⟩) hb]
        exact hcell i v (by simpa [icel] using hv))
      have HF : Hid (∀ i v, (icel q z)[i]? = some v → ((wr.alloc (.cells (icel inZ (.slice none 0 0)) 59)).setRow wr.heap.size (icel q u)).cell? ⟨b2, o2 + j * 35 + i, none⟩ = some v) := Lib.hid (fun i v hv => by
        rw [(HN.out.trans S1).cell (p := ⟨b2, o2 + j * 35 + i, none⟩) hb2]
        exact hcell2 i v (by simpa [icel] using hv))
      have HS1 := Lib.hid (insz q u hok)
      have HS2 := Lib.hid (insz q z hok)
      have HSM1 := Lib.hid (insame inZ q (.slice none 0 0) u inZ_ok hok)
      have HSM2 := Lib.hid (insame inZ q (.slice none 0 0) z inZ_ok hok)
      have HU := Lib.hid hu.1
      have HZ := Lib.hid hz2.1
      have HSA := Lib.hid (fun w h1 h2 => sameIn_yes q u z w hok h1 h2)
      have RZ := Row.new wr (icel inZ (.slice none 0 0)) 59 _ rfl
      have M1 := RZ.setRow (icel q u)
      obtain ⟨A6, c6, rfl⟩ := hu.sl
      obtain ⟨A7, c7, rfl⟩ := hz2.sl
      have HO1 := Lib.hid (icel_one q (.slice A6 q.u.length c6) rfl)
      have HO2 := Lib.hid (icel_one q (.slice A7 q.u.length c7) rfl)
      clear hlt hj hu hz2 hcell hcell2 hb hb2 hok
      go_upto_region 6 with (first | (refine wpList_load_at rfl 59 (.tmp 20) rfl b (o + j * 35) rfl (icel q (.slice A6 q.u.length c6)) _ HG.out Tryz.underlying59 rfl HS1.out ?_) | (refine wpList_store_row rfl 59 (.tmp 8) (.tmp 21) rfl wr.heap.size (icel q (.slice A6 q.u.length c6)) rfl rfl 59 (icel inZ (.slice none 0 0)) RZ HS1.out HSM1.out HO1.out ?_))
      have N1 := Lib.hid S1
      clear S1 RZ HG
      generalize (wr.alloc (.cells (icel inZ (.slice none 0 0)) 59)).setRow wr.heap.size (icel q (.slice A6 q.u.length c6)) = W1 at *
      have S2 : Nx W1 ((W1.alloc (.cells (icel inZ (.slice none 0 0)) 59)).setRow W1.heap.size (icel q (.slice A7 q.u.length c7))) := ((Nx.refl W1).alloc _).setRow _ (Nat.le_refl _)
      have RZ := Row.new W1 (icel inZ (.slice none 0 0)) 59 _ rfl
      have M2 := RZ.setRow (icel q (.slice A7 q.u.length c7))
      replace M1 := M1.nx S2
      go_upto_region 7 with (first | (refine wpList_load_at rfl 59 (.tmp 24) rfl b2 (o2 + j * 35) rfl (icel q (.slice A7 q.u.length c7)) _ HF.out Tryz.underlying59 rfl HS2.out ?_) | (refine wpList_store_row rfl 59 (.tmp 9) (.tmp 25) rfl W1.heap.size (icel q (.slice A7 q.u.length c7)) rfl rfl 59 (icel inZ (.slice none 0 0)) RZ HS2.out HSM2.out HO2.out ?_))
      have N2 := Lib.hid (HN.out.trans (N1.out.trans S2))
      clear S2 RZ HF N1 HN
      generalize (W1.alloc (.cells (icel inZ (.slice none 0 0)) 59)).setRow W1.heap.size (icel q (.slice A7 q.u.length c7)) = W2 at *
      go_wp2_with (first | (refine wpList_load_row rfl 59 (.tmp 8) rfl wr.heap.size rfl 59 (icel q (.slice A6 q.u.length c6)) (0, 0) _ M1 Tryz.underlying59 rfl HS1.out ?_) | (refine wpList_load_row rfl 59 (.tmp 9) rfl W1.heap.size rfl 59 (icel q (.slice A7 q.u.length c7)) (0, 0) _ M2 Tryz.underlying59 rfl HS2.out ?_))
      refine (HSA.out _ (HU.out.nx N2.out) (HZ.out.nx N2.out)).mono ?_
      rintro e w3 ⟨rfl, n3⟩
      have N3 := Lib.hid (N2.out.trans n3)
      clear n3 N2 M1 M2
      go_wp2_with fail
      go_roundw
      case rel => exact ⟨j + 1, HJ.out, by go_num, N3⟩
      case measure => have := HJ.out; simp [intOf]; omega
    · obtain rfl : j = es.length := by omega
      clear hlt hj HEL HEL2
      go_wp2_with fail
      go_ret
      exact ⟨rfl, HN.out⟩
set_option maxRecDepth 100000 in
set_option maxHeartbeats 4000000 in
theorem eqOuts_yes (v1 v2 : Value) (es : List Outp) (w : World) (h1 : RdE outEl w v1 es) (h2 : RdE outEl w v2 es) :
    Calls Tryz.prog 82 #[v1, v2, .func (.func 83) #[] #[]] w fun e w' => e = .returned (.bool true) ∧ Nx w w' := by
  have HL := Lib.hid (show es.length ≤ 9223372036854775807 by have := h1.elem; obtain ⟨_, _, e, k1, k2, -⟩ := this; unfold maxLen at k2; omega)
  obtain ⟨A, c, rfl, -, -, hel⟩ := h1.elem
  obtain ⟨B, d, rfl, -, -, hel2⟩ := h2.elem
  have HEL := Lib.hid hel
  have HEL2 := Lib.hid hel2
  have e2 : ((es.length : Int) != (es.length : Int)) = false := by simp
  have hso := Lib.hid outsz
  clear h1 h2 hel hel2
  go_enter Tryz.func82, Tryz.ntmps82
  go_wp2_with fail
  clear e2
  go_loopw [17] (fun i wr => ∃ j : Nat, j ≤ es.length ∧ i = .int .i64 j ∧ Hid (Nx w wr)) (fun i _ => es.length - (intOf i).toNat)
  case atStart => exact ⟨0, Nat.zero_le _, rfl, Lib.hid (Nx.refl _)⟩
  case round =>
    obtain ⟨j, hj, rfl, HN⟩ := hrel
    by_cases hlt : j < es.length
    · obtain ⟨b, o, cs, rfl, hb, HE1, hcell⟩ := HEL.out j hlt
      obtain ⟨b2, o2, cs2, rfl, hb2, HE2, hcell2⟩ := HEL2.out j hlt
      have HJ := Lib.hid hlt
      have hlt1 : (j : Int) < (es.length : Int) := by omega
      have hj16 : (j : Int) < 9223372036854775807 := by have := HL.out; omega
      generalize hq : es[j] = q at *
      clear hq
      obtain ⟨u, rfl, hv64, hu⟩ := HE1
      obtain ⟨z, rfl, -, hz2⟩ := HE2
      have S1 : Nx wr (wr.alloc (.cells #[.int .u64 (q.v : Int), u] 62)) := (Nx.refl wr).alloc _
      have HG : Hid (∀ i v, (#[.int .u64 (q.v : Int), u] : Array Value)[i]? = some v → wr.cell? ⟨b, o + j * 2 + i, none⟩ = some v) := Lib.hid (fun i v hv => by
        rw [HN.out.cell (p := ⟨b, o + j * 2 + i, none⟩) hb]
        exact hcell i v (by simpa using hv))
      have HF : Hid (∀ i v, (#[.int .u64 (q.v : Int), z] : Array Value)[i]? = some v → (wr.alloc (.cells #[.int .u64 (q.v : Int), u] 62)).cell? ⟨b2, o2 + j * 2 + i, none⟩ = some v) := Lib.hid (fun i v hv => by
        rw [(HN.out.trans S1).cell (p := ⟨b2, o2 + j * 2 + i, none⟩) hb2]
        exact hcell2 i v (by simpa using hv))
      have HU := Lib.hid hu.1
      have HZ := Lib.hid hz2.1
      have HSA := Lib.hid (fun w h1 h2 => sameOut_yes q u z w h1 h2)
      have M1 := Row.new wr #[.int .u64 (q.v : Int), u] 62 _ rfl
      obtain ⟨A6, c6, rfl⟩ := hu.sl
      obtain ⟨A7, c7, rfl⟩ := hz2.sl
      clear hlt hj hu hz2 hcell hcell2 hb hb2 hv64
      go_upto_region 6 with (first | (refine wpList_load_at rfl 62 (.tmp 20) rfl b (o + j * 2) rfl #[.int .u64 (q.v : Int), .slice A6 q.l.length c6] _ HG.out Tryz.underlying62 rfl hso.out ?_))
      have N1 := Lib.hid S1
      clear S1 HG
      generalize wr.alloc (.cells #[.int .u64 (q.v : Int), .slice A6 q.l.length c6] 62) = W1 at *
      have S2 : Nx W1 (W1.alloc (.cells #[.int .u64 (q.v : Int), .slice A7 q.l.length c7] 62)) := (Nx.refl W1).alloc _
      have M2 := Row.new W1 #[.int .u64 (q.v : Int), .slice A7 q.l.length c7] 62 _ rfl
      replace M1 := M1.nx S2
      go_upto_region 7 with (first | (refine wpList_load_at rfl 62 (.tmp 24) rfl b2 (o2 + j * 2) rfl #[.int .u64 (q.v : Int), .slice A7 q.l.length c7] _ HF.out Tryz.underlying62 rfl hso.out ?_))
      have N2 := Lib.hid (HN.out.trans (N1.out.trans S2))
      clear S2 HF N1 HN
      generalize W1.alloc (.cells #[.int .u64 (q.v : Int), .slice A7 q.l.length c7] 62) = W2 at *
      go_wp2_with (first | (refine wpList_load_row rfl 62 (.tmp 8) rfl wr.heap.size rfl 62 #[.int .u64 (q.v : Int), .slice A6 q.l.length c6] (0, 0) _ M1 Tryz.underlying62 rfl hso.out ?_) | (refine wpList_load_row rfl 62 (.tmp 9) rfl W1.heap.size rfl 62 #[.int .u64 (q.v : Int), .slice A7 q.l.length c7] (0, 0) _ M2 Tryz.underlying62 rfl hso.out ?_))
      refine (HSA.out _ (HU.out.nx N2.out) (HZ.out.nx N2.out)).mono ?_
      rintro e w3 ⟨rfl, n3⟩
      have N3 := Lib.hid (N2.out.trans n3)
      clear n3 N2 M1 M2
      go_wp2_with fail
      go_roundw
      case rel => exact ⟨j + 1, HJ.out, by go_num, N3⟩
      case measure => have := HJ.out; simp [intOf]; omega
    · obtain rfl : j = es.length := by omega
      clear hlt hj HEL HEL2
      go_wp2_with fail
      go_ret
      exact ⟨rfl, HN.out⟩
set_option maxRecDepth 100000 in
set_option maxHeartbeats 4000000 in
theorem tsame_yes (iv ov iv' ov' : Value) (t : Txn) (w : World) (h1 : TxAt w iv ov t) (h2 : TxAt w iv' ov' t) :
    Calls Tryz.prog 52 #[.agg (tcel iv ov t.after), .agg (tcel iv' ov' t.after)] w fun e w' => e = .returned (.bool true) ∧ Nx w w' := by
  have H1 := Lib.hid h1
  have H2 := Lib.hid h2
  have HI := Lib.hid (fun w a b => eqIns_yes iv iv' t.ins w a b)
  have HO := Lib.hid (fun w a b => eqOuts_yes ov ov' t.outs w a b)
  obtain ⟨A, c, rfl, -⟩ := h1.i.elem
  obtain ⟨B, d, rfl, -⟩ := h1.o.elem
  obtain ⟨A', c', rfl, -⟩ := h2.i.elem
  obtain ⟨B', d', rfl, -⟩ := h2.o.elem
  unfold tcel
  have NN := Lib.hid (((Nx.refl w).alloc (.cells #[.slice A t.ins.length c, .slice B t.outs.length d, .int .u32 (t.after : Int)] 54)).alloc (.cells #[.slice A' t.ins.length c', .slice B' t.outs.length d', .int .u32 (t.after : Int)] 54))
  have R1 := (Row.new w #[.slice A t.ins.length c, .slice B t.outs.length d, .int .u32 (t.after : Int)] 54 _ rfl).alloc (.cells #[.slice A' t.ins.length c', .slice B' t.outs.length d', .int .u32 (t.after : Int)] 54)
  have R2 := Row.new2 w (.cells #[.slice A t.ins.length c, .slice B t.outs.length d, .int .u32 (t.after : Int)] 54) #[.slice A' t.ins.length c', .slice B' t.outs.length d', .int .u32 (t.after : Int)] 54
  have a0 := R1.cell (i := 0) (v := .slice A t.ins.length c) rfl
  have a1 := R1.cell (i := 1) (v := .slice B t.outs.length d) rfl
  have a2 := R1.cell (i := 2) (v := .int .u32 (t.after : Int)) rfl
  have b0 := R2.cell (i := 0) (v := .slice A' t.ins.length c') rfl
  have b1 := R2.cell (i := 1) (v := .slice B' t.outs.length d') rfl
  have b2 := R2.cell (i := 2) (v := .int .u32 (t.after : Int)) rfl
  have e1 : ((t.after : Int) == (t.after : Int)) = true := by simp
  have HR1 := Lib.hid R1
  have HR2 := Lib.hid R2
  clear h1 h2 R1 R2
  go_enter Tryz.func52, Tryz.ntmps52
  go_wp2_with fail
  refine (HI.out _ (H1.out.nx NN.out).i (H2.out.nx NN.out).i).mono ?_
  rintro e w1 ⟨rfl, n1⟩
  have R1 := HR1.out.nx n1
  have R2 := HR2.out.nx n1
  have N1 := Lib.hid (NN.out.trans n1)
  clear n1 NN a0 a1 a2 b0 b1 b2 e1 HI HR1 HR2
  have a1 := R1.cell (i := 1) (v := .slice B t.outs.length d) rfl
  have b1 := R2.cell (i := 1) (v := .slice B' t.outs.length d') rfl
  clear R1 R2
  go_wp2_with fail
  refine (HO.out _ (H1.out.nx N1.out).o (H2.out.nx N1.out).o).mono ?_
  rintro e w2 ⟨rfl, n2⟩
  have N2 := Lib.hid (N1.out.trans n2)
  clear n2 N1 a1 b1
  go_wp2_with fail
  go_ret
  exact ⟨rfl, N2.out⟩
end Go.Proofs.YtejeekbpeinioaaGreatDoor
end
