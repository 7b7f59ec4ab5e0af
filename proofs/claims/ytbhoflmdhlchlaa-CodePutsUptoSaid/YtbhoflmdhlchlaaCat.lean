/- CONTRACTS: slices.Grow of nil, slices.Concat. -/
import Derived.Test.YtbhoflmdhlchlaaRows
import Derived.Test.YtbhoflmdhlchlaaBytes
import Derived.LoopTactic
import Derived.Outline
namespace Go.Proofs.Ytbhoflmdhlchlaa
open Go.RowKit
set_option linter.unusedVariables false
set_option linter.unusedSimpArgs false

theorem info_u8c : (Try.prog.info? 5).map (fun i => (i.zero, i.size, i.bytes)) = some (some (.int .u8 0), 1, 1) := by kernel_rfl
section
variable {P : Program}
/-- Nothing, and room for n bytes behind it. -/
theorem run_grow_nil (w : World) (t ti ty : TypeId) (i : TypeInfo) (ht : P.underlying t = some (.slice 5)) (hti : P.underlying ti = some (.int .i64)) (hi : P.info? 5 = some i) (hz : i.zero = some (.int .u8 0)) (hsz : i.size = 1) (hby : i.bytes = 1)
    (n : Nat) (h0 : 0 < n) (hn : n ≤ 140737488355328) :
    (Builtin.append_ #[t, ti] ty #[.slice none 0 0, .int .i64 (n : Int)]).run P w =
      .ok (.slice (some ⟨w.heap.size, 0, none⟩) n (grownCap w n 0 5)) (w.drew.alloc (.cells (bvs (List.replicate (grownCap w n 0 5) 0)).toArray 5)) := by
  have hge := grownCap_ge w n 0 5
  have hw : IntKind.i64.wrap (n : Int) = (n : Int) := IntWalk.i64_in _ (by omega)
  have h1 : ¬ ((n : Int) < 0) := by omega
  have h2 : ¬ (281474976710656 < (n : Int)) := by omega
  have h3 : ¬ n = 0 := by omega
  have h4 : ¬ (9223372036854775807 < (n : Int)) := by omega
  have h5 : Builtin.nextslicecap n 0 = n := by unfold Builtin.nextslicecap; rw [if_pos (by omega)]
  have h6 : ¬ (281474976710656 < n) := by omega
  have hfit : ¬ (281474976710656 < Builtin.nextslicecap n 0 * i.bytes) := by rw [h5, hby]; omega
  simp [Builtin.append_, run_underlying ht, run_underlying hti, sizeOf, typeInfo, zeroValue, hi, hz, hsz, hby, asInt, asIntOf, hw, h1, h2, h3, h4, h5, h6, Question.forced, newRow, grownCap, Builtin.firstCells]
  show w.drew.alloc (.cells (Builtin.zeroCells (Value.int .u8 0).cells n ++ Builtin.zeroCells (Value.int .u8 0).cells (grownCap w n 0 5 - n)) 5) = w.drew.alloc (.cells (bvs (List.replicate (grownCap w n 0 5) 0)).toArray 5)
  have e : List.replicate (grownCap w n 0 5) (0 : UInt8) = List.replicate n 0 ++ List.replicate (grownCap w n 0 5 - n) 0 := by
    rw [List.replicate_append_replicate]
    congr 1
    omega
  rw [zeroCells_bvs, zeroCells_bvs, e, bvs_append]
  simp
theorem wpList_grow_nil {w : World} {ops : Array Oper} {rest : List Oper} {o : Oper} {a : Act} {Q : Exit → Act → World → Prop} (hgd : o.guard = none) (s x : Operand) (t ti : TypeId)
    (ho : o.op = .call { callee := .builtin .append, args := #[s, x], argTypes := #[t, ti] })
    (ht : P.underlying t = some (.slice 5)) (hti : P.underlying ti = some (.int .i64)) (hi : (P.info? 5).map (fun i => (i.zero, i.size, i.bytes)) = some (some (.int .u8 0), 1, 1))
    (n : Nat) (hs : a.eval s = .slice none 0 0) (hx : a.eval x = .int .i64 (n : Int)) (h0 : 0 < n) (hn : n ≤ 140737488355328)
    (h : ∀ c, n ≤ c → c ≤ maxLen → wpList P ops Q rest (a.put o.dst (.slice (some ⟨w.heap.size, 0, none⟩) n c)) (w.drew.alloc (.cells (bvs (List.replicate c 0)).toArray 5))) : wpList P ops Q (o :: rest) a w := by
  refine wpList_plain hgd fun K hK => ?_
  obtain ⟨i, hi0, hz, hsz, hby⟩ := info_parts hi
  have hr := run_grow_nil (P := P) w t ti o.type i ht hti hi0 hz hsz hby n h0 hn
  unfold Oper.wp execOp
  simp only [ho, resolve, invoke, builtin, Sem.run_bind, Sem.run_pure, Result.andThen_ok, List.map_toArray, List.map_cons, List.map_nil, hs, hx, hr]
  exact hK _ _ (h _ (grownCap_ge w n 0 5) (grownCap_le_maxLen w n 0 5 (by simp only [maxLen]; omega)))
end

set_option maxHeartbeats 400000 in
theorem grow_any (n : Nat) (w : World) (hn : n ≤ 140737488355328) :
    Calls Try.prog 73 #[.slice none 0 0, .int .i64 (n : Int)] w fun e w' => ∃ v, e = .returned v ∧ Own w.heap.size w' v [] ∧ Nx w w' := by
  have hn0 : (0 : Int) ≤ (n : Int) := by omega
  by_cases h0 : n = 0
  · subst h0
    go_enter Try.func73, Try.ntmps73
    go_wp2
    go_ret
    exact ⟨_, rfl, Own.nil _ _, Nx.refl _⟩
  · have h1 : (0 : Int) < (n : Int) := by omega
    have hp : 0 < n := by omega
    have hni : (n : Int) ≤ 140737488355328 := by omega
    go_enter Try.func73, Try.ntmps73
    go_wp2_with (refine wpList_grow_nil rfl (.tmp 20) (.tmp 21) _ _ rfl Try.underlying23 Try.underlying3 info_u8c n rfl rfl hp hn ?_)
    intro c hc hm
    go_wp2
    go_ret
    refine ⟨_, rfl, .inr ⟨w.heap.size, List.replicate c 0, by simp, Nat.le_refl _, heap_alloc_new w.drew _, by simp, by simpa using hm, by simp⟩, (Nx.refl w).drew.alloc _⟩

/-- The slice values vs read as the rows ls. -/
def Vs (w : World) (vs : List Value) (ls : List (List UInt8)) : Prop := vs.length = ls.length ∧ ∀ i (h : i < ls.length), ∃ v, vs[i]? = some v ∧ Rd w v ls[i]
theorem Vs.nx {w w' : World} {vs : List Value} {ls : List (List UInt8)} (h : Vs w vs ls) (k : Nx w w') : Vs w' vs ls := ⟨h.1, fun i hi => by obtain ⟨v, h1, h2⟩ := h.2 i hi; exact ⟨v, h1, h2.nx k⟩⟩
theorem Vs.nil (w : World) : Vs w [] [] := ⟨rfl, fun _ h => absurd h (by simp)⟩
theorem Vs.cons {w : World} {v : Value} {l : List UInt8} {vs : List Value} {ls : List (List UInt8)} (h : Rd w v l) (k : Vs w vs ls) : Vs w (v :: vs) (l :: ls) := by
  refine ⟨by simp [k.1], fun i hi => ?_⟩
  cases i with
  | zero => exact ⟨v, rfl, h⟩
  | succ i => obtain ⟨u, h1, h2⟩ := k.2 i (by simpa using hi); exact ⟨u, by simpa using h1, by simpa using h2⟩
theorem flat_snoc (ls : List (List UInt8)) (k : Nat) (h : k < ls.length) : (ls.take (k + 1)).flatten = (ls.take k).flatten ++ ls[k] := by
  rw [List.take_succ_eq_append_getElem h, List.flatten_append]
  simp only [List.flatten_cons, List.flatten_nil, List.append_nil]
theorem flat_le (ls : List (List UInt8)) (k : Nat) : (ls.take k).flatten.length ≤ ls.flatten.length := by
  have : ls.flatten = (ls.take k).flatten ++ (ls.drop k).flatten := by rw [← List.flatten_append, List.take_append_drop]
  rw [this, List.length_append]
  omega

set_option maxHeartbeats 300000 in
theorem concat_any (gs : Nat) (vs : List Value) (ls : List (List UInt8)) (w : World) (hg : w.heap[gs]? = some (.cells vs.toArray 23 (0, 0))) (hv : Vs w vs ls) (hn : ls.length ≤ 1000) (htot : ls.flatten.length ≤ 140737488355328) :
    Calls Try.prog 66 #[.slice (some ⟨gs, 0, none⟩) ls.length ls.length] w fun e w' => ∃ v, e = .returned v ∧ Own w.heap.size w' v ls.flatten ∧ Nx w w' := by
  have hni : (ls.length : Int) ≤ 1000 := by omega
  go_enter Try.func66, Try.ntmps66
  go_wp2
  go_loop [3, 11] (fun s i => ∃ k : Nat, k ≤ ls.length ∧ i = .int .i64 k ∧ s = .int .i64 ((ls.take k).flatten.length : Int)) (fun _ i => ls.length - (intOf i).toNat)
  case atStart => exact ⟨0, by omega, rfl, rfl⟩
  case round =>
    obtain ⟨k, hk, rfl, rfl⟩ := hrel
    by_cases hlt : k < ls.length
    · obtain ⟨v, h1, A, c, rfl, h2, h3, h4⟩ := hv.2 k hlt
      have ck : w.cell? ⟨gs, k, none⟩ = some (.slice A ls[k].length c) := by
        rw [cell_of_row w gs k _ _ (0, 0) hg]
        simpa using h1
      have hlt' : (k : Int) < (ls.length : Int) := by omega
      have hs := flat_snoc ls k hlt
      have hle := flat_le ls (k + 1)
      rw [hs, List.length_append] at hle
      have HS : Hid ((ls.take (k + 1)).flatten.length = (ls.take k).flatten.length + ls[k].length) := Lib.hid (by rw [hs, List.length_append])
      clear hs h1 h2 h3 h4
      generalize ls[k].length = m at *
      generalize (ls.take k).flatten.length = t at *
      have hti : (t : Int) + (m : Int) ≤ 140737488355328 := by omega
      have hti0 : (0 : Int) ≤ (t : Int) + (m : Int) := by omega
      go_wp2
      go_round
      case rel => exact ⟨k + 1, by omega, by go_num, by rw [HS.out]; rfl⟩
      case measure => simp [intOf]; omega
    · obtain rfl : k = ls.length := by omega
      have ht : (ls.take ls.length).flatten.length = ls.flatten.length := by rw [List.take_of_length_le (Nat.le_refl _)]
      rw [ht]
      have htot' := htot
      generalize ls.flatten.length = T at htot' ⊢
      go_wp2_with fail
      refine (grow_any T w htot').mono ?_
      rintro e w1 ⟨v1, rfl, hown1, hn1⟩
      go_wp2
      go_loopw [6, 27] (fun u i wr => ∃ k : Nat, k ≤ ls.length ∧ i = .int .i64 k ∧ Own w.heap.size wr u (ls.take k).flatten ∧ Nx w wr) (fun _ i _ => ls.length - (intOf i).toNat)
      case atStart => exact ⟨0, by omega, rfl, hown1, hn1⟩
      case round =>
        obtain ⟨k, hk, rfl, hown, hb⟩ := hrel
        by_cases hlt : k < ls.length
        · obtain ⟨v, h1, hrd⟩ := (hv.nx hb).2 k hlt
          have hg2 := Nx.blk hb hg
          have ck : wr.cell? ⟨gs, k, none⟩ = some v := by
            rw [cell_of_row wr gs k _ _ (0, 0) hg2]
            simpa using h1
          have hlt' : (k : Int) < (ls.length : Int) := by omega
          have HS := Lib.hid (flat_snoc ls k hlt)
          have HL : Hid ((ls.take k).flatten.length + ls[k].length ≤ 140737488355328) := Lib.hid (by
            have hle := flat_le ls (k + 1)
            rw [HS.out, List.length_append] at hle
            omega)
          have HSZ := Lib.hid hb.size
          go_wp2_with (at_builtin; refine wpList_app rfl (.tmp 31) (.tmp 32) _ rfl Try.underlying23 info_u8c w.heap.size _ v _ ls[k] rfl rfl hown hrd HL.out HSZ.out ?_)
          intro v' w' hown' hb' _
          go_wp2
          go_roundw
          case rel => exact ⟨k + 1, by omega, by go_num, by rw [HS.out]; exact hown', Nx.app hb hb'⟩
          case measure => simp [intOf]; omega
        · obtain rfl : k = ls.length := by omega
          rw [List.take_of_length_le (Nat.le_refl _)] at hown
          go_wp2
          go_ret
          exact ⟨_, rfl, hown, hb⟩
end Go.Proofs.Ytbhoflmdhlchlaa
