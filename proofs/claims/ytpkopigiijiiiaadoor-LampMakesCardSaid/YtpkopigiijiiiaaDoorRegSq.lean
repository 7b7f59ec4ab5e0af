/- A REGION IN ITS OWN ORDER, what holds of each operation's value, of our own. -/
import Derived.Test.YtpkopigiijiiiaaDoorRegB
import Derived.Test.YtpkopigiijiiiaaDoorTb
namespace Go.Proofs.YtpkopigiijiiiaaDoor
open Go Go.RowKit
set_option linter.unusedVariables false
set_option linter.unusedSimpArgs false
set_option linter.unusedVariables false
set_option linter.unusedSimpArgs false
section
variable {P : Program} {ops : Array Oper} {Q : Exit → Act → World → Prop}
def sqOp (P : Program) (ops : Array Oper) (Q : Exit → Act → World → Prop) (i : Nat) (K : Act → World → Prop) (a : Act) (w : World) : Prop := ∀ o, ops[i]? = some o → if Region.wanted o (yielded ops a.tmps) then o.wp P a w K Q else K (a.put o.dst undef) w
theorem sq_g {i : Nat} {o : Oper} {K : Act → World → Prop} {a : Act} {w : World} (ho : ops[i]? = some o) (hg : Region.wanted o (yielded ops a.tmps) = true) (h : o.wp P a w K Q) : sqOp P ops Q i K a w := by
  intro o' ho'
  rw [ho] at ho'
  cases ho'
  rw [if_pos hg]
  exact h
theorem sq_of {i : Nat} {o : Oper} {K : Act → World → Prop} {a : Act} {w : World} (ho : ops[i]? = some o) (hg : o.guard = none) (h : o.wp P a w K Q) : sqOp P ops Q i K a w :=
  sq_g ho (by unfold Region.wanted; rw [hg]) h
theorem sq_skip {i : Nat} {o : Oper} {K : Act → World → Prop} {a : Act} {w : World} (dst : Option Tmp) (ho : ops[i]? = some o) (hd : o.dst = dst) (hg : Region.wanted o (yielded ops a.tmps) = false) (h : K (a.put dst undef) w) : sqOp P ops Q i K a w := by
  intro o' ho'
  rw [ho] at ho'
  cases ho'
  rw [if_neg (by rw [hg]; decide), hd]
  exact h
theorem wp_region_sq {id : Nat} {t0 : Array Value} {df : List Deferred} {w : World} (k : Nat) (dl : List (Option Tmp)) (PV : List PP)
    (hk : ops.size = k) (hdl : dl.length = k) (hnd : (dl.filterMap _root_.id).Nodup)
    (hstep : ∀ x tm wr, fillA t0 dl 0 x = tm → Nx w wr → ∀ i, i < k → (∀ d, d < i → (PV.getD d PP.any).p (x d) wr) → ∀ K : Act → World → Prop,
      (∀ v w', (PV.getD i PP.any).p v w' → Nx wr w' → K ((⟨tm, df⟩ : Act).put (dl.getD i none) v) w') → sqOp P ops Q i K ⟨tm, df⟩ wr)
    (hend : ∀ x tm wr, fillA t0 dl 0 x = tm → Nx w wr → (∀ i, i < k → (PV.getD i PP.any).p (x i) wr) → Q .normal ⟨tm, df⟩ wr) :
    (Code.region id ops false).wp P Q ⟨t0, df⟩ w := by
  have main : ∀ m i, i + m = k → ∀ x wr, Nx w wr → (∀ d, d < i → (PV.getD d PP.any).p (x d) wr) → wpList P ops Q (ops.toList.drop i) ⟨fillA t0 dl 0 x, df⟩ wr := by
    intro m
    induction m with
    | zero =>
      intro i hi x wr hx hp
      rw [List.drop_of_length_le (by simp; omega)]
      exact wpList_nil (hend x _ wr rfl hx fun d hd => hp d (by omega))
    | succ m ih =>
      intro i hi x wr hx hp
      have hlt : i < ops.toList.length := by simp; omega
      rw [List.drop_eq_getElem_cons hlt]
      refine wpList_step fun K hK => ?_
      have h := hstep x _ wr rfl hx i (by omega) hp K (fun v w' hv hn => by
        rw [fillA_upd t0 x v df dl i (by omega) hnd]
        refine hK _ _ (ih (i + 1) (by omega) (upd x i v) w' (hx.trans hn) fun d hd => ?_)
        by_cases he : d = i
        · subst he; rw [upd_eq]; exact hv
        · rw [upd_ne _ _ he]; exact (PV.getD d PP.any).nx _ _ _ (hp d (by omega)) hn)
      exact h _ (by simp)
  refine wp_region_list ?_
  have h := main k 0 (by omega) (fun i => match dl[i]? with | some (some d) => t0.getD d undef | _ => undef) w (Nx.refl w) (fun d hd => by omega)
  rw [fillA_self] at h
  · exact h
  · intro i d hd
    rw [Nat.zero_add]
    simp only [hd]
end
end Go.Proofs.YtpkopigiijiiiaaDoor
