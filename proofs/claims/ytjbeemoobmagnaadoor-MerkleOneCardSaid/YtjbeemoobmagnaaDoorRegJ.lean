/- A REGION THAT DRAWS ITS ORDER: an invariant over the operations' values, no frame; of our own. -/
import Derived.Test.YtjbeemoobmagnaaDoorRegB
namespace Go.Proofs.YtjbeemoobmagnaaDoor
open Go Go.RowKit
set_option linter.unusedVariables false
set_option linter.unusedSimpArgs false
set_option linter.unusedVariables false
set_option linter.unusedSimpArgs false
section
variable {P : Program} {ops : Array Oper} {Q : Exit → Act → World → Prop}
theorem wp_region_J {id : Nat} {t0 : Array Value} {df : List Deferred} {w : World} (n : Nat) (needs : List (List Nat)) (dl : List (Option Tmp)) (J : (Nat → Bool) → (Nat → Value) → World → Prop)
    (hm : P.follows .mixedOrders = true) (hn : needsOf .any ops = needs) (hord : ∀ i, ∀ d ∈ needs.getD i [], d < i)
    (hsz : ops.size = n) (hdl : dl.length = n) (hnd : (dl.filterMap _root_.id).Nodup)
    (h0 : ∀ x, (∀ i d, dl[i]? = some (some d) → x i = t0.getD d undef) → J (fun _ => false) x w.drew)
    (hstep : ∀ L x tm wr, fillA t0 dl 0 x = tm → J L x wr → (∀ j, L j = true → ∀ d ∈ needs.getD j [], L d = true) → ∀ i, i < n → L i = false → (∀ d ∈ needs.getD i [], L d = true) → (∀ s, i ∈ needs.getD s [] → L s = false) →
      ∀ K : Act → World → Prop, (∀ v w', J (fun j => j == i || L j) (upd x i v) w' → K ((⟨tm, df⟩ : Act).put (dl.getD i none) v) w') → wpOp P ops Q i K ⟨tm, df⟩ wr)
    (hend : ∀ L x tm wr, fillA t0 dl 0 x = tm → J L x wr → (∀ i, i < n → L i = true) → Q .normal ⟨tm, df⟩ wr) :
    (Code.region id ops true).wp P Q ⟨t0, df⟩ w := by
  subst hsz
  refine wp_region_inv needs (fun L a w' => ∃ x : Nat → Value, a = ⟨fillA t0 dl 0 x, df⟩ ∧ J L x w' ∧ (∀ j, L j = true → ∀ d ∈ needs.getD j [], L d = true)) hm hn hord ?_ ?_ ?_
  · refine ⟨fun i => match dl[i]? with | some (some d) => t0.getD d undef | _ => undef, ?_, h0 _ (fun i d hd => by simp only [hd]), (fun _ h => by cases h)⟩
    rw [fillA_self]
    intro i d hd
    rw [Nat.zero_add]
    simp only [hd]
  · rintro L a wr ⟨x, rfl, hJ, hcl⟩ i hi hL hd K hK
    have hcl2 : ∀ j, (j == i || L j) = true → ∀ d ∈ needs.getD j [], (d == i || L d) = true := fun j hj d hdd => by
      by_cases hji : j = i
      · subst hji; rw [hd d hdd, Bool.or_true]
      · rw [hcl j (by rwa [or_ne hji] at hj) d hdd, Bool.or_true]
    refine hstep L x _ wr rfl hJ hcl i hi hL hd (fun s hs => by
      rcases h : L s with _ | _
      · rfl
      · rw [hcl s h i hs] at hL; cases hL) K fun v w' hJ' => ?_
    rw [fillA_upd t0 x _ df dl _ (by omega) hnd]
    exact hK _ _ ⟨_, rfl, hJ', hcl2⟩
  · rintro L a wr ⟨x, rfl, hJ, hcl⟩ hall
    exact hend L x _ wr rfl hJ hall
end
end Go.Proofs.YtjbeemoobmagnaaDoor
