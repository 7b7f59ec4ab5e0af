/- LAYER 7: a transaction of which one unlock is another: plain facts, and how it lies. -/
import Derived.Test.YtnbonmkecmgphaaDoorTx26
namespace Go.Proofs.YtnbonmkecmgphaaDoor
open Go Go.RowKit
set_option linter.unusedVariables false
set_option linter.unusedSimpArgs false
set_option linter.unusedVariables false
set_option linter.unusedSimpArgs false

def uIn (i : Inp) (o : List UInt8) : Inp := ⟨i.x, i.n, i.h, o⟩
def setU (t : Txn) (k : Nat) (o : List UInt8) : Txn := ⟨t.ins.set k (uIn (t.ins.getD k inZ) o), t.outs, t.after⟩
theorem setU_len (t : Txn) (k : Nat) (o : List UInt8) : (setU t k o).ins.length = t.ins.length := by simp [setU]
theorem bare_setU (t : Txn) (k : Nat) (o : List UInt8) (hk : k < t.ins.length) : bare (setU t k o) = bare t := by
  unfold bare setU
  congr 1
  rw [List.map_set]
  apply List.ext_getElem
  · simp
  · intro i h1 h2
    rw [List.getElem_set]
    split
    · rename_i e
      subst e
      simp [List.getD_eq_getElem?_getD, hk, uIn, bareI]
    · rfl
theorem setU_same (t : Txn) (k : Nat) (hk : k < t.ins.length) : setU t k t.ins[k].u = t := by
  obtain ⟨ins, outs, after⟩ := t
  unfold setU
  dsimp only at *
  congr 1
  apply List.ext_getElem
  · simp
  · intro i h1 h2
    rw [List.getElem_set]
    split
    · rename_i e
      subst e
      simp [List.getD_eq_getElem?_getD, hk, uIn]
    · rfl
theorem dgOk_setU (t : Txn) (k : Nat) (o : List UInt8) (n : Int) (v : Nat) (l : List UInt8) (h1 : mayT t = true) (h2 : mayT (setU t k o) = true) : dgOk (setU t k o) n v l = dgOk t n v l := by
  unfold dgOk
  rw [h1, h2, setU_len]
theorem dg_setU (t : Txn) (k : Nat) (o : List UInt8) (hk : k < t.ins.length) (n : Int) (x : List UInt8) (kk h v : Nat) (b : Bool) (l : List UInt8) (h1 : mayT t = true) (h2 : mayT (setU t k o) = true) : dgH (setU t k o) n x kk h v b l = dgH t n x kk h v b l ∧ dgE (setU t k o) n v l = dgE t n v l := by
  unfold dgH dgE dgB
  rw [dgOk_setU t k o n v l h1 h2, bare_setU t k o hk]
  exact ⟨rfl, rfl⟩
theorem icl_setU (i : Inp) (u v : Value) (o : List UInt8) (h : InOk i) : (icl i u).set 34 v = icl (uIn i o) v := by
  unfold icl
  have hl : (pcl i.x i.n i.h).length = 34 := by simp [pcl, bvs, h.1]
  rw [List.set_append_right _ _ (by omega), hl]
  rfl
theorem allE_setU {w W : World} {fs : List Value} {es : List Inp} (h : AllE inEl none w fs es) (hx : Nx w W) (k : Nat) (hk : k < es.length) (v : Value) (o : List UInt8) (hr : Rd W v o) : AllE inEl none W (fs.set (k * 35 + 34) v) (es.set k (uIn (es.getD k inZ) o)) := by
  refine ⟨by rw [List.length_set, List.length_set]; exact h.1, fun j hj => ?_⟩
  rw [List.length_set] at hj
  obtain ⟨u, hu, hok, hrd⟩ := h.2 j hj
  by_cases he : k = j
  · subst he
    rw [cut_set_same, hu, icl_setU _ _ _ o hok]
    have e : (es.set k (uIn (es.getD k inZ) o))[k]'(by simpa using hj) = uIn es[k] o := by simp [List.getD_eq_getElem?_getD, hj]
    rw [e]
    exact ⟨v, rfl, hok, hr, fun _ q hq => by cases hq⟩
  · rw [cut_set_other _ _ _ _ (Ne.symm he), List.getElem_set_ne he]
    exact ⟨u, hu, hok, hrd.nx hx⟩
theorem one_set {fs : List Value} (h : ∀ u ∈ fs, u.oneCell' = true) (p : Nat) (v : Value) (hv : v.oneCell' = true) : ∀ u ∈ fs.set p v, u.oneCell' = true := by
  intro u hu
  rcases List.mem_or_eq_of_mem_set hu with h1 | rfl
  · exact h u h1
  · exact hv
end Go.Proofs.YtnbonmkecmgphaaDoor
