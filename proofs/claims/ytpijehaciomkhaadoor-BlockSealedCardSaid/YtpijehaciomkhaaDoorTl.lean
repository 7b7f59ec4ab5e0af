/- TEXTS OF OUR OWN, IN ONE FILE. -/
import Derived.Test.YtpijehaciomkhaaDoorTk
import Derived.Test.YtpijehaciomkhaaDoorTb
import Derived.Test.YtpijehaciomkhaaDoorTj
import Derived.Test.YtpijehaciomkhaaDoorRows
import Derived.MakeChecks
section
namespace Go.Proofs.YtpijehaciomkhaaDoor
open Go.RowKit
set_option linter.unusedVariables false
set_option linter.unusedSimpArgs false

theorem wp_gen2 {P : Program} {c : Code} {Q : Exit → Act → World → Prop} {a : Act} {wr : World} (m n : Nat) (h : ∀ W, (∃ m n, W = (wr.drewN m).drewN n) → c.wp P Q a W) : c.wp P Q a ((wr.drewN m).drewN n) := h _ ⟨m, n, rfl⟩
theorem shift_row (a b c d e f g h x y : Value) :
    (((((((((#[a, b, c, d, e, f, g, h] : Array Value).setIfInBounds 7 g).setIfInBounds 6 f).setIfInBounds 5 e).setIfInBounds 4 d).setIfInBounds 3 c).setIfInBounds 2 b).setIfInBounds 1 a).setIfInBounds 4 y).setIfInBounds 0 x = #[x, a, b, c, y, e, f, g] := by kernel_rfl
theorem mul_byte (w x : Nat) (hw : w < 16777216) (hx : x < 256) : IntKind.u32.wrap (IntKind.u32.wrap (256 * (w : Int)) + (x : Int)) = ((256 * w + x : Nat) : Int) := by
  simp only [IntKind.wrap_u32']; omega

end Go.Proofs.YtpijehaciomkhaaDoor
end

section
namespace Go.Proofs.YtpijehaciomkhaaDoor
open Go.RowKit
set_option linter.unusedVariables false
set_option linter.unusedSimpArgs false

theorem beR_get (n : Nat) : ∀ (k i : Nat) (h : i < k), (beR n k)[i]? = some (UInt8.ofNat (n / 256 ^ (k - 1 - i)))
  | k + 1, 0, _ => by simp [beR]
  | k + 1, i + 1, h => by
    rw [beR, List.getElem?_cons_succ, beR_get n k i (by omega)]
    rw [show k - 1 - i = k + 1 - 1 - (i + 1) by omega]
theorem beR_take (n i : Nat) (h : i < 8) : (beR n 8).take (i + 1) = (beR n 8).take i ++ [UInt8.ofNat (n / 256 ^ (7 - i))] := by
  have hl : i < (beR n 8).length := by rw [beR_length]; exact h
  rw [List.take_succ_eq_append_getElem hl]
  have := beR_get n 8 i h
  rw [List.getElem?_eq_getElem hl, Option.some.injEq] at this
  rw [this]
theorem gap_more (n j : Nat) (h : j < gapN n) : (n + 1 + j) % 64 ≠ 56 := by unfold gapN at h; omega
theorem gap_done (n : Nat) : (n + 1 + gapN n) % 64 = 56 := by unfold gapN; omega
theorem gap_lt (n : Nat) : gapN n < 64 := by unfold gapN; omega

end Go.Proofs.YtpijehaciomkhaaDoor
end

section
namespace Go.Proofs.YtpijehaciomkhaaDoor
open Go.RowKit
set_option linter.unusedVariables false
set_option linter.unusedSimpArgs false

theorem Row.bl {w w' : World} {g B : Nat} {cs : Array Value} {t : TypeId} (h : Row w g cs t) (k : Below B w w') (hg : g < B) : Row w' g cs t := by
  unfold Row
  rw [k.block g hg]; exact h

def hasL : List Int := beginS.list ++ kL
end Go.Proofs.YtpijehaciomkhaaDoor
end

section
namespace Go.Proofs.YtpijehaciomkhaaDoor
open Go.RowKit
set_option linter.unusedVariables false
set_option linter.unusedSimpArgs false

/-- A cut of a slice. -/
def cutV (A : Option Addr) (c lo hi : Nat) : Value := .slice (if c = lo then A else A.map (·.add lo)) (hi - lo) (c - lo)
theorem slice_cutV {P : Program} (t e : TypeId) (ht : P.underlying t = some (.slice e)) (hsz : ∀ w, (sizeOf e).run P w = .ok 1 w) (A : Option Addr) (n c lo hi : Nat) (zl zh : Int) (hl : zl = lo) (hh : zh = hi) (h1 : lo ≤ hi) (h2 : hi ≤ c) (w : World) :
    (Instr.sliceAt t (.slice A n c) (some (.int .i64 zl)) (some (.int .i64 zh)) none).run P w = .ok (cutV A c lo hi) w := by
  subst hl hh
  have e1 : (lo : Int) ≤ (hi : Int) := by omega
  have e2 : (hi : Int) ≤ (c : Int) := by omega
  unfold cutV
  simp [Instr.sliceAt, Instr.slice, Instr.sureAddr, run_underlying ht, Instr.sliceBounds, run_sliceBound, hsz, e1, e2, h1, h2]
theorem cutV_rd {w : World} {A : Option Addr} {c : Nat} {l : List UInt8} (ha : At w A l) (hc : l.length ≤ c) (hm : c ≤ maxLen) (lo hi : Nat) (h1 : lo ≤ hi) (h2 : hi ≤ l.length) : Rd w (cutV A c lo hi) ((l.drop lo).take (hi - lo)) := by
  unfold cutV
  split
  · have e : (l.drop lo).take (hi - lo) = [] := by rw [List.drop_of_length_le (by omega), List.take_nil]
    rw [e, show hi - lo = 0 by omega]
    exact Rd.none0 w _ _ (by omega)
  · exact Rd.cut (c := c - lo) ha (i := lo) (m := hi - lo) (by omega) (by omega) (by omega)

theorem rounds_succ' (s : St) (l : List UInt8) (n : Nat) : s.rounds l (n + 1) = (s.rounds l n).round ((l.drop (64 * n)).take 64) := rfl
theorem hashL_get (s : St) (i : Nat) (h : i < 32) : (hashL s)[i]'(by rw [hashL_length]; exact h) = UInt8.ofNat ((s.list.getD (i / 4) 0).toNat / 256 ^ (3 - i % 4)) := by
  obtain ⟨a, b, c, d, e, f, g, k⟩ := s
  rcases (by omega : i = 0 ∨ i = 1 ∨ i = 2 ∨ i = 3 ∨ i = 4 ∨ i = 5 ∨ i = 6 ∨ i = 7 ∨ i = 8 ∨ i = 9 ∨ i = 10 ∨ i = 11 ∨ i = 12 ∨ i = 13 ∨ i = 14 ∨ i = 15 ∨ i = 16 ∨ i = 17 ∨ i = 18 ∨ i = 19 ∨ i = 20 ∨ i = 21 ∨ i = 22 ∨ i = 23 ∨ i = 24 ∨ i = 25 ∨ i = 26 ∨ i = 27 ∨ i = 28 ∨ i = 29 ∨ i = 30 ∨ i = 31) with rfl | rfl | rfl | rfl | rfl | rfl | rfl | rfl | rfl | rfl | rfl | rfl | rfl | rfl | rfl | rfl | rfl | rfl | rfl | rfl | rfl | rfl | rfl | rfl | rfl | rfl | rfl | rfl | rfl | rfl | rfl | rfl <;> rfl
/-- So many bytes of a hash, and zeros. -/
def hashZ (H : List UInt8) (k : Nat) : List UInt8 := H.take k ++ List.replicate (32 - k) 0
theorem hashZ_zero (H : List UInt8) : hashZ H 0 = List.replicate 32 0 := by simp [hashZ]
theorem hashZ_all (H : List UInt8) (h : H.length = 32) : hashZ H 32 = H := by
  unfold hashZ
  rw [List.take_of_length_le (by omega)]
  simp
theorem hashZ_length (H : List UInt8) (k : Nat) (hk : k ≤ 32) (h : H.length = 32) : (hashZ H k).length = 32 := by
  unfold hashZ
  rw [List.length_append, List.length_take, List.length_replicate]; omega
theorem hashZ_next (H : List UInt8) (k : Nat) (b : UInt8) (hk : k < 32) (h : H.length = 32) (hb : H[k]? = some b) : (hashZ H k).set k b = hashZ H (k + 1) := by
  obtain ⟨hb1, rfl⟩ := List.getElem?_eq_some_iff.1 hb
  unfold hashZ
  rw [List.take_succ_eq_append_getElem (by omega), List.set_append_right _ _ (by rw [List.length_take]; omega)]
  rw [show k - (H.take k).length = 0 by rw [List.length_take]; omega, show 32 - k = (32 - (k + 1)) + 1 by omega, List.replicate_succ, List.set_cons_zero, List.append_assoc]
  rfl
/-- A byte of a word. -/
theorem word_byte (x : Int) (p d : Nat) (hq : (d : Int) = 24 - 8 * (p : Int)) (hp : p < 4) (h : Wd x) :
    x / 2 ^ d % 256 = ((UInt8.ofNat (x.toNat / 256 ^ (3 - p))).toNat : Int) := by
  obtain ⟨h0, h1⟩ := h
  obtain ⟨n, rfl⟩ := Int.eq_ofNat_of_zero_le h0
  have e : d = 8 * (3 - p) := by omega
  rw [e, Int.toNat_natCast]
  exact u8_shr' n _ _ rfl

end Go.Proofs.YtpijehaciomkhaaDoor
end

section
namespace Go.Proofs.YtpijehaciomkhaaDoor
open Go.RowKit
set_option linter.unusedVariables false
set_option linter.unusedSimpArgs false
set_option maxRecDepth 20000

theorem run_mk1' (x : UInt8) (w : World) : (Instr.buildSlice 43 1 #[(0, .int .u8 (x.toNat : Int))]).run Tryd.prog w = .ok (.slice (some ⟨w.heap.size, 0, none⟩) 1 1) (w.alloc (.cells #[.int .u8 (x.toNat : Int)] 5)) := by kernel_rfl

end Go.Proofs.YtpijehaciomkhaaDoor
end

section
namespace Go.Proofs.YtpijehaciomkhaaDoor
open Go Go.RowKit
set_option linter.unusedVariables false
set_option linter.unusedSimpArgs false
set_option linter.unusedVariables false
set_option linter.unusedSimpArgs false

end Go.Proofs.YtpijehaciomkhaaDoor
end

section
namespace Go.Proofs.YtpijehaciomkhaaDoor
open Go Go.RowKit
set_option linter.unusedVariables false
set_option linter.unusedSimpArgs false

theorem kis_of_laid {W : World} (h : laidMetH Tryd.prog [("moneyer/sha.k", Rows.laid_moneyer_sha_k)] W) : KIs W := by
  rw [MakeChecks.laidMetH_plain _ _ _ (by kernel_rfl)] at h
  obtain ⟨ps, ⟨g, t, cs, fuel, p, q, hg, ht, hv, hd, _, _⟩, _, _⟩ := h
  obtain rfl := Option.some.inj ((show Tryd.prog.globalNamed "moneyer/sha.k" = some 1 by kernel_rfl).symm.trans hg)
  obtain rfl := Option.some.inj ((show (Tryd.prog.globals[1]?).map (·.type) = some 166 by kernel_rfl).symm.trans ht)
  obtain ⟨xs, m, _, ex, _, hl, hel⟩ := DataW.trod_array Tryd.underlying166 hd
  have c5 : Tryd.prog.cellsOf 24 = 1 := by kernel_rfl
  intro r hr
  have hE := hel r hr
  rw [c5, Nat.mul_one, List.getElem?_eq_getElem (by omega)] at hE
  obtain ⟨z, e1, e2, _⟩ := DataW.trod_int Tryd.underlying24 hE
  have hlen := kL_length
  have e3 : (xs.map (·.1)) = kL.map fun n => .lit (.int .u32 n) := (DataW.agg.inj (Prod.mk.inj ex).1).symm
  have e4 : (xs.map (·.1))[r]? = (kL.map fun n => (DataW.lit (.int .u32 n) : DataW Unit))[r]? := by rw [e3]
  rw [List.getElem?_map, List.getElem?_map, List.getElem?_eq_getElem (by omega : r < xs.length), List.getElem?_eq_getElem (by omega : r < kL.length), e2] at e4
  have hz : z = kL.getD r 0 := by
    simp only [Option.map_some, Option.some.injEq, DataW.lit.injEq, Lit.int.injEq, true_and] at e4
    rw [e4, List.getD, List.getElem?_eq_getElem (by omega : r < kL.length)]; rfl
  rw [World.var?_cell hg hv r, ← hz]
  have : cs.toList[r]? = some (.int .u32 z) := by
    have h0 : ((cs.toList.drop r).take 1)[0]? = some (.int .u32 z) := by rw [e1]; rfl
    simpa using h0
  simpa using this

end Go.Proofs.YtpijehaciomkhaaDoor
end
