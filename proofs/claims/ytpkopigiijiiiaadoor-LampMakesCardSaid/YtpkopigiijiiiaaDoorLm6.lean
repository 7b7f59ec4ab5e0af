/- LAYER 13: Open, the program's. -/
import Derived.Test.YtpkopigiijiiiaaDoorLm1
import Derived.Test.YtpkopigiijiiiaaDoorHs2
import Derived.Test.YtpkopigiijiiiaaDoorTb
import Derived.Test.YtpkopigiijiiiaaDoorTl
namespace Go.Proofs.YtpkopigiijiiiaaDoor
open Go Go.RowKit
set_option linter.unusedVariables false
set_option linter.unusedSimpArgs false
set_option linter.unusedVariables false
set_option linter.unusedSimpArgs false

/-- So many hashes of a list, and zeros. -/
def preH (F : Hs) (n k : Nat) : Hs := F.take k ++ hzs (n - k)
theorem preH_zero (F : Hs) (n : Nat) : preH F n 0 = hzs n := by simp [preH]
theorem preH_all (F : Hs) (n : Nat) (h : F.length = n) : preH F n n = F := by
  unfold preH
  rw [List.take_of_length_le (by omega)]
  simp [hzs]
theorem preH_length (F : Hs) (n k : Nat) (hk : k ≤ n) (h : F.length = n) : (preH F n k).length = n := by
  unfold preH
  rw [List.length_append, List.length_take, hzs_length]; omega
theorem preH_32 {F : Hs} (h : H32 F) (n k : Nat) : H32 (preH F n k) := (h.take k).append (hzs_32 _)
theorem preH_next (F : Hs) (n k : Nat) (hk : k < n) (h : F.length = n) (z : List UInt8) (hz : F[k]? = some z) : (preH F n k).set k z = preH F n (k + 1) := by
  obtain ⟨hb1, rfl⟩ := List.getElem?_eq_some_iff.1 hz
  unfold preH
  rw [List.take_succ_eq_append_getElem (by omega), List.set_append_right _ _ (by rw [List.length_take]; omega)]
  rw [show k - (F.take k).length = 0 by rw [List.length_take]; omega, show n - k = (n - (k + 1)) + 1 by omega, hzs_succ, List.set_cons_zero, List.append_assoc]
  rfl
theorem getD_cells {l : Hs} {w : World} {b o : Nat} (hc : ∀ j (hj : j < l.length) i u, (hcel l[j])[i]? = some u → w.cell? ⟨b, o + j * 32 + i, none⟩ = some u) (j : Nat) (hj : j < l.length) (i : Nat) (u : Value) (hu : (hcel (l.getD j []))[i]? = some u) : w.cell? ⟨b, o + j * 32 + i, none⟩ = some u := by
  refine hc j hj i u ?_
  rw [List.getD_eq_getElem?_getD, List.getElem?_eq_getElem hj] at hu
  exact hu

theorem wp_arr13 {P : Program} {o : Oper} {a : Act} {w : World} {K : Act → World → Prop} {Q : Exit → Act → World → Prop} (dst : Option Tmp) (hd : o.dst = dst) (ty : TypeId) (x : Operand) (ho : o.op = .sliceToArrayPointer ty x) (X v : Value) (hx : a.eval x = X)
    (hrun : (Instr.arrayAt ty X).run P w = .ok v w) (h : K (a.put dst v) w) : o.wp P a w K Q := by
  refine wp_val_of dst hd v ?_ h
  unfold execOp
  simp only [ho, hx]
  simp only [Sem.run_bind, hrun, Result.andThen_ok, Sem.run_pure]
theorem run_arr32 (b q c : Nat) (w : World) : (Instr.arrayAt 23 (.slice (some ⟨b, q, none⟩) 32 c)).run Tryd.prog w = .ok (.pointer (some ⟨b, q, none⟩)) w := by kernel_rfl
theorem run_arr (b q n c : Nat) (hn : n = 32) (w : World) : (Instr.arrayAt 23 (.slice (some ⟨b, q, none⟩) n c)).run Tryd.prog w = .ok (.pointer (some ⟨b, q, none⟩)) w := by
  subst hn
  exact run_arr32 b q c w
/-- A cut of a slice in a block. -/
theorem slice_in {P : Program} (t e : TypeId) (ht : P.underlying t = some (.slice e)) (hsz : ∀ w, (sizeOf e).run P w = .ok 1 w) (b q n c lo hi : Nat) (zl zh : Int) (hl : zl = lo) (hh : zh = hi) (h1 : lo ≤ hi) (h2 : hi ≤ c) (h3 : lo < c) (w : World) :
    (Instr.sliceAt t (.slice (some ⟨b, q, none⟩) n c) (some (.int .i64 zl)) (some (.int .i64 zh)) none).run P w = .ok (.slice (some ⟨b, q + lo, none⟩) (hi - lo) (c - lo)) w := by
  have := slice_cutV t e ht hsz (some ⟨b, q, none⟩) n c lo hi zl zh hl hh h1 h2 w
  unfold cutV at this
  rw [if_neg (by omega), Option.map_some, addr_add] at this
  exact this
def opL (g : Bs) : Hs := (List.range 32).map (opS g)
theorem opL_length (g : Bs) : (opL g).length = 32 := by simp [opL]
theorem opL_get (g : Bs) (k : Nat) (hk : k < 32) : (opL g)[k]? = some (opS g k) := by simp [opL, hk]
theorem opL_32 (g : Bs) (hg : g.length = 2048) : H32 (opL g) := fun x hx => by
  obtain ⟨k, hk, rfl⟩ := List.mem_map.1 hx
  exact opS_length g hg k (List.mem_range.1 hk)
/-- The cells of what is opened. -/
theorem opS_cells {w : World} {b q : Nat} {g : Bs} (hg : g.length = 2048) (h : ∀ j (h : j < g.length), w.cell? ⟨b, q + j, none⟩ = some (bv g[j])) (k : Nat) (hk : k < 32) : ∀ i u, (hcel (opS g k))[i]? = some u → w.cell? ⟨b, q + k * 64 + i, none⟩ = some u := by
  intro i u hu
  have hi : i < 32 := by
    have := (Array.getElem?_eq_some_iff.1 hu).1
    rwa [hcel_size, opS_length g hg k hk] at this
  rw [show q + k * 64 + i = q + (64 * k + i) by omega, h (64 * k + i) (by omega), ← hu, hcel_get _ i (by rw [opS_length g hg k hk]; exact hi)]
  simp [opS]

set_option maxHeartbeats 2000000 in
theorem open_no (v : Value) (g : Bs) (w : World) (hr : Rd w v g) (hg : g.length ≠ 2048) :
    Calls Tryd.prog 18 #[v] w fun e w' => e = .returned (.tuple #[.slice none 0 0, .int .i64 5]) ∧ Nx w w' := by
  have hgi : ((g.length : Int) != 2048) = true := by rw [bne_iff_ne]; omega
  obtain ⟨A, c, rfl, -, -, -⟩ := hr
  generalize g.length = n at *
  go_enter Tryd.func18, Tryd.ntmps18
  go_wp2
  exact bodyPost_ret (results_tmp2 Tryd.results18 _ _ _) rfl ⟨rfl, Nx.refl _⟩
set_option maxRecDepth 100000 in
set_option maxHeartbeats 4000000 in
theorem open_ok (v : Value) (g : Bs) (w : World) (hr : Rd w v g) (hg : g.length = 2048) :
    Calls Tryd.prog 18 #[v] w fun e w' => ∃ v', e = .returned (.tuple #[v', .int .i64 0]) ∧ OwnE elH w.heap.size w' v' (opL g) ∧ Nx w w' := by
  obtain ⟨A, c, rfl, hc, hm, ha⟩ := hr
  obtain ⟨b, q, rfl, hb, hcell⟩ := ha (by omega)
  have HG := Lib.hid hg
  have HCL := Lib.hid (fun W (h : Nx w W) k hk => opS_cells (b := b) (q := q) (g := g) HG.out (fun j hj => by rw [h.cell (p := ⟨b, q + j, none⟩) hb]; exact hcell j hj) k hk)
  have HL := Lib.hid (opL_length g)
  have H32L := Lib.hid (opL_32 g hg)
  have HGT := Lib.hid (opL_get g)
  have HSL := Lib.hid (fun k hk => opS_length g hg k hk)
  rw [hg] at hc ⊢
  have hmk : ∀ w, (Instr.makeSlice 32 (.int .i64 32) (.int .i64 32)).run Tryd.prog w = _ := fun w => run_mkh 32 (by decide) w
  clear ha hcell
  go_enter Tryd.func18, Tryd.ntmps18
  go_wp2_with fail
  have N0 := Lib.hid ((Nx.refl w).alloc (.cells (hfs (hzs 32)).toArray 23))
  have R0 : Row (w.alloc (.cells (hfs (hzs 32)).toArray 23)) w.heap.size (hfs (preH (opL g) 32 0)).toArray 23 := by rw [preH_zero]; exact Row.new _ _ _ _ rfl
  generalize hW : w.alloc (.cells (hfs (hzs 32)).toArray 23) = W at *
  clear hW hmk
  go_loopw [12] (fun i wr => ∃ k : Nat, k ≤ 32 ∧ i = .int .i64 (k : Int) ∧ Hid (Nx w wr) ∧ Row wr w.heap.size (hfs (preH (opL g) 32 k)).toArray 23) (fun i _ => 32 - (intOf i).toNat)
  case atStart => exact ⟨0, Nat.zero_le _, rfl, N0, R0⟩
  case round =>
    clear N0 R0
    obtain ⟨k, hk, rfl, HN, R⟩ := hrel
    by_cases hlt : k < 32
    · have hlti : (k : Int) < 32 := by omega
      have HX := Lib.hid (HCL.out wr HN.out k hlt)
      have hxl := HSL.out k hlt
      have HPN := Lib.hid (preH_next (opL g) 32 k hlt HL.out (opS g k) (HGT.out k hlt))
      have HP32 := Lib.hid (preH_32 H32L.out 32 k)
      have HPL := Lib.hid (preH_length (opL g) 32 k hk HL.out)
      have harr := fun w => run_arr32 b (q + k * 64) (c - k * 64) w
      generalize opS g k = X at *
      have Z1 := Lib.hid (hashsz X hxl)
      have LX := Lib.hid hxl
      have RR := R.setRow (hfs (preH (opL g) 32 (k + 1))).toArray
      have NN := Lib.hid (HN.out.setRow (hfs (preH (opL g) 32 (k + 1))).toArray (show w.heap.size ≤ w.heap.size from Nat.le_refl _))
      have EC := Lib.hid (hfs_hcel HP32.out k (by rw [HPL.out]; exact hlt) X hxl)
      go_wp2_with (first | (refine wpList_load_at rfl 23 (.tmp 24) rfl b (q + k * 64) rfl (hcel X) _ HX.out Tryd.underlying23 rfl Z1.out ?_) | (refine wpList_plain rfl fun K hK => wp_ix_of (some 26) rfl 32 23 (.tmp 15) (.tmp 16) rfl Tryd.underlying32 32 Tryd.sizeOf23 w.heap.size 0 32 32 k (k : Int) rfl rfl rfl hlt (hK _ _ ?_)) | (refine wpList_store_part rfl 23 (.tmp 26) (.tmp 25) rfl w.heap.size (0 + k * 32) (hcel X) rfl rfl 23 (hfs (preH (opL g) 32 k)).toArray R Z1.out (by rw [hcel_size, LX.out, List.size_toArray, hfs_length HP32.out, HPL.out]; omega) (hcel_one _) ?_; rw [Nat.zero_add (k * 32), EC.out, HPN.out]) | (refine wpList_store_part rfl 23 (.tmp 26) (.tmp 25) rfl w.heap.size (k * 32) (hcel X) rfl rfl 23 (hfs (preH (opL g) 32 k)).toArray R Z1.out (by rw [hcel_size, LX.out, List.size_toArray, hfs_length HP32.out, HPL.out]; omega) (hcel_one _) ?_; rw [EC.out, HPN.out]))
      go_roundw
      case rel => exact ⟨k + 1, by omega, by go_num, NN, RR⟩
      case measure => simp [intOf]; omega
    · obtain rfl : k = 32 := by omega
      rw [preH_all (opL g) 32 HL.out] at R
      go_wp2_with fail
      exact bodyPost_ret (results_tmp2 Tryd.results18 _ _ _) rfl ⟨_, rfl, OwnE.of_row R H32L.out (Nat.le_refl _) HL.out.symm (by rw [HL.out]; decide), HN.out⟩
end Go.Proofs.YtpkopigiijiiiaaDoor
