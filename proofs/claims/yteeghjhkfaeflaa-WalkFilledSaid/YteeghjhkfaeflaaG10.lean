/- Fields of an object: all addresses, and what they hold. -/
import Derived.Test.YteeghjhkfaeflaaG08
import Derived.Test.YteeghjhkfaeflaaG09
namespace Go.Proofs
namespace Yteeghjhkfaeflaa
open Go.RowKit

theorem mk35 (n : Nat) (hn : n ≤ 1601) (W : World) : (Instr.makeSlice 29 (.int .i64 n) (.int .i64 n)).run Try.prog W = .ok (.slice (some ⟨W.heap.size, 0, none⟩) n n) (W.alloc (.cells (ic (List.replicate n 0)).toArray 3)) := by
  obtain ⟨i0, hi, hz0, hz1, hz2⟩ := info_parts info3
  have h := run_makeSlice (P := Try.prog) W 29 3 i0 (.int .i64 0) Try.underlying29 hi hz0 .i64 .i64 n n (by omega) (by omega) (by rw [hz1]; simp; omega) (by rw [hz2]; omega) (by omega)
  rw [hz1, Int.toNat_natCast] at h
  have e : (madeCells (Value.int .i64 0).cells (n * 1)).toList = ic (List.replicate n 0) := by
    rw [show (Value.int .i64 0).cells = #[.int .i64 0] from rfl, toList_madeCells_one, Nat.mul_one]; unfold ic; rw [List.map_replicate]
  have e' : madeCells (Value.int .i64 0).cells (n * 1) = (ic (List.replicate n 0)).toArray := by rw [← e, Array.toArray_toList]
  rw [e'] at h
  exact h
theorem made_int {W w : World} (hB : Below w.heap.size w W) (n : Nat) (hn : n ≤ 1601) : (W.alloc (.cells (ic (List.replicate n 0)).toArray 3)).ownsRow w.heap.size 3 1 (.slice (some ⟨W.heap.size, 0, none⟩) n n) n (ic (List.replicate n 0)) :=
  ⟨by simp [ic], .inr ⟨W.heap.size, n, _, rfl, hB.size, heap_alloc_new W _, Nat.le_refl _, by unfold maxLen; omega, by simp [ic], by simp [ic]⟩⟩
theorem irow_put {W w : World} {g n cap : Nat} {zs : List Int} (h : W.ownsRow w.heap.size 3 1 (.slice (some ⟨g, 0, none⟩) n cap) n (ic zs)) (hB : Below w.heap.size w W) (k : Nat) (z : Int) :
    (W.setCell ⟨g, k, none⟩ (.int .i64 z)).ownsRow w.heap.size 3 1 (.slice (some ⟨g, 0, none⟩) n cap) n (ic (zs.set k z)) ∧ Below w.heap.size w (W.setCell ⟨g, k, none⟩ (.int .i64 z)) := by
  obtain ⟨h1, h2⟩ := h.stored k (.int .i64 z)
  refine ⟨?_, hB.setCell (p := ⟨g, k, none⟩) (h.lt g rfl).1 _⟩
  have e : ic (zs.set k z) = (ic zs).set k (.int .i64 z) := by unfold ic; rw [List.map_set]
  rw [e]
  exact h1
theorem irow_cell {W : World} {B g n cap : Nat} {zs : List Int} (h : W.ownsRow B 3 1 (.slice (some ⟨g, 0, none⟩) n cap) n (ic zs)) (hn : zs.length = n) {k : Nat} (hk : k < n) : W.cell? ⟨g, k, none⟩ = some (.int .i64 (zs.getD k 0)) ∧ W.frozen? ⟨g, k, none⟩ = false := by
  refine ⟨?_, h.frozenAt k⟩
  rw [h.cellAt k (by omega), ic_get zs k (by omega)]
/-- the first j numbers of a list, and zeros -/
def filL (xs : List Int) (j : Nat) : List Int := xs.take j ++ List.replicate (xs.length - j) 0
theorem filL_length {xs : List Int} {j : Nat} (h : j ≤ xs.length) : (filL xs j).length = xs.length := by simp [filL]; omega
theorem filL_zero (xs : List Int) : filL xs 0 = List.replicate xs.length 0 := by simp [filL]
theorem filL_all (xs : List Int) : filL xs xs.length = xs := by simp [filL]
theorem filL_step {xs : List Int} {j : Nat} (h : j < xs.length) : (filL xs j).set j (xs.getD j 0) = filL xs (j + 1) := by
  have e : xs.length - j = (xs.length - (j + 1)) + 1 := by omega
  have e0 : j - (xs.take j).length = 0 := by simp; omega
  unfold filL
  rw [e, List.replicate_succ, List.set_append_right _ _ (by simp; omega), e0, List.set_cons_zero, List.take_add_one, List.getElem?_eq_getElem h, List.append_assoc]
  simp [List.getD_eq_getElem?_getD, h]
/-- a row of numbers that a call answers -/
def IAns (w : World) (R : List Int × Int) (e : Ending) (w' : World) : Prop := ∃ v, e = .returned (.tuple #[v, .int .i64 R.2]) ∧ w'.ownsRow w.heap.size 3 1 v R.1.length (ic R.1) ∧ Below w.heap.size w w'
/-- a box and a row of its own behind it -/
structure Fil (w W : World) (cs : Array Value) (t : TypeId) (n : Nat) (zs : List Int) : Prop where
  box : W.heap[w.heap.size]? = some (.cells cs t (0, 0))
  row : W.ownsRow w.heap.size 3 1 (.slice (some ⟨w.heap.size + 1, 0, none⟩) n n) n (ic zs)
  low : Below w.heap.size w W
  len : zs.length = n
theorem Fil.put {w W : World} {cs : Array Value} {t : TypeId} {n : Nat} {zs : List Int} (h : Fil w W cs t n zs) (k : Nat) (z : Int) : Fil w (W.setCell ⟨w.heap.size + 1, k, none⟩ (.int .i64 z)) cs t n (zs.set k z) := by
  obtain ⟨h1, h2⟩ := irow_put h.row h.low k z
  exact ⟨set_far _ (by omega) h.box, h1, h2, by rw [List.length_set]; exact h.len⟩
theorem Fil.new (w : World) (cs : Array Value) (t : TypeId) (n : Nat) (hn : n ≤ 1601) : Fil w ((w.alloc (.cells cs t)).alloc (.cells (ic (List.replicate n 0)).toArray 3)) cs t n (List.replicate n 0) := by
  have h := made_int (alloc_below w (.cells cs t)) n hn
  rw [World.size_alloc] at h
  exact ⟨keep_heap (alloc_below _ _) (heap_alloc_new w _), h, below_end (alloc_below w _) (alloc_below _ _), by simp⟩
set_option maxRecDepth 100000 in
set_option maxHeartbeats 1000000 in
theorem addresses51 (A : Option Addr) (n cap k : Nat) (X : Option Addr) (m : Nat) (w : World) (hk : k ≤ 1601) (hm : m ≤ 1601) :
    Calls Try.prog 65 #[fv A n cap k X m] w fun e w' => ∃ v, e = .returned v ∧ w'.ownsRow w.heap.size 3 1 v m (ic (upL k m)) ∧ Below w.heap.size w w' := by
  unfold fv
  have M := fun W => mk35 m hm W
  have hlen := upL_length k m
  have FZ := filL_zero (upL k m)
  rw [hlen] at FZ
  have F0 : Hid (Fil w ((w.alloc (.cells #[.slice A n cap, .int .i64 k, .slice X m m] 95)).alloc (.cells (ic (List.replicate m 0)).toArray 3)) #[.slice A n cap, .int .i64 k, .slice X m m] 95 m (filL (upL k m) 0)) :=
    Lib.hid (by rw [FZ]; exact Fil.new w _ 95 m hm)
  have FA := Lib.hid (filL_all (upL k m))
  rw [hlen] at FA
  have FS := Lib.hid (fun j (hj : j < m) => show (filL (upL k m) j).set j ((k : Int) + (j : Int)) = filL (upL k m) (j + 1) by
    rw [← upL_get k m j hj]; exact filL_step (by rw [hlen]; exact hj))
  clear hlen FZ
  generalize upL k m = up at *
  obtain ⟨c0, c1, c2⟩ := three_cells (heap_alloc_new w (.cells #[.slice A n cap, .int .i64 k, .slice X m m] 95))
  go_enter Try.func65, Try.ntmps65
  go_upto_region 2 with (fail)
  clear c0 c1 c2
  generalize (w.alloc (.cells #[.slice A n cap, .int .i64 k, .slice X m m] 95)).alloc (.cells (ic (List.replicate m 0)).toArray 3) = W1 at *
  go_wp2
  go_loopw [11] (fun i wr => ∃ j : Nat, j ≤ m ∧ i = .int .i64 j ∧ Hid (Fil w wr #[.slice A n cap, .int .i64 k, .slice X m m] 95 m (filL up j))) (fun i _ => m - (intOf i).toNat)
  case atStart => exact ⟨0, by omega, rfl, F0⟩
  case round =>
    obtain ⟨j, hj, rfl, F⟩ := hrel
    by_cases hlt : j < m
    · have hlt' : (j : Int) < (m : Int) := by omega
      have FN := Lib.hid (F.out.put j ((k : Int) + (j : Int)))
      rw [FS.out j hlt] at FN
      obtain ⟨c0, c1, c2⟩ := three_cells F.out.box
      obtain ⟨d, f⟩ := irow_cell F.out.row F.out.len hlt
      go_wp2
      refine ⟨⟨j + 1, by omega, by simp, FN⟩, ?_⟩
      show m - ((j : Int) + 1).toNat < m - ((j : Int)).toNat
      omega
    · have ek : j = m := by omega
      subst ek
      rw [FA.out] at F
      go_wp2
      exact bodyPost_ret (v := .slice (some ⟨w.heap.size + 1, 0, none⟩) j j) (by simp [results, Try.f65, go_sem]) rfl ⟨_, rfl, F.out.row, F.out.low⟩
set_option maxRecDepth 100000 in
set_option maxHeartbeats 1000000 in
theorem all54 (A : Option Addr) (n cap : Nat) (k : Int) (X : Option Addr) (zs : List Int) (hu : ∀ z ∈ zs, 0 ≤ z) (hm : zs.length ≤ 1601) (w : World) (h : WAt w (.slice X zs.length zs.length) zs) :
    Calls Try.prog 82 #[fv A n cap k X zs.length] w fun e w' => IAns w (adrsF zs) e w' := by
  obtain ⟨X', cap', e, hX⟩ := h
  simp only [Value.slice.injEq] at e
  obtain ⟨rfl, _, rfl⟩ := e
  have HX := Lib.hid hX
  unfold fv
  have M := fun W => mk35 zs.length hm W
  have F0 : Hid (Fil w ((w.alloc (.cells #[.slice A n cap, .int .i64 k, .slice X zs.length zs.length] 97)).alloc (.cells (ic (List.replicate zs.length 0)).toArray 3)) #[.slice A n cap, .int .i64 k, .slice X zs.length zs.length] 97 zs.length (filL zs 0)) :=
    Lib.hid (by rw [filL_zero]; exact Fil.new w _ 97 zs.length hm)
  have FA := Lib.hid (filL_all zs)
  have HU := Lib.hid hu
  obtain ⟨c0, c1, c2⟩ := three_cells (heap_alloc_new w (.cells #[.slice A n cap, .int .i64 k, .slice X zs.length zs.length] 97))
  have b0 := alloc_below w (.cells #[.slice A n cap, .int .i64 k, .slice X zs.length zs.length] 97)
  obtain ⟨e0, e1, e2⟩ := three_cells (keep_heap (alloc_below _ (.cells (ic (List.replicate zs.length 0)).toArray 3)) (heap_alloc_new w (.cells #[.slice A n cap, .int .i64 k, .slice X zs.length zs.length] 97)))
  clear hX hu
  go_enter Try.func82, Try.ntmps82
  go_upto_region 3 with (fail)
  clear c0 c1 c2 e0 e1 e2 b0
  generalize (w.alloc (.cells #[.slice A n cap, .int .i64 k, .slice X zs.length zs.length] 97)).alloc (.cells (ic (List.replicate zs.length 0)).toArray 3) = W1 at *
  go_loopw [18] (fun i wr => ∃ j : Nat, j ≤ zs.length ∧ i = .int .i64 j ∧ Hid (∀ i, i < j → zs.getD i 0 ≤ 1600) ∧ Hid (Fil w wr #[.slice A n cap, .int .i64 k, .slice X zs.length zs.length] 97 zs.length (filL zs j))) (fun i _ => zs.length - (intOf i).toNat)
  case atStart => exact ⟨0, by omega, rfl, Lib.hid (fun i hi => by omega), F0⟩
  case round =>
    obtain ⟨j, hj, rfl, HA, F⟩ := hrel
    by_cases hlt : j < zs.length
    · have hlt' : (j : Int) < (zs.length : Int) := by omega
      obtain ⟨b, off, rfl, hc⟩ := HX.out (by omega)
      have hd := hc j _ (wc_get zs j hlt)
      have dx := (F.out.low.cell (p := ⟨b, off + j, none⟩) (cell_lt hd)).trans hd
      have h0 : 0 ≤ zs.getD j 0 := HU.out _ (by rw [List.getD_eq_getElem?_getD, List.getElem?_eq_getElem hlt]; exact List.getElem_mem hlt)
      have AD := Lib.hid (fun W => address65 (zs.getD j 0) h0 W)
      have FN := Lib.hid (F.out.put j (zs.getD j 0))
      rw [filL_step hlt] at FN
      obtain ⟨c0, c1, c2⟩ := three_cells F.out.box
      obtain ⟨d, f⟩ := irow_cell F.out.row F.out.len hlt
      by_cases hz : 1600 < zs.getD j 0
      · rw [show adrF (zs.getD j 0) = (0, 6) from if_pos hz] at AD
        have T := Lib.hid (show adrsF zs = ([], 6) from if_neg (by
          simp only [List.all_eq_true, decide_eq_true_eq]
          intro hn
          have := hn _ (List.getElem_mem hlt)
          rw [List.getD_eq_getElem?_getD, List.getElem?_eq_getElem hlt] at hz
          simp only [Option.getD_some] at hz
          omega))
        clear hc hd hz h0 FN
        generalize zs.getD j 0 = z at *
        go_wp2_with (go_at_call 89; refine (AD.out _).mono ?_; rintro e w2 ⟨rfl, rfl⟩)
        exact bodyPost_ret (v := .tuple #[.slice none 0 0, .int .i64 6]) (by simp [results, Try.f82, go_sem]) rfl ⟨.slice none 0 0, by rw [T.out], by rw [T.out]; exact World.ownsRow_nil _ _ _ _, F.out.low⟩
      · rw [show adrF (zs.getD j 0) = (zs.getD j 0, 0) from if_neg hz] at AD
        have HN : Hid (∀ i, i < j + 1 → zs.getD i 0 ≤ 1600) := Lib.hid (fun i hi => by
          rcases Nat.lt_succ_iff_lt_or_eq.1 hi with h | rfl
          · exact HA.out i h
          · omega)
        clear hc hd hz h0
        generalize zs.getD j 0 = z at *
        go_wp2_with (go_at_call 89; refine (AD.out _).mono ?_; rintro e w2 ⟨rfl, rfl⟩)
        refine ⟨⟨j + 1, by omega, by simp, HN, FN⟩, ?_⟩
        show zs.length - ((j : Int) + 1).toNat < zs.length - ((j : Int)).toNat
        omega
    · have ek : j = zs.length := by omega
      have T := Lib.hid (show adrsF zs = (zs, 0) from if_pos (by
        simp only [List.all_eq_true, decide_eq_true_eq]
        intro z hz
        obtain ⟨i, hi, rfl⟩ := List.getElem_of_mem hz
        have := HA.out i (by omega)
        rw [List.getD_eq_getElem?_getD, List.getElem?_eq_getElem hi] at this
        exact this))
      have F' : Hid (Fil w wr #[.slice A n cap, .int .i64 k, .slice X zs.length zs.length] 97 zs.length zs) := Lib.hid (by have := F.out; rw [ek, filL_all] at this; exact this)
      have hlt' : ¬ (j : Int) < (zs.length : Int) := by omega
      clear F ek HA
      go_wp2
      exact bodyPost_ret (v := .tuple #[.slice (some ⟨w.heap.size + 1, 0, none⟩) zs.length zs.length, .int .i64 0]) (by simp [results, Try.f82, go_sem]) rfl ⟨_, by rw [T.out], by rw [T.out]; exact F'.out.row, F'.out.low⟩
end Yteeghjhkfaeflaa
end Go.Proofs
