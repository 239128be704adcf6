/- Fields of an object: the methods of fields, pointers and raws. -/
import Derived.Test.YtmgoonahpndfoaaObP
namespace Go.Proofs
namespace Ytmgoonahpndfoaa
open Go.RowKit

/-- what a call of fieldsOf answers -/
def fv (A : Option Addr) (n cap : Nat) (k : Int) (X : Option Addr) (m : Nat) : Value := .agg #[.slice A n cap, .int .i64 k, .slice X m m]
theorem run_part (A : Option Addr) (n cap k m : Nat) (h : k + m ≤ cap) (W : World) :
    (Instr.slice 22 (.slice A n cap) (some (.int .i64 k)) (some (.int .i64 ((k : Int) + (m : Int)))) (some (.int .i64 ((k : Int) + (m : Int))))).run Try.prog W = .ok (.slice (if m = 0 then A else A.map (·.add k)) m m) W := by
  obtain ⟨H, hH⟩ : ∃ H : Nat, H = k + m := ⟨_, rfl⟩
  have e : (k : Int) + (m : Int) = (H : Int) := by omega
  rw [e]
  have hz : (sizeOf 42).run Try.prog W = .ok 1 W := by kernel_rfl
  have b1 : (Instr.sliceBounds true n cap (some (.int .i64 (k : Int))) (some (.int .i64 (H : Int))) (some (.int .i64 (H : Int)))).run Try.prog W = .ok (k, H, H) W := by
    simp [Instr.sliceBounds, run_sliceBound, (by omega : (H : Int) ≤ (cap : Int)), (by omega : (k : Int) ≤ (H : Int))]
  simp only [Instr.slice, Sem.run_bind, run_underlying Try.underlying22, Result.andThen, b1, hz]
  by_cases hm : m = 0
  · subst hm
    obtain rfl : H = k := by omega
    simp
  · rw [if_neg hm, if_neg (by omega), show H - k = m by omega, Nat.mul_one]
    rfl
set_option maxRecDepth 100000 in
theorem fields64 (A : Option Addr) (n cap k m : Nat) (w : World) (hcap : n ≤ cap) (hk : k + m ≤ n) (hl : n ≤ 1601) :
    Calls Try.prog 64 #[.slice A n cap, .int .i64 k, .int .i64 m] w fun e w' => e = .returned (fv A n cap k (if m = 0 then A else A.map (·.add k)) m) ∧ Below w.heap.size w w' := by
  have R := fun W => run_part A n cap k m (by omega) W
  generalize (if m = 0 then A else A.map (·.add k)) = X at *
  go_enter Try.func64, Try.ntmps64
  go_wp2
  refine bodyPost_ret (v := fv A n cap k X m) (by simp [results, Try.f64, go_sem, fv]) rfl ⟨rfl, alloc_below w _⟩
def fchk (m : Nat) (f : Int) : Int := if 0 ≤ f ∧ f < m then 0 else 10
set_option maxRecDepth 100000 in
theorem check66 (A : Option Addr) (n cap : Nat) (k : Int) (X : Option Addr) (m : Nat) (f : Int) (w : World) :
    Calls Try.prog 66 #[fv A n cap k X m, .int .i64 f] w fun e w' => e = .returned (.int .i64 (fchk m f)) ∧ Below w.heap.size w w' := by
  unfold fv
  by_cases h1 : f < 0
  · have T := Lib.hid (show fchk m f = 10 from if_neg (by omega))
    have q1 : decide (f < 0) = true := decide_eq_true h1
    go_enter Try.func66, Try.ntmps66
    go_wp2
    go_ret
    exact ⟨by rw [T.out]; rfl, alloc_below w _⟩
  · have q1 : decide (f < 0) = false := decide_eq_false h1
    by_cases h2 : (m : Int) ≤ f
    · have T := Lib.hid (show fchk m f = 10 from if_neg (by omega))
      have q2 : decide ((m : Int) ≤ f) = true := decide_eq_true h2
      go_enter Try.func66, Try.ntmps66
      go_wp2
      go_ret
      exact ⟨by rw [T.out]; rfl, alloc_below w _⟩
    · have T := Lib.hid (show fchk m f = 0 from if_pos (by omega))
      have q2 : decide ((m : Int) ≤ f) = false := decide_eq_false h2
      go_enter Try.func66, Try.ntmps66
      go_wp2
      go_ret
      exact ⟨by rw [T.out]; rfl, alloc_below w _⟩
set_option maxRecDepth 100000 in
theorem address65 (z : Int) (h0 : 0 ≤ z) (w : World) :
    Calls Try.prog 65 #[.int .u64 z] w fun e w' => e = .returned (.tuple #[.int .i64 (adrF z).1, .int .i64 (adrF z).2]) ∧ w = w' := by
  by_cases h : 1600 < z
  · have q : decide (1600 < z) = true := decide_eq_true h
    have T := Lib.hid (show adrF z = (0, 6) from if_pos h)
    rw [T.out]
    go_enter Try.func65, Try.ntmps65
    go_wp2
    go_ret2
    exact ⟨rfl, rfl⟩
  · have q : decide (1600 < z) = false := decide_eq_false h
    have T := Lib.hid (show adrF z = (z, 0) from if_neg h)
    rw [T.out]
    go_enter Try.func65, Try.ntmps65
    go_wp2
    go_ret2
    exact ⟨rfl, rfl⟩
set_option maxRecDepth 100000 in
theorem read53 (A : Option Addr) (n cap : Nat) (k : Int) (X : Option Addr) (zs : List Int) (f : Int) (w : World) (h : WAt w (.slice X zs.length zs.length) zs) :
    Calls Try.prog 53 #[fv A n cap k X zs.length, .int .i64 f] w fun e w' => e = .returned (.tuple #[.int .u64 (rdF zs f).1, .int .i64 (rdF zs f).2]) ∧ Below w.heap.size w w' := by
  obtain ⟨X', cap', e, hX⟩ := h
  simp only [Value.slice.injEq] at e
  obtain ⟨rfl, _, rfl⟩ := e
  have C := Lib.hid (fun W => check66 A n cap k X zs.length f W)
  have b0 := Lib.hid (alloc_below w (.cells #[.slice A n cap, .int .i64 k, .slice X zs.length zs.length] 73))
  unfold fv at C ⊢
  by_cases hf : 0 ≤ f ∧ f < zs.length
  · obtain ⟨i, rfl⟩ : ∃ i : Nat, f = (i : Int) := ⟨f.toNat, by omega⟩
    have hi : i < zs.length := by omega
    rw [show fchk zs.length (i : Int) = 0 from if_pos hf] at C
    have T := Lib.hid (show rdF zs (i : Int) = (zs.getD i 0, 0) by unfold rdF; rw [if_pos hf, Int.toNat_natCast])
    obtain ⟨b, off, rfl, hc⟩ := hX (by omega)
    have hd := hc i _ (wc_get zs i hi)
    have D := Lib.hid (fun W (hb : Below w.heap.size w W) => (hb.cell (p := ⟨b, off + i, none⟩) (cell_lt hd)).trans hd)
    have hi' : (i : Int) < (zs.length : Int) := by omega
    rw [T.out]
    clear hf hX hc hd
    generalize zs.getD i 0 = z at *
    have n0 := heap_alloc_new w (.cells #[.slice A n cap, .int .i64 k, .slice (some ⟨b, off, none⟩) zs.length zs.length] 73)
    have hz := World.size_alloc w (.cells #[.slice A n cap, .int .i64 k, .slice (some ⟨b, off, none⟩) zs.length zs.length] 73)
    go_enter Try.func53, Try.ntmps53
    go_upto_region 1 with (fail)
    generalize w.alloc (.cells #[.slice A n cap, .int .i64 k, .slice (some ⟨b, off, none⟩) zs.length zs.length] 73) = W0 at *
    have c0 := cell_of_row _ _ 0 _ _ _ n0
    have c1 := cell_of_row _ _ 1 _ _ _ n0
    have c2 := cell_of_row _ _ 2 _ _ _ n0
    simp only [List.getElem?_toArray, List.getElem?_cons_zero, List.getElem?_cons_succ] at c0 c1 c2
    go_upto_region 2 with (go_at_call 66; refine (C.out _).mono ?_; rintro e w1 ⟨rfl, hb1⟩)
    have n1 := keep_heap hb1 n0
    have d2 := cell_of_row _ _ 2 _ _ _ n1
    simp only [List.getElem?_toArray, List.getElem?_cons_zero, List.getElem?_cons_succ] at d2
    have B1 := Lib.hid (below_end b0.out hb1)
    have d := D.out w1 B1.out
    clear n0 n1 c0 c1 c2 hb1
    go_wp2
    exact bodyPost_ret (v := .tuple #[.int .u64 z, .int .i64 0]) (by simp [results, Try.f53, go_sem]) rfl ⟨rfl, B1.out⟩
  · rw [show fchk zs.length f = 10 from if_neg hf] at C
    have T := Lib.hid (show rdF zs f = (0, 10) by unfold rdF; rw [if_neg hf])
    rw [T.out]
    clear hf hX
    go_enter Try.func53, Try.ntmps53
    go_wp2_with (go_at_call 66; refine (C.out _).mono ?_; rintro e w1 ⟨rfl, hb1⟩)
    exact bodyPost_ret (v := .tuple #[.int .u64 0, .int .i64 10]) (by simp [results, Try.f53, go_sem]) rfl ⟨rfl, below_end b0.out hb1⟩
end Ytmgoonahpndfoaa
end Go.Proofs
