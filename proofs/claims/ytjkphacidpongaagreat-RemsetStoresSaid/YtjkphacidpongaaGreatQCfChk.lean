/- Check, both of them. -/
import Derived.Test.YtjkphacidpongaaGreatG10
import Derived.Laws.StructEq
import Derived.ChangeKeysEq
import Derived.Deep.RegionWith
namespace Go.Proofs
namespace YtjkphacidpongaaGreat
namespace Cf
open Go.RowKit

theorem flds23 : ∀ f ∈ (Tryz.prog.fieldsOf 23).toList, f.name ≠ "_" ∧ f.type = 3 := by
  have h : (Tryz.prog.fieldsOf 23).toList.all (fun f => decide (f.name ≠ "_") && f.type == 3) = true := by kernel_rfl
  intro f hf
  have := List.all_eq_true.1 h f hf
  simpa using this
theorem offs23 : (Tryz.prog.fieldsOf 23).toList.map (·.offset) = [0, 1, 2, 3, 4] := by kernel_rfl

theorem eqF23 (d : Nat) (W : World) (xs ys : List Int) : ∀ (fs : List Field), (∀ f ∈ fs, f.name ≠ "_" ∧ f.type = 3) → (∀ f ∈ fs, f.offset < xs.length ∧ f.offset < ys.length) →
    (Op.eqFields (d + 1) (cfgA xs) (cfgA ys) fs).run Tryz.prog W = .ok (fs.all fun f => xs.getD f.offset 0 == ys.getD f.offset 0) W := by
  intro fs
  induction fs with
  | nil => intro _ _; rfl
  | cons f fs ih =>
    intro h1 h2
    obtain ⟨hn, ht⟩ := h1 f (by simp)
    obtain ⟨hx, hy⟩ := h2 f (by simp)
    have P3 : Tryz.prog.plainKey 3 = true := by kernel_rfl
    have e1 : ∀ (zs : List Int), f.offset < zs.length → (part 3 (cfgA zs) f.offset).run Tryz.prog W = .ok (.int .i64 (zs.getD f.offset 0)) W := fun zs hz => run_part_plain W P3 (by
      simp [cfgA, List.getD_eq_getElem?_getD, hz])
    have e3 := run_equalIn_int (P := Tryz.prog) W d 3 .i64 .i64 (xs.getD f.offset 0) (ys.getD f.offset 0) Tryz.underlying3
    have ih' := ih (fun g hg => h1 g (by simp [hg])) (fun g hg => h2 g (by simp [hg]))
    rw [Op.eqFields]
    simp only [hn, ne_eq, not_false_eq_true, if_true, ht, Sem.run_bind, e1 xs hx, e1 ys hy, Result.andThen_ok, e3, Sem.run_ite, ih', List.all_cons]
    cases hq : (xs.getD f.offset 0 == ys.getD f.offset 0) <;> simp [Sem.run_pure]
theorem neq23 (a0 a1 a2 a3 a4 b0 b1 b2 b3 b4 : Int) (W : World) : (binOp .neq 23 (.agg (cfgA [a0, a1, a2, a3, a4])) (.agg (cfgA [b0, b1, b2, b3, b4]))).run Tryz.prog W = .ok (.bool (!(decide ([a0, a1, a2, a3, a4] = [b0, b1, b2, b3, b4])))) W := by
  rw [run_neq_struct, run_equalIn_agg W 9999 23 _ _ (by kernel_rfl) (by kernel_rfl)]
  have ho := offs23
  rw [eqF23 9998 W [a0, a1, a2, a3, a4] [b0, b1, b2, b3, b4] _ flds23 (by
    intro f hf
    have : f.offset ∈ (Tryz.prog.fieldsOf 23).toList.map (·.offset) := List.mem_map.2 ⟨f, hf, rfl⟩
    rw [ho] at this
    simp at this
    simp
    omega)]
  have e : ((Tryz.prog.fieldsOf 23).toList.all fun f => [a0, a1, a2, a3, a4].getD f.offset 0 == [b0, b1, b2, b3, b4].getD f.offset 0) = (((Tryz.prog.fieldsOf 23).toList.map (·.offset)).all fun i => [a0, a1, a2, a3, a4].getD i 0 == [b0, b1, b2, b3, b4].getD i 0) := by
    rw [List.all_map]; rfl
  rw [e, ho]
  simp [Bool.beq_eq_decide_eq]

/-- each number is as the document says -/
def good (C N S K Q : Int) : Prop := 8 ≤ C ∧ C ≤ 64 ∧ 7 ≤ N ∧ N ≤ 24 ∧ 4 ≤ S ∧ S ≤ 64 ∧ 1 ≤ K ∧ K ≤ 8 ∧ 2 ≤ Q ∧ Q ≤ 16
instance (C N S K Q : Int) : Decidable (good C N S K Q) := by unfold good; infer_instance
theorem clamp_iff (lo hi n : Int) (h : lo ≤ hi) : n = clampI lo hi n ↔ lo ≤ n ∧ n ≤ hi := by
  unfold clampI
  constructor
  · intro e
    rw [e]
    split <;> split <;> omega
  · intro e
    rw [if_neg (show ¬ n < lo by omega), if_neg (by omega)]
theorem good_iff (C N S K Q : Int) : [C, N, S, K, Q] = [clampI 8 64 C, clampI 7 24 N, clampI 4 64 S, clampI 1 8 K, clampI 2 16 Q] ↔ good C N S K Q := by
  simp only [List.cons.injEq, and_true, clamp_iff 8 64 C (by omega), clamp_iff 7 24 N (by omega), clamp_iff 4 64 S (by omega), clamp_iff 1 8 K (by omega), clamp_iff 2 16 Q (by omega), good]
  omega

theorem bcell {W w1 : World} (hb : Below W.heap.size W w1) : (∀ b o, b < W.heap.size → w1.cell? ⟨b, o, none⟩ = W.cell? ⟨b, o, none⟩) ∧ (∀ b o, b < W.heap.size → w1.frozen? ⟨b, o, none⟩ = W.frozen? ⟨b, o, none⟩) :=
  ⟨fun b o h => hb.cell (p := ⟨b, o, none⟩) h, fun b o h => hb.frozen (p := ⟨b, o, none⟩) h⟩

theorem near38' (C N S K Q : Int) (w : World) :
    Calls Tryz.prog 77 #[.agg #[.int .i64 C, .int .i64 N, .int .i64 S, .int .i64 K, .int .i64 Q]] w fun e w' => e = .returned (.agg #[.int .i64 (clampI 8 64 C), .int .i64 (clampI 7 24 N), .int .i64 (clampI 4 64 S), .int .i64 (clampI 1 8 K), .int .i64 (clampI 2 16 Q)]) ∧ Below w.heap.size w w' :=
  near38 C N S K Q w
theorem neq23' (a0 a1 a2 a3 a4 b0 b1 b2 b3 b4 : Int) (W : World) : (binOp .neq 23 (.agg #[.int .i64 a0, .int .i64 a1, .int .i64 a2, .int .i64 a3, .int .i64 a4]) (.agg #[.int .i64 b0, .int .i64 b1, .int .i64 b2, .int .i64 b3, .int .i64 b4])).run Tryz.prog W = .ok (.bool (!(decide ([a0, a1, a2, a3, a4] = [b0, b1, b2, b3, b4])))) W :=
  neq23 a0 a1 a2 a3 a4 b0 b1 b2 b3 b4 W

theorem below_drew_l {w w' : World} (hb : Below w.drew.heap.size w.drew w') : Below w.heap.size w w' := ⟨hb.os, hb.tape, hb.output, hb.size, hb.block⟩
theorem below_alloc_l {w w' : World} {o : Obj} (hb : Below (w.alloc o).heap.size (w.alloc o) w') : Below w.heap.size w w' :=
  ((Below.refl _ w).alloc (Nat.le_refl _) o).trans (hb.mono (by simp))

def chkE (C N S K Q : Int) : Int := if good C N S K Q then 0 else 7

set_option maxRecDepth 100000 in
set_option maxHeartbeats 1000000 in
theorem chk13_good (C N S K Q : Int) (hg : good C N S K Q) (w : World) :
    Calls Tryz.prog 40 #[.agg #[.int .i64 C, .int .i64 N, .int .i64 S, .int .i64 K, .int .i64 Q]] w fun e w' => e = .returned (.int .i64 0) ∧ Below w.heap.size w w' := by
  have hN : ∀ W, (binOp .neq 23 (.agg #[.int .i64 C, .int .i64 N, .int .i64 S, .int .i64 K, .int .i64 Q]) (.agg #[.int .i64 (clampI 8 64 C), .int .i64 (clampI 7 24 N), .int .i64 (clampI 4 64 S), .int .i64 (clampI 1 8 K), .int .i64 (clampI 2 16 Q)])).run Tryz.prog W = .ok (.bool false) W := fun W => by
    rw [neq23', decide_eq_true ((good_iff C N S K Q).2 hg)]; rfl
  go_enter Tryz.func40, Tryz.ntmps40
  go_wp2
  go_region_with (go_at_call 77; refine (near38' _ _ _ _ _ _).mono ?_; rintro e w1 ⟨rfl, hb1⟩; obtain ⟨hc1, hf1⟩ := bcell hb1)
  all_goals go_wp2
  all_goals go_ret
  all_goals refine ⟨rfl, ?_⟩
  all_goals first
    | exact below_alloc_l hb1
    | exact below_alloc_l (below_drew_l hb1)
    | exact (below_alloc_l hb1).drew
set_option maxRecDepth 100000 in
set_option maxHeartbeats 1000000 in
theorem chk13_bad (C N S K Q : Int) (hg : ¬ good C N S K Q) (w : World) :
    Calls Tryz.prog 40 #[.agg #[.int .i64 C, .int .i64 N, .int .i64 S, .int .i64 K, .int .i64 Q]] w fun e w' => e = .returned (.int .i64 7) ∧ Below w.heap.size w w' := by
  have hN : ∀ W, (binOp .neq 23 (.agg #[.int .i64 C, .int .i64 N, .int .i64 S, .int .i64 K, .int .i64 Q]) (.agg #[.int .i64 (clampI 8 64 C), .int .i64 (clampI 7 24 N), .int .i64 (clampI 4 64 S), .int .i64 (clampI 1 8 K), .int .i64 (clampI 2 16 Q)])).run Tryz.prog W = .ok (.bool true) W := fun W => by
    rw [neq23', decide_eq_false (fun h => hg ((good_iff C N S K Q).1 h))]; rfl
  go_enter Tryz.func40, Tryz.ntmps40
  go_wp2
  go_region_with (go_at_call 77; refine (near38' _ _ _ _ _ _).mono ?_; rintro e w1 ⟨rfl, hb1⟩; obtain ⟨hc1, hf1⟩ := bcell hb1)
  all_goals go_wp2
  all_goals go_ret
  all_goals refine ⟨rfl, ?_⟩
  all_goals first
    | exact below_alloc_l hb1
    | exact below_alloc_l (below_drew_l hb1)
    | exact (below_alloc_l hb1).drew
theorem chk13 (C N S K Q : Int) (w : World) :
    Calls Tryz.prog 40 #[.agg #[.int .i64 C, .int .i64 N, .int .i64 S, .int .i64 K, .int .i64 Q]] w fun e w' => e = .returned (.int .i64 (chkE C N S K Q)) ∧ Below w.heap.size w w' := by
  unfold chkE
  by_cases hg : good C N S K Q
  · rw [if_pos hg]; exact chk13_good C N S K Q hg w
  · rw [if_neg hg]; exact chk13_bad C N S K Q hg w

theorem in37_yes (n lo hi : Int) (h0 : lo ≤ n) (h1 : n ≤ hi) (w : World) : Calls Tryz.prog 79 #[.int .i64 n, .int .i64 lo, .int .i64 hi] w fun e w' => e = .returned (.bool true) ∧ w = w' := by
  have q : decide (lo ≤ n) = true := decide_eq_true h0
  have q1 : decide (n ≤ hi) = true := decide_eq_true h1
  go_enter Tryz.func79, Tryz.ntmps79
  go_wp2
  go_ret
  exact ⟨rfl, rfl⟩
theorem in37_no (n lo hi : Int) (h : n < lo ∨ hi < n) (w : World) : Calls Tryz.prog 79 #[.int .i64 n, .int .i64 lo, .int .i64 hi] w fun e w' => e = .returned (.bool false) ∧ w = w' := by
  by_cases h0 : lo ≤ n
  · have q : decide (lo ≤ n) = true := decide_eq_true h0
    have q1 : decide (n ≤ hi) = false := decide_eq_false (by omega)
    clear h
    go_enter Tryz.func79, Tryz.ntmps79
    go_wp2
    go_ret
    exact ⟨rfl, rfl⟩
  · have q : decide (lo ≤ n) = false := decide_eq_false h0
    clear h
    go_enter Tryz.func79, Tryz.ntmps79
    go_wp2
    go_ret
    exact ⟨rfl, rfl⟩

set_option maxRecDepth 100000 in
set_option maxHeartbeats 1000000 in
theorem chk14_good (C N S K Q : Int) (a0 : 8 ≤ C) (b0 : C ≤ 64) (a1 : 7 ≤ N) (b1 : N ≤ 24) (a2 : 4 ≤ S) (b2 : S ≤ 64) (a3 : 1 ≤ K) (b3 : K ≤ 8) (a4 : 2 ≤ Q) (b4 : Q ≤ 16) (w : World) :
    Calls Tryz.prog 42 #[.agg #[.int .i64 C, .int .i64 N, .int .i64 S, .int .i64 K, .int .i64 Q]] w fun e w' => e = .returned (.int .i64 0) ∧ Below w.heap.size w w' := by
  go_enter Tryz.func42, Tryz.ntmps42
  go_wp2_with (first
    | (go_at_call 79; refine (in37_yes _ _ _ ?_ ?_ _).mono ?_ <;> first | omega | (rintro e w' ⟨rfl, rfl⟩))
    | (go_at_call 79; refine (in37_no _ _ _ ?_ _).mono ?_ <;> first | omega | (rintro e w' ⟨rfl, rfl⟩)))
  go_ret
  exact ⟨rfl, below_alloc_l (Below.refl _ _)⟩
set_option maxRecDepth 100000 in
set_option maxHeartbeats 1000000 in
theorem chk14_bad0 (C N S K Q : Int) (n0 : C < 8 ∨ 64 < C) (w : World) :
    Calls Tryz.prog 42 #[.agg #[.int .i64 C, .int .i64 N, .int .i64 S, .int .i64 K, .int .i64 Q]] w fun e w' => e = .returned (.int .i64 7) ∧ Below w.heap.size w w' := by
  go_enter Tryz.func42, Tryz.ntmps42
  go_wp2_with (first
    | (go_at_call 79; refine (in37_yes _ _ _ ?_ ?_ _).mono ?_ <;> first | omega | (rintro e w' ⟨rfl, rfl⟩))
    | (go_at_call 79; refine (in37_no _ _ _ ?_ _).mono ?_ <;> first | omega | (rintro e w' ⟨rfl, rfl⟩)))
  go_ret
  exact ⟨rfl, below_alloc_l (Below.refl _ _)⟩
set_option maxRecDepth 100000 in
set_option maxHeartbeats 1000000 in
theorem chk14_bad1 (C N S K Q : Int) (a0 : 8 ≤ C) (b0 : C ≤ 64) (n1 : N < 7 ∨ 24 < N) (w : World) :
    Calls Tryz.prog 42 #[.agg #[.int .i64 C, .int .i64 N, .int .i64 S, .int .i64 K, .int .i64 Q]] w fun e w' => e = .returned (.int .i64 7) ∧ Below w.heap.size w w' := by
  go_enter Tryz.func42, Tryz.ntmps42
  go_wp2_with (first
    | (go_at_call 79; refine (in37_yes _ _ _ ?_ ?_ _).mono ?_ <;> first | omega | (rintro e w' ⟨rfl, rfl⟩))
    | (go_at_call 79; refine (in37_no _ _ _ ?_ _).mono ?_ <;> first | omega | (rintro e w' ⟨rfl, rfl⟩)))
  go_ret
  exact ⟨rfl, below_alloc_l (Below.refl _ _)⟩
set_option maxRecDepth 100000 in
set_option maxHeartbeats 1000000 in
theorem chk14_bad2 (C N S K Q : Int) (a0 : 8 ≤ C) (b0 : C ≤ 64) (a1 : 7 ≤ N) (b1 : N ≤ 24) (n2 : S < 4 ∨ 64 < S) (w : World) :
    Calls Tryz.prog 42 #[.agg #[.int .i64 C, .int .i64 N, .int .i64 S, .int .i64 K, .int .i64 Q]] w fun e w' => e = .returned (.int .i64 7) ∧ Below w.heap.size w w' := by
  go_enter Tryz.func42, Tryz.ntmps42
  go_wp2_with (first
    | (go_at_call 79; refine (in37_yes _ _ _ ?_ ?_ _).mono ?_ <;> first | omega | (rintro e w' ⟨rfl, rfl⟩))
    | (go_at_call 79; refine (in37_no _ _ _ ?_ _).mono ?_ <;> first | omega | (rintro e w' ⟨rfl, rfl⟩)))
  go_ret
  exact ⟨rfl, below_alloc_l (Below.refl _ _)⟩
set_option maxRecDepth 100000 in
set_option maxHeartbeats 1000000 in
theorem chk14_bad3 (C N S K Q : Int) (a0 : 8 ≤ C) (b0 : C ≤ 64) (a1 : 7 ≤ N) (b1 : N ≤ 24) (a2 : 4 ≤ S) (b2 : S ≤ 64) (n3 : K < 1 ∨ 8 < K) (w : World) :
    Calls Tryz.prog 42 #[.agg #[.int .i64 C, .int .i64 N, .int .i64 S, .int .i64 K, .int .i64 Q]] w fun e w' => e = .returned (.int .i64 7) ∧ Below w.heap.size w w' := by
  go_enter Tryz.func42, Tryz.ntmps42
  go_wp2_with (first
    | (go_at_call 79; refine (in37_yes _ _ _ ?_ ?_ _).mono ?_ <;> first | omega | (rintro e w' ⟨rfl, rfl⟩))
    | (go_at_call 79; refine (in37_no _ _ _ ?_ _).mono ?_ <;> first | omega | (rintro e w' ⟨rfl, rfl⟩)))
  go_ret
  exact ⟨rfl, below_alloc_l (Below.refl _ _)⟩
set_option maxRecDepth 100000 in
set_option maxHeartbeats 1000000 in
theorem chk14_bad4 (C N S K Q : Int) (a0 : 8 ≤ C) (b0 : C ≤ 64) (a1 : 7 ≤ N) (b1 : N ≤ 24) (a2 : 4 ≤ S) (b2 : S ≤ 64) (a3 : 1 ≤ K) (b3 : K ≤ 8) (n4 : Q < 2 ∨ 16 < Q) (w : World) :
    Calls Tryz.prog 42 #[.agg #[.int .i64 C, .int .i64 N, .int .i64 S, .int .i64 K, .int .i64 Q]] w fun e w' => e = .returned (.int .i64 7) ∧ Below w.heap.size w w' := by
  go_enter Tryz.func42, Tryz.ntmps42
  go_wp2_with (first
    | (go_at_call 79; refine (in37_yes _ _ _ ?_ ?_ _).mono ?_ <;> first | omega | (rintro e w' ⟨rfl, rfl⟩))
    | (go_at_call 79; refine (in37_no _ _ _ ?_ _).mono ?_ <;> first | omega | (rintro e w' ⟨rfl, rfl⟩)))
  go_ret
  exact ⟨rfl, below_alloc_l (Below.refl _ _)⟩
end Cf
end YtjkphacidpongaaGreat
end Go.Proofs
