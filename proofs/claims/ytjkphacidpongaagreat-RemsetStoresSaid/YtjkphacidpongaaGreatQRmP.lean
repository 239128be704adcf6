/- Remembered sets as plain functions: a config is five numbers, sets are N tables of cars and the nursery's. -/
import Derived.Test.YtjkphacidpongaaGreatG09
import Derived.Test.YtjkphacidpongaaGreatQCfRPlace
import Derived.Test.YtjkphacidpongaaGreatG13
namespace Go.Proofs
namespace YtjkphacidpongaaGreat
open Go.RowKit
open Cf (good plC plE chkE)

/-- a slot that may not be in the set of k -/
def badS (C N S K Q k a : Int) : Bool := plE C N S K Q a != 0 || (plC C N S K Q a == -1 || plC C N S K Q a == k)
/-- the error of a set -/
def wrongF (C N S K Q k : Int) (cs : List Int) : Int := if (chkF cs).2 ≠ 0 then (chkF cs).2 else if (srt cs).any (badS C N S K Q k) = true then 7 else 0
theorem wrong_1 {C N S K Q k : Int} {cs : List Int} (h : (chkF cs).2 ≠ 0) : wrongF C N S K Q k cs = (chkF cs).2 := by unfold wrongF; rw [if_pos h]
theorem wrong_2 {C N S K Q k : Int} {cs : List Int} (h : ¬ (chkF cs).2 ≠ 0) (h2 : (srt cs).any (badS C N S K Q k) = true) : wrongF C N S K Q k cs = 7 := by unfold wrongF; rw [if_neg h, if_pos h2]
theorem wrong_3 {C N S K Q k : Int} {cs : List Int} (h : ¬ (chkF cs).2 ≠ 0) (h2 : ¬ (srt cs).any (badS C N S K Q k) = true) : wrongF C N S K Q k cs = 0 := by unfold wrongF; rw [if_neg h, if_neg h2]
theorem any_at {p : Int → Bool} {l : List Int} {k : Nat} (hk : k < l.length) (h : p (l.getD k 0) = true) : l.any p = true := List.any_eq_true.2 ⟨_, getD_mem hk, h⟩
theorem any_none {p : Int → Bool} {l : List Int} (h : ∀ j, j < l.length → p (l.getD j 0) = false) : ¬ l.any p = true := fun h2 => by
  obtain ⟨x, hx, hp⟩ := List.any_eq_true.1 h2
  obtain ⟨i, hi, rfl⟩ := mem_getD hx
  rw [h i hi] at hp
  cases hp
/-- the first set that has an error -/
def wrongI (C N S K Q : Int) (n : Nat) (T : Nat → List Int) : Nat := least (fun j => wrongF C N S K Q (numS n j) (T j) != 0) (n + 1) 0
/-- what Check answers -/
def chkS (C N S K Q : Int) (n : Nat) (T : Nat → List Int) : Int × Int :=
  if ¬ good C N S K Q then (-2, 7) else if (n : Int) ≠ N then (-2, 6) else if wrongI C N S K Q n T = n + 1 then (0, 0) else (numS n (wrongI C N S K Q n T), wrongF C N S K Q (numS n (wrongI C N S K Q n T)) (T (wrongI C N S K Q n T)))
/-- what sets without an error are -/
structure OkS (C N S K Q : Int) (n : Nat) (T : Nat → List Int) : Prop where
  cfg : good C N S K Q
  len : (n : Int) = N
  sets : ∀ j, j ≤ n → wrongF C N S K Q (numS n j) (T j) = 0
theorem wrongI_le (C N S K Q : Int) (n : Nat) (T : Nat → List Int) : wrongI C N S K Q n T ≤ n + 1 := by have := least_le (fun j => wrongF C N S K Q (numS n j) (T j) != 0) (n + 1) 0; unfold wrongI; omega
theorem wrongI_at {C N S K Q : Int} {n : Nat} {T : Nat → List Int} (h : wrongI C N S K Q n T ≠ n + 1) : wrongF C N S K Q (numS n (wrongI C N S K Q n T)) (T (wrongI C N S K Q n T)) ≠ 0 := by
  have h1 := wrongI_le C N S K Q n T
  have := least_at (fun j => wrongF C N S K Q (numS n j) (T j) != 0) (n + 1) 0 (by unfold wrongI at *; omega)
  simpa [wrongI] using this
theorem wrongI_before {C N S K Q : Int} {n : Nat} {T : Nat → List Int} {j : Nat} (h : j < wrongI C N S K Q n T) : wrongF C N S K Q (numS n j) (T j) = 0 := by
  have := least_before (fun j => wrongF C N S K Q (numS n j) (T j) != 0) (n + 1) 0 j (Nat.zero_le _) h
  simpa using this
theorem wrongI_none {C N S K Q : Int} {n : Nat} {T : Nat → List Int} (h : ∀ j, j ≤ n → wrongF C N S K Q (numS n j) (T j) = 0) : wrongI C N S K Q n T = n + 1 := by
  have := least_none (fun j => wrongF C N S K Q (numS n j) (T j) != 0) (k := n + 1) (i := 0) (fun m _ hm => by simp [h m (by omega)])
  unfold wrongI; omega
theorem wrongI_eq {C N S K Q : Int} {n : Nat} {T : Nat → List Int} {i : Nat} (hi : i ≤ n) (h : wrongF C N S K Q (numS n i) (T i) ≠ 0) (hb : ∀ j, j < i → wrongF C N S K Q (numS n j) (T j) = 0) : wrongI C N S K Q n T = i := by
  unfold wrongI
  exact least_eq _ (Nat.zero_le _) (by omega) (by simpa using h) (fun m _ hm => by simp [hb m hm])
theorem chkS_bad {C N S K Q : Int} {n : Nat} {T : Nat → List Int} (h : ¬ good C N S K Q) : chkS C N S K Q n T = (-2, 7) := by unfold chkS; rw [if_pos h]
theorem chkS_len {C N S K Q : Int} {n : Nat} {T : Nat → List Int} (h : good C N S K Q) (h2 : (n : Int) ≠ N) : chkS C N S K Q n T = (-2, 6) := by unfold chkS; rw [if_neg (by simpa using h), if_pos h2]
theorem chkS_at {C N S K Q : Int} {n : Nat} {T : Nat → List Int} (h : good C N S K Q) (h2 : (n : Int) = N) {i : Nat} (hi : i ≤ n) (hw : wrongF C N S K Q (numS n i) (T i) ≠ 0) (hb : ∀ j, j < i → wrongF C N S K Q (numS n j) (T j) = 0) :
    chkS C N S K Q n T = (numS n i, wrongF C N S K Q (numS n i) (T i)) := by
  unfold chkS; rw [if_neg (by simpa using h), if_neg (by simpa using h2), wrongI_eq hi hw hb, if_neg (by omega)]
theorem chkS_ok {C N S K Q : Int} {n : Nat} {T : Nat → List Int} (h : good C N S K Q) (h2 : (n : Int) = N) (hb : ∀ j, j ≤ n → wrongF C N S K Q (numS n j) (T j) = 0) : chkS C N S K Q n T = (0, 0) := by
  unfold chkS; rw [if_neg (by simpa using h), if_neg (by simpa using h2), if_pos (wrongI_none hb)]
theorem OkS.chk {C N S K Q : Int} {n : Nat} {T : Nat → List Int} (h : OkS C N S K Q n T) : chkS C N S K Q n T = (0, 0) := chkS_ok h.cfg h.len h.sets
theorem ok_of_chk {C N S K Q : Int} {n : Nat} {T : Nat → List Int} (h : (chkS C N S K Q n T).2 = 0) : OkS C N S K Q n T := by
  by_cases h1 : good C N S K Q
  · by_cases h2 : (n : Int) = N
    · refine ⟨h1, h2, ?_⟩
      by_cases h3 : wrongI C N S K Q n T = n + 1
      · exact fun j hj => wrongI_before (by omega)
      · unfold chkS at h; rw [if_neg (by simpa using h1), if_neg (by simpa using h2), if_neg h3] at h
        exact absurd h (wrongI_at h3)
    · rw [chkS_len h1 h2] at h; cases h
  · rw [chkS_bad h1] at h; cases h
theorem wrong_good {C N S K Q k : Int} {cs : List Int} (h : wrongF C N S K Q k cs = 0) : Good cs := by
  by_cases h1 : (chkF cs).2 = 0
  · exact good_of_chk h1
  · rw [wrong_1 h1] at h; exact absurd h h1
theorem wrong_slot {C N S K Q k : Int} {cs : List Int} (h : wrongF C N S K Q k cs = 0) {a : Int} (h0 : 0 < a) (ha : a ∈ cs) : badS C N S K Q k a = false := by
  have hG := wrong_good h
  have h1 : ¬ (chkF cs).2 ≠ 0 := by rw [chk_of_good hG]; simp
  by_cases h2 : (srt cs).any (badS C N S K Q k) = true
  · rw [wrong_2 h1 h2] at h; cases h
  · rw [Bool.eq_false_iff]
    intro h3
    exact h2 (List.any_eq_true.2 ⟨a, hG.tab.mem_srt.2 ⟨h0, ha⟩, h3⟩)
theorem wrong_zero {C N S K Q k : Int} {cs : List Int} (hG : Good cs) (h : ∀ a, 0 < a → a ∈ cs → badS C N S K Q k a = false) : wrongF C N S K Q k cs = 0 := by
  refine wrong_3 (by rw [chk_of_good hG]; simp) fun h2 => ?_
  obtain ⟨a, ha, hb⟩ := List.any_eq_true.1 h2
  have := hG.tab.mem_srt.1 ha
  rw [h a this.1 this.2] at hb
  cases hb
/-- into which set a slot belongs; the error -/
def setF (C N S K Q slot target : Int) : Int × Int :=
  if plE C N S K Q slot ≠ 0 then (-2, plE C N S K Q slot) else if target = 0 then (-2, 0) else if plE C N S K Q target ≠ 0 then (-2, plE C N S K Q target)
  else if plC C N S K Q slot = -1 ∨ plC C N S K Q slot = plC C N S K Q target then (-2, 0) else (plC C N S K Q target, 0)
/-- which table is meant by a number -/
def atI (n : Nat) (k : Int) : Option Nat := if k = -1 then some n else if 0 ≤ k ∧ k < n then some k.toNat else none
def updT (T : Nat → List Int) (i : Nat) (cs : List Int) : Nat → List Int := fun j => if j = i then cs else T j
/-- a change of one set -/
def onT (n : Nat) (T : Nat → List Int) (k : Int) (f : List Int → List Int) : Nat → List Int := match atI n k with
  | some i => updT T i (f (T i))
  | none => T
def changeF (n : Nat) (T : Nat → List Int) (slot k l : Int) : Nat → List Int := onT n (onT n T k fun cs => dropF cs slot) l fun cs => addF cs slot
theorem car26 (C N S K Q a : Int) (w : World) :
    Calls Tryz.prog 81 #[.agg #[.int .i64 C, .int .i64 N, .int .i64 S, .int .i64 K, .int .i64 Q], .int .i64 a] w fun E w' => E = .returned (.tuple #[.int .i64 (plC C N S K Q a), .int .i64 (plE C N S K Q a)]) ∧ Below w.heap.size w w' :=
  Cf.car26_of C N S K Q a _ _ _ (Lib.hid (Cf.place28 C N S K Q a)) w
theorem car27 (C N S K Q a : Int) (w : World) :
    Calls Tryz.prog 35 #[.agg #[.int .i64 C, .int .i64 N, .int .i64 S, .int .i64 K, .int .i64 Q], .int .i64 a] w fun E w' => E = .returned (.tuple #[.int .i64 (plC C N S K Q a), .int .i64 (plE C N S K Q a)]) ∧ Below w.heap.size w w' :=
  Cf.car27_of C N S K Q a _ _ _ (Lib.hid (Cf.place29 C N S K Q a)) w
theorem plE_two (C N S K Q a : Int) : plE C N S K Q a = 0 ∨ plE C N S K Q a = 7 := by unfold Cf.plE; split <;> simp
theorem place_in {C N S K Q a : Int} (h : plE C N S K Q a = 0) : good C N S K Q ∧ 1 ≤ a ∧ a < 1 + S + N * C := by
  unfold Cf.plE at h
  split at h
  · rename_i h1; exact h1
  · cases h
theorem slot_range {C N S K Q a : Int} (h : plE C N S K Q a = 0) : 1 ≤ a ∧ a ≤ 1600 := by
  obtain ⟨⟨c0, c1, n0, n1, s0, s1, -⟩, h1, h2⟩ := place_in h
  have := Cf.mul_range (show 0 ≤ N by omega) n1 (show 0 ≤ C by omega) c1
  omega
theorem plC_ge (C N S K Q a : Int) : -1 ≤ plC C N S K Q a := by
  unfold Cf.plC
  split
  · rename_i h
    obtain ⟨⟨c0, c1, -⟩, h1, h2⟩ := h
    unfold Cf.placeC
    split
    · omega
    · have := Int.ediv_nonneg (show 0 ≤ a - (1 + S) by omega) (show 0 ≤ C by omega)
      omega
  · omega
theorem plC_lt {C N S K Q a : Int} (h : plE C N S K Q a = 0) : plC C N S K Q a < N := by
  obtain ⟨hg, h1, h2⟩ := place_in h
  have hp : Cf.placeOk C N S K Q a := ⟨hg, h1, h2⟩
  obtain ⟨c0, c1, n0, n1, -⟩ := hg
  unfold Cf.plC
  rw [if_pos hp]
  unfold Cf.placeC
  split
  · omega
  · exact Int.ediv_lt_of_lt_mul (by omega) (by omega)
end YtjkphacidpongaaGreat
end Go.Proofs
