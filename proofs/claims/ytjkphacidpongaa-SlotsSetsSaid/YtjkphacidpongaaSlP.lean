/- The tables of slots: what the document says, as plain functions on lists of numbers. -/
import Derived.Test.YtjkphacidpongaaProg
import Derived.WalkKit
import Derived.OwnWalk
import Derived.BigQuiet
import Derived.Deep.QuietTactic
import Derived.Lib.Hide
namespace Go.Proofs
namespace Ytjkphacidpongaa
open Go.RowKit

/-- the least number from i on, below i + k, at which p holds; i + k if there is none -/
def least (p : Nat → Bool) : Nat → Nat → Nat
  | 0, i => i
  | k + 1, i => if p i = true then i else least p k (i + 1)
theorem least_ge (p : Nat → Bool) : ∀ k i, i ≤ least p k i
  | 0, _ => Nat.le_refl _
  | k + 1, i => by
    unfold least
    split
    · exact Nat.le_refl _
    · exact Nat.le_trans (Nat.le_succ _) (least_ge p k (i + 1))
theorem least_le (p : Nat → Bool) : ∀ k i, least p k i ≤ i + k
  | 0, _ => Nat.le_refl _
  | k + 1, i => by
    unfold least
    split
    · omega
    · have := least_le p k (i + 1); omega
theorem least_before (p : Nat → Bool) : ∀ k i j, i ≤ j → j < least p k i → p j = false
  | 0, i, j, h, h2 => by unfold least at h2; omega
  | k + 1, i, j, h, h2 => by
    unfold least at h2
    split at h2
    · omega
    · rename_i hp
      rcases Nat.lt_or_ge i j with h3 | h3
      · exact least_before p k (i + 1) j h3 h2
      · obtain rfl : j = i := by omega
        simpa using hp
theorem least_at (p : Nat → Bool) : ∀ k i, least p k i < i + k → p (least p k i) = true
  | 0, i, h => by unfold least at h; omega
  | k + 1, i, h => by
    unfold least at h ⊢
    split
    · assumption
    · rename_i hp
      rw [if_neg hp] at h
      exact least_at p k (i + 1) (by omega)
theorem least_hit (p : Nat → Bool) (k i j : Nat) (h1 : i ≤ j) (h2 : p j = true) : least p k i ≤ j := by
  apply Classical.byContradiction
  intro h
  have := least_before p k i j h1 (by omega)
  rw [this] at h2
  cases h2
theorem least_eq (p : Nat → Bool) {k i j : Nat} (h1 : i ≤ j) (h2 : j < i + k) (h3 : p j = true) (h4 : ∀ m, i ≤ m → m < j → p m = false) : least p k i = j := by
  have a := least_hit p k i j h1 h3
  have b := least_ge p k i
  apply Classical.byContradiction
  intro h
  have c := h4 _ b (by omega)
  rw [least_at p k i (by omega)] at c
  cases c
theorem least_none (p : Nat → Bool) {k i : Nat} (h : ∀ m, i ≤ m → m < i + k → p m = false) : least p k i = i + k := by
  have a := least_le p k i
  have b := least_ge p k i
  apply Classical.byContradiction
  intro h2
  have c := h _ b (by omega)
  rw [least_at p k i (by omega)] at c
  cases c

/-- the place of the i-th cell of the path of a, in a table of n cells -/
def pos (a : Int) (n i : Nat) : Nat := ((a * 40503 + i) % n).toNat
/-- what it holds -/
def pv (cs : List Int) (a : Int) (i : Nat) : Int := cs.getD (pos a cs.length i) 0
def stopI (cs : List Int) (a : Int) : Nat := least (fun i => pv cs a i == a || pv cs a i == 0) cs.length 0
def freeI (cs : List Int) (a : Int) : Nat := least (fun i => decide (pv cs a i ≤ 0)) cs.length 0
def hasB (cs : List Int) (a : Int) : Bool := pv cs a (stopI cs a) == a
def putF (cs : List Int) (a : Int) : List Int := cs.set (pos a cs.length (freeI cs a)) a
def dropF (cs : List Int) (a : Int) : List Int := if hasB cs a = true then cs.set (pos a cs.length (stopI cs a)) (-1) else cs
def usedN (cs : List Int) : Nat := cs.countP (fun c => c != 0)
def addrN (cs : List Int) : Nat := cs.countP (fun c => decide (0 < c))
def crowd (cs : List Int) : Bool := decide (3 * cs.length < 4 * usedN cs)
def nums : List Int := (List.range 1600).map fun i : Nat => (i : Int) + 1
def srt (cs : List Int) : List Int := nums.filter fun x => decide (x ∈ cs)
def inF (f t : Int) (l : List Int) : List Int := l.filter fun x => decide (f ≤ x) && decide (x < t)
def anewN (cs : List Int) : Nat := if 3 * cs.length < 8 * (srt cs).length then 2 * cs.length else cs.length
def anewF (cs : List Int) : List Int := (srt cs).foldl putF (List.replicate (anewN cs) 0)
def addF (cs : List Int) (a : Int) : List Int := if hasB cs a = true then cs else if crowd (putF cs a) = true then anewF (putF cs a) else putF cs a
def purgeF (cs : List Int) (f t : Int) : List Int := cs.map fun c => if 0 < c ∧ f ≤ c ∧ c < t then -1 else c
def isPow (n : Nat) : Bool := [8, 16, 32, 64, 128, 256, 512, 1024, 2048, 4096, 8192].contains n
def cellErr (cs : List Int) (i : Nat) : Int := if cs.getD i 0 < -1 ∨ 1600 < cs.getD i 0 then 7 else if 0 < cs.getD i 0 ∧ cs.getD i 0 ∈ cs.take i then 8 else 0
def errI (cs : List Int) : Nat := least (fun i => cellErr cs i != 0) cs.length 0
def offB (cs : List Int) (i : Nat) : Bool := decide (0 < cs.getD i 0) && !hasB cs (cs.getD i 0)
def offI (cs : List Int) : Nat := least (offB cs) cs.length 0
def chkF (cs : List Int) : Int × Int :=
  if 8192 < cs.length then (-1, 3) else if isPow cs.length = false then (-1, 6) else
  if errI cs < cs.length then (errI cs, cellErr cs (errI cs)) else
  if crowd cs = true then (-1, 5) else
  if offI cs < cs.length then (offI cs, 6) else (0, 0)
def isA (a : Int) : Bool := decide (1 ≤ a) && decide (a ≤ 1600)

theorem isA_iff {a : Int} : isA a = true ↔ 1 ≤ a ∧ a ≤ 1600 := by simp [isA]
theorem mem_nums {x : Int} : x ∈ nums ↔ 1 ≤ x ∧ x ≤ 1600 := by
  simp only [nums, List.mem_map, List.mem_range]
  constructor
  · rintro ⟨i, hi, rfl⟩; omega
  · rintro ⟨h1, h2⟩; exact ⟨(x - 1).toNat, by omega, by omega⟩
theorem nums_sorted : nums.Pairwise (· < ·) := by
  unfold nums
  rw [List.pairwise_map]
  exact List.pairwise_lt_range.imp fun h => by omega
theorem mem_srt {cs : List Int} {x : Int} : x ∈ srt cs ↔ (1 ≤ x ∧ x ≤ 1600) ∧ x ∈ cs := by
  simp only [srt, List.mem_filter, mem_nums, decide_eq_true_eq]
theorem srt_sorted (cs : List Int) : (srt cs).Pairwise (· < ·) := nums_sorted.filter _
theorem srt_len (cs : List Int) : (srt cs).length ≤ 1600 := by
  refine Nat.le_trans (List.length_filter_le _ _) ?_
  simp [nums]
theorem sorted_count {l : List Int} (h : l.Pairwise (· < ·)) (x : Int) : l.count x ≤ 1 := by
  induction l with
  | nil => simp
  | cons y l ih =>
    obtain ⟨h1, h2⟩ := List.pairwise_cons.1 h
    rw [List.count_cons]
    by_cases hx : y = x
    · subst hx
      rw [List.count_eq_zero.2 (fun hm => by have := h1 _ hm; omega)]
      simp
    · have := ih h2
      simp [hx]; exact this
/-- two ascending lists with the same numbers are the same -/
theorem sorted_ext {l m : List Int} (hl : l.Pairwise (· < ·)) (hm : m.Pairwise (· < ·)) (h : ∀ x, x ∈ l ↔ x ∈ m) : l = m := by
  have hp : l.Perm m := by
    rw [List.perm_iff_count]
    intro x
    have a := sorted_count hl x
    have b := sorted_count hm x
    by_cases hx : x ∈ l
    · have c := List.count_pos_iff.2 hx
      have d := List.count_pos_iff.2 ((h x).1 hx)
      omega
    · rw [List.count_eq_zero.2 hx, List.count_eq_zero.2 (fun h2 => hx ((h x).2 h2))]
  exact List.Perm.eq_of_pairwise (le := fun a b => a < b) (fun a b _ _ h1 h2 => by omega) hl hm hp
/-- what a sort of a table's numbers gives, if none is there twice -/
theorem sort_eq {cs : List Int} (h : ∀ x, 0 < x → cs.count x ≤ 1) (f t : Int) :
    (cs.filter fun x => isA x && (decide (f ≤ x) && decide (x < t))).mergeSort (fun x y => decide (x ≤ y)) = inF f t (srt cs) := by
  have hs : (inF f t (srt cs)).Pairwise (· < ·) := (srt_sorted cs).filter _
  have hq : ((cs.filter fun x => isA x && (decide (f ≤ x) && decide (x < t))).mergeSort (fun x y => decide (x ≤ y))).Pairwise (fun a b => decide (a ≤ b) = true) :=
    List.pairwise_mergeSort (fun a b c h1 h2 => by simp only [decide_eq_true_eq] at *; omega) (fun a b => by simp only [Bool.or_eq_true, decide_eq_true_eq]; omega) _
  have hp := List.mergeSort_perm (cs.filter fun x => isA x && (decide (f ≤ x) && decide (x < t))) (fun x y => decide (x ≤ y))
  refine List.Perm.eq_of_pairwise (le := fun a b => decide (a ≤ b) = true) (fun a b _ _ h1 h2 => by simp only [decide_eq_true_eq] at *; omega) hq (hs.imp fun h => by simp only [decide_eq_true_eq]; omega) (hp.trans ?_)
  rw [List.perm_iff_count]
  intro x
  have e1 : x ∈ cs.filter (fun x => isA x && (decide (f ≤ x) && decide (x < t))) ↔ x ∈ inF f t (srt cs) := by
    simp only [inF, List.mem_filter, mem_srt, Bool.and_eq_true, isA_iff, decide_eq_true_eq]
    constructor
    · rintro ⟨h1, h2, h3⟩; exact ⟨⟨h2, h1⟩, h3⟩
    · rintro ⟨⟨h2, h1⟩, h3⟩; exact ⟨h1, h2, h3⟩
  by_cases hx : x ∈ inF f t (srt cs)
  · have a := sorted_count hs x
    have b := List.count_pos_iff.2 hx
    have c := List.count_pos_iff.2 (e1.2 hx)
    have hx1 : 0 < x := by
      have := e1.2 hx
      simp only [List.mem_filter, Bool.and_eq_true, isA_iff] at this
      omega
    have d := h x hx1
    have e := (List.filter_sublist (p := fun x => isA x && (decide (f ≤ x) && decide (x < t))) (l := cs)).count_le x
    omega
  · rw [List.count_eq_zero.2 hx, List.count_eq_zero.2 (fun h2 => hx (e1.1 h2))]
theorem inF_all (cs : List Int) : inF 1 1601 (srt cs) = srt cs := by
  unfold inF
  rw [List.filter_eq_self]
  intro x hx
  have := mem_srt.1 hx
  simp; omega
theorem srt_addr {cs : List Int} (hr : ∀ x ∈ cs, x ≤ 1600) (h : ∀ x, 0 < x → cs.count x ≤ 1) : (srt cs).length = addrN cs := by
  have := congrArg List.length (sort_eq h 1 1601)
  rw [inF_all, List.length_mergeSort] at this
  rw [← this, addrN, List.countP_eq_length_filter]
  congr 1
  apply List.filter_congr
  intro x hx
  have := hr x hx
  rw [Bool.eq_iff_iff]
  simp only [isA, Bool.and_eq_true, decide_eq_true_eq]
  omega
end Ytjkphacidpongaa
end Go.Proofs
