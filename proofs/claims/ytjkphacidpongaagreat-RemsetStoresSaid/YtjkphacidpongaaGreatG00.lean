/- The tables of slots: what the document says, as plain functions on lists of numbers. -/
import Derived.Test.YtjkphacidpongaaGreatProg
import Derived.WalkKit
import Derived.OwnWalk
import Derived.BigQuiet
import Derived.Deep.QuietTactic
import Derived.Lib.Hide
import Derived.Laws.OwnMore
import Derived.Laws.Rows
import Derived.Deep.AppendLies
import Derived.Deep.RegionHeld3
import Derived.Deep.RegionWith
import Derived.Below
import Derived.RangeFuncBox
namespace Go.Proofs
namespace YtjkphacidpongaaGreat
open Go.RowKit

/-- the least number from i on, below i + k, at which p holds; i + k if there is none -/
def least (p : Nat → Bool) : Nat → Nat → Nat
  | 0, i => i
  | k + 1, i => if p i = true then i else least p k (i + 1)
theorem least_ge (p : Nat → Bool) : ∀ k i, i ≤ least p k i
  | 0, _ => Nat.le_refl _
  | k + 1, i => by
    unfold least
    split
    · exact Nat.le_refl _
    · exact Nat.le_trans (Nat.le_succ _) (least_ge p k (i + 1))
theorem least_le (p : Nat → Bool) : ∀ k i, least p k i ≤ i + k
  | 0, _ => Nat.le_refl _
  | k + 1, i => by
    unfold least
    split
    · omega
    · have := least_le p k (i + 1); omega
theorem least_before (p : Nat → Bool) : ∀ k i j, i ≤ j → j < least p k i → p j = false
  | 0, i, j, h, h2 => by unfold least at h2; omega
  | k + 1, i, j, h, h2 => by
    unfold least at h2
    split at h2
    · omega
    · rename_i hp
      rcases Nat.lt_or_ge i j with h3 | h3
      · exact least_before p k (i + 1) j h3 h2
      · obtain rfl : j = i := by omega
        simpa using hp
theorem least_at (p : Nat → Bool) : ∀ k i, least p k i < i + k → p (least p k i) = true
  | 0, i, h => by unfold least at h; omega
  | k + 1, i, h => by
    unfold least at h ⊢
    split
    · assumption
    · rename_i hp
      rw [if_neg hp] at h
      exact least_at p k (i + 1) (by omega)
theorem least_hit (p : Nat → Bool) (k i j : Nat) (h1 : i ≤ j) (h2 : p j = true) : least p k i ≤ j := by
  apply Classical.byContradiction
  intro h
  have := least_before p k i j h1 (by omega)
  rw [this] at h2
  cases h2
theorem least_eq (p : Nat → Bool) {k i j : Nat} (h1 : i ≤ j) (h2 : j < i + k) (h3 : p j = true) (h4 : ∀ m, i ≤ m → m < j → p m = false) : least p k i = j := by
  have a := least_hit p k i j h1 h3
  have b := least_ge p k i
  apply Classical.byContradiction
  intro h
  have c := h4 _ b (by omega)
  rw [least_at p k i (by omega)] at c
  cases c
theorem least_none (p : Nat → Bool) {k i : Nat} (h : ∀ m, i ≤ m → m < i + k → p m = false) : least p k i = i + k := by
  have a := least_le p k i
  have b := least_ge p k i
  apply Classical.byContradiction
  intro h2
  have c := h _ b (by omega)
  rw [least_at p k i (by omega)] at c
  cases c

/-- the place of the i-th cell of the path of a, in a table of n cells -/
def pos (a : Int) (n i : Nat) : Nat := ((a * 40503 + i) % n).toNat
/-- what it holds -/
def pv (cs : List Int) (a : Int) (i : Nat) : Int := cs.getD (pos a cs.length i) 0
def stopI (cs : List Int) (a : Int) : Nat := least (fun i => pv cs a i == a || pv cs a i == 0) cs.length 0
def freeI (cs : List Int) (a : Int) : Nat := least (fun i => decide (pv cs a i ≤ 0)) cs.length 0
def hasB (cs : List Int) (a : Int) : Bool := pv cs a (stopI cs a) == a
def putF (cs : List Int) (a : Int) : List Int := cs.set (pos a cs.length (freeI cs a)) a
def dropF (cs : List Int) (a : Int) : List Int := if hasB cs a = true then cs.set (pos a cs.length (stopI cs a)) (-1) else cs
def usedN (cs : List Int) : Nat := cs.countP (fun c => c != 0)
def addrN (cs : List Int) : Nat := cs.countP (fun c => decide (0 < c))
def crowd (cs : List Int) : Bool := decide (3 * cs.length < 4 * usedN cs)
def nums : List Int := (List.range 1600).map fun i : Nat => (i : Int) + 1
def srt (cs : List Int) : List Int := nums.filter fun x => decide (x ∈ cs)
def inF (f t : Int) (l : List Int) : List Int := l.filter fun x => decide (f ≤ x) && decide (x < t)
def anewN (cs : List Int) : Nat := if 3 * cs.length < 8 * (srt cs).length then 2 * cs.length else cs.length
def anewF (cs : List Int) : List Int := (srt cs).foldl putF (List.replicate (anewN cs) 0)
def addF (cs : List Int) (a : Int) : List Int := if hasB cs a = true then cs else if crowd (putF cs a) = true then anewF (putF cs a) else putF cs a
def purgeF (cs : List Int) (f t : Int) : List Int := cs.map fun c => if 0 < c ∧ f ≤ c ∧ c < t then -1 else c
def isPow (n : Nat) : Bool := [8, 16, 32, 64, 128, 256, 512, 1024, 2048, 4096, 8192].contains n
def cellErr (cs : List Int) (i : Nat) : Int := if cs.getD i 0 < -1 ∨ 1600 < cs.getD i 0 then 7 else if 0 < cs.getD i 0 ∧ cs.getD i 0 ∈ cs.take i then 8 else 0
def errI (cs : List Int) : Nat := least (fun i => cellErr cs i != 0) cs.length 0
def offB (cs : List Int) (i : Nat) : Bool := decide (0 < cs.getD i 0) && !hasB cs (cs.getD i 0)
def offI (cs : List Int) : Nat := least (offB cs) cs.length 0
def chkF (cs : List Int) : Int × Int :=
  if 8192 < cs.length then (-1, 3) else if isPow cs.length = false then (-1, 6) else
  if errI cs < cs.length then (errI cs, cellErr cs (errI cs)) else
  if crowd cs = true then (-1, 5) else
  if offI cs < cs.length then (offI cs, 6) else (0, 0)
def isA (a : Int) : Bool := decide (1 ≤ a) && decide (a ≤ 1600)

theorem isA_iff {a : Int} : isA a = true ↔ 1 ≤ a ∧ a ≤ 1600 := by simp [isA]
theorem mem_nums {x : Int} : x ∈ nums ↔ 1 ≤ x ∧ x ≤ 1600 := by
  simp only [nums, List.mem_map, List.mem_range]
  constructor
  · rintro ⟨i, hi, rfl⟩; omega
  · rintro ⟨h1, h2⟩; exact ⟨(x - 1).toNat, by omega, by omega⟩
theorem nums_sorted : nums.Pairwise (· < ·) := by
  unfold nums
  rw [List.pairwise_map]
  exact List.pairwise_lt_range.imp fun h => by omega
theorem mem_srt {cs : List Int} {x : Int} : x ∈ srt cs ↔ (1 ≤ x ∧ x ≤ 1600) ∧ x ∈ cs := by
  simp only [srt, List.mem_filter, mem_nums, decide_eq_true_eq]
theorem srt_sorted (cs : List Int) : (srt cs).Pairwise (· < ·) := nums_sorted.filter _
theorem srt_len (cs : List Int) : (srt cs).length ≤ 1600 := by
  refine Nat.le_trans (List.length_filter_le _ _) ?_
  simp [nums]
theorem sorted_count {l : List Int} (h : l.Pairwise (· < ·)) (x : Int) : l.count x ≤ 1 := by
  induction l with
  | nil => simp
  | cons y l ih =>
    obtain ⟨h1, h2⟩ := List.pairwise_cons.1 h
    rw [List.count_cons]
    by_cases hx : y = x
    · subst hx
      rw [List.count_eq_zero.2 (fun hm => by have := h1 _ hm; omega)]
      simp
    · have := ih h2
      simp [hx]; exact this
/-- two ascending lists with the same numbers are the same -/
theorem sorted_ext {l m : List Int} (hl : l.Pairwise (· < ·)) (hm : m.Pairwise (· < ·)) (h : ∀ x, x ∈ l ↔ x ∈ m) : l = m := by
  have hp : l.Perm m := by
    rw [List.perm_iff_count]
    intro x
    have a := sorted_count hl x
    have b := sorted_count hm x
    by_cases hx : x ∈ l
    · have c := List.count_pos_iff.2 hx
      have d := List.count_pos_iff.2 ((h x).1 hx)
      omega
    · rw [List.count_eq_zero.2 hx, List.count_eq_zero.2 (fun h2 => hx ((h x).2 h2))]
  exact List.Perm.eq_of_pairwise (le := fun a b => a < b) (fun a b _ _ h1 h2 => by omega) hl hm hp
/-- what a sort of a table's numbers gives, if none is there twice -/
theorem sort_eq {cs : List Int} (h : ∀ x, 0 < x → cs.count x ≤ 1) (f t : Int) :
    (cs.filter fun x => isA x && (decide (f ≤ x) && decide (x < t))).mergeSort (fun x y => decide (x ≤ y)) = inF f t (srt cs) := by
  have hs : (inF f t (srt cs)).Pairwise (· < ·) := (srt_sorted cs).filter _
  have hq : ((cs.filter fun x => isA x && (decide (f ≤ x) && decide (x < t))).mergeSort (fun x y => decide (x ≤ y))).Pairwise (fun a b => decide (a ≤ b) = true) :=
    List.pairwise_mergeSort (fun a b c h1 h2 => by simp only [decide_eq_true_eq] at *; omega) (fun a b => by simp only [Bool.or_eq_true, decide_eq_true_eq]; omega) _
  have hp := List.mergeSort_perm (cs.filter fun x => isA x && (decide (f ≤ x) && decide (x < t))) (fun x y => decide (x ≤ y))
  refine List.Perm.eq_of_pairwise (le := fun a b => decide (a ≤ b) = true) (fun a b _ _ h1 h2 => by simp only [decide_eq_true_eq] at *; omega) hq (hs.imp fun h => by simp only [decide_eq_true_eq]; omega) (hp.trans ?_)
  rw [List.perm_iff_count]
  intro x
  have e1 : x ∈ cs.filter (fun x => isA x && (decide (f ≤ x) && decide (x < t))) ↔ x ∈ inF f t (srt cs) := by
    simp only [inF, List.mem_filter, mem_srt, Bool.and_eq_true, isA_iff, decide_eq_true_eq]
    constructor
    · rintro ⟨h1, h2, h3⟩; exact ⟨⟨h2, h1⟩, h3⟩
    · rintro ⟨⟨h2, h1⟩, h3⟩; exact ⟨h1, h2, h3⟩
  by_cases hx : x ∈ inF f t (srt cs)
  · have a := sorted_count hs x
    have b := List.count_pos_iff.2 hx
    have c := List.count_pos_iff.2 (e1.2 hx)
    have hx1 : 0 < x := by
      have := e1.2 hx
      simp only [List.mem_filter, Bool.and_eq_true, isA_iff] at this
      omega
    have d := h x hx1
    have e := (List.filter_sublist (p := fun x => isA x && (decide (f ≤ x) && decide (x < t))) (l := cs)).count_le x
    omega
  · rw [List.count_eq_zero.2 hx, List.count_eq_zero.2 (fun h2 => hx (e1.1 h2))]
theorem inF_all (cs : List Int) : inF 1 1601 (srt cs) = srt cs := by
  unfold inF
  rw [List.filter_eq_self]
  intro x hx
  have := mem_srt.1 hx
  simp; omega
theorem srt_addr {cs : List Int} (hr : ∀ x ∈ cs, x ≤ 1600) (h : ∀ x, 0 < x → cs.count x ≤ 1) : (srt cs).length = addrN cs := by
  have := congrArg List.length (sort_eq h 1 1601)
  rw [inF_all, List.length_mergeSort] at this
  rw [← this, addrN, List.countP_eq_length_filter]
  congr 1
  apply List.filter_congr
  intro x hx
  have := hr x hx
  rw [Bool.eq_iff_iff]
  simp only [isA, Bool.and_eq_true, decide_eq_true_eq]
  omega
end YtjkphacidpongaaGreat
end Go.Proofs
/- Tables: what stays when a number is put into one, or dropped. -/
namespace Go.Proofs
namespace YtjkphacidpongaaGreat
open Go.RowKit

theorem pos_lt (a : Int) {n : Nat} (h : 0 < n) (i : Nat) : pos a n i < n := by
  unfold pos
  have h1 := Int.emod_nonneg (a * 40503 + i) (show (n : Int) ≠ 0 by omega)
  have h2 := Int.emod_lt_of_pos (a * 40503 + i) (show (0 : Int) < n by omega)
  omega
theorem pos_cast (a : Int) {n : Nat} (h : 0 < n) (i : Nat) : ((pos a n i : Nat) : Int) = (a * 40503 + i) % n := by
  unfold pos
  exact Int.toNat_of_nonneg (Int.emod_nonneg _ (by omega))
theorem pos_succ (a : Int) {n : Nat} (h : 0 < n) (i : Nat) : pos a n (i + 1) = (pos a n i + 1) % n := by
  have e : ((pos a n (i + 1) : Nat) : Int) = (((pos a n i + 1) % n : Nat) : Int) := by
    rw [pos_cast a h]
    simp only [Int.natCast_emod, Int.natCast_add, pos_cast a h, Int.emod_add_emod]
    congr 1
    simp
    omega
  omega
theorem pos_surj (a : Int) {n t : Nat} (h : t < n) : ∃ i, i < n ∧ pos a n i = t := by
  have h1 := Int.emod_nonneg ((t : Int) - a * 40503) (show (n : Int) ≠ 0 by omega)
  have h2 := Int.emod_lt_of_pos ((t : Int) - a * 40503) (show (0 : Int) < n by omega)
  refine ⟨(((t : Int) - a * 40503) % n).toNat, by omega, ?_⟩
  have e : ((pos a n (((t : Int) - a * 40503) % n).toNat : Nat) : Int) = t := by
    rw [pos_cast a (by omega), Int.toNat_of_nonneg h1, Int.add_emod, Int.emod_emod, ← Int.add_emod]
    rw [show a * 40503 + ((t : Int) - a * 40503) = t by omega]
    exact Int.emod_eq_of_lt (by omega) (by omega)
  omega
theorem getD_mem {cs : List Int} {i : Nat} (h : i < cs.length) : cs.getD i 0 ∈ cs := by
  simp [List.getD_eq_getElem?_getD, h]
theorem mem_getD {cs : List Int} {x : Int} (h : x ∈ cs) : ∃ i, i < cs.length ∧ cs.getD i 0 = x := by
  obtain ⟨i, hi, rfl⟩ := List.mem_iff_getElem.1 h
  exact ⟨i, hi, by simp [List.getD_eq_getElem?_getD, hi]⟩
theorem getD_set {cs : List Int} {p : Nat} {v : Int} (h : p < cs.length) (j : Nat) : (cs.set p v).getD j 0 = if j = p then v else cs.getD j 0 := by
  simp only [List.getD_eq_getElem?_getD, List.getElem?_set]
  by_cases e : j = p
  · subst e; simp [h]
  · simp [e, Ne.symm e]
theorem pv_set {cs : List Int} {p : Nat} {v : Int} (h : p < cs.length) (a : Int) (j : Nat) : pv (cs.set p v) a j = if pos a cs.length j = p then v else pv cs a j := by
  unfold pv
  rw [List.length_set, getD_set h]
theorem pv_mem {cs : List Int} (h : 0 < cs.length) (a : Int) (i : Nat) : pv cs a i ∈ cs := getD_mem (pos_lt a h i)
theorem zero_at {cs : List Int} (h : (0 : Int) ∈ cs) (a : Int) : ∃ z, z < cs.length ∧ pv cs a z = 0 := by
  obtain ⟨i, hi, e⟩ := mem_getD h
  obtain ⟨z, hz, e2⟩ := pos_surj a hi
  exact ⟨z, hz, by unfold pv; rw [e2, e]⟩
theorem stop_lt {cs : List Int} (h : (0 : Int) ∈ cs) (a : Int) : stopI cs a < cs.length := by
  obtain ⟨z, hz, e⟩ := zero_at h a
  exact Nat.lt_of_le_of_lt (least_hit _ _ _ z (Nat.zero_le _) (by simp [e])) hz
theorem stop_at {cs : List Int} (h : (0 : Int) ∈ cs) (a : Int) : pv cs a (stopI cs a) = a ∨ pv cs a (stopI cs a) = 0 := by
  have := least_at (fun i => pv cs a i == a || pv cs a i == 0) cs.length 0 (by have := stop_lt h a; unfold stopI at this; omega)
  unfold stopI
  simpa using this
theorem stop_before {cs : List Int} {a : Int} {j : Nat} (h : j < stopI cs a) : pv cs a j ≠ a ∧ pv cs a j ≠ 0 := by
  have := least_before (fun i => pv cs a i == a || pv cs a i == 0) _ _ j (Nat.zero_le _) h
  simpa using this
theorem free_lt {cs : List Int} (h : (0 : Int) ∈ cs) (a : Int) : freeI cs a < cs.length := by
  obtain ⟨z, hz, e⟩ := zero_at h a
  exact Nat.lt_of_le_of_lt (least_hit _ _ _ z (Nat.zero_le _) (by simp [e])) hz
theorem free_at {cs : List Int} (h : (0 : Int) ∈ cs) (a : Int) : pv cs a (freeI cs a) ≤ 0 := by
  have := least_at (fun i => decide (pv cs a i ≤ 0)) cs.length 0 (by have := free_lt h a; unfold freeI at this; omega)
  unfold freeI
  simpa using this
theorem free_before {cs : List Int} {a : Int} {j : Nat} (h : j < freeI cs a) : 0 < pv cs a j := by
  have := least_before (fun i => decide (pv cs a i ≤ 0)) _ _ j (Nat.zero_le _) h
  simpa using this
theorem free_stop {cs : List Int} {a : Int} (h : (0 : Int) ∈ cs) (hh : hasB cs a = false) : freeI cs a ≤ stopI cs a := by
  refine least_hit _ _ _ _ (Nat.zero_le _) ?_
  rcases stop_at h a with e | e
  · unfold hasB at hh; rw [e] at hh; simp at hh
  · simp [e]

/-- a number is on its path -/
def onPath (cs : List Int) (a : Int) : Prop := ∃ i, i < cs.length ∧ pv cs a i = a ∧ ∀ j, j < i → pv cs a j ≠ 0
theorem has_iff {cs : List Int} {a : Int} (h : (0 : Int) ∈ cs) : hasB cs a = true ↔ onPath cs a := by
  constructor
  · intro hh
    exact ⟨stopI cs a, stop_lt h a, by simpa [hasB] using hh, fun j hj => (stop_before hj).2⟩
  · rintro ⟨i, hi, e, hb⟩
    have h1 : stopI cs a ≤ i := least_hit _ _ _ i (Nat.zero_le _) (by simp [e])
    unfold hasB
    rcases stop_at h a with e2 | e2
    · simp [e2]
    · rcases Nat.lt_or_ge (stopI cs a) i with h2 | h2
      · exact absurd e2 (hb _ h2)
      · obtain rfl : stopI cs a = i := by omega
        simp [e]
/-- a table without the bound on what is used -/
structure Tab (cs : List Int) : Prop where
  lo : 8 ≤ cs.length
  hi : cs.length ≤ 8192
  rng : ∀ c ∈ cs, -1 ≤ c ∧ c ≤ 1600
  once : ∀ x, 0 < x → cs.count x ≤ 1
  path : ∀ x ∈ cs, 0 < x → onPath cs x
theorem onPath.mem {cs : List Int} {a : Int} (h : onPath cs a) : a ∈ cs := by
  obtain ⟨i, hi, e, -⟩ := h
  rw [← e]
  exact pv_mem (by omega) a i
theorem Tab.has {cs : List Int} (h : Tab cs) (h0 : (0 : Int) ∈ cs) {a : Int} (ha : 0 < a) : hasB cs a = true ↔ a ∈ cs :=
  (has_iff h0).trans ⟨onPath.mem, fun hm => h.path a hm ha⟩
theorem Tab.hasF {cs : List Int} (h : Tab cs) (h0 : (0 : Int) ∈ cs) {a : Int} (ha : 0 < a) : hasB cs a = false ↔ a ∉ cs := by
  rw [← h.has h0 ha]; simp
theorem Tab.srt_addr {cs : List Int} (h : Tab cs) : (srt cs).length = addrN cs := YtjkphacidpongaaGreat.srt_addr (fun x hx => (h.rng x hx).2) h.once
theorem Tab.sort_eq {cs : List Int} (h : Tab cs) (f t : Int) : (cs.filter fun x => isA x && (decide (f ≤ x) && decide (x < t))).mergeSort (fun x y => decide (x ≤ y)) = inF f t (srt cs) := YtjkphacidpongaaGreat.sort_eq h.once f t
theorem Tab.mem_srt {cs : List Int} (h : Tab cs) {x : Int} : x ∈ srt cs ↔ 0 < x ∧ x ∈ cs := by
  rw [YtjkphacidpongaaGreat.mem_srt]
  constructor
  · rintro ⟨h1, h2⟩; exact ⟨by omega, h2⟩
  · rintro ⟨h1, h2⟩; have := h.rng x h2; exact ⟨by omega, h2⟩
theorem zero_of_used {cs : List Int} (h : usedN cs < cs.length) : (0 : Int) ∈ cs := by
  apply Classical.byContradiction
  intro hn
  have : usedN cs = cs.length := by
    unfold usedN
    rw [List.countP_eq_length]
    intro a ha
    simp only [bne_iff_ne, ne_eq]
    rintro rfl
    exact hn ha
  omega
theorem addr_used (cs : List Int) : addrN cs ≤ usedN cs := by
  unfold addrN usedN
  refine List.countP_mono_left ?_
  intro x _ h
  simp only [decide_eq_true_eq] at h
  simp only [bne_iff_ne, ne_eq]
  omega
theorem getElem_getD {cs : List Int} {p : Nat} (h : p < cs.length) : cs[p] = cs.getD p 0 := by simp [List.getD_eq_getElem?_getD, h]
section put
variable {cs : List Int} {a : Int}
theorem put_len (cs : List Int) (a : Int) : (putF cs a).length = cs.length := by simp [putF]
theorem put_count (h : (0 : Int) ∈ cs) {x : Int} (hx : 0 < x) : (putF cs a).count x = cs.count x + if a = x then 1 else 0 := by
  have hl : pos a cs.length (freeI cs a) < cs.length := pos_lt a (List.length_pos_of_mem h) _
  have hv := free_at h a
  unfold pv at hv
  unfold putF
  rw [List.count_set hl, getElem_getD hl]
  rw [if_neg (by simp only [beq_iff_eq]; omega)]
  simp
theorem put_mem (h : (0 : Int) ∈ cs) {x : Int} (hx : 0 < x) : x ∈ putF cs a ↔ x = a ∨ x ∈ cs := by
  rw [← List.count_pos_iff, ← List.count_pos_iff, put_count h hx]
  by_cases e : a = x
  · subst e; simp
  · simp [e, Ne.symm e]
theorem put_used (h : (0 : Int) ∈ cs) (ha : 0 < a) : usedN (putF cs a) ≤ usedN cs + 1 ∧ usedN cs ≤ usedN (putF cs a) := by
  have hl : pos a cs.length (freeI cs a) < cs.length := pos_lt a (List.length_pos_of_mem h) _
  unfold putF usedN
  rw [List.countP_set hl, getElem_getD hl]
  rw [if_pos (show (a != 0) = true by simp only [bne_iff_ne, ne_eq]; omega)]
  split <;> omega
theorem put_addr (h : (0 : Int) ∈ cs) (ha : 0 < a) : addrN (putF cs a) = addrN cs + 1 := by
  have hl : pos a cs.length (freeI cs a) < cs.length := pos_lt a (List.length_pos_of_mem h) _
  have hv := free_at h a
  unfold pv at hv
  unfold putF addrN
  rw [List.countP_set hl, getElem_getD hl]
  rw [if_neg (by simp only [decide_eq_true_eq]; omega), if_pos (by simpa using ha)]
  omega
theorem put_tab (hT : Tab cs) (h : (0 : Int) ∈ cs) (ha : 1 ≤ a ∧ a ≤ 1600) (hn : a ∉ cs) : Tab (putF cs a) := by
  have hl : pos a cs.length (freeI cs a) < cs.length := pos_lt a (List.length_pos_of_mem h) _
  have hv := free_at h a
  refine ⟨by rw [put_len]; exact hT.lo, by rw [put_len]; exact hT.hi, ?_, ?_, ?_⟩
  · intro c hc
    rcases List.mem_or_eq_of_mem_set hc with h1 | rfl
    · exact hT.rng c h1
    · omega
  · intro x hx
    rw [put_count h hx]
    have := hT.once x hx
    split
    · rename_i e; subst e; rw [List.count_eq_zero.2 hn]; omega
    · omega
  · intro x hx hx0
    rcases (put_mem h hx0).1 hx with rfl | h1
    · refine ⟨freeI cs x, by rw [put_len]; exact free_lt h x, ?_, fun j hj => ?_⟩
      · unfold putF; rw [pv_set hl, if_pos rfl]
      · unfold putF; rw [pv_set hl]
        have := free_before hj
        split <;> omega
    · obtain ⟨i, hi, e, hb⟩ := hT.path x h1 hx0
      refine ⟨i, by rw [put_len]; exact hi, ?_, fun j hj => ?_⟩
      · unfold putF; rw [pv_set hl, if_neg]
        · exact e
        · intro e2
          have : pv cs x i = pv cs a (freeI cs a) := by unfold pv; rw [e2]
          omega
      · unfold putF; rw [pv_set hl]
        have := hb j hj
        split <;> omega
end put
section drop
variable {cs : List Int} {a : Int}
theorem drop_len (cs : List Int) (a : Int) : (dropF cs a).length = cs.length := by unfold dropF; split <;> simp
theorem drop_no (h : hasB cs a = false) : dropF cs a = cs := by unfold dropF; rw [h]; rfl
theorem drop_yes (h : hasB cs a = true) : dropF cs a = cs.set (pos a cs.length (stopI cs a)) (-1) := by unfold dropF; rw [h]; rfl
theorem drop_mem (hT : Tab cs) (h : (0 : Int) ∈ cs) (ha : 0 < a) {x : Int} (hx : 0 < x) : x ∈ dropF cs a ↔ x ∈ cs ∧ x ≠ a := by
  cases hh : hasB cs a with
  | false =>
    rw [drop_no hh]
    have := (hT.hasF h ha).1 hh
    exact ⟨fun h1 => ⟨h1, fun e => this (e ▸ h1)⟩, And.left⟩
  | true =>
    have hl : pos a cs.length (stopI cs a) < cs.length := pos_lt a (List.length_pos_of_mem h) _
    have e1 : cs.getD (pos a cs.length (stopI cs a)) 0 = a := by simpa [hasB, pv] using hh
    rw [drop_yes hh, ← List.count_pos_iff, List.count_set hl, getElem_getD hl, e1, ← List.count_pos_iff (l := cs)]
    rw [if_neg (show ¬ ((-1 : Int) == x) = true by simp only [beq_iff_eq]; omega)]
    have := hT.once x hx
    by_cases e : a = x
    · subst e; simp; omega
    · simp [e, Ne.symm e]
theorem drop_used (h : (0 : Int) ∈ cs) (ha : 0 < a) : usedN (dropF cs a) = usedN cs := by
  cases hh : hasB cs a with
  | false => rw [drop_no hh]
  | true =>
    have hl : pos a cs.length (stopI cs a) < cs.length := pos_lt a (List.length_pos_of_mem h) _
    have e1 : cs.getD (pos a cs.length (stopI cs a)) 0 = a := by simpa [hasB, pv] using hh
    rw [drop_yes hh]
    unfold usedN
    rw [List.countP_set hl, getElem_getD hl, e1]
    rw [if_pos (show (a != 0) = true by simp only [bne_iff_ne, ne_eq]; omega), if_pos (by decide)]
    have : 0 < cs.countP (fun c => c != 0) := by
      rw [List.countP_pos_iff]
      exact ⟨a, by rw [← e1]; exact getD_mem hl, by simp only [bne_iff_ne, ne_eq]; omega⟩
    omega
theorem drop_tab (hT : Tab cs) (h : (0 : Int) ∈ cs) (ha : 0 < a) : Tab (dropF cs a) := by
  cases hh : hasB cs a with
  | false => rw [drop_no hh]; exact hT
  | true =>
    have hl : pos a cs.length (stopI cs a) < cs.length := pos_lt a (List.length_pos_of_mem h) _
    have e1 : cs.getD (pos a cs.length (stopI cs a)) 0 = a := by simpa [hasB, pv] using hh
    have hm := fun {x : Int} (hx : 0 < x) => drop_mem (a := a) hT h ha hx
    rw [drop_yes hh] at hm ⊢
    refine ⟨by rw [List.length_set]; exact hT.lo, by rw [List.length_set]; exact hT.hi, ?_, ?_, ?_⟩
    · intro c hc
      rcases List.mem_or_eq_of_mem_set hc with h1 | rfl
      · exact hT.rng c h1
      · omega
    · intro x hx
      rw [List.count_set hl, if_neg (show ¬ ((-1 : Int) == x) = true by simp only [beq_iff_eq]; omega)]
      have := hT.once x hx
      omega
    · intro x hx hx0
      obtain ⟨h1, h2⟩ := (hm hx0).1 hx
      obtain ⟨i, hi, e, hb⟩ := hT.path x h1 hx0
      refine ⟨i, by rw [List.length_set]; exact hi, ?_, fun j hj => ?_⟩
      · rw [pv_set hl, if_neg]
        · exact e
        · intro e2
          have : pv cs x i = a := by unfold pv; rw [e2, e1]
          omega
      · rw [pv_set hl]
        have := hb j hj
        split <;> omega
end drop
end YtjkphacidpongaaGreat
end Go.Proofs
/- Lists of numbers in memory; the smallest facts on worlds. -/
namespace Go.Proofs
namespace YtjkphacidpongaaGreat
open Go.RowKit

theorem below_end {w W W' : World} (hB : Below w.heap.size w W) (h : Below W.heap.size W W') : Below w.heap.size w W' := hB.trans (h.mono hB.size)
theorem grown_of_below {a w : World} (h : Below a.heap.size a w) (row : Option Nat) : a.grownBy w row := ⟨h.os, h.tape, h.output, h.size, fun i hi _ => h.block i hi⟩
theorem own_below {w w' : World} {base size n : Nat} {e : TypeId} {v : Value} {xs : List Value} (h : w.ownsRow base e size v n xs) (hb : Below w.heap.size w w') : w'.ownsRow base e size v n xs :=
  h.kept (grown_of_below hb none) (by cases v.ownBlock <;> simp)
theorem own_mono {W : World} {B C e size n : Nat} {v : Value} {xs : List Value} (h : W.ownsRow C e size v n xs) (hBC : B ≤ C) : W.ownsRow B e size v n xs := by
  refine ⟨h.1, ?_⟩
  rcases h.2 with h | ⟨g, cap, cur, h1, h2, h3⟩
  · exact .inl h
  · exact .inr ⟨g, cap, cur, h1, by omega, h3⟩
theorem own_form {W : World} {base size n : Nat} {e : TypeId} {v : Value} {xs : List Value} (h : W.ownsRow base e size v n xs) : ∃ A cap, v = .slice A n cap := by
  rcases h.2 with ⟨rfl, h0⟩ | ⟨gg, cap, cur, rfl, _⟩
  · rw [h0]; exact ⟨none, 0, rfl⟩
  · exact ⟨_, cap, rfl⟩
theorem grown_set (W : World) (fb i : Nat) (v : Value) : W.grownBy (W.setCell ⟨fb, i, none⟩ v) (some fb) :=
  ⟨rfl, rfl, rfl, by simp [World.setCell], fun k _ hk => Below.heap_setCell W ⟨fb, i, none⟩ v k (fun e => hk (by rw [e]))⟩
theorem size_set (W : World) (a : Addr) (v : Value) : (W.setCell a v).heap.size = W.heap.size := by simp [World.setCell]
theorem below_drewN {B : Nat} {a w : World} (h : Below B a w) (n : Nat) : Below B a (w.drewN n) := ⟨h.os, h.tape, h.output, h.size, h.block⟩
theorem cell_lt {W : World} {p : Addr} {u : Value} (h : W.cell? p = some u) : p.block < W.heap.size := by
  unfold World.cell? at h
  apply Classical.byContradiction
  intro hn
  have : W.heap[p.block]? = none := by simp; omega
  rw [this] at h
  simp at h
theorem keep_cell {W W' : World} (hb : Below W.heap.size W W') {p : Addr} {u : Value} (h : W.cell? p = some u) : W'.cell? p = some u := (hb.cell (cell_lt h)).trans h
theorem keep_heap {W W' : World} (hb : Below W.heap.size W W') {b : Nat} {o : Obj} (h : W.heap[b]? = some o) : W'.heap[b]? = some o := (hb.block _ (Array.getElem?_eq_some_iff.1 h).1).trans h
theorem alloc_below (W : World) (o : Obj) : Below W.heap.size W (W.alloc o) := (Below.refl _ _).alloc (Nat.le_refl _) _
theorem set_row {W : World} {b : Nat} {cs : Array Value} {ty : TypeId} (h : W.heap[b]? = some (.cells cs ty (0, 0))) (i : Nat) (v : Value) : (W.setCell ⟨b, i, none⟩ v).heap[b]? = some (.cells (cs.setIfInBounds i v) ty (0, 0)) :=
  heap_setCell_same W b i cs ty v h
theorem set_far {W : World} {b c i : Nat} (v : Value) {o : Obj} (hne : c ≠ b) (h : W.heap[c]? = some o) : (W.setCell ⟨b, i, none⟩ v).heap[c]? = some o :=
  (Below.heap_setCell W ⟨b, i, none⟩ v c hne).trans h
theorem one_cell {W : World} {g : Nat} {x : Value} {t : TypeId} (h : W.heap[g]? = some (.cells #[x] t (0, 0))) : W.cell? ⟨g, 0, none⟩ = some x ∧ W.frozen? ⟨g, 0, none⟩ = false := by
  refine ⟨?_, frozen_of_row _ _ _ _ _ h⟩; rw [cell_of_row _ _ _ _ _ _ h]; rfl

def ic (zs : List Int) : List Value := zs.map (Value.int .i64)
theorem ic_length (zs : List Int) : (ic zs).length = zs.length := by simp [ic]
theorem ic_append (xs ys : List Int) : ic (xs ++ ys) = ic xs ++ ic ys := by simp [ic]
theorem ic_set (xs : List Int) (i : Nat) (z : Int) : ic (xs.set i z) = (ic xs).set i (.int .i64 z) := by simp [ic, List.map_set]
theorem ic_get (zs : List Int) (k : Nat) (h : k < zs.length) : (ic zs)[k]? = some (.int .i64 (zs.getD k 0)) := by
  simp [ic, List.getD_eq_getElem?_getD, List.getElem?_eq_getElem h]
theorem ic_one (xs : List Int) : ∀ u ∈ ic xs, u.oneCell' = true := by
  intro u hu
  simp only [ic, List.mem_map] at hu
  obtain ⟨p, _, rfl⟩ := hu
  rfl
theorem ic_len1 (xs : List Int) : (ic xs).length = xs.length * 1 := by rw [ic_length, Nat.mul_one]
/-- v is a slice whose cells are the numbers zs -/
def IAt (W : World) (v : Value) (zs : List Int) : Prop := ∃ A cap, v = .slice A zs.length cap ∧ (0 < zs.length → ∃ b off, A = some ⟨b, off, none⟩ ∧ ∀ j, j < zs.length → W.cell? ⟨b, off + j, none⟩ = some (.int .i64 (zs.getD j 0)))
theorem IAt.nil (W : World) : IAt W (.slice none 0 0) [] := ⟨none, 0, rfl, fun h => by simp at h⟩
theorem IAt.row {W : World} {g : Nat} {zs : List Int} {cap : Nat} (h : W.heap[g]? = some (.cells (ic zs).toArray 3 (0, 0))) : IAt W (.slice (some ⟨g, 0, none⟩) zs.length cap) zs := by
  refine ⟨_, cap, rfl, fun _ => ⟨g, 0, rfl, fun j hj => ?_⟩⟩
  rw [cell_of_row _ _ _ _ _ _ h, Nat.zero_add]
  simpa using ic_get zs j hj
theorem IAt.of_own {W : World} {base : Nat} {v : Value} {zs : List Int} (h : W.ownsRow base 3 1 v zs.length (ic zs)) : IAt W v zs := by
  rcases h.2 with ⟨rfl, h0⟩ | ⟨gg, cap, cur, rfl, _⟩
  · exact ⟨none, 0, by rw [h0], fun h => by omega⟩
  · refine ⟨_, cap, rfl, fun _ => ⟨gg, 0, rfl, fun j hj => ?_⟩⟩
    have := h.cells (g := gg) rfl j _ (ic_get zs j hj)
    rw [Nat.zero_add]
    have e : (⟨gg, 0, none⟩ : Addr).add j = ⟨gg, j, none⟩ := by unfold Addr.add; split <;> simp_all
    rwa [e] at this
theorem IAt.below {W W' : World} {v : Value} {zs : List Int} (h : IAt W v zs) (hb : Below W.heap.size W W') : IAt W' v zs := by
  obtain ⟨A, cap, rfl, h⟩ := h
  exact ⟨A, cap, rfl, fun h0 => let ⟨b, off, hA, hc⟩ := h h0; ⟨b, off, hA, fun j hj => (hb.cell (cell_lt (hc j hj))).trans (hc j hj)⟩⟩
/-- the blocks of the slice are not block g -/
theorem IAt.grown {W W' : World} {v : Value} {zs : List Int} {r : Option Nat} (h : IAt W v zs) (hg : W.grownBy W' r) (hr : ∀ A n c b off, v = .slice A n c → A = some ⟨b, off, none⟩ → r ≠ some b) : IAt W' v zs := by
  obtain ⟨A, cap, rfl, h⟩ := h
  exact ⟨A, cap, rfl, fun h0 => let ⟨b, off, hA, hc⟩ := h h0; ⟨b, off, hA, fun j hj => (World.cell?_of_block (hg.block b (cell_lt (hc j hj)) (fun e => hr _ _ _ b off rfl hA e.symm))).trans (hc j hj)⟩⟩

/-- v is a table of the call's own, all of its block: the cells are the numbers zs -/
def TAt (W : World) (g : Nat) (zs : List Int) : Prop := W.heap[g]? = some (.cells (ic zs).toArray 3 (0, 0))
/-- its value -/
def tv (g n : Nat) : Value := .slice (some ⟨g, 0, none⟩) n n
theorem TAt.lt {W : World} {g : Nat} {zs : List Int} (h : TAt W g zs) : g < W.heap.size := (Array.getElem?_eq_some_iff.1 h).1
theorem TAt.iat {W : World} {g : Nat} {zs : List Int} (h : TAt W g zs) : IAt W (tv g zs.length) zs := IAt.row h
theorem TAt.below {W W' : World} {g : Nat} {zs : List Int} (h : TAt W g zs) (hb : Below W.heap.size W W') : TAt W' g zs := keep_heap hb h
theorem TAt.keep {W W' : World} {g : Nat} {zs : List Int} {r : Option Nat} (h : TAt W g zs) (hg : W.grownBy W' r) (hr : r ≠ some g) : TAt W' g zs := (hg.block g h.lt (fun e => hr e.symm)).trans h
theorem TAt.cell {W : World} {g : Nat} {zs : List Int} (h : TAt W g zs) {k : Nat} (hk : k < zs.length) : W.cell? ⟨g, k, none⟩ = some (.int .i64 (zs.getD k 0)) ∧ W.frozen? ⟨g, k, none⟩ = false := by
  refine ⟨?_, frozen_of_row _ _ _ _ _ h⟩
  rw [cell_of_row _ _ _ _ _ _ h]
  simpa using ic_get zs k hk
theorem TAt.set {W : World} {g : Nat} {zs : List Int} (h : TAt W g zs) (k : Nat) (z : Int) : TAt (W.setCell ⟨g, k, none⟩ (.int .i64 z)) g (zs.set k z) := by
  have := set_row h k (.int .i64 z)
  unfold TAt
  rw [this, ic_set]
  simp
theorem TAt.own {W : World} {B g : Nat} {zs : List Int} (h : TAt W g zs) (hB : B ≤ g) (hl : zs.length ≤ maxLen) : W.ownsRow B 3 1 (tv g zs.length) zs.length (ic zs) :=
  ⟨by simp [ic], .inr ⟨g, zs.length, (ic zs).toArray, rfl, hB, h, Nat.le_refl _, hl, by simp [ic], by simp [ic, List.take_of_length_le]⟩⟩
theorem info3 : (Tryz.prog.info? 3).map (fun i => (i.zero, i.size, i.bytes)) = some (some (.int .i64 0), 1, 8) := by kernel_rfl
theorem push_int {ops : Array Oper} {rest : List Oper} {o : Oper} {a : Act} {Q : Exit → Act → World → Prop} {W W0 w : World} {v : Value} {zs : List Int} (hown : W.ownsRow w.heap.size 3 1 v zs.length (ic zs)) (hB : Below w.heap.size w W) (z : Int) (hgd : o.guard = none) (s x : Operand)
    (ho : o.op = .call { callee := .builtin .append, args := #[s, x], argTypes := #[25, 25] }) (hs : a.eval s = v) (H : Nat) (hx : a.eval x = .slice (some ⟨H, 0, none⟩) 1 1) (hH : H = W.heap.size)
    (hW : W0 = W.alloc (.cells #[.int .i64 z] 3)) (hl : zs.length + 1 ≤ 1000000)
    (h : ∀ v' W', W'.ownsRow w.heap.size 3 1 v' (zs ++ [z]).length (ic (zs ++ [z])) → Below w.heap.size w W' → W.heap.size ≤ W'.heap.size → wpList Tryz.prog ops Q rest (a.put o.dst v') W') : wpList Tryz.prog ops Q (o :: rest) a W0 := by
  subst hW
  subst hH
  obtain ⟨i0, hi, hz0, hz1, hz2⟩ := info_parts info3
  refine wpList_append_own _ hgd s x 25 ho w.heap.size 3 i0 _ 1 8 Tryz.underlying25 hi hz0 hz1 hz2 rfl (by decide) v zs.length (ic zs) hs (hown.alloc _) ⟨W.heap.size, 0, none⟩ 1 1 [.int .i64 z] hx rfl ?_ (by simp [Value.oneCell']) ?_ ?_ ?_ ?_
  · intro j u hj
    have e : (⟨W.heap.size, 0, none⟩ : Addr).add j = ⟨W.heap.size, j, none⟩ := by unfold Addr.add; split <;> simp_all
    rw [e, cell_of_row _ _ _ _ _ _ (heap_alloc_new W _)]
    simpa using hj
  · unfold maxLen; omega
  · omega
  · have := hB.size; simp; omega
  · intro v' W' h1 h2 _
    refine h v' W' ?_ ((hB.alloc hB.size _).grown h2 (by have := hB.size; simp; omega) (fun k hk => (hown.lt k hk).1)) (by have := h2.size; simp at this; omega)
    rw [ic_append, List.length_append, List.length_singleton]
    exact h1
end YtjkphacidpongaaGreat
end Go.Proofs
