/- Shapes one after the other, as plain facts. -/
import Derived.Test.YteeghjhkfaeflaaQWlD0
namespace Go.Proofs
namespace Yteeghjhkfaeflaa
open Go.RowKit

/-- the first shape's error -/
def shpE : List (Int × Int) → Int
  | [] => 0
  | p :: l => if Hd.chkV p.1 p.2 ≠ 0 then Hd.chkV p.1 p.2 else shpE l
def endF (f : Int) : List (Int × Int) → Int
  | [] => f
  | p :: l => endF (f + (1 + p.1 + p.2)) l
def plcF (f : Int) : List (Int × Int) → List Int
  | [] => []
  | p :: l => f :: plcF (f + (1 + p.1 + p.2)) l
def layF (f : Int) (l : List (Int × Int)) : (List Int × Int) × Int := if shpE l ≠ 0 then (([], 0), shpE l) else ((plcF f l, endF f l), 0)
theorem end_snoc : ∀ (l : List (Int × Int)) (f : Int) (p : Int × Int), endF f (l ++ [p]) = endF f l + (1 + p.1 + p.2)
  | [], _, _ => rfl
  | q :: l, f, p => by rw [List.cons_append, endF, end_snoc l, endF]
theorem plc_snoc : ∀ (l : List (Int × Int)) (f : Int) (p : Int × Int), plcF f (l ++ [p]) = plcF f l ++ [endF f l]
  | [], _, _ => rfl
  | q :: l, f, p => by rw [List.cons_append, plcF, plc_snoc l, plcF, endF]; rfl
theorem plc_len : ∀ (l : List (Int × Int)) (f : Int), (plcF f l).length = l.length
  | [], _ => rfl
  | q :: l, f => by rw [plcF, List.length_cons, plc_len l, List.length_cons]
theorem shp_app : ∀ (l r : List (Int × Int)), shpE (l ++ r) = if shpE l ≠ 0 then shpE l else shpE r
  | [], r => by simp [shpE]
  | q :: l, r => by
    rw [List.cons_append, shpE, shpE, shp_app l r]
    by_cases h : Hd.chkV q.1 q.2 = 0
    · simp only [h, ne_eq, not_true_eq_false, ↓reduceIte]
    · simp only [h, ne_eq, not_false_eq_true, ↓reduceIte]
theorem shp_at {l : List (Int × Int)} {j : Nat} (hj : j < l.length) (h0 : shpE (l.take j) = 0) (h : Hd.chkV l[j].1 l[j].2 ≠ 0) : shpE l = Hd.chkV l[j].1 l[j].2 := by
  conv => lhs; rw [← List.take_append_drop j l, List.drop_eq_getElem_cons hj]
  rw [shp_app, if_neg (by simp [h0]), shpE, if_pos h]
theorem shp_next {l : List (Int × Int)} {j : Nat} (hj : j < l.length) (h0 : shpE (l.take j) = 0) (h : Hd.chkV l[j].1 l[j].2 = 0) : shpE (l.take (j + 1)) = 0 := by
  rw [List.take_add_one, List.getElem?_eq_getElem hj, Option.toList_some, shp_app, if_neg (by simp [h0]), shpE, if_neg (by simp [h]), shpE]
theorem shp_all {l : List (Int × Int)} (h : shpE l = 0) : ∀ p ∈ l, Hd.chkV p.1 p.2 = 0 := by
  induction l with
  | nil => intro p hp; cases hp
  | cons q l ih =>
    rw [shpE] at h
    by_cases hq : Hd.chkV q.1 q.2 = 0
    · rw [if_neg (by simp [hq])] at h
      intro p hp
      rcases List.mem_cons.1 hp with rfl | hp
      · exact hq
      · exact ih h p hp
    · rw [if_pos hq] at h; exact absurd h hq
end Yteeghjhkfaeflaa
end Go.Proofs
