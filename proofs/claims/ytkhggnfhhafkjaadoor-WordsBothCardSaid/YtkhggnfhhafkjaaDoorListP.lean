/- The written form of a list of integers: the plain function. -/
import Derived.Test.YtkhggnfhhafkjaaDoorRuns
import Derived.Test.YtkhggnfhhafkjaaDoorPush
namespace Go.Proofs
namespace YtkhggnfhhafkjaaDoor

/-- a list's first run, written -/
def runL (zs : List Int) : List UInt8 := Lib.itoa (zs[0]?.getD 0) ++ (if 1 < runN zs then 45 :: Lib.itoa (zs[runN zs - 1]?.getD 0) else [])
/-- the runs, a comma ahead of each -/
def lstC : Nat → List Int → List UInt8
  | 0, _ => []
  | _ + 1, [] => []
  | f + 1, a :: r => 44 :: (runL (a :: r) ++ lstC f ((a :: r).drop (runN (a :: r))))
theorem lstC_fuel : ∀ (f : Nat) (l : List Int), l.length ≤ f → lstC f l = lstC l.length l
  | 0, [], _ => rfl
  | _ + 1, [], _ => rfl
  | f + 1, a :: r, h => by
    have hp := runN_pos a r
    have hd : ((a :: r).drop (runN (a :: r))).length ≤ r.length := by simp; omega
    show lstC (f + 1) (a :: r) = lstC (r.length + 1) (a :: r)
    simp only [lstC]
    rw [lstC_fuel f _ (by simp at h; omega), lstC_fuel r.length _ hd]
def lstQ (l : List Int) : List UInt8 := lstC l.length l
theorem lstQ_nil : lstQ [] = [] := rfl
theorem lstQ_cons (a : Int) (r : List Int) : lstQ (a :: r) = 44 :: (runL (a :: r) ++ lstQ ((a :: r).drop (runN (a :: r)))) := by
  have hp := runN_pos a r
  simp only [lstQ, List.length_cons, lstC]
  rw [lstC_fuel r.length _ (by simp; omega)]
/-- the list expression of a list that is not empty -/
def listedL (l : List Int) : List UInt8 := (lstQ l).drop 1
/-- what is still to be written, acc being there -/
def toCome (acc : List UInt8) (l : List Int) : List UInt8 := if acc = [] then listedL l else lstQ l
def comma (acc : List UInt8) : List UInt8 := if acc = [] then [] else acc ++ [44]
theorem toCome_nil (acc : List UInt8) : toCome acc [] = [] := by unfold toCome listedL; split <;> rfl
theorem toCome_cons (acc : List UInt8) (a : Int) (r : List Int) : acc ++ toCome acc (a :: r) = (comma acc ++ runL (a :: r)) ++ lstQ ((a :: r).drop (runN (a :: r))) := by
  unfold toCome comma listedL
  rw [lstQ_cons]
  split <;> simp_all
theorem decDigits_ne (u : Nat) : Lib.decDigits u ≠ [] := by
  rw [Lib.decDigits]
  split <;> simp
theorem itoa_ne (n : Int) : Lib.itoa n ≠ [] := by
  unfold Lib.itoa
  split
  · simp
  · exact decDigits_ne _
theorem runL_ne (l : List Int) : runL l ≠ [] := by unfold runL; intro h; exact itoa_ne _ (List.append_eq_nil_iff.1 h).1
theorem toCome_step (acc : List UInt8) (zs : List Int) (j : Nat) (hj : j < zs.length) :
    acc ++ toCome acc (zs.drop j) = (comma acc ++ runL (zs.drop j)) ++ toCome (comma acc ++ runL (zs.drop j)) (zs.drop (j + runN (zs.drop j))) := by
  have h : zs.drop j = zs[j] :: zs.drop (j + 1) := List.drop_eq_getElem_cons hj
  have hne : comma acc ++ runL (zs.drop j) ≠ [] := fun e => runL_ne _ (List.append_eq_nil_iff.1 e).2
  have e2 : toCome (comma acc ++ runL (zs.drop j)) (zs.drop (j + runN (zs.drop j))) = lstQ ((zs.drop j).drop (runN (zs.drop j))) := by
    unfold toCome; rw [if_neg hne, List.drop_drop]
  rw [e2]
  rw [h]
  exact toCome_cons acc _ _
theorem runL_short {zs : List Int} (h : ¬ 1 < runN zs) : runL zs = Lib.itoa (zs[0]?.getD 0) := by unfold runL; rw [if_neg h, List.append_nil]
theorem runL_long {zs : List Int} (h : 1 < runN zs) : runL zs = Lib.itoa (zs[0]?.getD 0) ++ ([45] ++ Lib.itoa (zs[runN zs - 1]?.getD 0)) := by unfold runL; rw [if_pos h]; rfl
end YtkhggnfhhafkjaaDoor
end Go.Proofs
