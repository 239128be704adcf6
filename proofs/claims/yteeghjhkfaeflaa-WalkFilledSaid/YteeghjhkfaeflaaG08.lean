/- Objects in an arena: what the document's functions answer, as plain functions on lists of numbers. -/
import Derived.Test.YteeghjhkfaeflaaG06
import Derived.Test.YteeghjhkfaeflaaG07
namespace Go.Proofs
namespace Yteeghjhkfaeflaa
open Go.RowKit

/-- a word's shape: its pointer fields, its raw fields -/
def shP (v : Int) : Int := v / 256 % 256
def shR (v : Int) : Int := v / 65536
/-- the shape of the object at an address, and the error -/
def objF (ws : List Int) (a : Int) : Int × Int × Int :=
  if (getF ws a).2 ≠ 0 then (0, 0, (getF ws a).2)
  else if Hd.kindV (getF ws a).1 ≠ 1 then (0, 0, 6)
  else if (ws.length : Int) - a < 1 + shP (getF ws a).1 + shR (getF ws a).1 then (0, 0, 6)
  else (shP (getF ws a).1, shR (getF ws a).1, 0)
/-- what is known where there is an object -/
structure ObOk (ws : List Int) (k P R : Nat) : Prop where
  chk : chkF ws = 0
  one : 1 ≤ k
  fit : k + (1 + P + R) ≤ ws.length
  len : ws.length ≤ 1601
  sum : P + R ≤ 63
  head : ws.getD k 0 = Hd.packV P R
  is : objF ws k = ((P : Int), (R : Int), 0)
theorem chk_len {ws : List Int} (hc : chkF ws = 0) : 1 ≤ ws.length ∧ ws.length ≤ 1601 := by
  apply Classical.byContradiction
  intro hn
  rw [chk_long (by omega)] at hc
  cases hc
theorem get_zero {ws : List Int} {a : Int} (h : (getF ws a).2 = 0) : chkF ws = 0 ∧ partB ws.length a 1 = true ∧ (getF ws a).1 = ws.getD a.toNat 0 := by
  unfold getF at h ⊢
  by_cases hc : chkF ws ≠ 0
  · rw [if_pos hc] at h; exact absurd h hc
  · rw [if_neg hc] at h ⊢
    by_cases hp : partB ws.length a 1 = true
    · rw [if_pos hp]
      exact ⟨by simpa using hc, hp, rfl⟩
    · rw [if_neg hp] at h; cases h
theorem obj_cases (ws : List Int) (a : Int) : (∃ E, E ≠ 0 ∧ objF ws a = (0, 0, E)) ∨ ∃ k P R : Nat, a = (k : Int) ∧ ObOk ws k P R := by
  by_cases hg : (getF ws a).2 = 0
  rotate_left
  · exact .inl ⟨_, hg, by unfold objF; rw [if_pos hg]⟩
  obtain ⟨hc, hp, hv⟩ := get_zero hg
  by_cases hk : Hd.kindV (getF ws a).1 = 1
  rotate_left
  · exact .inl ⟨6, by decide, by unfold objF; rw [if_neg (by simp [hg]), if_pos hk]⟩
  by_cases hl : (ws.length : Int) - a < 1 + shP (getF ws a).1 + shR (getF ws a).1
  · exact .inl ⟨6, by decide, by unfold objF; rw [if_neg (by simp [hg]), if_neg (by simp [hk]), if_pos hl]⟩
  right
  have ho := Hd.kind_one.1 hk
  obtain ⟨h1, h2⟩ := Hd.obj_spec.1 ho
  obtain ⟨c0, c1, c2⟩ := Hd.chk_zero.1 h1
  obtain ⟨p1, p2, p3, p4⟩ := partB_spec.1 hp
  obtain ⟨k, rfl⟩ : ∃ k : Nat, a = (k : Int) := ⟨a.toNat, by omega⟩
  have e1 : ((shP (getF ws k).1).toNat : Int) = shP (getF ws k).1 := by unfold shP; omega
  have e2 : ((shR (getF ws k).1).toNat : Int) = shR (getF ws k).1 := by unfold shR; omega
  refine ⟨k, (shP (getF ws k).1).toNat, (shR (getF ws k).1).toNat, rfl, ⟨hc, by omega, by omega, (chk_len hc).2, ?_, ?_, ?_⟩⟩
  · unfold shP shR at *; omega
  · rw [e1, e2, ← Int.toNat_natCast k, ← hv]; exact h2.symm
  · rw [e1, e2]; unfold objF; rw [if_neg (by simp [hg]), if_neg (by simp [hk]), if_neg hl]
theorem obj_one {ws : List Int} {a P R : Int} (h : objF ws a = (P, R, 0)) : ∃ k p r : Nat, a = (k : Int) ∧ P = p ∧ R = r ∧ ObOk ws k p r := by
  rcases obj_cases ws a with ⟨E, hE, e⟩ | ⟨k, p, r, rfl, ho⟩
  · rw [e] at h; cases h; exact absurd rfl hE
  · have := ho.is; rw [h] at this; cases this
    exact ⟨k, p, r, rfl, rfl, rfl, ho⟩
/-- a number of an object's words -/
def sizF (ws : List Int) (a : Int) : Int × Int := if (objF ws a).2.2 = 0 then (1 + (objF ws a).1 + (objF ws a).2.1, 0) else (0, (objF ws a).2.2)
def upL (k n : Nat) : List Int := (List.range n).map fun (i : Nat) => (k : Int) + (i : Int)
theorem upL_length (k n : Nat) : (upL k n).length = n := by simp [upL]
theorem upL_succ (k n : Nat) : upL k (n + 1) = upL k n ++ [(k : Int) + (n : Int)] := by simp [upL, List.range_succ]
theorem upL_get (k n i : Nat) (h : i < n) : (upL k n).getD i 0 = (k : Int) + (i : Int) := by simp [upL, List.getD_eq_getElem?_getD, h]
def sltF (ws : List Int) (a : Int) : List Int × Int := if (objF ws a).2.2 = 0 then (upL (a.toNat + 1) (objF ws a).1.toNat, 0) else ([], (objF ws a).2.2)
/-- an address that a word holds -/
def adrF (z : Int) : Int × Int := if 1600 < z then (0, 6) else (z, 0)
/-- the word of a field, or the error -/
def rdF (zs : List Int) (f : Int) : Int × Int := if 0 ≤ f ∧ f < zs.length then (zs.getD f.toNat 0, 0) else (0, 10)
def gtF (zs : List Int) (f : Int) : Int × Int := if (rdF zs f).2 = 0 then adrF (rdF zs f).1 else (0, (rdF zs f).2)
def part (ws : List Int) (k n : Nat) : List Int := (ws.drop k).take n
def ptrF (ws : List Int) (a f : Int) : Int × Int := if (objF ws a).2.2 = 0 then gtF (part ws (a.toNat + 1) (objF ws a).1.toNat) f else (0, (objF ws a).2.2)
def rawF (ws : List Int) (a f : Int) : Int × Int := if (objF ws a).2.2 = 0 then rdF (part ws (a.toNat + 1 + (objF ws a).1.toNat) (objF ws a).2.1.toNat) f else (0, (objF ws a).2.2)
theorem part_length {ws : List Int} {k n : Nat} (h : k + n ≤ ws.length) : (part ws k n).length = n := by simp [part]; omega
theorem part_get {ws : List Int} {k n i : Nat} (h : i < n) : (part ws k n).getD i 0 = ws.getD (k + i) 0 := by
  simp only [part, List.getD_eq_getElem?_getD, List.getElem?_take, List.getElem?_drop, if_pos h]
/-- the addresses that words hold, or the error -/
def adrsF : List Int → List Int × Int
  | l => if l.all (fun z => decide (z ≤ 1600)) = true then (l, 0) else ([], 6)
def ptrsF (ws : List Int) (a : Int) : List Int × Int := if (objF ws a).2.2 = 0 then adrsF (part ws (a.toNat + 1) (objF ws a).1.toNat) else ([], (objF ws a).2.2)
def wrF (ws : List Int) (k n : Nat) (f z : Int) : List Int × Int := if 0 ≤ f ∧ f < n then (ws.set (k + f.toNat) z, 0) else ([], 10)
def stF (ws : List Int) (k n : Nat) (f z : Int) : List Int × Int := if 0 ≤ f ∧ f < n then (if 0 ≤ z ∧ z < ws.length then (ws.set (k + f.toNat) z, 0) else ([], 7)) else ([], 10)
def spF (ws : List Int) (a f z : Int) : List Int × Int := if (objF ws a).2.2 = 0 then stF ws (a.toNat + 1) (objF ws a).1.toNat f z else ([], (objF ws a).2.2)
def srF (ws : List Int) (a f z : Int) : List Int × Int := if (objF ws a).2.2 = 0 then wrF ws (a.toNat + 1 + (objF ws a).1.toNat) (objF ws a).2.1.toNat f z else ([], (objF ws a).2.2)
def alkF (ws : List Int) (a b : Int) : Bool × Int :=
  if (objF ws a).2.2 ≠ 0 then (false, (objF ws a).2.2) else if (objF ws b).2.2 ≠ 0 then (false, (objF ws b).2.2)
  else (decide ((objF ws a).1 = (objF ws b).1 ∧ (objF ws a).2.1 = (objF ws b).2.1) && decide (part ws (a.toNat + 1 + (objF ws a).1.toNat) (objF ws a).2.1.toNat = part ws (b.toNat + 1 + (objF ws b).1.toNat) (objF ws b).2.1.toNat), 0)
def makF (ws : List Int) (a P R : Int) : List Int × Int :=
  if chkF ws ≠ 0 then ([], chkF ws) else if Hd.chkV P R ≠ 0 then ([], Hd.chkV P R)
  else if partB ws.length a (1 + P + R) = true then ((zeroL ws a.toNat (1 + P + R).toNat).set a.toNat (Hd.packV P R), 0) else ([], 7)
theorem wr_set {ws : List Int} {k n : Nat} {f : Int} (hc : chkF ws = 0) (h1 : 1 ≤ k) (h2 : k + n ≤ ws.length) (z : Int) (hf : 0 ≤ f ∧ f < n) : setF ws (k + f) z = (ws.set (k + f.toNat) z, 0) := by
  unfold setF
  rw [if_neg (by simp [hc]), if_pos (partB_spec.2 ⟨by omega, by omega, by omega, by omega⟩)]
  congr 2
  omega
theorem set_chk {ws : List Int} {i : Nat} (z : Int) (hc : chkF ws = 0) (hi : 1 ≤ i) : chkF (ws.set i z) = 0 := by
  have hl := chk_len hc
  rw [chk_cases (by omega)] at hc
  rw [chk_cases (by rw [List.length_set]; omega)]
  have e : (ws.set i z).getD 0 0 = ws.getD 0 0 := by
    simp only [List.getD_eq_getElem?_getD, List.getElem?_set]
    rw [if_neg (by omega)]
  rw [e]; exact hc
theorem zero_chk {ws : List Int} {a n : Nat} (hc : chkF ws = 0) (ha : 1 ≤ a) (hn : a + n ≤ ws.length) : chkF (zeroL ws a n) = 0 := by
  have hl := chk_len hc
  have hz := zeroL_length hn
  rw [chk_cases (by omega)] at hc
  rw [chk_cases (by omega)]
  have e : (zeroL ws a n).getD 0 0 = ws.getD 0 0 := by
    simp only [zeroL, List.getD_eq_getElem?_getD, List.append_assoc]
    rw [List.getElem?_append_left (by simp; omega), List.getElem?_take, if_pos (by omega)]
  rw [e]; exact hc
/-- a play of a clear and a set is Make -/
theorem play_make {ws : List Int} {a P R : Int} (hc : chkF ws = 0) (hs : Hd.chkV P R = 0) :
    (playF ws [⟨4, a, 0, 1 + P + R, 0⟩, ⟨2, a, 0, 0, Hd.packV P R⟩]).ws = (makF ws a P R).1 ∧ (playF ws [⟨4, a, 0, 1 + P + R, 0⟩, ⟨2, a, 0, 0, Hd.packV P R⟩]).e = (makF ws a P R).2 := by
  obtain ⟨z0, z1, z2⟩ := Hd.chk_zero.1 hs
  unfold playF makF
  rw [if_neg (by simp [hc]), if_neg (by simp), if_neg (by simp [hc]), if_neg (by simp [hs])]
  by_cases hp : partB ws.length a (1 + P + R) = true
  · obtain ⟨p1, p2, p3, p4⟩ := partB_spec.1 hp
    have e : stepF ⟨ws, [], 0, 0⟩ ⟨4, a, 0, 1 + P + R, 0⟩ = (0, ⟨zeroL ws a.toNat (1 + P + R).toNat, [], 0, 0 + (1 + P + R)⟩) := by simp [stepF, hp]
    have hl : (zeroL ws a.toNat (1 + P + R).toNat).length = ws.length := zeroL_length (by omega)
    have hp2 : partB (zeroL ws a.toNat (1 + P + R).toNat).length a 1 = true := by rw [hl]; exact partB_spec.2 ⟨p1, p2, by omega, by omega⟩
    rw [if_pos hp, goF_step (by rw [e]), e]
    have e2 : stepF ⟨zeroL ws a.toNat (1 + P + R).toNat, [], 0, 0 + (1 + P + R)⟩ ⟨2, a, 0, 0, Hd.packV P R⟩ = (0, ⟨(zeroL ws a.toNat (1 + P + R).toNat).set a.toNat (Hd.packV P R), [], 0, 0 + (1 + P + R) + 1⟩) := by simp [stepF, hp2]
    rw [goF_step (by rw [e2]), e2]
    exact ⟨rfl, rfl⟩
  · have e : stepF ⟨ws, [], 0, 0⟩ ⟨4, a, 0, 1 + P + R, 0⟩ = (7, ⟨ws, [], 0, 0⟩) := by simp [stepF, hp]
    rw [if_neg hp, goF_err (by rw [e]; exact (by decide : (7 : Int) ≠ 0)), e]
    exact ⟨rfl, rfl⟩
/-- a clear, then a set is Make -/
theorem clr_make {ws : List Int} {a P R : Int} (hc : chkF ws = 0) (hs : Hd.chkV P R = 0) :
    ((clrF ws a (1 + P + R)).2 ≠ 0 ∧ makF ws a P R = ([], (clrF ws a (1 + P + R)).2)) ∨
    ((clrF ws a (1 + P + R)).2 = 0 ∧ (clrF ws a (1 + P + R)).1.length ≤ 1601 ∧ makF ws a P R = setF (clrF ws a (1 + P + R)).1 a (Hd.packV P R)) := by
  obtain ⟨z0, z1, z2⟩ := Hd.chk_zero.1 hs
  have em : makF ws a P R = if partB ws.length a (1 + P + R) = true then ((zeroL ws a.toNat (1 + P + R).toNat).set a.toNat (Hd.packV P R), 0) else ([], 7) := by
    unfold makF
    rw [if_neg (by simp [hc]), if_neg (by simp [hs])]
  rw [em]
  unfold clrF
  rw [if_neg (by simp [hc])]
  by_cases hp : partB ws.length a (1 + P + R) = true
  · right
    obtain ⟨p1, p2, p3, p4⟩ := partB_spec.1 hp
    have hl : (zeroL ws a.toNat (1 + P + R).toNat).length = ws.length := zeroL_length (by omega)
    rw [if_pos hp, if_pos hp]
    refine ⟨rfl, by dsimp only; rw [hl]; exact (chk_len hc).2, ?_⟩
    unfold setF
    rw [if_neg (by rw [zero_chk hc (by omega) (by omega)]; simp), if_pos (by rw [hl]; exact partB_spec.2 ⟨p1, p2, by omega, by omega⟩)]
  · left
    rw [if_neg hp, if_neg hp]
    exact ⟨by decide, rfl⟩
end Yteeghjhkfaeflaa
end Go.Proofs
/- Fields of an object: the methods of fields, pointers and raws. -/
namespace Go.Proofs
namespace Yteeghjhkfaeflaa
open Go.RowKit

/-- what a call of fieldsOf answers -/
def fv (A : Option Addr) (n cap : Nat) (k : Int) (X : Option Addr) (m : Nat) : Value := .agg #[.slice A n cap, .int .i64 k, .slice X m m]
theorem run_part (A : Option Addr) (n cap k m : Nat) (h : k + m ≤ cap) (W : World) :
    (Instr.slice 22 (.slice A n cap) (some (.int .i64 k)) (some (.int .i64 ((k : Int) + (m : Int)))) (some (.int .i64 ((k : Int) + (m : Int))))).run Try.prog W = .ok (.slice (if m = 0 then A else A.map (·.add k)) m m) W := by
  obtain ⟨H, hH⟩ : ∃ H : Nat, H = k + m := ⟨_, rfl⟩
  have e : (k : Int) + (m : Int) = (H : Int) := by omega
  rw [e]
  have hz : (sizeOf 58).run Try.prog W = .ok 1 W := by kernel_rfl
  have b1 : (Instr.sliceBounds true n cap (some (.int .i64 (k : Int))) (some (.int .i64 (H : Int))) (some (.int .i64 (H : Int)))).run Try.prog W = .ok (k, H, H) W := by
    simp [Instr.sliceBounds, run_sliceBound, (by omega : (H : Int) ≤ (cap : Int)), (by omega : (k : Int) ≤ (H : Int))]
  simp only [Instr.slice, Sem.run_bind, run_underlying Try.underlying22, Result.andThen, b1, hz]
  by_cases hm : m = 0
  · subst hm
    obtain rfl : H = k := by omega
    simp
  · rw [if_neg hm, if_neg (by omega), show H - k = m by omega, Nat.mul_one]
    rfl
set_option maxRecDepth 100000 in
theorem fields64 (A : Option Addr) (n cap k m : Nat) (w : World) (hcap : n ≤ cap) (hk : k + m ≤ n) (hl : n ≤ 1601) :
    Calls Try.prog 81 #[.slice A n cap, .int .i64 k, .int .i64 m] w fun e w' => e = .returned (fv A n cap k (if m = 0 then A else A.map (·.add k)) m) ∧ Below w.heap.size w w' := by
  have R := fun W => run_part A n cap k m (by omega) W
  generalize (if m = 0 then A else A.map (·.add k)) = X at *
  go_enter Try.func81, Try.ntmps81
  go_wp2
  refine bodyPost_ret (v := fv A n cap k X m) (by simp [results, Try.f81, go_sem, fv]) rfl ⟨rfl, alloc_below w _⟩
def fchk (m : Nat) (f : Int) : Int := if 0 ≤ f ∧ f < m then 0 else 10
set_option maxRecDepth 100000 in
theorem address65 (z : Int) (h0 : 0 ≤ z) (w : World) :
    Calls Try.prog 89 #[.int .u64 z] w fun e w' => e = .returned (.tuple #[.int .i64 (adrF z).1, .int .i64 (adrF z).2]) ∧ w = w' := by
  by_cases h : 1600 < z
  · have q : decide (1600 < z) = true := decide_eq_true h
    have T := Lib.hid (show adrF z = (0, 6) from if_pos h)
    rw [T.out]
    go_enter Try.func89, Try.ntmps89
    go_wp2
    go_ret2
    exact ⟨rfl, rfl⟩
  · have q : decide (1600 < z) = false := decide_eq_false h
    have T := Lib.hid (show adrF z = (z, 0) from if_neg h)
    rw [T.out]
    go_enter Try.func89, Try.ntmps89
    go_wp2
    go_ret2
    exact ⟨rfl, rfl⟩
end Yteeghjhkfaeflaa
end Go.Proofs
/- Fields of an object: get, equal, write and set. -/
namespace Go.Proofs
namespace Yteeghjhkfaeflaa
open Go.RowKit

/-- cells of a fields box -/
theorem three_cells {W : World} {g : Nat} {x y z : Value} {t : TypeId} (h : W.heap[g]? = some (.cells #[x, y, z] t (0, 0))) :
    W.cell? ⟨g, 0, none⟩ = some x ∧ W.cell? ⟨g, 1, none⟩ = some y ∧ W.cell? ⟨g, 2, none⟩ = some z := by
  refine ⟨?_, ?_, ?_⟩ <;> rw [cell_of_row _ _ _ _ _ _ h] <;> rfl
end Yteeghjhkfaeflaa
end Go.Proofs
