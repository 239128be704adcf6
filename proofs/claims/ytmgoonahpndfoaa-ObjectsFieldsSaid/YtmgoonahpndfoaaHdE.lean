/- Shape and Target, the program's and the reference's, and the reference's Kind. -/
import Derived.Test.YtmgoonahpndfoaaHdD
namespace Go.Proofs
namespace Ytmgoonahpndfoaa
namespace Hd
open Go.RowKit

def shpP (v : Int) : Int := if kindV v = 1 then v / 256 % 256 else 0
def shpR (v : Int) : Int := if kindV v = 1 then v / 65536 else 0
def shpE (v : Int) : Int := if kindV v = 1 then 0 else 6
def tgtV (v : Int) : Int := if kindV v = 2 then v / 256 else 0
def tgtE (v : Int) : Int := if kindV v = 2 then 0 else 6
theorem kind_one {v : Int} : kindV v = 1 ↔ objB v = true := by
  unfold kindV
  constructor
  · intro h; split at h
    · assumption
    · split at h <;> cases h
  · intro h; rw [if_pos h]
theorem obj_mod {v : Int} (h : objB v = true) : v % 256 = 1 ∧ v / 65536 ≤ 63 ∧ 0 ≤ v / 65536 := by
  obtain ⟨h1, h2⟩ := obj_spec.1 h
  have := chk_zero.1 h1
  unfold packV at h2
  omega
theorem kind_two {v : Int} : kindV v = 2 ↔ v % 256 = 2 ∧ 1 ≤ v / 256 ∧ v / 256 ≤ 1600 := by
  constructor
  · intro h
    unfold kindV at h
    split at h
    · cases h
    · split at h
      · have := mark_spec.1 (by assumption); omega
      · cases h
  · intro h
    have ho : ¬ objB v = true := fun ho => by have := obj_mod ho; omega
    unfold kindV
    rw [if_neg ho, if_pos (mark_spec.2 ⟨⟨h.2.1, h.2.2⟩, by omega⟩)]
theorem kind_range (v : Int) : kindV v = 0 ∨ kindV v = 1 ∨ kindV v = 2 := by
  unfold kindV; split
  · simp
  · split <;> simp

theorem size_set (W : World) (a : Addr) (v : Value) : (W.setCell a v).heap.size = W.heap.size := by simp [World.setCell]
theorem two_set {W : World} {b : Nat} {x y : Value} (p q : Value) (h0 : W.cell? ⟨b, 0, none⟩ = some x) (h1 : W.cell? ⟨b, 1, none⟩ = some y) :
    ((W.setCell ⟨b, 0, none⟩ p).setCell ⟨b, 1, none⟩ q).cell? ⟨b, 0, none⟩ = some p ∧ ((W.setCell ⟨b, 0, none⟩ p).setCell ⟨b, 1, none⟩ q).cell? ⟨b, 1, none⟩ = some q :=
  ⟨(World.cell?_setCell_other _ ⟨b, 1, none⟩ ⟨b, 0, none⟩ q (by simp)).trans (World.cell?_setCell_same _ _ _ h0), World.cell?_setCell_same _ _ _ ((World.cell?_setCell_other _ ⟨b, 0, none⟩ ⟨b, 1, none⟩ p (by simp)).trans h1)⟩
set_option maxRecDepth 100000 in
theorem read75 (v : Int) (hv : UI v) (w : World) :
    Calls Try.prog 75 #[.int .u64 v, .int .i64 1, .func (.func 76) #[] #[]] w fun e w' => e = .returned (.tuple #[.agg #[.int .i64 (shpP v), .int .i64 (shpR v)], .int .i64 (shpE v)]) ∧ Below w.heap.size w w' := by
  have K := Lib.hid (fun W => kind78 v hv W)
  obtain ⟨u0, u1⟩ := hv
  have S := Lib.hid (fun W => shape76 v u0 u1 W)
  by_cases hk : kindV v = 1
  · have T := Lib.hid (show shpP v = v / 256 % 256 ∧ shpR v = v / 65536 ∧ shpE v = 0 from ⟨if_pos hk, if_pos hk, if_pos hk⟩)
    rw [hk] at K
    clear hk
    rw [T.out.1, T.out.2.1, T.out.2.2]
    clear T
    generalize v / 256 % 256 = P at *
    generalize v / 65536 = R at *
    go_enter Try.func75, Try.ntmps75
    go_wp2_with (first
      | (go_at_call 78; refine (K.out _).mono ?_; rintro e w1 ⟨rfl, hb1⟩; obtain ⟨hc1, hf1⟩ := bcell hb1; have hb2 := below_end (alloc_below _ _) hb1)
      | (go_at_call 76; refine (S.out _).mono ?_; rintro e w2 ⟨rfl, hb3⟩; obtain ⟨hc2, hf2⟩ := bcell hb3; have hz2 : w.heap.size < w1.heap.size := Nat.lt_of_lt_of_le (by simp) hb1.size))
    have c0 : w2.cell? ⟨w.heap.size, 0, none⟩ = some (.int .i64 0) := by rw [hc2 _ _ hz2, hc1 _ _ (by simp)]; simp
    have c1 : w2.cell? ⟨w.heap.size, 1, none⟩ = some (.int .i64 0) := by rw [hc2 _ _ hz2, hc1 _ _ (by simp)]; simp
    obtain ⟨e0, e1⟩ := two_set (.int .i64 P) (.int .i64 R) c0 c1
    have hB : Below w.heap.size w ((w2.setCell ⟨w.heap.size, 0, none⟩ (.int .i64 P)).setCell ⟨w.heap.size, 1, none⟩ (.int .i64 R)) := ((below_end hb2 hb3).setCell (Nat.le_refl _) _).setCell (Nat.le_refl _) _
    clear c0 c1 hc2 hf2 hc1 hf1
    generalize (w2.setCell ⟨w.heap.size, 0, none⟩ (.int .i64 P)).setCell ⟨w.heap.size, 1, none⟩ (.int .i64 R) = W3 at *
    exact bodyPost_ret (v := .tuple #[.agg #[.int .i64 P, .int .i64 R], .int .i64 0]) (by simp [results, Try.f75, go_sem, e0, e1]) rfl ⟨rfl, hB⟩
  · have T := Lib.hid (show shpP v = 0 ∧ shpR v = 0 ∧ shpE v = 6 from ⟨if_neg hk, if_neg hk, if_neg hk⟩)
    have q1 : (kindV v != 1) = true := by simpa using hk
    clear hk
    rw [T.out.1, T.out.2.1, T.out.2.2]
    clear T
    generalize kindV v = k at *
    go_enter Try.func75, Try.ntmps75
    go_wp2_with (first
      | (go_at_call 78; refine (K.out _).mono ?_; rintro e w1 ⟨rfl, hb1⟩; obtain ⟨hc1, hf1⟩ := bcell hb1; have hb2 := below_end (alloc_below _ _) hb1; have hz2 : w.heap.size < w1.heap.size := Nat.lt_of_lt_of_le (by simp) hb1.size))
    have c0 : w1.cell? ⟨w.heap.size, 0, none⟩ = some (.int .i64 0) := by rw [hc1 _ _ (by simp)]; simp
    have c1 : w1.cell? ⟨w.heap.size, 1, none⟩ = some (.int .i64 0) := by rw [hc1 _ _ (by simp)]; simp
    obtain ⟨e0, e1⟩ := two_set (.int .i64 0) (.int .i64 0) c0 c1
    have hB : Below w.heap.size w ((w1.setCell ⟨w.heap.size, 0, none⟩ (.int .i64 0)).setCell ⟨w.heap.size, 1, none⟩ (.int .i64 0)) := (hb2.setCell (Nat.le_refl _) _).setCell (Nat.le_refl _) _
    have hz3 : w.heap.size < ((w1.setCell ⟨w.heap.size, 0, none⟩ (.int .i64 0)).setCell ⟨w.heap.size, 1, none⟩ (.int .i64 0)).heap.size := by rw [size_set, size_set]; exact hz2
    clear c0 c1 hc1 hf1
    generalize (w1.setCell ⟨w.heap.size, 0, none⟩ (.int .i64 0)).setCell ⟨w.heap.size, 1, none⟩ (.int .i64 0) = W3 at *
    have f0 := fun o => (World.cell?_alloc_past (w := W3) o w.heap.size 0 hz3).trans e0
    have f1 := fun o => (World.cell?_alloc_past (w := W3) o w.heap.size 1 hz3).trans e1
    exact bodyPost_ret (v := .tuple #[.agg #[.int .i64 0, .int .i64 0], .int .i64 6]) (by simp [results, Try.f75, go_sem, f0, f1]) rfl ⟨rfl, hB.alloc (Nat.le_of_lt hz3) _⟩
end Hd
end Ytmgoonahpndfoaa
end Go.Proofs
