/- The map of a player's methods. -/
import Derived.Test.YtmgoonahpndfoaaArM
import Derived.MapKept
namespace Go.Proofs
namespace Ytmgoonahpndfoaa
open Go.RowKit Go.MapKept

theorem upd68 {W : World} {b : Nat} {es : Array MapEntry} {c : Nat} (hb : W.heap[b]? = some (.map es c)) (k : Int) (v : Value) (hn : Instr.findNow (.int .i64) (.int .i64 k) es.toList 0 = some none) :
    ∃ W', (Instr.mapUpdate 95 (.map (some b)) (.int .i64 k) v).run Try.prog W = .ok () W' ∧ W'.heap[b]? = some (.map (es.push ⟨.int .i64 k, v, c⟩) (c + 1)) ∧ W.grownBy W' (some b) := by
  have hk : IsKey (.int .i64) (.int .i64 k) := by simp [IsKey]
  refine ⟨{ W with heap := W.heap.setIfInBounds b (.map (es.push ⟨.int .i64 k, v, c⟩) (c + 1)) }, ?_, (heap_set hb).1, rfl, rfl, rfl, by simp, fun i _ hi => (heap_set hb).2 i (fun e => hi (by rw [e]))⟩
  simp [Instr.mapUpdate, run_underlying Try.underlying95, Go.MapKept.run_getObj_map hb, run_checkKey Try.underlying3 hk, run_findKey Try.underlying3 hn, run_setObj_map _ hb, Result.andThen]
/-- the methods of the player at p, by their kinds -/
def mth (p : Addr) : Array MapEntry := #[⟨.int .i64 1, .func (.func 70) #[.pointer (some p)] #[], 0⟩, ⟨.int .i64 2, .func (.func 71) #[.pointer (some p)] #[], 1⟩, ⟨.int .i64 3, .func (.func 72) #[.pointer (some p)] #[], 2⟩, ⟨.int .i64 4, .func (.func 73) #[.pointer (some p)] #[], 3⟩]

theorem look68 {W : World} {b : Nat} {es : Array MapEntry} {c : Nat} (hb : W.heap[b]? = some (.map es c)) (k : Int) (r : Option (Nat × Value)) (hn : Instr.findNow (.int .i64) (.int .i64 k) es.toList 0 = some r) :
    (Instr.lookup 95 (.map (some b)) (.int .i64 k) true).run Try.prog W = .ok (.tuple #[match r with | some (_, v) => v | none => .nilFunc, .bool r.isSome]) W := by
  have hk : IsKey (.int .i64) (.int .i64 k) := by simp [IsKey]
  have hz : (zeroValue 97).run Try.prog W = .ok .nilFunc W := by kernel_rfl
  cases r with
  | none => simp [Instr.lookup, run_underlying Try.underlying95, Go.MapKept.run_getObj_map hb, run_checkKey Try.underlying3 hk, run_findKey Try.underlying3 hn, Result.andThen, hz]
  | some p => simp [Instr.lookup, run_underlying Try.underlying95, Go.MapKept.run_getObj_map hb, run_checkKey Try.underlying3 hk, run_findKey Try.underlying3 hn, Result.andThen]

set_option maxRecDepth 100000 in
theorem kinds60 (p : Addr) (w : World) :
    Calls Try.prog 60 #[.pointer (some p)] w fun e w' => e = .returned (.map (some w.heap.size)) ∧ Below w.heap.size w w' ∧ w.heap.size < w'.heap.size ∧ ∃ c, w'.heap[w.heap.size]? = some (.map (mth p) c) := by
  have hmm := @run_makeMap Try.prog
  obtain ⟨W1, u1, h1, g1⟩ := upd68 (heap_alloc_new w (.map #[] 0)) 1 (.func (.func 70) #[.pointer (some p)] #[]) rfl
  obtain ⟨W2, u2, h2, g2⟩ := upd68 h1 2 (.func (.func 71) #[.pointer (some p)] #[]) rfl
  obtain ⟨W3, u3, h3, g3⟩ := upd68 h2 3 (.func (.func 72) #[.pointer (some p)] #[]) rfl
  obtain ⟨W4, u4, h4, g4⟩ := upd68 h3 4 (.func (.func 73) #[.pointer (some p)] #[]) rfl
  have hB : Below w.heap.size w W4 := by
    have b0 : Below w.heap.size w (w.alloc (.map #[] 0)) := (Below.refl _ _).alloc (Nat.le_refl _) _
    have b1 := b0.grown g1 b0.size (fun k hk => by cases hk; exact Nat.le_refl _)
    have b2 := b1.grown g2 b1.size (fun k hk => by cases hk; exact Nat.le_refl _)
    have b3 := b2.grown g3 b2.size (fun k hk => by cases hk; exact Nat.le_refl _)
    exact b3.grown g4 b3.size (fun k hk => by cases hk; exact Nat.le_refl _)
  have H4 := Lib.hid h4
  have HB := Lib.hid hB
  clear h1 h2 h3 h4 g1 g2 g3 g4 hB
  go_enter Try.func60, Try.ntmps60
  go_wp2
  go_ret
  exact ⟨rfl, HB.out, (Array.getElem?_eq_some_iff.1 H4.out).1, _, H4.out⟩
end Ytmgoonahpndfoaa
end Go.Proofs
