/- A loop over an iterator, which the body may leave by a label. -/
import Derived.Test.YtjkphacidpongaaSlM
import Derived.RangeFuncOwn
import Derived.RangeFuncLeaves
import Derived.RangeFuncFrom
import Derived.RangeFuncCalls
import Derived.Below
import Derived.Shelf.RegionOpen
import Derived.Handy
import Derived.TacticsInMore
import Derived.LoopNIn
import Derived.OwnWalkIn
import Derived.RangeFuncBox
import Derived.RecoverIn
import Derived.WalkLawsBesides
import Derived.Deep.Cut
import Derived.Deep.LoopGhost
import Derived.Deep.RegionLaw
namespace Go.Proofs
namespace Ytjkphacidpongaa
open Go.RowKit

/-- Of the blocks from B on, up to C, none has turned. -/
structure KeptR (B C : Nat) (W W' : World) : Prop where
  size : W.heap.size ≤ W'.heap.size
  same : ∀ k, B ≤ k → k < C → k < W.heap.size → W'.heap[k]? = W.heap[k]?
/-- What minds no turn of one of these blocks. -/
def MindsR {β : Type} (B C : Nat) (I : β → World → Prop) : Prop :=
  ∀ s W W' r, B ≤ r → r < C → I s W → W.grownBy W' (some r) → I s W'
theorem MindsR.below {β : Type} {B C : Nat} {I : β → World → Prop} (h : MindsR B C I) (hBC : B < C) {s : β} {W W' : World} (hi : I s W) (hb : Below W.heap.size W W') : I s W' :=
  h s W W' B (Nat.le_refl _) hBC hi (grown_of_below hb _)

/-- The iterator's side: it yields enc 0, enc 1, .. , each one where S holds; it ends where E holds, or where it was stopped. -/
def IterS (n : Nat) (P : Program) (g : Nat) (lb : Array Value) (enc : Nat → Array Value) (E S : Nat → Prop) (G : World → Prop) (w : World) : Prop :=
  ∀ (l : Nat) (J : Nat → World → Prop) (K : World → Prop), (∀ i W, J i W → G W) → (∀ i W W', J i W → Below W.heap.size W W' → J i W') → (∀ W W', K W → Below W.heap.size W W' → K W') →
    (∀ i W1, J i W1 → S i → w.heap.size ≤ W1.heap.size → YieldAt Fence.wide (n - 1) P l (enc i) W1 fun e W' =>
      (e = .returned (.bool true) ∧ J (i + 1) W' ∨ e = .returned (.bool false) ∧ K W') ∧ W1.heap.size ≤ W'.heap.size) →
    J 0 w → CallsIn Fence.wide n P g (#[.func (.yield l) #[] #[]] ++ lb) w fun e W' => (∃ v, e = .returned v) ∧ ((∃ i, E i ∧ J i W') ∨ K W')

set_option maxHeartbeats 1000000 in
theorem range_stop {n : Nat} {P : Program} {g : Operand} {ps : Array Tmp} {assign body : Code} {Q : Exit → Act → World → Prop} {a : Act} {w : World} (h1 : 1 ≤ n) {gf : Nat} {lb : Array Value}
    (hg : a.eval g = .func (.func gf) #[] lb) (eg : ∀ args w, (callFunc gf args).run P w = .ok (.enter gf args) w) {enc : Nat → Array Value} {E S : Nat → Prop} {G : World → Prop} (id : Nat)
    (hit : ∀ W1, Below w.heap.size w W1 → W1.heap.size = w.heap.size + 2 → IterS (n - 1) P gf lb enc E S G W1) (hps : ∀ x, (enc x).size = ps.size)
    (I : Nat → World → Prop) (Ix : World → Prop) (hG : ∀ i W, I i W → G W) (A2 : Nat → Act → Prop) (hI : MindsR w.heap.size (w.heap.size + 2) I) (hIx : MindsR w.heap.size (w.heap.size + 2) (fun (_ : Unit) W => Ix W))
    (h0 : ∀ W1, Below w.heap.size w W1 → W1.heap.size = w.heap.size + 2 → I 0 W1)
    (hassign : ∀ (l i : Nat) (W : World), I i W →
      assign.wpIn (Fence.wide.inRound l) (n - 1 - 1) P (Exit.then (fun a' W' => W' = W ∧ A2 i a') (fun _ _ _ => False)) { tmps := (ps.zip (enc i)).foldl (fun t (p, v) => t.setIfInBounds p v) a.tmps, defers := [] } W)
    (hbody : ∀ (l i : Nat) (a' : Act) (W : World), I i W → A2 i a' → S i → w.heap.size + 2 ≤ W.heap.size →
      body.wpIn (Fence.wide.inRound l) (n - 1 - 1) P (fun e _ W' => KeptR w.heap.size (w.heap.size + 2) W W' ∧ (e = .normal ∧ I (i + 1) W' ∨ e = .exit id ∧ Ix W')) a' W)
    (hdone : ∀ (i : Nat) (W : World), E i → I i W → W.heap[w.heap.size]? = some (.deferred (some [])) → Q .normal { a with defers := { target := .collected w.heap.size, args := #[] } :: a.defers } W)
    (hstop : ∀ (W : World), Ix W → W.heap[w.heap.size]? = some (.deferred (some [])) → (Code.exit id).wpIn Fence.wide n P Q { a with defers := { target := .collected w.heap.size, args := #[] } :: a.defers } W) :
    (Code.rangeFunc g ps assign body).wpIn Fence.wide n P Q a w := by
  refine wpIn_rangeFunc fun fn hfn => ?_
  let rec_ : LoopState → Option Code → Loop := fun st pe => { state := st, pending := pe, fn := fn, tmps := a.tmps, params := ps, assign := assign, body := body, defers := w.heap.size }
  have hD0 := World.alloc_heap_new w (.deferred (some []))
  generalize hU : w.alloc (.deferred (some [])) = U at hD0
  have hUs : U.heap.size = w.heap.size + 1 := by rw [← hU]; simp
  have hL0 := World.alloc_heap_new U (.loop (rec_ .ready none))
  have hD1 : (U.alloc (.loop (rec_ .ready none))).heap[w.heap.size]? = some (.deferred (some [])) := (Below.heap_alloc _ _ _ (by omega)).trans hD0
  have hB1 : Below w.heap.size w (U.alloc (.loop (rec_ .ready none))) := by rw [← hU]; exact ((Below.refl _ w).alloc (Nat.le_refl _) _).alloc (by simp) _
  have hrun : (Instr.enterLoop fn a.tmps ps assign body Fence.wide.round).run P w = .ok (w.heap.size + 1, [{ target := .collected w.heap.size, args := #[] }]) (U.alloc (.loop (rec_ .ready none))) := by
    rw [← hU]; exact run_enterLoop_outer _ _ _ _ _
  generalize hV : U.alloc (.loop (rec_ .ready none)) = V at hL0 hD1 hB1 hrun
  have hVs : V.heap.size = w.heap.size + 2 := by rw [← hV]; simp [hUs]
  rw [hUs] at hL0
  refine ⟨w.heap.size + 1, _, V, { target := .fn (.func gf) lb, args := #[.func (.yield (w.heap.size + 1)) #[] #[]] }, V, gf, #[.func (.yield (w.heap.size + 1)) #[] #[]] ++ lb, V, hrun, ?_, fun _ _ => trivial, ?_, fun _ => h1, ?_⟩
  · simp only [resolve, hg]; simp [go_sem]
  · simp [invoke, go_sem, eg]
  let J : Nat → World → Prop := fun i W => I i W ∧ W.heap[w.heap.size + 1]? = some (.loop (rec_ .ready none)) ∧ W.heap[w.heap.size]? = some (.deferred (some [])) ∧ w.heap.size + 2 ≤ W.heap.size
  let K : World → Prop := fun W => Ix W ∧ W.heap[w.heap.size + 1]? = some (.loop (rec_ .done (some (.exit id)))) ∧ W.heap[w.heap.size]? = some (.deferred (some [])) ∧ w.heap.size + 2 ≤ W.heap.size
  refine (hit V hB1 hVs (w.heap.size + 1) J K (fun i W hs => hG i W hs.1)
    (fun s A B hs hb => ⟨hI.below (by omega) hs.1 hb, (hb.block _ (by have := hs.2.2.2; omega)).trans hs.2.1, (hb.block _ (by have := hs.2.2.2; omega)).trans hs.2.2.1, by have := hb.size; have := hs.2.2.2; omega⟩)
    (fun A B hs hb => ⟨hIx.below (by omega) (s := ()) hs.1 hb, (hb.block _ (by have := hs.2.2.2; omega)).trans hs.2.1, (hb.block _ (by have := hs.2.2.2; omega)).trans hs.2.2.1, by have := hb.size; have := hs.2.2.2; omega⟩)
    ?round ⟨h0 V hB1 hVs, hL0, hD1, by omega⟩).mono ?after
  case round =>
    rintro i W ⟨hi, hl, hk, hsz⟩ hS _
    refine ⟨fn, _, assign, body, run_yield hl (hps i), roundIn_of_wpIn hfn (wpIn_mono (hassign (w.heap.size + 1) i W hi) ?_)⟩
    rintro e a' W2 hq
    cases e with
    | normal =>
      obtain ⟨rfl, hi2⟩ := hq
      refine ⟨_, run_beginRound hl rfl, ?_⟩
      have hg3 := grownBy_putObj' W2 (w.heap.size + 1) (.loop { rec_ .ready none with state := .busy })
      have hl3 : (W2.putObj (w.heap.size + 1) (.loop { rec_ .ready none with state := .busy })).heap[w.heap.size + 1]? = some (.loop { rec_ .ready none with state := .busy }) := World.putObj_heap_same (by omega)
      have hk3 : (W2.putObj (w.heap.size + 1) (.loop { rec_ .ready none with state := .busy })).heap[w.heap.size]? = some (.deferred (some [])) := (World.putObj_heap_other (by omega)).trans hk
      have hi3 := hI i W2 _ _ (by omega) (by omega) hi hg3
      have hs3 := hg3.size
      generalize W2.putObj (w.heap.size + 1) (.loop { rec_ .ready none with state := .busy }) = W3 at hl3 hk3 hi3 hs3 ⊢
      refine wpIn_mono (hbody _ i a' W3 hi3 hi2 hS (by omega)) ?_
      rintro e a4 W4 ⟨hk4, hi4⟩
      have hs4 := hk4.size
      have hl4 : W4.heap[w.heap.size + 1]? = some (.loop { rec_ .ready none with state := .busy }) := (hk4.same _ (by omega) (by omega) (by omega)).trans hl3
      have hd4 : W4.heap[w.heap.size]? = some (.deferred (some [])) := (hk4.same _ (by omega) (by omega) (by omega)).trans hk3
      rcases hi4 with ⟨rfl, hi4⟩ | ⟨rfl, hi4⟩
      · have hgE := grownBy_putObj' W4 (w.heap.size + 1) (.loop { rec_ .ready none with state := .ready, pending := none })
        have hsE := hgE.size
        exact ⟨_, _, run_endRound none hl4, .inl ⟨rfl, ⟨hI _ W4 _ _ (by omega) (by omega) hi4 (grownBy_putObj' W4 _ _), World.putObj_heap_same (by omega), (World.putObj_heap_other (by omega)).trans hd4, Nat.le_trans (by omega) hsE⟩⟩, Nat.le_trans (by omega) hsE⟩
      · have hgE := grownBy_putObj' W4 (w.heap.size + 1) (.loop { rec_ .ready none with state := .done, pending := some (.exit id) })
        have hsE := hgE.size
        exact ⟨_, _, run_endRound (some (.exit id)) hl4, .inr ⟨rfl, ⟨hIx () W4 _ _ (by omega) (by omega) hi4 (grownBy_putObj' W4 _ _), World.putObj_heap_same (by omega), (World.putObj_heap_other (by omega)).trans hd4, Nat.le_trans (by omega) hsE⟩⟩, Nat.le_trans (by omega) hsE⟩
    | ret => exact hq.elim
    | exit id => exact hq.elim
    | goto t => exact hq.elim
    | panic ch => exact hq.elim
    | outgrown => exact hq.elim
  case after =>
    rintro e W2 ⟨⟨v, rfl⟩, (⟨i, hE, hi, hl, hk, hsz⟩ | ⟨hi, hl, hk, hsz⟩)⟩
    · exact ⟨none, _, run_endLoop hl (by simp [rec_]), hdone i _ hE (hI _ W2 _ _ (by omega) (by omega) hi (grownBy_putObj' W2 _ _)) ((World.putObj_heap_other (by omega)).trans hk)⟩
    · exact ⟨some (.exit id), _, run_endLoop hl (by simp [rec_]), hstop _ (hIx () W2 _ _ (by omega) (by omega) hi (grownBy_putObj' W2 _ _)) ((World.putObj_heap_other (by omega)).trans hk)⟩
end Ytjkphacidpongaa
end Go.Proofs
