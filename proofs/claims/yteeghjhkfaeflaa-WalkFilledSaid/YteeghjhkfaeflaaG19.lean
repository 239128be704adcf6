/- A walk through a stretch of an arena, as plain functions on lists of numbers. -/
import Derived.Test.YteeghjhkfaeflaaG18
import Derived.RangeFuncOwn
import Derived.RangeFuncLeaves
import Derived.RangeFuncFrom
import Derived.RangeFuncCalls
import Derived.Below
import Derived.Shelf.RegionOpen
import Derived.Handy
import Derived.TacticsInMore
import Derived.LoopNIn
import Derived.OwnWalkIn
import Derived.RangeFuncBox
import Derived.RecoverIn
namespace Go.Proofs
namespace Yteeghjhkfaeflaa
open Go.RowKit

/-- the objects from an address on, and the address at which one is missing -/
def goW (ws : List Int) (top : Int) : Nat → Int → List Int × Option Int
  | 0, _ => ([], none)
  | k + 1, a => if a < top then (if (sizF ws a).2 ≠ 0 ∨ top - a < (sizF ws a).1 then ([], some a) else (a :: (goW ws top k (a + (sizF ws a).1)).1, (goW ws top k (a + (sizF ws a).1)).2)) else ([], none)
/-- the error of a stretch -/
def strF (ws : List Int) (f t : Int) : Int := if chkF ws ≠ 0 then chkF ws else if f < 1 ∨ t < f ∨ (ws.length : Int) < t then 7 else 0
def wlk (ws : List Int) (f t : Int) : List Int × Option Int := goW ws t ((t - f).toNat + 1) f
/-- the objects that a walk meets -/
def visL (ws : List Int) (f t : Int) : List Int := if strF ws f t = 0 then (wlk ws f t).1 else []
def gapE : Option Int → Int × Int
  | none => (0, 0)
  | some a => (a, 6)
/-- what Check answers -/
def wcF (ws : List Int) (f t : Int) : Int × Int := if strF ws f t = 0 then gapE (wlk ws f t).2 else (0, strF ws f t)

theorem siz_ok {ws : List Int} {a : Int} (h : (sizF ws a).2 = 0) : 1 ≤ a ∧ 1 ≤ (sizF ws a).1 ∧ a + (sizF ws a).1 ≤ ws.length ∧ ws.length ≤ 1601 ∧ (sizF ws a).1 ≤ 64 := by
  rcases obj_cases ws a with ⟨E, hE, e⟩ | ⟨k, P, R, rfl, ho⟩
  · unfold sizF at h; rw [e] at h; rw [if_neg hE] at h; exact absurd h hE
  · have h1 := ho.is
    have h2 := ho.one
    have h3 := ho.fit
    have h4 := ho.len
    have h5 := ho.sum
    unfold sizF
    rw [h1]
    simp only [↓reduceIte]
    omega
theorem siz_small (ws : List Int) (a : Int) : 0 ≤ (sizF ws a).1 ∧ (sizF ws a).1 ≤ 64 := by
  by_cases h : (sizF ws a).2 = 0
  · have := siz_ok h; omega
  · unfold sizF at h ⊢
    split at h
    · exact absurd rfl h
    · rename_i hh; rw [if_neg hh]; simp
theorem goW_stop {ws : List Int} {top a : Int} (k : Nat) (h : ¬ a < top) : goW ws top k a = ([], none) := by
  cases k with
  | zero => rfl
  | succ k => rw [goW, if_neg h]
theorem goW_gap {ws : List Int} {top a : Int} (k : Nat) (h : a < top) (h2 : (sizF ws a).2 ≠ 0 ∨ top - a < (sizF ws a).1) : goW ws top (k + 1) a = ([], some a) := by
  rw [goW, if_pos h, if_pos h2]
theorem goW_step {ws : List Int} {top a : Int} (k : Nat) (h : a < top) (h2 : ¬ ((sizF ws a).2 ≠ 0 ∨ top - a < (sizF ws a).1)) :
    goW ws top (k + 1) a = (a :: (goW ws top k (a + (sizF ws a).1)).1, (goW ws top k (a + (sizF ws a).1)).2) := by
  rw [goW, if_pos h, if_neg h2]
theorem goW_fuel {ws : List Int} {top : Int} : ∀ (k : Nat) (a : Int) (j : Nat), (top - a).toNat < k → (top - a).toNat < j → goW ws top k a = goW ws top j a
  | 0, _, _, h, _ => by omega
  | k + 1, a, j, h, hj => by
    obtain ⟨j, rfl⟩ : ∃ i, j = i + 1 := ⟨j - 1, by omega⟩
    by_cases ha : a < top
    · by_cases h2 : (sizF ws a).2 ≠ 0 ∨ top - a < (sizF ws a).1
      · rw [goW_gap k ha h2, goW_gap j ha h2]
      · rw [goW_step k ha h2, goW_step j ha h2]
        have h3 : (sizF ws a).2 = 0 := Classical.byContradiction fun hn => h2 (.inl hn)
        have := siz_ok h3
        rw [goW_fuel k (a + (sizF ws a).1) j (by omega) (by omega)]
    · rw [goW_stop _ ha, goW_stop _ ha]
theorem goW_len {ws : List Int} {top : Int} : ∀ (k : Nat) (a : Int), (goW ws top k a).1.length ≤ (top - a).toNat
  | 0, _ => by simp [goW]
  | k + 1, a => by
    by_cases ha : a < top
    · by_cases h2 : (sizF ws a).2 ≠ 0 ∨ top - a < (sizF ws a).1
      · rw [goW_gap k ha h2]; simp
      · rw [goW_step k ha h2]
        have h3 : (sizF ws a).2 = 0 := Classical.byContradiction fun hn => h2 (.inl hn)
        have := siz_ok h3
        have := goW_len (ws := ws) (top := top) k (a + (sizF ws a).1)
        simp only [List.length_cons]
        omega
    · rw [goW_stop _ ha]; simp
theorem str_ok {ws : List Int} {f t : Int} (h : strF ws f t = 0) : chkF ws = 0 ∧ 1 ≤ f ∧ f ≤ t ∧ t ≤ ws.length ∧ ws.length ≤ 1601 := by
  unfold strF at h
  by_cases hc : chkF ws = 0
  · rw [if_neg (by simp [hc])] at h
    by_cases hr : f < 1 ∨ t < f ∨ (ws.length : Int) < t
    · rw [if_pos hr] at h; cases h
    · have := chk_len hc
      exact ⟨hc, by omega, by omega, by omega, by omega⟩
  · rw [if_pos hc] at h; exact absurd h hc
theorem vis_len (ws : List Int) (f t : Int) : (visL ws f t).length ≤ 1601 := by
  unfold visL
  split
  · rename_i h
    have := str_ok h
    have h2 := goW_len (ws := ws) (top := t) ((t - f).toNat + 1) f
    unfold wlk
    omega
  · simp
end Yteeghjhkfaeflaa
end Go.Proofs
/- A loop over an iterator that turns no old block, and may end in a panic; the body turns the caller's own blocks, and none of those that the loop lays. -/
namespace Go.Proofs
namespace Yteeghjhkfaeflaa
open Go.RowKit

/-- Of the blocks from B on, up to C, none has turned. -/
structure KeptR (B C : Nat) (W W' : World) : Prop where
  size : W.heap.size ≤ W'.heap.size
  same : ∀ k, B ≤ k → k < C → k < W.heap.size → W'.heap[k]? = W.heap[k]?
theorem KeptR.refl (B C : Nat) (W : World) : KeptR B C W W := ⟨Nat.le_refl _, fun _ _ _ _ => rfl⟩
theorem KeptR.trans {B C : Nat} {U V W : World} (h : KeptR B C U V) (k : KeptR B C V W) : KeptR B C U W :=
  ⟨Nat.le_trans h.size k.size, fun i h0 h1 h2 => (k.same i h0 h1 (Nat.lt_of_lt_of_le h2 h.size)).trans (h.same i h0 h1 h2)⟩
theorem KeptR.of_below {B C : Nat} {W W' : World} (h : Below W.heap.size W W') : KeptR B C W W' := ⟨h.size, fun k _ _ hk => h.block k hk⟩
theorem KeptR.mono {B B' C C' : Nat} {W W' : World} (h : KeptR B C W W') (h1 : B ≤ B') (h2 : C' ≤ C) : KeptR B' C' W W' := ⟨h.size, fun k h3 h4 h5 => h.same k (by omega) (by omega) h5⟩
/-- What minds no turn of one of these blocks. -/
def MindsR {β : Type} (B C : Nat) (I : β → World → Prop) : Prop :=
  ∀ s W W' r, B ≤ r → r < C → I s W → W.grownBy W' (some r) → I s W'
theorem MindsR.below {β : Type} {B C : Nat} {I : β → World → Prop} (h : MindsR B C I) (hBC : B < C) {s : β} {W W' : World} (hi : I s W) (hb : Below W.heap.size W W') : I s W' :=
  h s W W' B (Nat.le_refl _) hBC hi (grown_of_below hb _)

/-- The iterator's side. -/
def IterW (n : Nat) (P : Program) (g : Nat) (lb : Array Value) (encs : Int → Array Value) (xs : List Int) (E : Ending → Prop) (G : World → Prop) (w : World) : Prop :=
  ∀ (l : Nat) (J : List Int → World → Prop), (∀ pre W, J pre W → G W) → (∀ s W W', J s W → Below W.heap.size W W' → J s W') →
    (∀ pre x W1, J pre W1 → pre ++ [x] <+: xs → w.heap.size ≤ W1.heap.size → YieldAt Fence.wide (n - 1) P l (encs x) W1 fun e W' =>
      e = .returned (.bool true) ∧ J (pre ++ [x]) W' ∧ W1.heap.size ≤ W'.heap.size) →
    J [] w → CallsIn Fence.wide n P g (#[.func (.yield l) #[] #[]] ++ lb) w fun e W' => E e ∧ J xs W'

set_option maxHeartbeats 1000000 in
theorem range_walk {n : Nat} {P : Program} {g : Operand} {ps : Array Tmp} {assign body : Code} {Q : Exit → Act → World → Prop} {a : Act} {w : World} (h1 : 1 ≤ n) {gf : Nat} {lb : Array Value}
    (hg : a.eval g = .func (.func gf) #[] lb) (eg : ∀ args w, (callFunc gf args).run P w = .ok (.enter gf args) w) {encs : Int → Array Value} {xs : List Int} {E : Ending → Prop} {G : World → Prop}
    (hE : ¬ E .outgrown) (hit : ∀ W1, Below w.heap.size w W1 → W1.heap.size = w.heap.size + 2 → IterW (n - 1) P gf lb encs xs E G W1) (hps : ∀ x, (encs x).size = ps.size)
    (I : List Int → World → Prop) (hG : ∀ pre W, I pre W → G W) (A2 : Int → Act → Prop) (hI : MindsR w.heap.size (w.heap.size + 2) I) (h0 : ∀ W1, Below w.heap.size w W1 → W1.heap.size = w.heap.size + 2 → I [] W1)
    (hassign : ∀ (l : Nat) (pre : List Int) (x : Int) (W : World), I pre W →
      assign.wpIn (Fence.wide.inRound l) (n - 1 - 1) P (Exit.then (fun a' W' => W' = W ∧ A2 x a') (fun _ _ _ => False)) { tmps := (ps.zip (encs x)).foldl (fun t (p, v) => t.setIfInBounds p v) a.tmps, defers := [] } W)
    (hbody : ∀ (l : Nat) (pre : List Int) (x : Int) (a' : Act) (W : World), I pre W → A2 x a' → pre ++ [x] <+: xs → w.heap.size + 2 ≤ W.heap.size →
      body.wpIn (Fence.wide.inRound l) (n - 1 - 1) P (fun e _ W' => e = .normal ∧ KeptR w.heap.size (w.heap.size + 2) W W' ∧ I (pre ++ [x]) W') a' W)
    (hdone : ∀ (v : Value) (W : World), E (.returned v) → I xs W → W.heap[w.heap.size]? = some (.deferred (some [])) → Q .normal { a with defers := { target := .collected w.heap.size, args := #[] } :: a.defers } W)
    (hpanic : ∀ (ch : List PanicEntry) (W : World), E (.panicked ch) → I xs W → W.heap[w.heap.size]? = some (.deferred (some [])) → Q (.panic ch) { a with defers := { target := .collected w.heap.size, args := #[] } :: a.defers } W) :
    (Code.rangeFunc g ps assign body).wpIn Fence.wide n P Q a w := by
  refine wpIn_rangeFunc fun fn hfn => ?_
  let rec_ : LoopState → Option Code → Loop := fun st pe => { state := st, pending := pe, fn := fn, tmps := a.tmps, params := ps, assign := assign, body := body, defers := w.heap.size }
  have hD0 := World.alloc_heap_new w (.deferred (some []))
  generalize hU : w.alloc (.deferred (some [])) = U at hD0
  have hUs : U.heap.size = w.heap.size + 1 := by rw [← hU]; simp
  have hL0 := World.alloc_heap_new U (.loop (rec_ .ready none))
  have hD1 : (U.alloc (.loop (rec_ .ready none))).heap[w.heap.size]? = some (.deferred (some [])) := (Below.heap_alloc _ _ _ (by omega)).trans hD0
  have hB1 : Below w.heap.size w (U.alloc (.loop (rec_ .ready none))) := by rw [← hU]; exact ((Below.refl _ w).alloc (Nat.le_refl _) _).alloc (by simp) _
  have hrun : (Instr.enterLoop fn a.tmps ps assign body Fence.wide.round).run P w = .ok (w.heap.size + 1, [{ target := .collected w.heap.size, args := #[] }]) (U.alloc (.loop (rec_ .ready none))) := by
    rw [← hU]; exact run_enterLoop_outer _ _ _ _ _
  generalize hV : U.alloc (.loop (rec_ .ready none)) = V at hL0 hD1 hB1 hrun
  have hVs : V.heap.size = w.heap.size + 2 := by rw [← hV]; simp [hUs]
  rw [hUs] at hL0
  refine ⟨w.heap.size + 1, _, V, { target := .fn (.func gf) lb, args := #[.func (.yield (w.heap.size + 1)) #[] #[]] }, V, gf, #[.func (.yield (w.heap.size + 1)) #[] #[]] ++ lb, V, hrun, ?_, fun _ _ => trivial, ?_, fun _ => h1, ?_⟩
  · simp only [resolve, hg]; simp [go_sem]
  · simp [invoke, go_sem, eg]
  let J : List Int → World → Prop := fun pre W => I pre W ∧ W.heap[w.heap.size + 1]? = some (.loop (rec_ .ready none)) ∧ W.heap[w.heap.size]? = some (.deferred (some [])) ∧ w.heap.size + 2 ≤ W.heap.size
  refine (hit V hB1 hVs (w.heap.size + 1) J (fun pre W hs => hG pre W hs.1)
    (fun s A B hs hb => ⟨hI.below (by omega) hs.1 hb, (hb.block _ (by have := hs.2.2.2; omega)).trans hs.2.1, (hb.block _ (by have := hs.2.2.2; omega)).trans hs.2.2.1, by have := hb.size; have := hs.2.2.2; omega⟩)
    ?round ⟨h0 V hB1 hVs, hL0, hD1, by omega⟩).mono ?after
  case round =>
    rintro pre x W ⟨hi, hl, hk, hsz⟩ hpx _
    refine ⟨fn, _, assign, body, run_yield hl (hps x), roundIn_of_wpIn hfn (wpIn_mono (hassign (w.heap.size + 1) pre x W hi) ?_)⟩
    rintro e a' W2 hq
    cases e with
    | normal =>
      obtain ⟨rfl, hi2⟩ := hq
      refine ⟨_, run_beginRound hl rfl, ?_⟩
      have hg3 := grownBy_putObj' W2 (w.heap.size + 1) (.loop { rec_ .ready none with state := .busy })
      have hl3 : (W2.putObj (w.heap.size + 1) (.loop { rec_ .ready none with state := .busy })).heap[w.heap.size + 1]? = some (.loop { rec_ .ready none with state := .busy }) := World.putObj_heap_same (by omega)
      have hk3 : (W2.putObj (w.heap.size + 1) (.loop { rec_ .ready none with state := .busy })).heap[w.heap.size]? = some (.deferred (some [])) := (World.putObj_heap_other (by omega)).trans hk
      have hi3 := hI pre W2 _ _ (by omega) (by omega) hi hg3
      have hs3 := hg3.size
      generalize W2.putObj (w.heap.size + 1) (.loop { rec_ .ready none with state := .busy }) = W3 at hl3 hk3 hi3 hs3 ⊢
      refine wpIn_mono (hbody _ pre x a' W3 hi3 hi2 hpx (by omega)) ?_
      rintro e a4 W4 ⟨rfl, hk4, hi4⟩
      have hs4 := hk4.size
      have hl4 : W4.heap[w.heap.size + 1]? = some (.loop { rec_ .ready none with state := .busy }) := (hk4.same _ (by omega) (by omega) (by omega)).trans hl3
      have hd4 : W4.heap[w.heap.size]? = some (.deferred (some [])) := (hk4.same _ (by omega) (by omega) (by omega)).trans hk3
      have hgE := grownBy_putObj' W4 (w.heap.size + 1) (.loop { rec_ .ready none with state := .ready, pending := none })
      have hsE := hgE.size
      exact ⟨_, _, run_endRound none hl4, rfl, ⟨hI _ W4 _ _ (by omega) (by omega) hi4 (grownBy_putObj' W4 _ _), World.putObj_heap_same (by omega), (World.putObj_heap_other (by omega)).trans hd4, Nat.le_trans (by omega) hsE⟩, Nat.le_trans (by omega) hsE⟩
    | ret => exact hq.elim
    | exit id => exact hq.elim
    | goto t => exact hq.elim
    | panic ch => exact hq.elim
    | outgrown => exact hq.elim
  case after =>
    rintro e W2 ⟨hEe, hi, hl, hk, hsz⟩
    cases e with
    | returned v => exact ⟨none, _, run_endLoop hl (by simp [rec_]), hdone v _ hEe (hI _ W2 _ _ (by omega) (by omega) hi (grownBy_putObj' W2 _ _)) ((World.putObj_heap_other (by omega)).trans hk)⟩
    | panicked ch => exact hpanic ch _ hEe hi hk
    | outgrown => exact (hE hEe).elim
end Yteeghjhkfaeflaa
end Go.Proofs
