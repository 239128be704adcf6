/- A loop over an iterator that keeps one box of its own while it runs: the iterator turns that box, and new blocks, and nothing else; the body turns the caller's own blocks and none of the three that the loop lays first. -/
import Derived.RangeFuncOwn
import Derived.RangeFuncLeaves
import Derived.RangeFuncFrom
import Derived.Below
namespace Go.Proofs
namespace YtkhggnfhhafkjaaDoor
open Go.RowKit

/-- Of the three blocks from B on none has turned. -/
structure Kept3 (B : Nat) (W W' : World) : Prop where
  size : W.heap.size ≤ W'.heap.size
  same : ∀ k, B ≤ k → k ≤ B + 2 → k < W.heap.size → W'.heap[k]? = W.heap[k]?
theorem Kept3.refl (B : Nat) (W : World) : Kept3 B W W := ⟨Nat.le_refl _, fun _ _ _ _ => rfl⟩
theorem Kept3.trans {B : Nat} {U V W : World} (h : Kept3 B U V) (k : Kept3 B V W) : Kept3 B U W :=
  ⟨Nat.le_trans h.size k.size, fun i h0 h1 h2 => (k.same i h0 h1 (Nat.lt_of_lt_of_le h2 h.size)).trans (h.same i h0 h1 h2)⟩

/-- What minds no turn of one of these three blocks. -/
def Minds3 {β : Type} (B : Nat) (I : β → World → Prop) : Prop :=
  ∀ s W W' r, B ≤ r → r ≤ B + 2 → I s W → W.grownBy W' (some r) → I s W'

/-- The iterator's side: J minds neither new blocks nor the turn of block b; between two rounds block b lies as the iterator left it. -/
def IterBox {α : Type} (n : Nat) (P : Program) (g : Nat) (lb : Array Value) (encs : α → Array Value) (G : World → Prop) (S Sp : List α → Prop) (N b : Nat) (w : World) : Prop :=
  ∀ (l : Nat) (J Jx : List α → World → Prop), (∀ pre W, J pre W → G W) →
    (∀ s W W', J s W → W.grownBy W' (some b) → J s W') → (∀ s W W', Jx s W → W.grownBy W' (some b) → Jx s W') →
    (∀ pre x W1, J pre W1 → pre.length < N → w.heap.size < W1.heap.size → YieldAt Fence.wide (n - 1) P l (encs x) W1 fun e W' =>
      (e = .returned (.bool true) ∧ J (pre ++ [x]) W' ∧ W1.heap.size ≤ W'.heap.size ∧ W'.heap[b]? = W1.heap[b]?) ∨ (e = .returned (.bool false) ∧ Jx (pre ++ [x]) W')) →
    J [] w →
    CallsIn Fence.wide n P g (#[.func (.yield l) #[] #[]] ++ lb) w fun e W' => (∃ v, e = .returned v) ∧ ((∃ xs, S xs ∧ J xs W') ∨ (∃ pre, Sp pre ∧ Jx pre W'))

/-- How the body may be left. -/
def bodyOut {α : Type} (B : Nat) (I : List α → World → Prop) (Ix : Code → List α → World → Prop) (xs : List α) (W : World) : Exit → Act → World → Prop
  | .normal, _, W' => Kept3 B W W' ∧ I xs W'
  | .ret, _, W' => Kept3 B W W' ∧ Ix .ret xs W'
  | _, _, _ => False

set_option maxHeartbeats 1000000 in
theorem range_box {α : Type} {n : Nat} {P : Program} {g : Operand} {ps : Array Tmp} {assign body : Code} {Q : Exit → Act → World → Prop} {a : Act} {w : World} (h1 : 1 ≤ n) {gf : Nat} {lb : Array Value}
    (hg : a.eval g = .func (.func gf) #[] lb) (eg : ∀ args w, (callFunc gf args).run P w = .ok (.enter gf args) w) {encs : α → Array Value} {G : World → Prop} {S Sp : List α → Prop} {N : Nat}
    (hit : ∀ W1, Below w.heap.size w W1 → W1.heap.size = w.heap.size + 2 → IterBox (n - 1) P gf lb encs G S Sp N (w.heap.size + 2) W1) (hps : ∀ x, (encs x).size = ps.size)
    (I : List α → World → Prop) (hG : ∀ pre W, I pre W → G W) (Ix : Code → List α → World → Prop) (I2 : List α → α → Act → World → Prop) (hI : Minds3 w.heap.size I) (hIx : ∀ c, Minds3 w.heap.size (Ix c))
    (hI2 : ∀ pre x a', Minds3 w.heap.size (fun (_ : Unit) W => I2 pre x a' W)) (h0 : ∀ W1, Below w.heap.size w W1 → I [] W1)
    (hassign : ∀ (l : Nat) (pre : List α) (x : α) (W : World), I pre W → pre.length < N → w.heap.size + 2 < W.heap.size →
      assign.wpIn (Fence.wide.inRound l) (n - 1 - 1) P (Exit.then (fun a' W' => Kept3 w.heap.size W W' ∧ I2 pre x a' W') (fun _ _ _ => False)) { tmps := (ps.zip (encs x)).foldl (fun t (p, v) => t.setIfInBounds p v) a.tmps, defers := [] } W)
    (hbody : ∀ (l : Nat) (pre : List α) (x : α) (a' : Act) (W : World), I2 pre x a' W → pre.length < N → w.heap.size + 2 < W.heap.size → body.wpIn (Fence.wide.inRound l) (n - 1 - 1) P (bodyOut w.heap.size I Ix (pre ++ [x]) W) a' W)
    (hdone : ∀ (xs : List α) (W : World), S xs → I xs W → W.heap[w.heap.size]? = some (.deferred (some [])) → Q .normal { a with defers := { target := .collected w.heap.size, args := #[] } :: a.defers } W)
    (hstop : ∀ (c : Code) (pre : List α) (W : World), Sp pre → Ix c pre W → W.heap[w.heap.size]? = some (.deferred (some [])) → c.wpIn Fence.wide n P Q { a with defers := { target := .collected w.heap.size, args := #[] } :: a.defers } W) :
    (Code.rangeFunc g ps assign body).wpIn Fence.wide n P Q a w := by
  refine wpIn_rangeFunc fun fn hfn => ?_
  let rec_ : LoopState → Option Code → Loop := fun st pe => { state := st, pending := pe, fn := fn, tmps := a.tmps, params := ps, assign := assign, body := body, defers := w.heap.size }
  have hD0 := World.alloc_heap_new w (.deferred (some []))
  generalize hU : w.alloc (.deferred (some [])) = U at hD0
  have hUs : U.heap.size = w.heap.size + 1 := by rw [← hU]; simp
  have hL0 := World.alloc_heap_new U (.loop (rec_ .ready none))
  have hD1 : (U.alloc (.loop (rec_ .ready none))).heap[w.heap.size]? = some (.deferred (some [])) := (Below.heap_alloc _ _ _ (by omega)).trans hD0
  have hB1 : Below w.heap.size w (U.alloc (.loop (rec_ .ready none))) := by rw [← hU]; exact ((Below.refl _ w).alloc (Nat.le_refl _) _).alloc (by simp) _
  have hrun : (Instr.enterLoop fn a.tmps ps assign body Fence.wide.round).run P w = .ok (w.heap.size + 1, [{ target := .collected w.heap.size, args := #[] }]) (U.alloc (.loop (rec_ .ready none))) := by
    rw [← hU]; exact run_enterLoop_outer _ _ _ _ _
  generalize hV : U.alloc (.loop (rec_ .ready none)) = V at hL0 hD1 hB1 hrun
  have hVs : V.heap.size = w.heap.size + 2 := by rw [← hV]; simp [hUs]
  rw [hUs] at hL0
  refine ⟨w.heap.size + 1, _, V, { target := .fn (.func gf) lb, args := #[.func (.yield (w.heap.size + 1)) #[] #[]] }, V, gf, #[.func (.yield (w.heap.size + 1)) #[] #[]] ++ lb, V, hrun, ?_, fun _ _ => trivial, ?_, fun _ => h1, ?_⟩
  · simp only [resolve, hg]; simp [go_sem]
  · simp [invoke, go_sem, eg]
  let J : List α → World → Prop := fun pre W => I pre W ∧ W.heap[w.heap.size + 1]? = some (.loop (rec_ .ready none)) ∧ W.heap[w.heap.size]? = some (.deferred (some []))
  let Jx : List α → World → Prop := fun pre W => ∃ c, Ix c pre W ∧ W.heap[w.heap.size + 1]? = some (.loop (rec_ .done (some c))) ∧ W.heap[w.heap.size]? = some (.deferred (some []))
  have look : ∀ {A B : World} {k : Nat} {o : Obj}, A.grownBy B (some (w.heap.size + 2)) → A.heap[k]? = some o → k ≠ w.heap.size + 2 → B.heap[k]? = some o := fun hg' h hk =>
    (hg'.block _ (Array.getElem?_eq_some_iff.1 h).1 (fun e => hk (by injection e))).trans h
  refine (hit V hB1 hVs (w.heap.size + 1) J Jx (fun pre W hs => hG pre W hs.1) (fun s A B hs hg' => ⟨hI s A B _ (by omega) (Nat.le_refl _) hs.1 hg', look hg' hs.2.1 (by omega), look hg' hs.2.2 (by omega)⟩)
    (fun s A B hs hg' => by
      obtain ⟨c, h3, h4, h5⟩ := hs
      exact ⟨c, hIx c s A B _ (by omega) (Nat.le_refl _) h3 hg', look hg' h4 (by omega), look hg' h5 (by omega)⟩) ?round ⟨h0 V hB1, hL0, hD1⟩).mono ?after
  case round =>
    rintro pre x W ⟨hi, hl, hk⟩ hlen hsz
    rw [hVs] at hsz
    refine ⟨fn, _, assign, body, run_yield hl (hps x), roundIn_of_wpIn hfn (wpIn_mono (hassign (w.heap.size + 1) pre x W hi hlen hsz) ?_)⟩
    rintro e a' W2 hq
    cases e with
    | normal =>
      obtain ⟨hkept, hi2⟩ := hq
      have hl2 : W2.heap[w.heap.size + 1]? = some (.loop (rec_ .ready none)) := (hkept.same _ (by omega) (by omega) (by omega)).trans hl
      have hk2 : W2.heap[w.heap.size]? = some (.deferred (some [])) := (hkept.same _ (by omega) (by omega) (by omega)).trans hk
      have hs2 := hkept.size
      refine ⟨_, run_beginRound hl2 rfl, ?_⟩
      have hg3 := grownBy_putObj' W2 (w.heap.size + 1) (.loop { rec_ .ready none with state := .busy })
      have hl3 : (W2.putObj (w.heap.size + 1) (.loop { rec_ .ready none with state := .busy })).heap[w.heap.size + 1]? = some (.loop { rec_ .ready none with state := .busy }) := World.putObj_heap_same (by omega)
      have hk3 : (W2.putObj (w.heap.size + 1) (.loop { rec_ .ready none with state := .busy })).heap[w.heap.size]? = some (.deferred (some [])) := (World.putObj_heap_other (by omega)).trans hk2
      have hb3 : (W2.putObj (w.heap.size + 1) (.loop { rec_ .ready none with state := .busy })).heap[w.heap.size + 2]? = W.heap[w.heap.size + 2]? := (World.putObj_heap_other (by omega)).trans (hkept.same _ (by omega) (by omega) (by omega))
      have hi3 := hI2 pre x a' () W2 _ _ (by omega) (by omega) hi2 hg3
      have hs3 := hg3.size
      generalize W2.putObj (w.heap.size + 1) (.loop { rec_ .ready none with state := .busy }) = W3 at hl3 hk3 hb3 hi3 hs3 ⊢
      refine wpIn_mono (hbody _ pre x a' W3 hi3 hlen (by omega)) ?_
      rintro e a4 W4 hq4
      cases e with
      | normal =>
        obtain ⟨hk4, hi4⟩ := hq4
        have hs4 := hk4.size
        have hl4 : W4.heap[w.heap.size + 1]? = some (.loop { rec_ .ready none with state := .busy }) := (hk4.same _ (by omega) (by omega) (by omega)).trans hl3
        have hd4 : W4.heap[w.heap.size]? = some (.deferred (some [])) := (hk4.same _ (by omega) (by omega) (by omega)).trans hk3
        refine ⟨_, _, run_endRound none hl4, .inl ⟨rfl, ⟨hI _ W4 _ _ (by omega) (by omega) hi4 (grownBy_putObj' W4 _ _), World.putObj_heap_same (by omega), (World.putObj_heap_other (by omega)).trans hd4⟩, ?_, ?_⟩⟩
        · have := (grownBy_putObj' W4 (w.heap.size + 1) (.loop { rec_ .ready none with state := .ready, pending := none })).size
          simpa using (by omega : W.heap.size ≤ W4.heap.size)
        · exact ((World.putObj_heap_other (by omega)).trans (hk4.same _ (by omega) (by omega) (by omega))).trans hb3
      | ret =>
        obtain ⟨hk4, hi4⟩ := hq4
        have hs4 := hk4.size
        have hl4 : W4.heap[w.heap.size + 1]? = some (.loop { rec_ .ready none with state := .busy }) := (hk4.same _ (by omega) (by omega) (by omega)).trans hl3
        have hd4 : W4.heap[w.heap.size]? = some (.deferred (some [])) := (hk4.same _ (by omega) (by omega) (by omega)).trans hk3
        exact ⟨_, _, run_endRound (some .ret) hl4, .inr ⟨rfl, .ret, hIx _ _ W4 _ _ (by omega) (by omega) hi4 (grownBy_putObj' W4 _ _), World.putObj_heap_same (by omega), (World.putObj_heap_other (by omega)).trans hd4⟩⟩
      | exit id => exact hq4.elim
      | goto t => exact hq4.elim
      | panic ch => exact hq4.elim
      | outgrown => exact hq4.elim
    | ret => exact hq.elim
    | exit id => exact hq.elim
    | goto t => exact hq.elim
    | panic ch => exact hq.elim
    | outgrown => exact hq.elim
  case after =>
    rintro e W2 ⟨⟨v, rfl⟩, (⟨xs, hS, hi, hl, hk⟩ | ⟨pre, hSp, c, hi, hl, hk⟩)⟩
    · exact ⟨none, _, run_endLoop hl (by simp [rec_]), hdone xs _ hS (hI _ W2 _ _ (by omega) (by omega) hi (grownBy_putObj' W2 _ _)) ((World.putObj_heap_other (by omega)).trans hk)⟩
    · exact ⟨some c, _, run_endLoop hl (by simp [rec_]), hstop c pre _ hSp (hIx c _ W2 _ _ (by omega) (by omega) hi (grownBy_putObj' W2 _ _)) ((World.putObj_heap_other (by omega)).trans hk)⟩
end YtkhggnfhhafkjaaDoor
end Go.Proofs
