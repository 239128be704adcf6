/- A loop over an iterator, which the body may leave by a label. -/
import Derived.Test.YtjkphacidpongaaGreatG00
import Derived.RangeFuncOwn
import Derived.RangeFuncLeaves
import Derived.RangeFuncFrom
import Derived.RangeFuncCalls
import Derived.Below
import Derived.Shelf.RegionOpen
import Derived.Handy
import Derived.TacticsInMore
import Derived.LoopNIn
import Derived.OwnWalkIn
import Derived.RangeFuncBox
import Derived.RecoverIn
import Derived.WalkLawsBesides
import Derived.Deep.Cut
import Derived.Deep.LoopGhost
import Derived.Deep.RegionLaw
namespace Go.Proofs
namespace YtjkphacidpongaaGreat
open Go.RowKit

/-- Of the blocks from B on, up to C, none has turned. -/
structure KeptR (B C : Nat) (W W' : World) : Prop where
  size : W.heap.size ≤ W'.heap.size
  same : ∀ k, B ≤ k → k < C → k < W.heap.size → W'.heap[k]? = W.heap[k]?
/-- What minds no turn of one of these blocks. -/
def MindsR {β : Type} (B C : Nat) (I : β → World → Prop) : Prop :=
  ∀ s W W' r, B ≤ r → r < C → I s W → W.grownBy W' (some r) → I s W'
theorem MindsR.below {β : Type} {B C : Nat} {I : β → World → Prop} (h : MindsR B C I) (hBC : B < C) {s : β} {W W' : World} (hi : I s W) (hb : Below W.heap.size W W') : I s W' :=
  h s W W' B (Nat.le_refl _) hBC hi (grown_of_below hb _)

/-- The iterator's side: it yields enc 0, enc 1, .. , each one where S holds; it ends where E holds, or where it was stopped. -/
def IterS (n : Nat) (P : Program) (g : Nat) (lb : Array Value) (enc : Nat → Array Value) (E S : Nat → Prop) (G : World → Prop) (w : World) : Prop :=
  ∀ (l : Nat) (J : Nat → World → Prop) (K : World → Prop), (∀ i W, J i W → G W) → (∀ i W W', J i W → Below W.heap.size W W' → J i W') → (∀ W W', K W → Below W.heap.size W W' → K W') →
    (∀ i W1, J i W1 → S i → w.heap.size ≤ W1.heap.size → YieldAt Fence.wide (n - 1) P l (enc i) W1 fun e W' =>
      (e = .returned (.bool true) ∧ J (i + 1) W' ∨ e = .returned (.bool false) ∧ K W') ∧ W1.heap.size ≤ W'.heap.size) →
    J 0 w → CallsIn Fence.wide n P g (#[.func (.yield l) #[] #[]] ++ lb) w fun e W' => (∃ v, e = .returned v) ∧ ((∃ i, E i ∧ J i W') ∨ K W')

set_option maxHeartbeats 1000000 in
theorem range_stop {n : Nat} {P : Program} {g : Operand} {ps : Array Tmp} {assign body : Code} {Q : Exit → Act → World → Prop} {a : Act} {w : World} (h1 : 1 ≤ n) {gf : Nat} {lb : Array Value}
    (hg : a.eval g = .func (.func gf) #[] lb) (eg : ∀ args w, (callFunc gf args).run P w = .ok (.enter gf args) w) {enc : Nat → Array Value} {E S : Nat → Prop} {G : World → Prop} (id : Nat)
    (hit : ∀ W1, Below w.heap.size w W1 → W1.heap.size = w.heap.size + 2 → IterS (n - 1) P gf lb enc E S G W1) (hps : ∀ x, (enc x).size = ps.size)
    (I : Nat → World → Prop) (Ix : World → Prop) (hG : ∀ i W, I i W → G W) (A2 : Nat → Act → Prop) (hI : MindsR w.heap.size (w.heap.size + 2) I) (hIx : MindsR w.heap.size (w.heap.size + 2) (fun (_ : Unit) W => Ix W))
    (h0 : ∀ W1, Below w.heap.size w W1 → W1.heap.size = w.heap.size + 2 → I 0 W1)
    (hassign : ∀ (l i : Nat) (W : World), I i W →
      assign.wpIn (Fence.wide.inRound l) (n - 1 - 1) P (Exit.then (fun a' W' => W' = W ∧ A2 i a') (fun _ _ _ => False)) { tmps := (ps.zip (enc i)).foldl (fun t (p, v) => t.setIfInBounds p v) a.tmps, defers := [] } W)
    (hbody : ∀ (l i : Nat) (a' : Act) (W : World), I i W → A2 i a' → S i → w.heap.size + 2 ≤ W.heap.size →
      body.wpIn (Fence.wide.inRound l) (n - 1 - 1) P (fun e _ W' => KeptR w.heap.size (w.heap.size + 2) W W' ∧ (e = .normal ∧ I (i + 1) W' ∨ e = .exit id ∧ Ix W')) a' W)
    (hdone : ∀ (i : Nat) (W : World), E i → I i W → W.heap[w.heap.size]? = some (.deferred (some [])) → Q .normal { a with defers := { target := .collected w.heap.size, args := #[] } :: a.defers } W)
    (hstop : ∀ (W : World), Ix W → W.heap[w.heap.size]? = some (.deferred (some [])) → (Code.exit id).wpIn Fence.wide n P Q { a with defers := { target := .collected w.heap.size, args := #[] } :: a.defers } W) :
    (Code.rangeFunc g ps assign body).wpIn Fence.wide n P Q a w := by
  refine wpIn_rangeFunc fun fn hfn => ?_
  let rec_ : LoopState → Option Code → Loop := fun st pe => { state := st, pending := pe, fn := fn, tmps := a.tmps, params := ps, assign := assign, body := body, defers := w.heap.size }
  have hD0 := World.alloc_heap_new w (.deferred (some []))
  generalize hU : w.alloc (.deferred (some [])) = U at hD0
  have hUs : U.heap.size = w.heap.size + 1 := by rw [← hU]; simp
  have hL0 := World.alloc_heap_new U (.loop (rec_ .ready none))
  have hD1 : (U.alloc (.loop (rec_ .ready none))).heap[w.heap.size]? = some (.deferred (some [])) := (Below.heap_alloc _ _ _ (by omega)).trans hD0
  have hB1 : Below w.heap.size w (U.alloc (.loop (rec_ .ready none))) := by rw [← hU]; exact ((Below.refl _ w).alloc (Nat.le_refl _) _).alloc (by simp) _
  have hrun : (Instr.enterLoop fn a.tmps ps assign body Fence.wide.round).run P w = .ok (w.heap.size + 1, [{ target := .collected w.heap.size, args := #[] }]) (U.alloc (.loop (rec_ .ready none))) := by
    rw [← hU]; exact run_enterLoop_outer _ _ _ _ _
  generalize hV : U.alloc (.loop (rec_ .ready none)) = V at hL0 hD1 hB1 hrun
  have hVs : V.heap.size = w.heap.size + 2 := by rw [← hV]; simp [hUs]
  rw [hUs] at hL0
  refine ⟨w.heap.size + 1, _, V, { target := .fn (.func gf) lb, args := #[.func (.yield (w.heap.size + 1)) #[] #[]] }, V, gf, #[.func (.yield (w.heap.size + 1)) #[] #[]] ++ lb, V, hrun, ?_, fun _ _ => trivial, ?_, fun _ => h1, ?_⟩
  · simp only [resolve, hg]; simp [go_sem]
  · simp [invoke, go_sem, eg]
  let J : Nat → World → Prop := fun i W => I i W ∧ W.heap[w.heap.size + 1]? = some (.loop (rec_ .ready none)) ∧ W.heap[w.heap.size]? = some (.deferred (some [])) ∧ w.heap.size + 2 ≤ W.heap.size
  let K : World → Prop := fun W => Ix W ∧ W.heap[w.heap.size + 1]? = some (.loop (rec_ .done (some (.exit id)))) ∧ W.heap[w.heap.size]? = some (.deferred (some [])) ∧ w.heap.size + 2 ≤ W.heap.size
  refine (hit V hB1 hVs (w.heap.size + 1) J K (fun i W hs => hG i W hs.1)
    (fun s A B hs hb => ⟨hI.below (by omega) hs.1 hb, (hb.block _ (by have := hs.2.2.2; omega)).trans hs.2.1, (hb.block _ (by have := hs.2.2.2; omega)).trans hs.2.2.1, by have := hb.size; have := hs.2.2.2; omega⟩)
    (fun A B hs hb => ⟨hIx.below (by omega) (s := ()) hs.1 hb, (hb.block _ (by have := hs.2.2.2; omega)).trans hs.2.1, (hb.block _ (by have := hs.2.2.2; omega)).trans hs.2.2.1, by have := hb.size; have := hs.2.2.2; omega⟩)
    ?round ⟨h0 V hB1 hVs, hL0, hD1, by omega⟩).mono ?after
  case round =>
    rintro i W ⟨hi, hl, hk, hsz⟩ hS _
    refine ⟨fn, _, assign, body, run_yield hl (hps i), roundIn_of_wpIn hfn (wpIn_mono (hassign (w.heap.size + 1) i W hi) ?_)⟩
    rintro e a' W2 hq
    cases e with
    | normal =>
      obtain ⟨rfl, hi2⟩ := hq
      refine ⟨_, run_beginRound hl rfl, ?_⟩
      have hg3 := grownBy_putObj' W2 (w.heap.size + 1) (.loop { rec_ .ready none with state := .busy })
      have hl3 : (W2.putObj (w.heap.size + 1) (.loop { rec_ .ready none with state := .busy })).heap[w.heap.size + 1]? = some (.loop { rec_ .ready none with state := .busy }) := World.putObj_heap_same (by omega)
      have hk3 : (W2.putObj (w.heap.size + 1) (.loop { rec_ .ready none with state := .busy })).heap[w.heap.size]? = some (.deferred (some [])) := (World.putObj_heap_other (by omega)).trans hk
      have hi3 := hI i W2 _ _ (by omega) (by omega) hi hg3
      have hs3 := hg3.size
      generalize W2.putObj (w.heap.size + 1) (.loop { rec_ .ready none with state := .busy }) = W3 at hl3 hk3 hi3 hs3 ⊢
      refine wpIn_mono (hbody _ i a' W3 hi3 hi2 hS (by omega)) ?_
      rintro e a4 W4 ⟨hk4, hi4⟩
      have hs4 := hk4.size
      have hl4 : W4.heap[w.heap.size + 1]? = some (.loop { rec_ .ready none with state := .busy }) := (hk4.same _ (by omega) (by omega) (by omega)).trans hl3
      have hd4 : W4.heap[w.heap.size]? = some (.deferred (some [])) := (hk4.same _ (by omega) (by omega) (by omega)).trans hk3
      rcases hi4 with ⟨rfl, hi4⟩ | ⟨rfl, hi4⟩
      · have hgE := grownBy_putObj' W4 (w.heap.size + 1) (.loop { rec_ .ready none with state := .ready, pending := none })
        have hsE := hgE.size
        exact ⟨_, _, run_endRound none hl4, .inl ⟨rfl, ⟨hI _ W4 _ _ (by omega) (by omega) hi4 (grownBy_putObj' W4 _ _), World.putObj_heap_same (by omega), (World.putObj_heap_other (by omega)).trans hd4, Nat.le_trans (by omega) hsE⟩⟩, Nat.le_trans (by omega) hsE⟩
      · have hgE := grownBy_putObj' W4 (w.heap.size + 1) (.loop { rec_ .ready none with state := .done, pending := some (.exit id) })
        have hsE := hgE.size
        exact ⟨_, _, run_endRound (some (.exit id)) hl4, .inr ⟨rfl, ⟨hIx () W4 _ _ (by omega) (by omega) hi4 (grownBy_putObj' W4 _ _), World.putObj_heap_same (by omega), (World.putObj_heap_other (by omega)).trans hd4, Nat.le_trans (by omega) hsE⟩⟩, Nat.le_trans (by omega) hsE⟩
    | ret => exact hq.elim
    | exit id => exact hq.elim
    | goto t => exact hq.elim
    | panic ch => exact hq.elim
    | outgrown => exact hq.elim
  case after =>
    rintro e W2 ⟨⟨v, rfl⟩, (⟨i, hE, hi, hl, hk, hsz⟩ | ⟨hi, hl, hk, hsz⟩)⟩
    · exact ⟨none, _, run_endLoop hl (by simp [rec_]), hdone i _ hE (hI _ W2 _ _ (by omega) (by omega) hi (grownBy_putObj' W2 _ _)) ((World.putObj_heap_other (by omega)).trans hk)⟩
    · exact ⟨some (.exit id), _, run_endLoop hl (by simp [rec_]), hstop _ (hIx () W2 _ _ (by omega) (by omega) hi (grownBy_putObj' W2 _ _)) ((World.putObj_heap_other (by omega)).trans hk)⟩
end YtjkphacidpongaaGreat
end Go.Proofs
/- Good tables: adding, dropping, purging, building anew. -/
namespace Go.Proofs
namespace YtjkphacidpongaaGreat
open Go.RowKit

structure Good (cs : List Int) : Prop where
  tab : Tab cs
  pow : isPow cs.length = true
  calm : 4 * usedN cs ≤ 3 * cs.length
theorem Good.zero {cs : List Int} (h : Good cs) : (0 : Int) ∈ cs := zero_of_used (by have := h.calm; have := h.tab.lo; omega)
theorem Good.crowd {cs : List Int} (h : Good cs) : crowd cs = false := by
  have := h.calm
  simp only [YtjkphacidpongaaGreat.crowd, decide_eq_false_iff_not]; omega
theorem pow_lo {n : Nat} (h : isPow n = true) : 8 ≤ n ∧ n ≤ 8192 := by
  simp only [isPow, List.contains_eq_mem, List.mem_cons, List.not_mem_nil, or_false, decide_eq_true_eq] at h
  omega
theorem pow_two {n : Nat} (h : isPow n = true) (h2 : n ≤ 4300) : isPow (2 * n) = true := by
  simp only [isPow, List.contains_eq_mem, List.mem_cons, List.not_mem_nil, or_false, decide_eq_true_eq] at h ⊢
  omega
theorem take_count {cs : List Int} (hc : ∀ i, i < cs.length → cellErr cs i = 0) {x : Int} (hx : 0 < x) : ∀ k, k ≤ cs.length → (cs.take k).count x ≤ 1
  | 0, _ => by simp
  | k + 1, hk => by
    have ih := take_count hc hx k (by omega)
    rw [List.take_add_one, List.count_append, List.getElem?_eq_getElem (by omega)]
    simp only [Option.toList_some, List.count_singleton]
    split
    · rename_i e
      have e : cs[k] = x := by simpa using e
      have h1 := hc k (by omega)
      have e2 : cs.getD k 0 = x := by rw [← e, getElem_getD]
      unfold cellErr at h1
      rw [e2] at h1
      split at h1
      · cases h1
      · split at h1
        · cases h1
        · rename_i h3
          rw [List.count_eq_zero.2 (fun hm => h3 ⟨hx, hm⟩)]
          omega
    · omega
theorem good_of_chk {cs : List Int} (h : (chkF cs).2 = 0) : Good cs := by
  unfold chkF at h
  split at h
  · cases h
  rename_i h1
  split at h
  · cases h
  rename_i h2
  split at h
  · rename_i h3
    have := least_at (fun i => cellErr cs i != 0) cs.length 0 (by unfold errI at h3; omega)
    simp only [bne_iff_ne, ne_eq] at this
    exact absurd h this
  rename_i h3
  split at h
  · cases h
  rename_i h4
  split at h
  · cases h
  rename_i h5
  have hp : isPow cs.length = true := by simpa using h2
  have hc : ∀ i, i < cs.length → cellErr cs i = 0 := fun i hi => by
    have := least_before (fun i => cellErr cs i != 0) cs.length 0 i (Nat.zero_le _) (by unfold errI at h3; omega)
    simpa using this
  have hk : 4 * usedN cs ≤ 3 * cs.length := by simp only [crowd, decide_eq_true_eq] at h4; omega
  have hz : (0 : Int) ∈ cs := zero_of_used (by have := pow_lo hp; omega)
  refine ⟨⟨(pow_lo hp).1, (pow_lo hp).2, ?_, ?_, ?_⟩, hp, hk⟩
  · intro c hm
    obtain ⟨i, hi, rfl⟩ := mem_getD hm
    have := hc i hi
    unfold cellErr at this
    split at this
    · cases this
    · omega
  · intro x hx
    have := take_count hc hx cs.length (Nat.le_refl _)
    rwa [List.take_length] at this
  · intro x hm hx
    obtain ⟨i, hi, rfl⟩ := mem_getD hm
    have := least_before (offB cs) cs.length 0 i (Nat.zero_le _) (by unfold offI at h5; omega)
    simp only [offB, Bool.and_eq_false_iff, decide_eq_false_iff_not, Bool.not_eq_false'] at this
    rcases this with h6 | h6
    · exact absurd hx h6
    · exact (has_iff hz).1 h6
theorem chk_of_good {cs : List Int} (h : Good cs) : chkF cs = (0, 0) := by
  have hT := h.tab
  have he : errI cs = cs.length := by
    have := least_none (fun i => cellErr cs i != 0) (k := cs.length) (i := 0) (fun m _ hm => by
      have hr := hT.rng _ (getD_mem (show m < cs.length by omega))
      have : cellErr cs m = 0 := by
        unfold cellErr
        rw [if_neg (by omega), if_neg]
        rintro ⟨h1, h2⟩
        have h3 := hT.once _ h1
        rw [← List.take_append_drop m cs, List.count_append] at h3
        have h4 := List.count_pos_iff.2 h2
        have h5 : cs.getD m 0 ∈ cs.drop m := by
          rw [List.drop_eq_getElem_cons (by omega), getElem_getD (by omega)]
          exact List.mem_cons_self
        have h6 := List.count_pos_iff.2 h5
        rw [List.take_append_drop m cs] at h3
        omega
      simp [this])
    unfold errI; omega
  have ho : offI cs = cs.length := by
    have := least_none (offB cs) (k := cs.length) (i := 0) (fun m _ hm => by
      unfold offB
      by_cases h1 : 0 < cs.getD m 0
      · rw [(hT.has h.zero h1).2 (getD_mem (by omega))]; simp
      · rw [decide_eq_false h1]; rfl)
    unfold offI; omega
  have := hT.hi
  unfold chkF
  rw [if_neg (by omega), if_neg (by rw [h.pow]; simp), if_neg (by omega), if_neg (by rw [h.crowd]; simp), if_neg (by omega)]
theorem chk_iff {cs : List Int} : (chkF cs).2 = 0 ↔ Good cs := ⟨good_of_chk, fun h => by rw [chk_of_good h]⟩
theorem chk_zero {cs : List Int} (h : (chkF cs).2 = 0) : chkF cs = (0, 0) := chk_of_good (good_of_chk h)

theorem srt_congr {c d : List Int} (h : ∀ x, 0 < x → (x ∈ c ↔ x ∈ d)) : srt c = srt d := by
  unfold srt
  apply List.filter_congr
  intro x hx
  rw [mem_nums] at hx
  rw [Bool.eq_iff_iff]
  simp only [decide_eq_true_eq]
  exact h x (by omega)
theorem tab_replicate {n : Nat} (h1 : 8 ≤ n) (h2 : n ≤ 8192) : Tab (List.replicate n 0) := by
  refine ⟨by simpa using h1, by simpa using h2, ?_, ?_, ?_⟩
  · intro c hc; have := List.eq_of_mem_replicate hc; omega
  · intro x hx; rw [List.count_eq_zero.2 (fun hm => by have := List.eq_of_mem_replicate hm; omega)]; omega
  · intro x hm hx; have := List.eq_of_mem_replicate hm; omega
theorem used_replicate (n : Nat) : usedN (List.replicate n 0) = 0 := by
  unfold usedN
  rw [List.countP_eq_zero]
  intro x hx
  have := List.eq_of_mem_replicate hx
  subst this
  simp
/-- one number of a list that is put into a table where there is room for all -/
structure StepOk (c : List Int) (x : Int) : Prop where
  tab : Tab c
  zero : (0 : Int) ∈ c
  is : 1 ≤ x ∧ x ≤ 1600
  not : x ∉ c
  calm : crowd (putF c x) = false
theorem StepOk.add {c : List Int} {x : Int} (h : StepOk c x) : addF c x = putF c x := by
  unfold addF
  rw [(h.tab.hasF h.zero (by have := h.is; omega)).2 h.not, h.calm]; rfl
/-- where there is room for all of a list -/
structure Roomy (c : List Int) (l : List Int) : Prop where
  tab : Tab c
  is : ∀ x ∈ l, 1 ≤ x ∧ x ≤ 1600
  up : l.Pairwise (· < ·)
  not : ∀ x ∈ l, x ∉ c
  room : 4 * (usedN c + l.length) ≤ 3 * c.length
theorem Roomy.step {c : List Int} {x : Int} {l : List Int} (h : Roomy c (x :: l)) : StepOk c x ∧ Roomy (putF c x) l := by
  have hr := h.room
  have hx := h.is x (by simp)
  rw [List.length_cons] at hr
  have hz : (0 : Int) ∈ c := zero_of_used (by have := h.tab.lo; omega)
  obtain ⟨u1, u2⟩ := put_used (a := x) hz (by omega)
  obtain ⟨p1, p2⟩ := List.pairwise_cons.1 h.up
  refine ⟨⟨h.tab, hz, hx, h.not x (by simp), ?_⟩, ⟨put_tab h.tab hz hx (h.not x (by simp)), fun y hy => h.is y (by simp [hy]), p2, fun y hy hm => ?_, ?_⟩⟩
  · simp only [crowd, decide_eq_false_iff_not, put_len]; omega
  · have h1 := h.is y (by simp [hy])
    have h2 := p1 y hy
    rcases (put_mem hz (by omega)).1 hm with e | e
    · omega
    · exact h.not y (by simp [hy]) e
  · rw [put_len]; omega
theorem Roomy.all : ∀ {l : List Int} {c : List Int}, Roomy c l →
    Tab (l.foldl putF c) ∧ (l.foldl putF c).length = c.length ∧ (∀ x, 0 < x → (x ∈ l.foldl putF c ↔ x ∈ l ∨ x ∈ c)) ∧ usedN (l.foldl putF c) ≤ usedN c + l.length ∧ l.foldl addF c = l.foldl putF c
  | [], c, h => ⟨h.tab, rfl, by simp, by simp, rfl⟩
  | x :: l, c, h => by
    obtain ⟨hs, hr⟩ := h.step
    obtain ⟨a1, a2, a3, a4, a5⟩ := hr.all
    obtain ⟨u1, u2⟩ := put_used (a := x) hs.zero (by have := hs.is; omega)
    refine ⟨a1, by rw [List.foldl_cons, a2, put_len], fun y hy => ?_, ?_, ?_⟩
    · rw [List.foldl_cons, a3 y hy, put_mem hs.zero hy, List.mem_cons]
      constructor
      · rintro (h | h | h)
        · exact .inl (.inr h)
        · exact .inl (.inl h)
        · exact .inr h
      · rintro ((h | h) | h)
        · exact .inr (.inl h)
        · exact .inl h
        · exact .inr (.inr h)
    · rw [List.foldl_cons, List.length_cons]; omega
    · rw [List.foldl_cons, List.foldl_cons, hs.add, a5]
theorem Roomy.at_ : ∀ {l : List Int} {c : List Int}, Roomy c l → ∀ j (hj : j < l.length), StepOk ((l.take j).foldl putF c) l[j]
  | x :: l, c, h, 0, _ => h.step.1
  | x :: l, c, h, j + 1, hj => by
    have := h.step.2.at_ j (by simpa using hj)
    simpa using this
theorem Roomy.upto {l c : List Int} (h : Roomy c l) (j : Nat) : Roomy c (l.take j) := by
  refine ⟨h.tab, fun x hx => h.is x (List.mem_of_mem_take hx), h.up.sublist (List.take_sublist _ _), fun x hx => h.not x (List.mem_of_mem_take hx), ?_⟩
  have h1 := h.room
  have h2 : (l.take j).length ≤ l.length := by rw [List.length_take]; omega
  omega
section
variable {cs : List Int} {a : Int}
/-- a table that is too full, built anew -/
theorem anew_room (h : Good cs) (ha : 1 ≤ a ∧ a ≤ 1600) (hn : a ∉ cs) :
    Roomy (List.replicate (anewN (putF cs a)) 0) (srt (putF cs a)) ∧ isPow (anewN (putF cs a)) = true ∧ Tab (putF cs a) := by
  have hT := put_tab h.tab h.zero ha hn
  obtain ⟨u1, u2⟩ := put_used (a := a) h.zero (by omega)
  have e1 := hT.srt_addr
  have e2 := addr_used (putF cs a)
  have e3 := h.calm
  have e4 := srt_len (putF cs a)
  have e5 := hT.lo
  have e6 := hT.hi
  have e7 := put_len cs a
  have hp : isPow (anewN (putF cs a)) = true := by
    unfold anewN
    split
    · exact pow_two (by rw [e7]; exact h.pow) (by omega)
    · rw [e7]; exact h.pow
  have hl := pow_lo hp
  refine ⟨⟨tab_replicate hl.1 hl.2, fun x hx => (mem_srt.1 hx).1, srt_sorted _, fun x hx hm => ?_, ?_⟩, hp, hT⟩
  · have := List.eq_of_mem_replicate hm
    have := (mem_srt.1 hx).1
    omega
  · rw [used_replicate, List.length_replicate]
    unfold anewN
    split <;> omega
theorem add_in (h : Good cs) (ha : 0 < a) (hm : a ∈ cs) : addF cs a = cs := by unfold addF; rw [(h.tab.has h.zero ha).2 hm]; rfl
structure AddOk (cs : List Int) (a : Int) (d : List Int) : Prop where
  good : Good d
  mem : ∀ x, 0 < x → (x ∈ d ↔ x = a ∨ x ∈ cs)
  full : usedN cs = addrN cs → (cs.length = 8 ∨ 3 * cs.length < 8 * addrN cs) → usedN d = addrN d ∧ (d.length = 8 ∨ 3 * d.length < 8 * addrN d)
  same : addrN cs = 0 → d.length = cs.length
theorem add_ok (h : Good cs) (ha : 1 ≤ a ∧ a ≤ 1600) : AddOk cs a (addF cs a) := by
  by_cases hm : a ∈ cs
  · rw [add_in h (by omega) hm]
    exact ⟨h, fun x _ => ⟨.inr, fun h => h.elim (fun e => e ▸ hm) id⟩, fun h1 h2 => ⟨h1, h2⟩, fun _ => rfl⟩
  · have e0 : addF cs a = if crowd (putF cs a) = true then anewF (putF cs a) else putF cs a := by
      unfold addF; rw [(h.tab.hasF h.zero (by omega)).2 hm]; rfl
    have hT := put_tab h.tab h.zero ha hm
    obtain ⟨u1, u2⟩ := put_used (a := a) h.zero (by omega)
    have u3 := put_addr (a := a) h.zero (by omega)
    have u4 := addr_used (putF cs a)
    have e7 := put_len cs a
    rw [e0]
    cases hc : crowd (putF cs a) with
    | false =>
      rw [if_neg (by simp)]
      refine ⟨⟨hT, by rw [e7]; exact h.pow, by simp only [crowd, decide_eq_false_iff_not] at hc; omega⟩, fun x hx => put_mem h.zero hx, fun h1 h2 => ⟨by omega, by rw [e7]; omega⟩, fun _ => e7⟩
    | true =>
      rw [if_pos rfl]
      obtain ⟨hr, hp, -⟩ := anew_room h ha hm
      obtain ⟨a1, a2, a3, a4, a5⟩ := hr.all
      rw [List.length_replicate] at a2
      rw [used_replicate] at a4
      have hmem : ∀ x, 0 < x → (x ∈ anewF (putF cs a) ↔ x ∈ putF cs a) := fun x hx => by
        unfold anewF
        rw [a3 x hx, hT.mem_srt]
        exact ⟨fun h => h.elim And.right (fun h => by have := List.eq_of_mem_replicate h; omega), fun h => .inl ⟨hx, h⟩⟩
      have e1 := hT.srt_addr
      have e2 : addrN (anewF (putF cs a)) = addrN (putF cs a) := by rw [← hT.srt_addr, show addrN (anewF (putF cs a)) = (srt (anewF (putF cs a))).length from (Tab.srt_addr a1).symm]; exact congrArg List.length (srt_congr hmem)
      have e3 := addr_used (anewF (putF cs a))
      have e4 : (anewF (putF cs a)).length = anewN (putF cs a) := a2
      have e5 : usedN (anewF (putF cs a)) ≤ 0 + (srt (putF cs a)).length := a4
      have e6 : 3 * (putF cs a).length < 4 * usedN (putF cs a) := by simpa [crowd] using hc
      have e8 := hr.room
      rw [used_replicate, List.length_replicate] at e8
      refine ⟨⟨a1, by rw [e4]; exact hp, by rw [e4]; exact Nat.le_trans (Nat.mul_le_mul_left 4 e5) e8⟩, fun x hx => (hmem x hx).trans (put_mem h.zero hx), fun h1 h2 => ⟨by omega, ?_⟩, fun h0 => ?_⟩
      · rw [e4, e2]
        right
        unfold anewN
        rw [if_pos (by omega)]
        omega
      · rw [e4]
        unfold anewN
        have := hT.lo
        rw [if_neg (by omega)]
        exact e7
theorem add_srt (h : Good cs) (ha : 1 ≤ a ∧ a ≤ 1600) (hn : a ∉ cs) : addrN (addF cs a) = addrN cs + 1 := by
  have hA := add_ok h ha
  rw [← hA.good.tab.srt_addr, ← put_addr (a := a) h.zero (by omega), ← (put_tab h.tab h.zero ha hn).srt_addr]
  exact congrArg List.length (srt_congr fun x hx => (hA.mem x hx).trans (put_mem h.zero hx).symm)
end
/-- a list added -/
theorem adds_ok : ∀ (l : List Int) {cs : List Int}, Good cs → (∀ x ∈ l, 1 ≤ x ∧ x ≤ 1600) → Good (l.foldl addF cs) ∧ ∀ x, 0 < x → (x ∈ l.foldl addF cs ↔ x ∈ l ∨ x ∈ cs)
  | [], cs, h, _ => ⟨h, by simp⟩
  | a :: l, cs, h, hl => by
    have hA := add_ok h (hl a (by simp))
    obtain ⟨g, m⟩ := adds_ok l hA.good (fun x hx => hl x (by simp [hx]))
    refine ⟨g, fun x hx => ?_⟩
    rw [List.foldl_cons, m x hx, hA.mem x hx, List.mem_cons]
    constructor
    · rintro (h | h | h)
      · exact .inl (.inr h)
      · exact .inl (.inl h)
      · exact .inr h
    · rintro ((h | h) | h)
      · exact .inr (.inl h)
      · exact .inl h
      · exact .inr (.inr h)
theorem adds_full : ∀ (l : List Int) {cs : List Int}, Good cs → (∀ x ∈ l, 1 ≤ x ∧ x ≤ 1600) → usedN cs = addrN cs → (cs.length = 8 ∨ 3 * cs.length < 8 * addrN cs) →
    (l.foldl addF cs).length = 8 ∨ 3 * (l.foldl addF cs).length < 8 * addrN (l.foldl addF cs)
  | [], _, _, _, _, h2 => h2
  | a :: l, cs, h, hl, h1, h2 => by
    have hA := add_ok h (hl a (by simp))
    obtain ⟨f1, f2⟩ := hA.full h1 h2
    exact adds_full l hA.good (fun x hx => hl x (by simp [hx])) f1 f2
theorem adds_same : ∀ (l : List Int) {cs : List Int}, Good cs → (∀ x ∈ l, 0 < x ∧ x ∈ cs) → l.foldl addF cs = cs
  | [], _, _, _ => rfl
  | a :: l, cs, h, hl => by
    obtain ⟨h1, h2⟩ := hl a (by simp)
    rw [List.foldl_cons, add_in h h1 h2]
    exact adds_same l h (fun x hx => hl x (by simp [hx]))
/-- the empty table -/
def newF : List Int := List.replicate 8 0
theorem new_good : Good newF := ⟨tab_replicate (by omega) (by omega), by decide, by decide⟩
theorem not_new {x : Int} (hx : 0 < x) : x ∉ newF := fun h => by have := List.eq_of_mem_replicate h; omega
theorem drop_good {cs : List Int} {a : Int} (h : Good cs) (ha : 0 < a) : Good (dropF cs a) :=
  ⟨drop_tab h.tab h.zero ha, by rw [drop_len]; exact h.pow, by rw [drop_len, drop_used h.zero ha]; exact h.calm⟩
theorem only_one {cs : List Int} {a : Int} (h : cs.count a ≤ 1) (ha : a ≠ -1) {i j : Nat} (hi : i < cs.length) (hj : j < cs.length) (e1 : cs.getD i 0 = a) (e2 : cs.getD j 0 = a) : i = j := by
  apply Classical.byContradiction
  intro hn
  have h1 : (cs.set i (-1)).count a = 0 := by
    rw [List.count_set hi, getElem_getD hi, e1]
    simp [Ne.symm ha]
    omega
  have h2 := getD_set (v := -1) hi j
  rw [if_neg (Ne.symm hn), e2] at h2
  have h3 : a ∈ cs.set i (-1) := by rw [← h2]; exact getD_mem (by simpa using hj)
  exact List.count_eq_zero.1 h1 h3
theorem drop_map {cs : List Int} {a : Int} (h : Tab cs) (h0 : (0 : Int) ∈ cs) (ha : 0 < a) : dropF cs a = cs.map fun c => if c = a then -1 else c := by
  cases hh : hasB cs a with
  | false =>
    rw [drop_no hh]
    have := (h.hasF h0 ha).1 hh
    symm
    rw [List.map_congr_left (g := id) (fun c hc => by rw [if_neg (fun e => this (by rw [← e]; exact hc))]; rfl)]
    simp
  | true =>
    have hl : pos a cs.length (stopI cs a) < cs.length := pos_lt a (List.length_pos_of_mem h0) _
    have e1 : cs.getD (pos a cs.length (stopI cs a)) 0 = a := by simpa [hasB, pv] using hh
    rw [drop_yes hh]
    apply List.ext_getElem (by simp)
    intro j h1 h2
    simp only [List.length_set] at h1
    rw [List.getElem_set, List.getElem_map]
    by_cases e : pos a cs.length (stopI cs a) = j
    · subst e; rw [if_pos rfl, getElem_getD hl, e1, if_pos rfl]
    · rw [if_neg e, if_neg]
      intro e2
      exact e (only_one (h.once a ha) (by omega) hl h1 e1 (by rw [← getElem_getD h1]; exact e2))
theorem drops : ∀ (l : List Int) {cs : List Int}, Good cs → (∀ x ∈ l, 0 < x) → Good (l.foldl dropF cs) ∧ l.foldl dropF cs = cs.map fun c => if c ∈ l then -1 else c
  | [], cs, h, _ => ⟨h, by simp⟩
  | a :: l, cs, h, hl => by
    obtain ⟨g, e⟩ := drops l (drop_good h (hl a (by simp))) (fun x hx => hl x (by simp [hx]))
    refine ⟨g, ?_⟩
    rw [List.foldl_cons, e, drop_map h.tab h.zero (hl a (by simp)), List.map_map]
    apply List.map_congr_left
    intro c _
    simp only [Function.comp_apply, List.mem_cons]
    by_cases h1 : c = a
    · rw [if_pos h1, if_neg (fun hm => by have := hl _ (List.mem_cons_of_mem _ hm); omega), if_pos (.inl h1)]
    · by_cases h2 : c ∈ l
      · rw [if_neg h1, if_pos h2, if_pos (.inr h2)]
      · rw [if_neg h1, if_neg h2, if_neg (fun h => h.elim h1 h2)]
theorem in_pos {cs : List Int} {f t : Int} : ∀ x ∈ inF f t (srt cs), 0 < x := fun x hx => by
  have := (mem_srt.1 (List.mem_filter.1 hx).1).1; omega
theorem purge_eq {cs : List Int} (h : Good cs) (f t : Int) : (inF f t (srt cs)).foldl dropF cs = purgeF cs f t := by
  rw [(drops _ h in_pos).2]
  unfold purgeF
  apply List.map_congr_left
  intro c hc
  have : c ∈ inF f t (srt cs) ↔ 0 < c ∧ f ≤ c ∧ c < t := by
    simp only [inF, List.mem_filter, h.tab.mem_srt, Bool.and_eq_true, decide_eq_true_eq]
    exact ⟨fun h => ⟨h.1.1, h.2⟩, fun h => ⟨⟨h.1, hc⟩, h.2⟩⟩
  by_cases h1 : c ∈ inF f t (srt cs)
  · rw [if_pos h1, if_pos (this.1 h1)]
  · rw [if_neg h1, if_neg (fun h => h1 (this.2 h))]
theorem purge_good {cs : List Int} (h : Good cs) (f t : Int) : Good (purgeF cs f t) := by rw [← purge_eq h]; exact (drops _ h in_pos).1
theorem purge_mem {cs : List Int} {f t x : Int} (hx : 0 < x) : x ∈ purgeF cs f t ↔ x ∈ cs ∧ ¬ (f ≤ x ∧ x < t) := by
  unfold purgeF
  rw [List.mem_map]
  constructor
  · rintro ⟨c, hc, e⟩
    split at e
    · omega
    · subst e; rename_i h1; exact ⟨hc, fun h2 => h1 ⟨hx, h2⟩⟩
  · rintro ⟨h1, h2⟩
    exact ⟨x, h1, by rw [if_neg (fun h => h2 h.2)]⟩
theorem purge_count {cs : List Int} (h : Tab cs) (f t : Int) : (inF f t (srt cs)).length = cs.countP fun c => decide (0 < c ∧ f ≤ c ∧ c < t) := by
  rw [← h.sort_eq f t, List.length_mergeSort, List.countP_eq_length_filter]
  congr 1
  apply List.filter_congr
  intro x hx
  have := (h.rng x hx).2
  rw [Bool.eq_iff_iff]
  simp only [isA, Bool.and_eq_true, decide_eq_true_eq]
  omega
end YtjkphacidpongaaGreat
end Go.Proofs
