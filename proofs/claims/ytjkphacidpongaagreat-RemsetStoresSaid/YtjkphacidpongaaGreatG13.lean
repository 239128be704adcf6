/- Sets in memory; a loop over an iterator, which the body may leave by a return. -/
import Derived.Test.YtjkphacidpongaaGreatG03
namespace Go.Proofs
namespace YtjkphacidpongaaGreat
open Go.RowKit

set_option maxHeartbeats 1000000 in
theorem range_ret {n : Nat} {P : Program} {g : Operand} {ps : Array Tmp} {assign body : Code} {Q : Exit → Act → World → Prop} {a : Act} {w : World} (h1 : 1 ≤ n) {gf : Nat} {lb : Array Value}
    (hg : a.eval g = .func (.func gf) #[] lb) (eg : ∀ args w, (callFunc gf args).run P w = .ok (.enter gf args) w) {enc : Nat → Array Value} {E S : Nat → Prop} {G : World → Prop}
    (hit : ∀ W1, Below w.heap.size w W1 → W1.heap.size = w.heap.size + 2 → IterS (n - 1) P gf lb enc E S G W1) (hps : ∀ x, (enc x).size = ps.size)
    (I : Nat → World → Prop) (Ix : World → Prop) (hG : ∀ i W, I i W → G W) (A2 : Nat → Act → World → Prop) (hA2 : ∀ i a' W W', A2 i a' W → W.grownBy W' (some (w.heap.size + 1)) → A2 i a' W') (hI : MindsR w.heap.size (w.heap.size + 2) I) (hIx : MindsR w.heap.size (w.heap.size + 2) (fun (_ : Unit) W => Ix W))
    (h0 : ∀ W1, Below w.heap.size w W1 → W1.heap.size = w.heap.size + 2 → I 0 W1)
    (hassign : ∀ (l i : Nat) (W : World), I i W → S i → w.heap.size + 2 ≤ W.heap.size →
      assign.wpIn (Fence.wide.inRound l) (n - 1 - 1) P (Exit.then (fun a' W' => Below W.heap.size W W' ∧ A2 i a' W') (fun _ _ _ => False)) { tmps := (ps.zip (enc i)).foldl (fun t (p, v) => t.setIfInBounds p v) a.tmps, defers := [] } W)
    (hbody : ∀ (l i : Nat) (a' : Act) (W : World), I i W → A2 i a' W → S i → w.heap.size + 2 ≤ W.heap.size →
      body.wpIn (Fence.wide.inRound l) (n - 1 - 1) P (fun e _ W' => KeptR w.heap.size (w.heap.size + 2) W W' ∧ (e = .normal ∧ I (i + 1) W' ∨ e = .ret ∧ Ix W')) a' W)
    (hdone : ∀ (i : Nat) (W : World), E i → I i W → W.heap[w.heap.size]? = some (.deferred (some [])) → Q .normal { a with defers := { target := .collected w.heap.size, args := #[] } :: a.defers } W)
    (hstop : ∀ (W : World), Ix W → W.heap[w.heap.size]? = some (.deferred (some [])) → (Code.ret).wpIn Fence.wide n P Q { a with defers := { target := .collected w.heap.size, args := #[] } :: a.defers } W) :
    (Code.rangeFunc g ps assign body).wpIn Fence.wide n P Q a w := by
  refine wpIn_rangeFunc fun fn hfn => ?_
  let rec_ : LoopState → Option Code → Loop := fun st pe => { state := st, pending := pe, fn := fn, tmps := a.tmps, params := ps, assign := assign, body := body, defers := w.heap.size }
  have hD0 := World.alloc_heap_new w (.deferred (some []))
  generalize hU : w.alloc (.deferred (some [])) = U at hD0
  have hUs : U.heap.size = w.heap.size + 1 := by rw [← hU]; simp
  have hL0 := World.alloc_heap_new U (.loop (rec_ .ready none))
  have hD1 : (U.alloc (.loop (rec_ .ready none))).heap[w.heap.size]? = some (.deferred (some [])) := (Below.heap_alloc _ _ _ (by omega)).trans hD0
  have hB1 : Below w.heap.size w (U.alloc (.loop (rec_ .ready none))) := by rw [← hU]; exact ((Below.refl _ w).alloc (Nat.le_refl _) _).alloc (by simp) _
  have hrun : (Instr.enterLoop fn a.tmps ps assign body Fence.wide.round).run P w = .ok (w.heap.size + 1, [{ target := .collected w.heap.size, args := #[] }]) (U.alloc (.loop (rec_ .ready none))) := by
    rw [← hU]; exact run_enterLoop_outer _ _ _ _ _
  generalize hV : U.alloc (.loop (rec_ .ready none)) = V at hL0 hD1 hB1 hrun
  have hVs : V.heap.size = w.heap.size + 2 := by rw [← hV]; simp [hUs]
  rw [hUs] at hL0
  refine ⟨w.heap.size + 1, _, V, { target := .fn (.func gf) lb, args := #[.func (.yield (w.heap.size + 1)) #[] #[]] }, V, gf, #[.func (.yield (w.heap.size + 1)) #[] #[]] ++ lb, V, hrun, ?_, fun _ _ => trivial, ?_, fun _ => h1, ?_⟩
  · simp only [resolve, hg]; simp [go_sem]
  · simp [invoke, go_sem, eg]
  let J : Nat → World → Prop := fun i W => I i W ∧ W.heap[w.heap.size + 1]? = some (.loop (rec_ .ready none)) ∧ W.heap[w.heap.size]? = some (.deferred (some [])) ∧ w.heap.size + 2 ≤ W.heap.size
  let K : World → Prop := fun W => Ix W ∧ W.heap[w.heap.size + 1]? = some (.loop (rec_ .done (some .ret))) ∧ W.heap[w.heap.size]? = some (.deferred (some [])) ∧ w.heap.size + 2 ≤ W.heap.size
  refine (hit V hB1 hVs (w.heap.size + 1) J K (fun i W hs => hG i W hs.1)
    (fun s A B hs hb => ⟨hI.below (by omega) hs.1 hb, (hb.block _ (by have := hs.2.2.2; omega)).trans hs.2.1, (hb.block _ (by have := hs.2.2.2; omega)).trans hs.2.2.1, by have := hb.size; have := hs.2.2.2; omega⟩)
    (fun A B hs hb => ⟨hIx.below (by omega) (s := ()) hs.1 hb, (hb.block _ (by have := hs.2.2.2; omega)).trans hs.2.1, (hb.block _ (by have := hs.2.2.2; omega)).trans hs.2.2.1, by have := hb.size; have := hs.2.2.2; omega⟩)
    ?round ⟨h0 V hB1 hVs, hL0, hD1, by omega⟩).mono ?after
  case round =>
    rintro i W ⟨hi, hl, hk, hsz⟩ hS _
    refine ⟨fn, _, assign, body, run_yield hl (hps i), roundIn_of_wpIn hfn (wpIn_mono (hassign (w.heap.size + 1) i W hi hS hsz) ?_)⟩
    rintro e a' W2 hq
    cases e with
    | normal =>
      obtain ⟨hb2, hi2⟩ := hq
      have hsb := hb2.size
      replace hl := (hb2.block _ (by omega)).trans hl
      replace hk := (hb2.block _ (by omega)).trans hk
      replace hi := hI.below (by omega) hi hb2
      replace hsz : w.heap.size + 2 ≤ W2.heap.size := by omega
      refine ⟨_, run_beginRound hl rfl, ?_⟩
      have hg3 := grownBy_putObj' W2 (w.heap.size + 1) (.loop { rec_ .ready none with state := .busy })
      have hl3 : (W2.putObj (w.heap.size + 1) (.loop { rec_ .ready none with state := .busy })).heap[w.heap.size + 1]? = some (.loop { rec_ .ready none with state := .busy }) := World.putObj_heap_same (by omega)
      have hk3 : (W2.putObj (w.heap.size + 1) (.loop { rec_ .ready none with state := .busy })).heap[w.heap.size]? = some (.deferred (some [])) := (World.putObj_heap_other (by omega)).trans hk
      have hi3 := hI i W2 _ _ (by omega) (by omega) hi hg3
      have hs3 := hg3.size
      have hi3' := hA2 _ _ _ _ hi2 hg3
      generalize W2.putObj (w.heap.size + 1) (.loop { rec_ .ready none with state := .busy }) = W3 at hl3 hk3 hi3 hs3 hi3' ⊢
      refine wpIn_mono (hbody _ i a' W3 hi3 hi3' hS (by omega)) ?_
      rintro e a4 W4 ⟨hk4, hi4⟩
      have hs4 := hk4.size
      have hl4 : W4.heap[w.heap.size + 1]? = some (.loop { rec_ .ready none with state := .busy }) := (hk4.same _ (by omega) (by omega) (by omega)).trans hl3
      have hd4 : W4.heap[w.heap.size]? = some (.deferred (some [])) := (hk4.same _ (by omega) (by omega) (by omega)).trans hk3
      rcases hi4 with ⟨rfl, hi4⟩ | ⟨rfl, hi4⟩
      · have hgE := grownBy_putObj' W4 (w.heap.size + 1) (.loop { rec_ .ready none with state := .ready, pending := none })
        have hsE := hgE.size
        exact ⟨_, _, run_endRound none hl4, .inl ⟨rfl, ⟨hI _ W4 _ _ (by omega) (by omega) hi4 (grownBy_putObj' W4 _ _), World.putObj_heap_same (by omega), (World.putObj_heap_other (by omega)).trans hd4, Nat.le_trans (by omega) hsE⟩⟩, Nat.le_trans (by omega) hsE⟩
      · have hgE := grownBy_putObj' W4 (w.heap.size + 1) (.loop { rec_ .ready none with state := .done, pending := some .ret })
        have hsE := hgE.size
        exact ⟨_, _, run_endRound (some .ret) hl4, .inr ⟨rfl, ⟨hIx () W4 _ _ (by omega) (by omega) hi4 (grownBy_putObj' W4 _ _), World.putObj_heap_same (by omega), (World.putObj_heap_other (by omega)).trans hd4, Nat.le_trans (by omega) hsE⟩⟩, Nat.le_trans (by omega) hsE⟩
    | ret => exact hq.elim
    | exit id => exact hq.elim
    | goto t => exact hq.elim
    | panic ch => exact hq.elim
    | outgrown => exact hq.elim
  case after =>
    rintro e W2 ⟨⟨v, rfl⟩, (⟨i, hE, hi, hl, hk, hsz⟩ | ⟨hi, hl, hk, hsz⟩)⟩
    · exact ⟨none, _, run_endLoop hl (by simp [rec_]), hdone i _ hE (hI _ W2 _ _ (by omega) (by omega) hi (grownBy_putObj' W2 _ _)) ((World.putObj_heap_other (by omega)).trans hk)⟩
    · exact ⟨some .ret, _, run_endLoop hl (by simp [rec_]), hstop _ (hIx () W2 _ _ (by omega) (by omega) hi (grownBy_putObj' W2 _ _)) ((World.putObj_heap_other (by omega)).trans hk)⟩
theorem two_cells {W : World} {b : Nat} {x y : Value} {t : TypeId} (h : W.heap[b]? = some (.cells #[x, y] t (0, 0))) : W.cell? ⟨b, 0, none⟩ = some x ∧ W.cell? ⟨b, 1, none⟩ = some y ∧ W.frozen? ⟨b, 0, none⟩ = false ∧ W.frozen? ⟨b, 1, none⟩ = false := by
  refine ⟨?_, ?_, frozen_of_row _ _ _ _ _ h, frozen_of_row _ _ _ _ _ h⟩
  · rw [cell_of_row _ _ _ _ _ _ h]; rfl
  · rw [cell_of_row _ _ _ _ _ _ h]; rfl
/-- the value of sets -/
def rv (A nv : Value) : Value := .agg #[A, nv]
/-- sets in memory: N cars and the nursery; U are the slices of the tables, T their cells -/
structure RS (W : World) (A nv : Value) (N : Nat) (U : Nat → Value) (T : Nat → List Int) : Prop where
  form : ∃ a cap, A = .slice a N cap ∧ (0 < N → ∃ b off, a = some ⟨b, off, none⟩ ∧ ∀ j, j < N → W.cell? ⟨b, off + j, none⟩ = some (U j))
  nur : U N = nv
  at_ : ∀ j, j ≤ N → IAt W (U j) (T j)
theorem RS.below {W W' : World} {A nv : Value} {N : Nat} {U : Nat → Value} {T : Nat → List Int} (h : RS W A nv N U T) (hb : Below W.heap.size W W') : RS W' A nv N U T := by
  obtain ⟨a, cap, rfl, hc⟩ := h.form
  refine ⟨⟨a, cap, rfl, fun h0 => ?_⟩, h.nur, fun j hj => (h.at_ j hj).below hb⟩
  obtain ⟨b, off, e, hc⟩ := hc h0
  exact ⟨b, off, e, fun j hj => keep_cell hb (hc j hj)⟩
/-- the number of the i-th set: the nursery's is the last one -/
def numS (N i : Nat) : Int := if i = N then -1 else (i : Int)
theorem num_nur (N : Nat) : numS N N = -1 := if_pos rfl
theorem num_car {N i : Nat} (h : i < N) : numS N i = (i : Int) := if_neg (by omega)
def encS (N : Nat) (U : Nat → Value) (i : Nat) : Array Value := #[.int .i64 (numS N i), .agg #[U i]]
/-- sets in a box -/
structure SetsAt (W : World) (b : Nat) (A nv : Value) (N : Nat) (U : Nat → Value) (T : Nat → List Int) : Prop where
  box : W.heap[b]? = some (.cells #[A, nv] 29 (0, 0))
  rs : RS W A nv N U T
theorem SetsAt.below {W W' : World} {b : Nat} {A nv : Value} {N : Nat} {U : Nat → Value} {T : Nat → List Int} (h : SetsAt W b A nv N U T) (hb : Below W.heap.size W W') : SetsAt W' b A nv N U T := ⟨keep_heap hb h.box, h.rs.below hb⟩
end YtjkphacidpongaaGreat
end Go.Proofs
/- The iterator over all sets. -/
namespace Go.Proofs
namespace YtjkphacidpongaaGreat
open Go.RowKit
attribute [local go_sem] Oper.semAt_some

theorem enc_nur (N : Nat) (U : Nat → Value) (nv : Value) (h : U N = nv) : encS N U N = #[.int .i64 (-1), .agg #[nv]] := by unfold encS; rw [num_nur, h]
theorem enc_car {N i : Nat} (U : Nat → Value) (h : i < N) : encS N U i = #[.int .i64 i, .agg #[U i]] := by unfold encS; rw [num_car h]
set_option maxRecDepth 100000 in
theorem all48 (A nv : Value) (w : World) :
    Calls Tryz.prog 44 #[.agg #[A, nv]] w fun e w' => e = .returned (.func (.func 80) #[] #[.pointer (some ⟨w.heap.size, 0, none⟩)]) ∧ w' = w.alloc (.cells #[A, nv] 29) := by
  go_enter Tryz.func44, Tryz.ntmps44
  go_wp2
  go_ret
  exact ⟨rfl, rfl⟩
set_option maxRecDepth 100000 in
set_option maxHeartbeats 1000000 in
theorem iter73 (n : Nat) (hn : 1 ≤ n) (A nv : Value) (N : Nat) (U : Nat → Value) (T : Nat → List Int) (hN : N ≤ 1000000) (b l : Nat) (J : Nat → World → Prop) (K : World → Prop) (w : World)
    (hG : ∀ i W, J i W → SetsAt W b A nv N U T) (hJ : ∀ i W W', J i W → Below W.heap.size W W' → J i W')
    (hY : ∀ i W1, J i W1 → i ≤ N → w.heap.size ≤ W1.heap.size → YieldAt Fence.wide (n - 1) Tryz.prog l (encS N U i) W1 fun e W' =>
      (e = .returned (.bool true) ∧ J (i + 1) W' ∨ e = .returned (.bool false) ∧ K W') ∧ W1.heap.size ≤ W'.heap.size)
    (h0 : J 0 w) :
    Calls Tryz.prog 80 #[.func (.yield l) #[] #[], .pointer (some ⟨b, 0, none⟩)] w fun e W' => (∃ v, e = .returned v) ∧ ((∃ i, i = N + 1 ∧ J i W') ∨ K W') := by
  have HG := Lib.hid hG
  have HJ := Lib.hid hJ
  have HY := Lib.hid hY
  have H0 := Lib.hid h0
  have S0 := hG _ _ h0
  obtain ⟨A', cap, hv, -⟩ := S0.rs.form
  subst hv
  obtain ⟨c0, c1, -, -⟩ := two_cells S0.box
  have EN := Lib.hid (enc_nur N U nv S0.rs.nur)
  have EC := Lib.hid (fun i (h : i < N) => enc_car (N := N) U h)
  have CA := Lib.hid (fun i W (h : J i W) j (hj : j < N) => (show ∃ b off, A' = some ⟨b, off, none⟩ ∧ W.cell? ⟨b, off + j, none⟩ = some (U j) by
    obtain ⟨A2, cap2, e, hA⟩ := (hG i W h).rs.form
    cases e
    obtain ⟨b, off, h1, h2⟩ := hA (by omega)
    exact ⟨b, off, h1, h2 j hj⟩))
  clear hG hJ hY h0 S0
  go_enter Tryz.func80, Tryz.ntmps80
  go_wp2
  go_loopw [3, 4, 8] (fun x y q wr => ∃ k : Nat, q = .int .i64 k ∧ k ≤ N ∧ Hid (J k wr) ∧ w.heap.size ≤ wr.heap.size) (fun _ _ q _ => N - (intOf q).toNat)
  case atStart => exact ⟨0, rfl, by omega, H0, Nat.le_refl _⟩
  case round =>
    obtain ⟨k, rfl, hkm, hj, hsz⟩ := hrel
    obtain ⟨d0, d1, -, -⟩ := two_cells (HG.out _ _ hj.out).box
    by_cases hlt : k < N
    rotate_left
    · have q : decide ((k : Int) < (N : Int)) = false := decide_eq_false (by omega)
      have q' : ¬ (k : Int) < (N : Int) := by omega
      obtain rfl : k = N := by omega
      have hy := HY.out k wr hj.out (Nat.le_refl _) hsz
      rw [EN.out] at hy
      obtain ⟨fn, tm, asg, bd, hy, hR⟩ := hy
      have HR := Lib.hid hR
      clear hR hkm hlt
      go_upto_region 5 with fail
      refine (wpIn_wide (n := n)).1 ?_
      gi_wp2
      refine HR.out.mono ?_
      rintro e W' ⟨(⟨rfl, hj'⟩ | ⟨rfl, hk'⟩), hsz'⟩
      · gi_wp2
        go_wp2
        exact bodyPost_end (v := .tuple #[]) (results_none rfl _ _ _) rfl ⟨⟨_, rfl⟩, .inl ⟨k + 1, rfl, hj'⟩⟩
      · gi_wp2
        go_wp2
        exact bodyPost_end (v := .tuple #[]) (results_none rfl _ _ _) rfl ⟨⟨_, rfl⟩, .inr hk'⟩
    have q : decide ((k : Int) < (N : Int)) = true := decide_eq_true (by omega)
    have q' : (k : Int) < (N : Int) := by omega
    obtain ⟨b1, o1, rfl, ca⟩ := CA.out _ _ hj.out k hlt
    have ad1 : (⟨b1, o1, none⟩ : Addr).add k = ⟨b1, o1 + k, none⟩ := by unfold Addr.add; split <;> simp_all
    obtain ⟨Ak, ck, hu, -⟩ := (HG.out _ _ hj.out).rs.at_ k (by omega)
    rw [hu] at ca
    have ba := alloc_below wr (.cells #[.slice Ak (T k).length ck] 27)
    have hs2 := ba.size
    have hy := HY.out k _ (HJ.out _ _ _ hj.out ba) hkm (by omega)
    rw [EC.out k hlt, hu] at hy
    obtain ⟨cb, -⟩ := one_cell (heap_alloc_new wr (.cells #[.slice Ak (T k).length ck] 27))
    generalize (T k).length = nk at *
    clear hu
    obtain ⟨fn, tm, asg, bd, hy, hR⟩ := hy
    have HR := Lib.hid hR
    have HS := Lib.hid hs2
    clear hR ba hs2
    go_upto_region 3 with fail
    refine (wpIn_wide (n := n)).1 ?_
    gi_wp2
    refine HR.out.mono ?_
    rintro e W' ⟨(⟨rfl, hj'⟩ | ⟨rfl, hk'⟩), hsz'⟩
    · have hs := HS.out
      gi_wp2
      go_wp2
      refine ⟨⟨k + 1, by simp, by omega, Lib.hid hj', by omega⟩, ?_⟩
      simp only [intOf]; omega
    · gi_wp2
      go_wp2
      exact bodyPost_ret (v := .tuple #[]) (by simp [results, Tryz.f80, go_sem]) rfl ⟨⟨_, rfl⟩, .inr hk'⟩
end YtjkphacidpongaaGreat
end Go.Proofs
