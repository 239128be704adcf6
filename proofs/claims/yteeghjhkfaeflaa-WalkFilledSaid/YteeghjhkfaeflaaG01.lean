/- A player's state in memory, and its method get. -/
import Derived.Test.YteeghjhkfaeflaaG00
import Derived.Deep.Cut
import Derived.Outline
import Derived.StillTailTactics
import Derived.RegionTactic
import Derived.Deep.RegionLaw
import Derived.BigRegion
namespace Go.Proofs
namespace Yteeghjhkfaeflaa
open Go.RowKit

def opC (o : AOp) : Array Value := #[.int .i64 o.kind, .int .i64 o.src, .int .i64 o.dst, .int .i64 o.n, .int .u64 o.val]
def opV (o : AOp) : Value := .agg (opC o)
/-- block H + 1 holds the words, block H + 2 the player, and what has been read lies from H + 4 on -/
structure PSt (H : Nat) (W : World) (s : ASt) : Prop where
  ply : ∃ gv, W.heap[H + 2]? = some (.cells #[.slice (some ⟨H + 1, 0, none⟩) s.ws.length s.ws.length, gv, .int .i64 s.r, .int .i64 s.w] 122 (0, 0)) ∧ W.ownsRow (H + 4) 58 1 gv s.got.length (wc s.got)
  wds : W.heap[H + 1]? = some (.cells (wc s.ws).toArray 58 (0, 0))
/-- what lay before the player stays, and its map -/
structure Kp (H : Nat) (W W' : World) : Prop where
  low : Below (H + 1) W W'
  map : W'.heap[H + 3]? = W.heap[H + 3]?
theorem Kp.refl (H : Nat) (W : World) : Kp H W W := ⟨Below.refl _ _, rfl⟩
theorem Kp.trans {H : Nat} {U V W : World} (h : Kp H U V) (k : Kp H V W) : Kp H U W := ⟨h.low.trans k.low, k.map.trans h.map⟩
theorem Kp.of_below {H : Nat} {W W' : World} (hs : H + 4 ≤ W.heap.size) (h : Below W.heap.size W W') : Kp H W W' := ⟨h.mono (by omega), h.block _ (by omega)⟩
theorem PSt.below {H : Nat} {W W' : World} {s : ASt} (h : PSt H W s) (hb : Below W.heap.size W W') : PSt H W' s := by
  obtain ⟨⟨gv, h1, h2⟩, h3⟩ := h
  exact ⟨⟨gv, (hb.block _ (Array.getElem?_eq_some_iff.1 h1).1).trans h1, own_below h2 hb⟩, (hb.block _ (Array.getElem?_eq_some_iff.1 h3).1).trans h3⟩

theorem keep_cell {W W' : World} (hb : Below W.heap.size W W') {p : Addr} {u : Value} (h : W.cell? p = some u) : W'.cell? p = some u := (hb.cell (cell_lt h)).trans h
theorem keep_heap {W W' : World} (hb : Below W.heap.size W W') {b : Nat} {o : Obj} (h : W.heap[b]? = some o) : W'.heap[b]? = some o := (hb.block _ (Array.getElem?_eq_some_iff.1 h).1).trans h
theorem alloc_below (W : World) (o : Obj) : Below W.heap.size W (W.alloc o) := (Below.refl _ _).alloc (Nat.le_refl _) _
theorem far_heap {W W' : World} {v : Value} (hg : W.grownBy W' v.ownBlock) {lo hi : Nat} (hown : ∀ g, v.ownBlock = some g → lo ≤ g ∧ g < hi) {b : Nat} {o : Obj} (hb : b < lo ∨ hi ≤ b) (h : W.heap[b]? = some o) : W'.heap[b]? = some o :=
  (hg.block b (Array.getElem?_eq_some_iff.1 h).1 (fun e => by have := hown b e.symm; omega)).trans h
theorem set_row {W : World} {b : Nat} {cs : Array Value} {ty : TypeId} (h : W.heap[b]? = some (.cells cs ty (0, 0))) (i : Nat) (v : Value) : (W.setCell ⟨b, i, none⟩ v).heap[b]? = some (.cells (cs.setIfInBounds i v) ty (0, 0)) :=
  heap_setCell_same W b i cs ty v h
theorem set_far {W : World} {b c i : Nat} (v : Value) {o : Obj} (hne : c ≠ b) (h : W.heap[c]? = some o) : (W.setCell ⟨b, i, none⟩ v).heap[c]? = some o :=
  (Below.heap_setCell W ⟨b, i, none⟩ v c hne).trans h
/-- a store to the player -/
theorem kp_set {H : Nat} {W W' : World} (h : Kp H W W') (b i : Nat) (v : Value) (hb : b = H + 1 ∨ b = H + 2) : Kp H W (W'.setCell ⟨b, i, none⟩ v) :=
  ⟨h.low.setCell (p := ⟨b, i, none⟩) (by simp; omega) v, (Below.heap_setCell W' ⟨b, i, none⟩ v _ (by simp; omega)).trans h.map⟩
theorem own_set {W : World} {B n : Nat} {v : Value} {zs : List Int} (h : W.ownsRow B 58 1 v n (wc zs)) (b i : Nat) (u : Value) (hb : b < B) : (W.setCell ⟨b, i, none⟩ u).ownsRow B 58 1 v n (wc zs) :=
  World.ownsRow.kept h (grown_set W b i u) (by
    cases ho : v.ownBlock with
    | none => exact .inl rfl
    | some k => right; have := (h.lt k ho).1; intro e; injection e with e; omega)

theorem kp_grown {H : Nat} {W W2 w3 : World} {v : Value} (h : Kp H W W2) (hs : H + 4 ≤ W2.heap.size) (hw : W2.grownBy w3 v.ownBlock) {hi : Nat} (hown : ∀ g, v.ownBlock = some g → H + 4 ≤ g ∧ g < hi) : Kp H W w3 := by
  refine h.trans ⟨(Below.refl (H + 1) W2).grown hw (by omega) (fun k hk => by have := (hown k hk).1; omega), hw.block _ (by omega) (fun e => by have := (hown _ e.symm).1; omega)⟩
theorem get_end {H : Nat} {W W2 w3 : World} {s : ASt} {gv : Value} {g cap : Nat} {z : Int} {hi : Nat} (hkp : Kp H W W2) (hs2 : H + 4 ≤ W2.heap.size) (hw : W2.grownBy w3 gv.ownBlock) (hown : ∀ g, gv.ownBlock = some g → H + 4 ≤ g ∧ g < hi)
    (m1 : w3.heap[H + 2]? = some (.cells #[.slice (some ⟨H + 1, 0, none⟩) s.ws.length s.ws.length, gv, .int .i64 s.r, .int .i64 s.w] 122 (0, 0))) (m3 : w3.heap[H + 1]? = some (.cells (wc s.ws).toArray 58 (0, 0)))
    (ho : w3.ownsRow (H + 4) 58 1 (.slice (some ⟨g, 0, none⟩) (s.got.length + 1) cap) (s.got.length + 1) (wc s.got ++ [.int .u64 z])) :
    Kp H W ((w3.setCell ⟨H + 2, 1, none⟩ (.slice (some ⟨g, 0, none⟩) (s.got.length + 1) cap)).setCell ⟨H + 2, 2, none⟩ (.int .i64 (s.r + 1))) ∧
      PSt H ((w3.setCell ⟨H + 2, 1, none⟩ (.slice (some ⟨g, 0, none⟩) (s.got.length + 1) cap)).setCell ⟨H + 2, 2, none⟩ (.int .i64 (s.r + 1))) { s with got := s.got ++ [z], r := s.r + 1 } := by
  refine ⟨kp_set (kp_set (kp_grown hkp hs2 hw hown) _ _ _ (.inr rfl)) _ _ _ (.inr rfl), ⟨⟨.slice (some ⟨g, 0, none⟩) (s.got.length + 1) cap, ?_, ?_⟩, ?_⟩⟩
  · have := set_row (set_row m1 1 (.slice (some ⟨g, 0, none⟩) (s.got.length + 1) cap)) 2 (.int .i64 (s.r + 1))
    simpa using this
  · have e : wc s.got ++ [.int .u64 z] = wc (s.got ++ [z]) := by rw [wc_append]; rfl
    rw [e] at ho
    have := own_set (own_set ho (H + 2) 1 (.slice (some ⟨g, 0, none⟩) (s.got.length + 1) cap) (by omega)) (H + 2) 2 (.int .i64 (s.r + 1)) (by omega)
    simpa using this
  · exact set_far _ (by omega) (set_far _ (by omega) m3)

set_option maxRecDepth 100000 in
set_option maxHeartbeats 1000000 in
theorem get70 (H : Nat) (s : ASt) (o : AOp) (W : World) (hP : PSt H W s) (hk : o.kind = 1) (hsz : H + 4 ≤ W.heap.size) (hlen : s.ws.length ≤ 1601) (hr : 0 ≤ s.r ∧ s.r ≤ 1000000000) (hg : s.got.length ≤ 1000000) :
    Calls Try.prog 91 #[.pointer (some ⟨H + 2, 0, none⟩), opV o] W fun e W' => e = .returned (.bool (decide ((stepF s o).1 = 0))) ∧ Kp H W W' ∧ PSt H W' (stepF s o).2 := by
  have HP := Lib.hid hP
  have HK := Lib.hid hk
  clear hP hk
  obtain ⟨kd, a, b, n, val⟩ := o
  unfold opV opC
  dsimp only at HK ⊢
  have hnew := heap_alloc_new W (.cells #[.int .i64 kd, .int .i64 a, .int .i64 b, .int .i64 n, .int .u64 val] 110)
  have HN := Lib.hid hnew
  have HB := Lib.hid (alloc_below W (.cells #[.int .i64 kd, .int .i64 a, .int .i64 b, .int .i64 n, .int .u64 val] 110))
  clear hnew
  obtain ⟨⟨gv, P1, P2⟩, P3⟩ := HP.out
  have Q1 := Lib.hid P1
  have Q2 := Lib.hid P2
  have Q3 := Lib.hid P3
  clear P1 P2 P3
  go_enter Try.func91, Try.ntmps91
  go_upto_region 1 with (fail)
  generalize hX : W.alloc (.cells #[.int .i64 kd, .int .i64 a, .int .i64 b, .int .i64 n, .int .u64 val] 110) = W1 at *
  clear hX
  have k0 := cell_of_row _ _ 0 _ _ _ (keep_heap HB.out Q1.out)
  have o1 := cell_of_row _ _ 1 _ _ _ HN.out
  simp only [List.getElem?_toArray, List.getElem?_cons_zero, List.getElem?_cons_succ] at k0 o1
  have P36 := Lib.hid (fun W => part74 (some ⟨H + 1, 0, none⟩) s.ws.length s.ws.length a 1 W (by omega))
  cases hp : partB s.ws.length a 1 with
  | false =>
    rw [hp] at P36
    have T := Lib.hid (show stepF s ⟨kd, a, b, n, val⟩ = (7, s) by unfold stepF; rw [if_pos HK.out, hp]; rfl)
    clear hp
    go_quiet ((go_at_call 86; exact Calls.quiet_of_same ((P36.out _).mono (fun _ _ h => ⟨h.1, h.2.symm⟩))))
    go_wp2
    refine bodyPost_ret (v := .bool false) (by simp [results, Try.f91, go_sem]) rfl ⟨by rw [T.out]; rfl, ?_, ?_⟩
    · exact Kp.of_below hsz (below_drewN HB.out nq)
    · rw [T.out]; exact HP.out.below (below_drewN HB.out nq)
  | true =>
    rw [hp] at P36
    obtain ⟨q1, q2, q3, q4⟩ := partB_spec.1 hp
    obtain ⟨k, rfl⟩ : ∃ k : Nat, a = (k : Int) := ⟨a.toNat, by omega⟩
    have T := Lib.hid (show stepF s ⟨kd, k, b, n, val⟩ = (0, { s with got := s.got ++ [s.ws.getD k 0], r := s.r + 1 }) by unfold stepF; rw [if_pos HK.out, hp]; rfl)
    have hk : (k : Int) < (s.ws.length : Int) := by omega
    have hk0 : (0 : Int) ≤ (k : Int) := by omega
    clear hp
    go_quiet ((go_at_call 86; exact Calls.quiet_of_same ((P36.out _).mono (fun _ _ h => ⟨h.1, h.2.symm⟩))))
    go_wp2
    have HB2 := Lib.hid (below_drewN HB.out nq)
    have HN2 := Lib.hid (show (W1.drewN nq).heap[W.heap.size]? = some (.cells #[.int .i64 kd, .int .i64 k, .int .i64 b, .int .i64 n, .int .u64 val] 110 (0, 0)) from HN.out)
    have hs2 : H + 5 ≤ (W1.drewN nq).heap.size := by have := (Array.getElem?_eq_some_iff.1 HN2.out).1; omega
    generalize hX2 : W1.drewN nq = W2 at *
    clear hX2 k0 o1
    have R1 := Lib.hid (keep_heap HB2.out Q1.out)
    have R2 := Lib.hid (own_below Q2.out HB2.out)
    have R3 := Lib.hid (keep_heap HB2.out Q3.out)
    have k0 := cell_of_row _ _ 0 _ _ _ R1.out
    have k1 := cell_of_row _ _ 1 _ _ _ R1.out
    have o1 := cell_of_row _ _ 1 _ _ _ HN2.out
    have x0 := cell_of_row _ _ k _ _ _ R3.out
    rw [List.getElem?_toArray, wc_get s.ws k (by omega)] at x0
    simp only [List.getElem?_toArray, List.getElem?_cons_zero, List.getElem?_cons_succ] at k0 k1 o1
    obtain ⟨z, hz⟩ : ∃ z, s.ws.getD k 0 = z := ⟨_, rfl⟩
    rw [hz] at x0 T
    clear hz
    have hown : ∀ g, gv.ownBlock = some g → H + 4 ≤ g ∧ g < W.heap.size := fun g e => Q2.out.lt g e
    have HO := Lib.hid hown
    clear hown
    obtain ⟨i0, hi, hz0, hz1, hz2⟩ := info_parts info25
    have kA : ∀ o, (W2.drew.alloc o).cell? ⟨H + 2, 1, none⟩ = some gv := fun o => keep_cell (W := W2.drew) (alloc_below W2.drew o) k1
    have kB : ∀ o, (W2.drew.alloc o).cell? ⟨H + 2, 0, none⟩ = some (.slice (some ⟨H + 1, 0, none⟩) s.ws.length s.ws.length) ∧ (W2.drew.alloc o).cell? ⟨W.heap.size, 1, none⟩ = some (.int .i64 k) ∧ (W2.drew.alloc o).cell? ⟨H + 1, k, none⟩ = some (.int .u64 z) := fun o =>
      ⟨keep_cell (W := W2.drew) (alloc_below W2.drew o) k0, keep_cell (W := W2.drew) (alloc_below W2.drew o) o1, keep_cell (W := W2.drew) (alloc_below W2.drew o) x0⟩
    have kA2 : ∀ o, (W2.alloc o).drew.cell? ⟨H + 2, 1, none⟩ = some gv := fun o => kA o
    have k1d : W2.drew.cell? ⟨H + 2, 1, none⟩ = some gv := k1
    have KB := Lib.hid kB
    clear kB
    have OW := Lib.hid (fun o => own_below R2.out ((show Below W2.heap.size W2 W2.drew from below_drewN (Below.refl _ _) 1).trans (alloc_below W2.drew o)))
    have gf : ∀ (w3 : World) (o : Obj), (W2.drew.alloc o).grownBy w3 gv.ownBlock → W2.grownBy w3 gv.ownBlock ∧ w3.heap[H + 2]? = some (.cells #[.slice (some ⟨H + 1, 0, none⟩) s.ws.length s.ws.length, gv, .int .i64 s.r, .int .i64 s.w] 122 (0, 0)) ∧ w3.heap[H + 1]? = some (.cells (wc s.ws).toArray 58 (0, 0)) ∧
        w3.cell? ⟨H + 2, 1, none⟩ = some gv ∧ w3.frozen? ⟨H + 2, 1, none⟩ = false ∧
        (w3.cell? ⟨H + 2, 0, none⟩ = some (.slice (some ⟨H + 1, 0, none⟩) s.ws.length s.ws.length) ∧ w3.cell? ⟨W.heap.size, 1, none⟩ = some (.int .i64 k) ∧ w3.cell? ⟨H + 1, k, none⟩ = some (.int .u64 z)) ∧
        ∀ v, ((w3.setCell ⟨H + 2, 1, none⟩ v).cell? ⟨H + 2, 0, none⟩ = some (.slice (some ⟨H + 1, 0, none⟩) s.ws.length s.ws.length) ∧ (w3.setCell ⟨H + 2, 1, none⟩ v).cell? ⟨W.heap.size, 1, none⟩ = some (.int .i64 k) ∧ (w3.setCell ⟨H + 2, 1, none⟩ v).cell? ⟨H + 1, k, none⟩ = some (.int .u64 z)) := by
      intro w3 o hg3
      have hw : W2.grownBy w3 gv.ownBlock := ((grown_of_below (show Below W2.heap.size W2 W2.drew from below_drewN (Below.refl _ _) 1) _).trans (World.grownBy_alloc W2.drew o _)).trans hg3
      have m1 := far_heap hw HO.out (.inl (by omega)) R1.out
      have m3 := far_heap hw HO.out (.inl (by omega)) R3.out
      have mn := far_heap hw HO.out (.inr (by omega)) HN2.out
      have c0 := cell_of_row _ _ 0 _ _ _ m1
      have c1 := cell_of_row _ _ 1 _ _ _ m1
      have cn := cell_of_row _ _ 1 _ _ _ mn
      have cx := cell_of_row _ _ k _ _ _ m3
      rw [cell_of_row _ _ k _ _ _ R3.out] at x0
      rw [x0] at cx
      simp only [List.getElem?_toArray, List.getElem?_cons_zero, List.getElem?_cons_succ] at c0 c1 cn
      exact ⟨hw, m1, m3, c1, frozen_of_row _ _ 1 _ _ m1, ⟨c0, cn, cx⟩, fun v => ⟨(World.cell?_setCell_other w3 _ _ _ (by simp)).trans c0, (World.cell?_setCell_other w3 _ _ _ (by simp)).trans cn, (World.cell?_setCell_other w3 _ _ _ (by simp)).trans cx⟩⟩
    have GF := Lib.hid gf
    clear gf
    go_region_law ((refine step_append_lies _ (by rfl) _ _ 22 (by rfl) (H + 4) 58 i0 _ 1 8 Try.underlying22 hi hz0 hz1 hz2 (by rfl) (by decide) gv s.got.length (wc s.got) (by rfl) (by exact OW.out _) ⟨W2.heap.size, 0, none⟩ 1 1 [.int .u64 z] (by rfl) (by rfl) (by exact World.news_of_block (heap_alloc_new W2.drew _)) (by simp [Value.oneCell']) (by decide) (by unfold maxLen; omega) (by omega) (by simp; omega) _ rfl ?_; intro g cap w3 hown3 hgrow3 hat3 hlt3; obtain ⟨hw3, m1, m3, c1, f1, s3, s4⟩ := GF.out w3 _ hgrow3; have S3 := Lib.hid s3; have S4 := Lib.hid s4; have M1 := Lib.hid m1; have M3 := Lib.hid m3; have HW3 := Lib.hid hw3; have HOWN := Lib.hid hown3; clear s3 s4 m1 m3 hw3 hown3 hgrow3 hat3 hlt3))
    all_goals
      have n1 := set_row M1.out 1 (.slice (some ⟨g, 0, none⟩) (s.got.length + 1) cap)
      simp only [List.setIfInBounds_toArray, List.set_cons_succ, List.set_cons_zero] at n1
      have r2 := cell_of_row _ _ 2 _ _ _ n1
      have f2 := frozen_of_row _ _ 2 _ _ n1
      simp only [List.getElem?_toArray, List.getElem?_cons_zero, List.getElem?_cons_succ] at r2
      clear n1 k0 k1 o1 x0 kA kA2 k1d c1 f1
      have hr1 := hr.1
      have hr2 := hr.2
      have E := Lib.hid (get_end (z := z) (Kp.of_below hsz HB2.out) (by omega) HW3.out HO.out M1.out M3.out HOWN.out)
      generalize w3.setCell ⟨H + 2, 1, none⟩ (.slice (some ⟨g, 0, none⟩) (s.got.length + 1) cap) = W4 at *
      go_wp2
      exact bodyPost_ret (v := .bool true) (by simp [results, Try.f91, go_sem]) rfl ⟨by rw [T.out]; rfl, E.out.1, by rw [T.out]; exact E.out.2⟩
end Yteeghjhkfaeflaa
end Go.Proofs
