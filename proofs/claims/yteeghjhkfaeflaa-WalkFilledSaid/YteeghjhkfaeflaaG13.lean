/- cmp.Or of three errors; Shape, Make and Alike, the program's. -/
import Derived.Test.YteeghjhkfaeflaaG12
import Derived.Test.YteeghjhkfaeflaaG07
namespace Go.Proofs
namespace Yteeghjhkfaeflaa
open Go.RowKit

set_option maxRecDepth 100000 in
theorem or40_three (g : Nat) (x y : Int) (w : World) (h : w.heap[g]? = some (.cells #[.int .i64 x, .int .i64 y, .int .i64 y] 26 (0, 0))) :
    Calls Try.prog 61 #[.slice (some ⟨g, 0, none⟩) 3 3] w fun e w' => e = .returned (.int .i64 (if x = 0 then y else x)) ∧ w = w' := by
  have d0 := cell_of_row _ _ 0 _ _ _ h
  have d1 := cell_of_row _ _ 1 _ _ _ h
  have d2 := cell_of_row _ _ 2 _ _ _ h
  simp only [List.getElem?_toArray, List.getElem?_cons_zero, List.getElem?_cons_succ] at d0 d1 d2
  clear h
  by_cases hx : x = 0
  · subst hx
    rw [if_pos rfl]
    by_cases hy : y = 0
    · subst hy
      go_enter Try.func61, Try.ntmps61
      go_wp2
      go_loopw [8] (fun i wr => ∃ j : Nat, j ≤ 3 ∧ i = .int .i64 j ∧ Hid (w = wr)) (fun i _ => 3 - (intOf i).toNat)
      case atStart => exact ⟨0, by omega, rfl, Lib.hid rfl⟩
      case round =>
        obtain ⟨j, hj, rfl, hw⟩ := hrel
        obtain rfl := hw.out
        rcases (by omega : j = 0 ∨ j = 1 ∨ j = 2 ∨ j = 3) with rfl | rfl | rfl | rfl
        · go_wp2
          refine ⟨⟨1, by omega, rfl, Lib.hid trivial⟩, ?_⟩
          decide
        · go_wp2
          refine ⟨⟨2, by omega, rfl, Lib.hid trivial⟩, ?_⟩
          decide
        · go_wp2
          refine ⟨⟨3, by omega, rfl, Lib.hid trivial⟩, ?_⟩
          decide
        · go_wp2
          go_ret
          exact ⟨rfl, rfl⟩
    · have q : (y != 0) = true := by simpa using hy
      clear hy
      go_enter Try.func61, Try.ntmps61
      go_wp2
      go_loopw [8] (fun i wr => ∃ j : Nat, j ≤ 1 ∧ i = .int .i64 j ∧ Hid (w = wr)) (fun i _ => 3 - (intOf i).toNat)
      case atStart => exact ⟨0, by omega, rfl, Lib.hid rfl⟩
      case round =>
        obtain ⟨j, hj, rfl, hw⟩ := hrel
        obtain rfl := hw.out
        rcases (by omega : j = 0 ∨ j = 1) with rfl | rfl
        · go_wp2
          refine ⟨⟨1, by omega, rfl, Lib.hid trivial⟩, ?_⟩
          decide
        · go_wp2
          go_ret
          exact ⟨rfl, rfl⟩
  · have q : (x != 0) = true := by simpa using hx
    rw [if_neg hx]
    clear hx
    go_enter Try.func61, Try.ntmps61
    go_wp2
    go_loopw [8] (fun i wr => i = .int .i64 0 ∧ Hid (w = wr)) (fun i _ => 3 - (intOf i).toNat)
    case atStart => exact ⟨rfl, Lib.hid rfl⟩
    case round =>
      obtain ⟨rfl, hw⟩ := hrel
      obtain rfl := hw.out
      go_wp2
      go_ret
      exact ⟨rfl, rfl⟩
theorem two_free {W : World} {g : Nat} {x y : Value} {t : TypeId} (h : W.heap[g]? = some (.cells #[x, y] t (0, 0))) : W.cell? ⟨g, 0, none⟩ = some x ∧ W.cell? ⟨g, 1, none⟩ = some y ∧ W.frozen? ⟨g, 0, none⟩ = false ∧ W.frozen? ⟨g, 1, none⟩ = false := by
  refine ⟨?_, ?_, frozen_of_row _ _ _ _ _ h, frozen_of_row _ _ _ _ _ h⟩ <;> rw [cell_of_row _ _ _ _ _ _ h] <;> rfl
set_option maxRecDepth 100000 in
set_option maxHeartbeats 400000 in
theorem shape15_err (A : Option Addr) (n cap : Nat) (a E : Int) (w : World) (F : Hid (∀ W, Below w.heap.size w W → Calls Try.prog 64 #[.slice A n cap, .int .i64 a] W fun e w' => e = .returned (fErr E) ∧ Below W.heap.size W w')) :
    Calls Try.prog 63 #[.slice A n cap, .int .i64 a] w fun e w' => e = .returned (.tuple #[.agg #[.int .i64 0, .int .i64 0], .int .i64 E]) ∧ Below w.heap.size w w' := by
  unfold fErr at F
  have N := Lib.hid (heap_alloc_new w (.cells #[.int .i64 0, .int .i64 0] 51))
  go_enter Try.func63, Try.ntmps63
  go_upto_region 2 with (go_at_call 64; refine (F.out _ (alloc_below w _)).mono ?_; rintro e w1 ⟨rfl, hb1⟩)
  have O := show ORow _ w1.heap.size #[.int .i64 0, .int .i64 0, .int .i64 0, .slice none 0 0, .int .i64 0, .slice none 0 0, .slice none 0 0, .int .i64 0, .slice none 0 0] from heap_alloc_new w1 (.cells #[.int .i64 0, .int .i64 0, .int .i64 0, .slice none 0 0, .int .i64 0, .slice none 0 0, .slice none 0 0, .int .i64 0, .slice none 0 0] 100)
  obtain ⟨z0, z1, -, -, -, -, -, -, -⟩ := O.cells
  have hB := alloc_below w1 (.cells #[.int .i64 0, .int .i64 0, .int .i64 0, .slice none 0 0, .int .i64 0, .slice none 0 0, .slice none 0 0, .int .i64 0, .slice none 0 0] 100)
  have B := Lib.hid (below_end (below_end (alloc_below w _) hb1) hB)
  obtain ⟨t0, t1, t2, t3⟩ := two_free (keep_heap hB (keep_heap hb1 N.out))
  clear hb1 hB O N
  generalize w1.heap.size = g at *
  generalize w1.alloc (.cells #[.int .i64 0, .int .i64 0, .int .i64 0, .slice none 0 0, .int .i64 0, .slice none 0 0, .slice none 0 0, .int .i64 0, .slice none 0 0] 100) = W2 at *
  have hset := Lib.hid (Hd.two_set (.int .i64 0) (.int .i64 0) t0 t1)
  go_wp2
  obtain ⟨e0, e1⟩ := hset.out
  have hB := Lib.hid ((B.out.setCell (p := ⟨w.heap.size, 0, none⟩) (Nat.le_refl _) (.int .i64 0)).setCell (p := ⟨w.heap.size, 1, none⟩) (Nat.le_refl _) (.int .i64 0))
  clear t0 t1 t2 t3 z0 z1 hset
  generalize (W2.setCell ⟨w.heap.size, 0, none⟩ (.int .i64 0)).setCell ⟨w.heap.size, 1, none⟩ (.int .i64 0) = W3 at *
  exact bodyPost_ret (v := .tuple #[.agg #[.int .i64 0, .int .i64 0], .int .i64 E]) (by simp [results, Try.f63, go_sem, e0, e1]) rfl ⟨rfl, hB.out⟩
set_option maxRecDepth 100000 in
set_option maxHeartbeats 400000 in
theorem shape15_ok (A : Option Addr) (n cap k P R : Nat) (w : World) (F : Hid (∀ W, Below w.heap.size w W → Calls Try.prog 64 #[.slice A n cap, .int .i64 k] W fun e w' => ∃ a1 a2, e = .returned (.tuple #[.agg (objV P R (1 + (P : Int) + R) A n cap ((k : Int) + 1) a1 P P A n cap ((k : Int) + 1 + (P : Int)) a2 R R), .int .i64 0]) ∧ Below W.heap.size W w')) :
    Calls Try.prog 63 #[.slice A n cap, .int .i64 k] w fun e w' => e = .returned (.tuple #[.agg #[.int .i64 (P : Int), .int .i64 (R : Int)], .int .i64 0]) ∧ Below w.heap.size w w' := by
  unfold objV at F
  have N := Lib.hid (heap_alloc_new w (.cells #[.int .i64 0, .int .i64 0] 51))
  go_enter Try.func63, Try.ntmps63
  go_upto_region 2 with (go_at_call 64; refine (F.out _ (alloc_below w _)).mono ?_; rintro e w1 ⟨a1, a2, rfl, hb1⟩)
  have O := show ORow _ w1.heap.size #[.int .i64 P, .int .i64 R, .int .i64 (1 + (P : Int) + R), .slice A n cap, .int .i64 ((k : Int) + 1), .slice a1 P P, .slice A n cap, .int .i64 ((k : Int) + 1 + (P : Int)), .slice a2 R R] from heap_alloc_new w1 (.cells #[.int .i64 P, .int .i64 R, .int .i64 (1 + (P : Int) + R), .slice A n cap, .int .i64 ((k : Int) + 1), .slice a1 P P, .slice A n cap, .int .i64 ((k : Int) + 1 + (P : Int)), .slice a2 R R] 100)
  obtain ⟨z0, z1, -, -, -, -, -, -, -⟩ := O.cells
  have hB := alloc_below w1 (.cells #[.int .i64 P, .int .i64 R, .int .i64 (1 + (P : Int) + R), .slice A n cap, .int .i64 ((k : Int) + 1), .slice a1 P P, .slice A n cap, .int .i64 ((k : Int) + 1 + (P : Int)), .slice a2 R R] 100)
  have B := Lib.hid (below_end (below_end (alloc_below w _) hb1) hB)
  obtain ⟨t0, t1, t2, t3⟩ := two_free (keep_heap hB (keep_heap hb1 N.out))
  clear hb1 hB O N
  generalize w1.heap.size = g at *
  generalize w1.alloc (.cells #[.int .i64 P, .int .i64 R, .int .i64 (1 + (P : Int) + R), .slice A n cap, .int .i64 ((k : Int) + 1), .slice a1 P P, .slice A n cap, .int .i64 ((k : Int) + 1 + (P : Int)), .slice a2 R R] 100) = W2 at *
  have hset := Lib.hid (Hd.two_set (.int .i64 (P : Int)) (.int .i64 (R : Int)) t0 t1)
  go_wp2
  obtain ⟨e0, e1⟩ := hset.out
  have hB := Lib.hid ((B.out.setCell (p := ⟨w.heap.size, 0, none⟩) (Nat.le_refl _) (.int .i64 (P : Int))).setCell (p := ⟨w.heap.size, 1, none⟩) (Nat.le_refl _) (.int .i64 (R : Int)))
  clear t0 t1 t2 t3 z0 z1 hset
  generalize (W2.setCell ⟨w.heap.size, 0, none⟩ (.int .i64 (P : Int))).setCell ⟨w.heap.size, 1, none⟩ (.int .i64 (R : Int)) = W3 at *
  exact bodyPost_ret (v := .tuple #[.agg #[.int .i64 (P : Int), .int .i64 (R : Int)], .int .i64 0]) (by simp [results, Try.f63, go_sem, e0, e1]) rfl ⟨rfl, hB.out⟩
theorem shape15 (v : Value) (ws : List Int) (a : Int) (w : World) (h : Ar w v ws) :
    Calls Try.prog 63 #[v, .int .i64 a] w fun e w' => e = .returned (.tuple #[.agg #[.int .i64 (objF ws a).1, .int .i64 (objF ws a).2.1], .int .i64 (objF ws a).2.2]) ∧ Below w.heap.size w w' := by
  obtain ⟨A, cap, rfl, h1, h2⟩ := h.open
  rcases obj_cases ws a with ⟨E, hE, e⟩ | ⟨k, P, R, rfl, ho⟩
  · rw [e]
    exact shape15_err A ws.length cap a E w (Lib.hid (fun W hb => find48_err A ws cap a E W (h1.below hb) h.len h.ui e hE))
  · rw [ho.is]
    exact shape15_ok A ws.length cap k P R w (Lib.hid (fun W hb => (find48_ok A ws cap k P R W (h1.below hb) h2 h.ui ho).mono (fun e w' ⟨a1, a2, h1, _, _, h2⟩ => ⟨a1, a2, h1, h2⟩)))
set_option maxRecDepth 100000 in
set_option maxHeartbeats 400000 in
theorem make12_bad (v : Value) (ws : List Int) (a P R : Int) (w : World) (h : Ar w v ws) (hP : Hd.SI P) (hR : Hd.SI R) (hE : (if chkF ws = 0 then Hd.chkV P R else chkF ws) ≠ 0) :
    Calls Try.prog 52 #[v, .int .i64 a, .agg #[.int .i64 P, .int .i64 R]] w fun e w' => e = .returned (.tuple #[.slice none 0 0, .int .i64 (if chkF ws = 0 then Hd.chkV P R else chkF ws)]) ∧ Below w.heap.size w w' := by
  have S := Lib.hid (fun W => Hd.size38 P R hP hR W)
  have K := Lib.hid (fun W => Hd.pack39 P R hP hR W)
  have C := Lib.hid (fun W (hb : Below w.heap.size w W) => check41 v ws W (h.at_.below hb) h.len)
  have q : ((if chkF ws = 0 then Hd.chkV P R else chkF ws) != 0) = true := by simpa using hE
  obtain ⟨A, cap, rfl, -, -⟩ := h.open
  clear h hE hP hR
  have O := fun g W hg => or40_three g (chkF ws) (Hd.chkV P R) W hg
  generalize (if chkF ws = 0 then Hd.chkV P R else chkF ws) = E at *
  generalize chkF ws = d at *
  generalize Hd.chkV P R = c at *
  generalize Hd.sizeV P R = s at *
  generalize Hd.packE P R = p at *
  have O := Lib.hid O
  go_enter Try.func52, Try.ntmps52
  go_wp2_with (first
    | (go_at_call 70; refine (S.out _).mono ?_; rintro e w1 ⟨rfl, hb1⟩; obtain ⟨hc1, hf1⟩ := Hd.bcell hb1)
    | (go_at_call 71; refine (K.out _).mono ?_; rintro e w2 ⟨rfl, hb2⟩; have B2 := Lib.hid (below_end (below_end (alloc_below w _) hb1) hb2))
    | (go_at_call 69; refine (C.out _ B2.out).mono ?_; rintro e w' ⟨rfl, rfl⟩)
    | (go_at_call 61; refine (O.out _ _ (heap_alloc_new w2 _)).mono ?_; rintro e w' ⟨rfl, rfl⟩))
  exact bodyPost_ret (v := .tuple #[.slice none 0 0, .int .i64 E]) (by simp [results, Try.f52, go_sem]) rfl ⟨rfl, below_end B2.out (alloc_below w2 _)⟩
theorem ops_at (W : World) (a n z : Int) (g : Nat) (hg : g = W.heap.size) : OAt (W.alloc (.cells #[.int .i64 4, .int .i64 a, .int .i64 0, .int .i64 n, .int .u64 0, .int .i64 2, .int .i64 a, .int .i64 0, .int .i64 0, .int .u64 z] 110)) (.slice (some ⟨g, 0, none⟩) 2 2) [⟨4, a, 0, n, 0⟩, ⟨2, a, 0, 0, z⟩] := by
  subst hg
  refine ⟨_, 2, rfl, fun _ => ⟨W.heap.size, 0, rfl, fun j u hu => ?_⟩⟩
  rw [cell_of_row _ _ _ _ _ _ (heap_alloc_new W _), Nat.zero_add]
  simpa [oc, opC] using hu
set_option maxRecDepth 100000 in
set_option maxHeartbeats 400000 in
theorem make12_ok (v : Value) (ws : List Int) (a P R : Int) (w : World) (h : Ar w v ws) (hc : chkF ws = 0) (hs : Hd.chkV P R = 0) :
    Calls Try.prog 52 #[v, .int .i64 a, .agg #[.int .i64 P, .int .i64 R]] w fun e w' => CAns w (makF ws a P R) e w' := by
  obtain ⟨z0, z1, z2⟩ := Hd.chk_zero.1 hs
  have S := Lib.hid (fun W => Hd.size38 P R ⟨by omega, by omega⟩ ⟨by omega, by omega⟩ W)
  have K := Lib.hid (fun W => Hd.pack39 P R ⟨by omega, by omega⟩ ⟨by omega, by omega⟩ W)
  have e1 : Hd.sizeV P R = 1 + P + R := if_pos hs
  have e2 : Hd.packE P R = Hd.packV P R := if_pos hs
  rw [hs, e1] at S
  rw [hs, e2] at K
  have C := Lib.hid (fun W (hb : Below w.heap.size w W) => check41 v ws W (h.at_.below hb) h.len)
  rw [hc] at C
  have Pl := Lib.hid (fun W lv (hb : Below w.heap.size w W) (hl : OAt W lv _) => play42 v lv ws [⟨4, a, 0, 1 + P + R, 0⟩, ⟨2, a, 0, 0, Hd.packV P R⟩] W (h.at_.below hb) hl h.len (by simp))
  have M := Lib.hid (play_make (a := a) hc hs)
  obtain ⟨A, cap, rfl, -, -⟩ := h.open
  clear h hc hs e1 e2
  have O := Lib.hid (fun g W hg => or40_three g 0 0 W hg)
  have OA := Lib.hid (fun W g hg => ops_at W a (1 + P + R) (Hd.packV P R) g hg)
  generalize Hd.packV P R = p at *
  generalize makF ws a P R = q at *
  obtain ⟨q1, q2⟩ := q
  go_enter Try.func52, Try.ntmps52
  go_wp2_with (first
    | (go_at_call 70; refine (S.out _).mono ?_; rintro e w1 ⟨rfl, hb1⟩; obtain ⟨hc1, hf1⟩ := Hd.bcell hb1)
    | (go_at_call 71; refine (K.out _).mono ?_; rintro e w2 ⟨rfl, hb2⟩; have B2 := Lib.hid (below_end (below_end (alloc_below w _) hb1) hb2))
    | (go_at_call 69; refine (C.out _ B2.out).mono ?_; rintro e w' ⟨rfl, rfl⟩)
    | (go_at_call 61; refine (O.out _ _ (heap_alloc_new w2 _)).mono ?_; rintro e w' ⟨rfl, rfl⟩)
    | (go_at_call 72; refine (Pl.out _ _ (below_end (below_end B2.out (alloc_below w2 _)) (alloc_below _ _)) (OA.out _ _ (by simp))).mono ?_; rintro e w3 ⟨v1, v2, rfl, ho1, ho2, hb3⟩))
  rw [M.out.1] at ho1
  have BB := below_end (below_end B2.out (alloc_below w2 (.cells #[.int .i64 0, .int .i64 0, .int .i64 0] 26))) (alloc_below _ (.cells #[.int .i64 4, .int .i64 a, .int .i64 0, .int .i64 (1 + P + R), .int .u64 0, .int .i64 2, .int .i64 a, .int .i64 0, .int .i64 0, .int .u64 p] 110))
  have e2 := M.out.2
  refine bodyPost_ret (v := .tuple #[v1, .int .i64 q2]) (by simp [results, Try.f52, go_sem, e2]) rfl ⟨v1, rfl, own_mono (ho1.alloc _) BB.size, ?_⟩
  exact (below_end BB hb3).alloc (below_end BB hb3).size _
theorem make12 (v : Value) (ws : List Int) (a P R : Int) (w : World) (h : Ar w v ws) (hP : Hd.SI P) (hR : Hd.SI R) :
    Calls Try.prog 52 #[v, .int .i64 a, .agg #[.int .i64 P, .int .i64 R]] w fun e w' => CAns w (makF ws a P R) e w' := by
  by_cases hE : (if chkF ws = 0 then Hd.chkV P R else chkF ws) = 0
  · have hc : chkF ws = 0 := by
      apply Classical.byContradiction
      intro hn
      rw [if_neg hn] at hE
      exact hn hE
    rw [if_pos hc] at hE
    exact make12_ok v ws a P R w h hc hE
  · have T : makF ws a P R = ([], if chkF ws = 0 then Hd.chkV P R else chkF ws) := by
      unfold makF
      by_cases hc : chkF ws = 0
      · rw [if_pos hc] at hE ⊢
        rw [if_neg (by simp [hc]), if_pos hE]
      · rw [if_neg hc, if_pos hc]
    rw [T]
    exact (make12_bad v ws a P R w h hP hR hE).mono (fun e w' ⟨h1, h2⟩ => ⟨_, h1, World.ownsRow_nil _ _ _ _, h2⟩)
end Yteeghjhkfaeflaa
end Go.Proofs
/- Alike, the program's. -/
namespace Go.Proofs
namespace Yteeghjhkfaeflaa
open Go.RowKit

end Yteeghjhkfaeflaa
end Go.Proofs
