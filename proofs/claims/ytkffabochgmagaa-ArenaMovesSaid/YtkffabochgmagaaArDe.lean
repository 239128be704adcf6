/- cmp.Or of any two errors, Differ and the reference's Differ on any two arenas. -/
import Derived.Test.YtkffabochgmagaaArD
import Derived.Test.YtkffabochgmagaaArR
namespace Go.Proofs
namespace Ytkffabochgmagaa
open Go.RowKit

/-- what a call that answers a row of integers of its own and an error gives -/
def DAns (W : World) (r : List Int × Int) (e : Ending) (w' : World) : Prop :=
  ∃ v, e = .returned (.tuple #[v, .int .i64 r.2]) ∧ w'.ownsRow W.heap.size 3 1 v r.1.length (ic r.1) ∧ Below W.heap.size W w'
theorem differ_chk1 {xs ys : List Int} (h : chkF xs ≠ 0) : differF xs ys = ([], chkF xs) := by unfold differF; rw [if_pos h]
theorem differ_chk2 {xs ys : List Int} (h : chkF xs = 0) (h2 : chkF ys ≠ 0) : differF xs ys = ([], chkF ys) := by unfold differF; rw [if_neg (by simp [h]), if_pos h2]
theorem differ_form {xs ys : List Int} (h : chkF xs = 0) (h2 : chkF ys = 0) (h3 : xs.length ≠ ys.length) : differF xs ys = ([], 6) := by unfold differF; rw [if_neg (by simp [h]), if_neg (by simp [h2]), if_pos h3]
theorem differ_good {xs ys : List Int} (h : chkF xs = 0) (h2 : chkF ys = 0) (h3 : xs.length = ys.length) : differF xs ys = (diffs 0 xs ys, 0) := by unfold differF; rw [if_neg (by simp [h]), if_neg (by simp [h2]), if_neg (by simp [h3])]

set_option maxRecDepth 100000 in
theorem or39_any (g : Nat) (x y : Int) (w : World) (h : w.heap[g]? = some (.cells #[.int .i64 x, .int .i64 y] 29 (0, 0))) :
    Calls Try.prog 39 #[.slice (some ⟨g, 0, none⟩) 2 2] w fun e w' => e = .returned (.int .i64 (if x = 0 then y else x)) ∧ w = w' := by
  have d0 := cell_of_row _ _ 0 _ _ _ h
  have d1 := cell_of_row _ _ 1 _ _ _ h
  simp only [List.getElem?_toArray, List.getElem?_cons_zero, List.getElem?_cons_succ] at d0 d1
  clear h
  by_cases hx : x = 0
  · subst hx
    rw [if_pos rfl]
    by_cases hy : y = 0
    · subst hy
      go_enter Try.func39, Try.ntmps39
      go_wp2
      go_loopw [8] (fun i wr => ∃ j : Nat, j ≤ 2 ∧ i = .int .i64 j ∧ Hid (w = wr)) (fun i _ => 2 - (intOf i).toNat)
      case atStart => exact ⟨0, by omega, rfl, Lib.hid rfl⟩
      case round =>
        obtain ⟨j, hj, rfl, hw⟩ := hrel
        obtain rfl := hw.out
        rcases (by omega : j = 0 ∨ j = 1 ∨ j = 2) with rfl | rfl | rfl
        · go_wp2
          refine ⟨⟨1, by omega, rfl, Lib.hid trivial⟩, ?_⟩
          decide
        · go_wp2
          refine ⟨⟨2, by omega, rfl, Lib.hid trivial⟩, ?_⟩
          decide
        · go_wp2
          go_ret
          exact ⟨rfl, rfl⟩
    · have q : (y != 0) = true := by simpa using hy
      clear hy
      go_enter Try.func39, Try.ntmps39
      go_wp2
      go_loopw [8] (fun i wr => ∃ j : Nat, j ≤ 1 ∧ i = .int .i64 j ∧ Hid (w = wr)) (fun i _ => 2 - (intOf i).toNat)
      case atStart => exact ⟨0, by omega, rfl, Lib.hid rfl⟩
      case round =>
        obtain ⟨j, hj, rfl, hw⟩ := hrel
        obtain rfl := hw.out
        rcases (by omega : j = 0 ∨ j = 1) with rfl | rfl
        · go_wp2
          refine ⟨⟨1, by omega, rfl, Lib.hid trivial⟩, ?_⟩
          decide
        · go_wp2
          go_ret
          exact ⟨rfl, rfl⟩
  · have q : (x != 0) = true := by simpa using hx
    rw [if_neg hx]
    clear hx
    go_enter Try.func39, Try.ntmps39
    go_wp2
    go_loopw [8] (fun i wr => i = .int .i64 0 ∧ Hid (w = wr)) (fun i _ => 2 - (intOf i).toNat)
    case atStart => exact ⟨rfl, Lib.hid rfl⟩
    case round =>
      obtain ⟨rfl, hw⟩ := hrel
      obtain rfl := hw.out
      go_wp2
      go_ret
      exact ⟨rfl, rfl⟩

set_option maxRecDepth 100000 in
set_option maxHeartbeats 1000000 in
theorem differ26_bad (v1 v2 : Value) (xs ys : List Int) (w : World) (h1 : WAt w v1 xs) (h2 : WAt w v2 ys) (m1 : xs.length ≤ 9223372036854775807) (m2 : ys.length ≤ 9223372036854775807) (c : chkF xs ≠ 0 ∨ chkF ys ≠ 0) :
    Calls Try.prog 26 #[v1, v2] w fun e w' => DAns w (differF xs ys) e w' := by
  have C1 : ChkIs w v1 (chkF xs) := ⟨check14 v1 xs w h1 m1⟩
  have C2 : ChkIs w v2 (chkF ys) := ⟨check14 v2 ys w h2 m2⟩
  have O := Lib.hid (or39_any w.heap.size (chkF xs) (chkF ys) _ (heap_alloc_new w (.cells #[.int .i64 (chkF xs), .int .i64 (chkF ys)] 29)))
  have BB := Lib.hid (alloc_below w (.cells #[.int .i64 (chkF xs), .int .i64 (chkF ys)] 29))
  have T := Lib.hid (show differF xs ys = ([], if chkF xs = 0 then chkF ys else chkF xs) by
    by_cases hx : chkF xs = 0
    · rw [differ_chk2 hx (c.resolve_left (fun h => h hx)), if_pos hx]
    · rw [differ_chk1 hx, if_neg hx])
  have q : ((if chkF xs = 0 then chkF ys else chkF xs) != 0) = true := by
    by_cases hx : chkF xs = 0
    · rw [if_pos hx]; simpa using c.resolve_left (fun h => h hx)
    · rw [if_neg hx]; simpa using hx
  obtain ⟨A1, p1, rfl, -⟩ := h1
  obtain ⟨A2, p2, rfl, -⟩ := h2
  clear c
  generalize (if chkF xs = 0 then chkF ys else chkF xs) = r at *
  generalize chkF xs = x1 at *
  generalize chkF ys = x2 at *
  go_enter Try.func26, Try.ntmps26
  go_wp2_with (first
    | (go_at_call 14; refine (ChkIs.call (by assumption)).mono ?_; rintro e w' ⟨rfl, rfl⟩)
    | (go_at_call 39; refine O.out.mono ?_; rintro e w' ⟨rfl, rfl⟩))
  exact bodyPost_ret (v := .tuple #[.slice none 0 0, .int .i64 r]) (by simp [results, Try.f26, go_sem]) rfl ⟨.slice none 0 0, by rw [T.out], by rw [T.out]; exact World.ownsRow_nil _ _ _ _, BB.out⟩

set_option maxRecDepth 100000 in
set_option maxHeartbeats 1000000 in
theorem differ26_form (v1 v2 : Value) (xs ys : List Int) (w : World) (h1 : WAt w v1 xs) (h2 : WAt w v2 ys) (c1 : chkF xs = 0) (c2 : chkF ys = 0) (hl : xs.length ≠ ys.length) :
    Calls Try.prog 26 #[v1, v2] w fun e w' => DAns w (differF xs ys) e w' := by
  have hx : xs.length ≤ 1601 := by
    apply Classical.byContradiction
    intro hn
    rw [chk_long (by omega)] at c1
    cases c1
  have hy : ys.length ≤ 1601 := by
    apply Classical.byContradiction
    intro hn
    rw [chk_long (by omega)] at c2
    cases c2
  have e1 := check14 v1 xs w h1 (by omega)
  have e2 := check14 v2 ys w h2 (by omega)
  rw [c1] at e1
  rw [c2] at e2
  have C1 : ChkIs w v1 0 := ⟨e1⟩
  have C2 : ChkIs w v2 0 := ⟨e2⟩
  have O := Lib.hid (or39 w.heap.size _ (heap_alloc_new w (.cells #[.int .i64 0, .int .i64 0] 29)))
  have BB := Lib.hid (alloc_below w (.cells #[.int .i64 0, .int .i64 0] 29))
  have T := Lib.hid (differ_form c1 c2 hl)
  obtain ⟨A1, p1, rfl, -⟩ := h1
  obtain ⟨A2, p2, rfl, -⟩ := h2
  have q0 : ((xs.length : Int) != (ys.length : Int)) = true := by simp; omega
  clear e1 e2 c1 c2 hl
  go_enter Try.func26, Try.ntmps26
  go_wp2_with (first
    | (go_at_call 14; refine (ChkIs.call (by assumption)).mono ?_; rintro e w' ⟨rfl, rfl⟩)
    | (go_at_call 39; refine O.out.mono ?_; rintro e w' ⟨rfl, rfl⟩))
  exact bodyPost_ret (v := .tuple #[.slice none 0 0, .int .i64 6]) (by simp [results, Try.f26, go_sem]) rfl ⟨.slice none 0 0, by rw [T.out], by rw [T.out]; exact World.ownsRow_nil _ _ _ _, BB.out⟩
/-- Differ, for any two arenas -/
theorem differ26 (v1 v2 : Value) (xs ys : List Int) (w : World) (h1 : WAt w v1 xs) (h2 : WAt w v2 ys) (m1 : xs.length ≤ 9223372036854775807) (m2 : ys.length ≤ 9223372036854775807) :
    Calls Try.prog 26 #[v1, v2] w fun e w' => DAns w (differF xs ys) e w' := by
  by_cases c1 : chkF xs = 0
  · by_cases c2 : chkF ys = 0
    · by_cases hl : xs.length = ys.length
      · have D := Lib.hid (differ_good c1 c2 hl)
        refine (differ26_ok v1 v2 xs ys w h1 h2 c1 c2 hl).mono ?_
        rintro e w' ⟨v, he, ho, hb⟩
        exact ⟨v, by rw [D.out]; exact he, by rw [D.out]; exact ho, hb⟩
      · exact differ26_form v1 v2 xs ys w h1 h2 c1 c2 hl
    · exact differ26_bad v1 v2 xs ys w h1 h2 m1 m2 (.inr c2)
  · exact differ26_bad v1 v2 xs ys w h1 h2 m1 m2 (.inl c1)
end Ytkffabochgmagaa
end Go.Proofs
