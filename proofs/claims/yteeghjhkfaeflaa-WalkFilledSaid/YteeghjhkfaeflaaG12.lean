/- Size, Slots, Pointer, Raw, Pointers, SetPointer and SetRaw, the program's. -/
import Derived.Test.YteeghjhkfaeflaaG11
import Derived.Test.YteeghjhkfaeflaaG04
import Derived.Test.YteeghjhkfaeflaaG05
import Derived.Below
import Derived.ChangeSame
import Derived.Test.YteeghjhkfaeflaaG09
import Derived.Test.YteeghjhkfaeflaaG06
namespace Go.Proofs
namespace Yteeghjhkfaeflaa
open Go.RowKit

/-- a value that is an arena's words -/
structure Ar (W : World) (v : Value) (ws : List Int) : Prop where
  at_ : WAt W v ws
  cap : ∀ A n c, v = .slice A n c → n ≤ c
  ui : ∀ z ∈ ws, Hd.UI z
  len : ws.length ≤ 9223372036854775807
theorem Ar.below {W W' : World} {v : Value} {ws : List Int} (h : Ar W v ws) (hb : Below W.heap.size W W') : Ar W' v ws := ⟨h.at_.below hb, h.cap, h.ui, h.len⟩
theorem Ar.open {W : World} {v : Value} {ws : List Int} (h : Ar W v ws) : ∃ A cap, v = .slice A ws.length cap ∧ WAt W (.slice A ws.length cap) ws ∧ ws.length ≤ cap := by
  obtain ⟨h1, h2, h3, h4⟩ := h
  obtain ⟨A, cap, rfl, hA⟩ := h1
  exact ⟨A, cap, rfl, ⟨A, cap, rfl, hA⟩, h2 _ _ _ rfl⟩
theorem part_ui {ws : List Int} (hu : ∀ z ∈ ws, Hd.UI z) (k n : Nat) : ∀ z ∈ part ws k n, 0 ≤ z := fun z hz => (hu z (List.mem_of_mem_drop (List.mem_of_mem_take hz))).1
/-- what find answers where there is no object -/
def fErr (E : Int) : Value := .tuple #[.agg #[.int .i64 0, .int .i64 0, .int .i64 0, .slice none 0 0, .int .i64 0, .slice none 0 0, .slice none 0 0, .int .i64 0, .slice none 0 0], .int .i64 E]

set_option maxRecDepth 100000 in
set_option maxHeartbeats 400000 in
theorem pointers26_err (A : Option Addr) (n cap : Nat) (a E : Int)  (w : World) (hE : E ≠ 0) (F : Hid (Calls Try.prog 64 #[.slice A n cap, .int .i64 a] w fun e w' => e = .returned (fErr E) ∧ Below w.heap.size w w')) :
    Calls Try.prog 67 #[.slice A n cap, .int .i64 a] w fun e w' => e = .returned (.tuple #[.slice none 0 0, .int .i64 E]) ∧ Below w.heap.size w w' := by
  unfold fErr at F
  have q : (E != 0) = true := by simpa using hE
  clear hE
  go_enter Try.func67, Try.ntmps67
  go_wp2_with (go_at_call 64; refine F.out.mono ?_; rintro e w1 ⟨rfl, hb1⟩)
  exact bodyPost_ret (v := .tuple #[.slice none 0 0, .int .i64 E]) (by simp [results, Try.f67, go_sem]) rfl ⟨rfl, hb1.alloc hb1.size _⟩
set_option maxRecDepth 100000 in
set_option maxHeartbeats 400000 in
theorem pointers26_ok (A : Option Addr) (ws : List Int) (cap k P R : Nat)  (w : World) (h : WAt w (.slice A ws.length cap) ws) (hcap : ws.length ≤ cap) (hu : ∀ z ∈ ws, Hd.UI z) (ho : ObOk ws k P R) :
    Calls Try.prog 67 #[.slice A ws.length cap, .int .i64 k] w fun e w' => IAns w (adrsF (part ws (k + 1) P)) e w' := by
  have F := Lib.hid (find48_ok A ws cap k P R w h hcap hu ho)
  have hl := ho.len
  have hf := ho.fit
  have e1 : (part ws (k + 1) P).length = P := part_length (by omega)
  generalize ws.length = n at *
  have G := Lib.hid (fun W x (hx : WAt W (.slice x (part ws (k + 1) P).length (part ws (k + 1) P).length) (part ws (k + 1) P)) => all54 A n cap ((k : Int) + 1) x (part ws (k + 1) P) (part_ui hu (k + 1) P) (by omega) W hx)
  rw [e1] at G
  clear h hu ho e1
  generalize adrsF (part ws (k + 1) P) = q at *
  obtain ⟨q1, q2⟩ := q
  generalize part ws (k + 1) P = zp at *
  generalize part ws (k + 1 + P) R = zr at *
  unfold objV at F
  unfold fv at G
  (try dsimp only at G)
  (try dsimp only)
  go_enter Try.func67, Try.ntmps67
  go_wp2_with (first
    | (go_at_call 64; refine F.out.mono ?_; rintro e w1 ⟨a1, a2, rfl, x1, x2, hb1⟩; have X1 := Lib.hid x1; have X2 := Lib.hid x2; clear x1 x2)
    | (go_at_call 82; refine (G.out _ _ (X1.out.below (hb1.alloc hb1.size _))).mono ?_; rintro e w2 ⟨u, rfl, ho, hb2⟩))
  exact bodyPost_ret (v := .tuple #[u, .int .i64 q2]) (by simp [results, Try.f67, go_sem]) rfl ⟨u, rfl, own_mono ho (hb1.alloc hb1.size _).size, below_end (hb1.alloc hb1.size _) hb2⟩
theorem pointers26 (v : Value) (ws : List Int) (a : Int)  (w : World) (h : Ar w v ws) :
    Calls Try.prog 67 #[v, .int .i64 a] w fun e w' => IAns w (ptrsF ws a) e w' := by
  obtain ⟨A, cap, rfl, h1, h2⟩ := h.open
  rcases obj_cases ws a with ⟨E, hE, e⟩ | ⟨k, P, R, rfl, ho⟩
  · have T : ptrsF ws a = ([], E) := by unfold ptrsF; rw [e, if_neg hE]
    have := pointers26_err A ws.length cap a E w hE (Lib.hid (find48_err A ws cap a E w h1 h.len h.ui e hE))
    rw [T]; exact this.mono (fun e w' ⟨h1, h2⟩ => ⟨_, h1, World.ownsRow_nil _ _ _ _, h2⟩)
  · have T : ptrsF ws k = adrsF (part ws (k + 1) P) := by unfold ptrsF; rw [ho.is, if_pos rfl]; simp only [Int.toNat_natCast]
    rw [T]
    exact pointers26_ok A ws cap k P R w h1 h2 h.ui ho
set_option maxRecDepth 100000 in
set_option maxHeartbeats 400000 in
theorem size17 (v : Value) (ws : List Int) (a : Int) (w : World) (h : Ar w v ws) :
    Calls Try.prog 78 #[v, .int .i64 a] w fun e w' => e = .returned (.tuple #[.int .i64 (sizF ws a).1, .int .i64 (sizF ws a).2]) ∧ Below w.heap.size w w' := by
  obtain ⟨A, cap, rfl, h1, h2⟩ := h.open
  rcases obj_cases ws a with ⟨E, hE, e⟩ | ⟨k, P, R, rfl, ho⟩
  · have T : sizF ws a = (0, E) := by unfold sizF; rw [e, if_neg hE]
    have F := Lib.hid (find48_err A ws cap a E w h1 h.len h.ui e hE)
    rw [T]
    clear T e h h1 h2 hE
    unfold zObj objV at F
    go_enter Try.func78, Try.ntmps78
    go_wp2_with (go_at_call 64; refine F.out.mono ?_; rintro e w1 ⟨rfl, hb1⟩)
    exact bodyPost_ret (v := .tuple #[.int .i64 0, .int .i64 E]) (by simp [results, Try.f78, go_sem]) rfl ⟨rfl, hb1.alloc hb1.size _⟩
  · have T : sizF ws k = (1 + (P : Int) + R, 0) := by unfold sizF; rw [ho.is, if_pos rfl]
    have F := Lib.hid (find48_ok A ws cap k P R w h1 h2 h.ui ho)
    rw [T]
    clear T h h1 h2 ho
    unfold objV at F
    go_enter Try.func78, Try.ntmps78
    go_wp2_with (go_at_call 64; refine F.out.mono ?_; rintro e w1 ⟨a1, a2, rfl, x1, x2, hb1⟩; clear x1 x2)
    exact bodyPost_ret (v := .tuple #[.int .i64 (1 + (P : Int) + R), .int .i64 0]) (by simp [results, Try.f78, go_sem]) rfl ⟨rfl, hb1.alloc hb1.size _⟩
set_option maxRecDepth 100000 in
set_option maxHeartbeats 400000 in
theorem slots19 (v : Value) (ws : List Int) (a : Int) (w : World) (h : Ar w v ws) :
    Calls Try.prog 44 #[v, .int .i64 a] w fun e w' => IAns w (sltF ws a) e w' := by
  obtain ⟨A, cap, rfl, h1, h2⟩ := h.open
  rcases obj_cases ws a with ⟨E, hE, e⟩ | ⟨k, P, R, rfl, ho⟩
  · have T : sltF ws a = ([], E) := by unfold sltF; rw [e, if_neg hE]
    have F := Lib.hid (find48_err A ws cap a E w h1 h.len h.ui e hE)
    have G := Lib.hid (fun W => addresses51 none 0 0 0 none 0 W (by omega) (by omega))
    rw [T]
    clear T e h h1 h2 hE
    unfold zObj objV at F
    unfold fv at G
    rw [show upL 0 0 = [] from rfl, show ((0 : Nat) : Int) = 0 from rfl] at G
    go_enter Try.func44, Try.ntmps44
    go_wp2_with (first
      | (go_at_call 64; refine F.out.mono ?_; rintro e w1 ⟨rfl, hb1⟩)
      | (go_at_call 65; refine (G.out _).mono ?_; rintro e w2 ⟨u, rfl, ho, hb2⟩))
    exact bodyPost_ret (v := .tuple #[u, .int .i64 E]) (by simp [results, Try.f44, go_sem]) rfl ⟨u, rfl, own_mono ho (hb1.alloc hb1.size _).size, below_end (hb1.alloc hb1.size _) hb2⟩
  · have T : sltF ws k = (upL (k + 1) P, 0) := by unfold sltF; rw [ho.is, if_pos rfl]; simp only [Int.toNat_natCast]
    have F := Lib.hid (find48_ok A ws cap k P R w h1 h2 h.ui ho)
    have hl := ho.len
    have hf := ho.fit
    have G := Lib.hid (fun W x => addresses51 A ws.length cap (k + 1) x P W (by omega) (by omega))
    rw [show ((k + 1 : Nat) : Int) = (k : Int) + 1 by omega] at G
    rw [T]
    clear T h h1 h2 ho hl hf
    have UL := Lib.hid (upL_length (k + 1) P)
    generalize upL (k + 1) P = up at *
    unfold objV at F
    unfold fv at G
    go_enter Try.func44, Try.ntmps44
    go_wp2_with (first
      | (go_at_call 64; refine F.out.mono ?_; rintro e w1 ⟨a1, a2, rfl, x1, x2, hb1⟩; clear x1 x2)
      | (go_at_call 65; refine (G.out _ _).mono ?_; rintro e w2 ⟨u, rfl, ho, hb2⟩))
    rw [← UL.out] at ho
    exact bodyPost_ret (v := .tuple #[u, .int .i64 0]) (by simp [results, Try.f44, go_sem]) rfl ⟨u, rfl, own_mono ho (hb1.alloc hb1.size _).size, below_end (hb1.alloc hb1.size _) hb2⟩
end Yteeghjhkfaeflaa
end Go.Proofs
/- An arena among the arguments: opened, and read again behind the call. -/
namespace Go.Proofs
namespace Yteeghjhkfaeflaa
open Go.ChangeShapes Go.WideShapes Go.RowKit Go.Deep
set_option maxRecDepth 100000

section
variable {H : Type} {enc : TypeId × Value → H}
theorem open_arena {w : World} {r : Reach} {b0 : Nat} {v : Value} {d : DataW H} {p : List MemPlace} (hv : Value.okWide Try.prog w r b0 22 v) (h : DataW.Trod enc Try.prog w 0 (fun _ => true) true 22 v d p) :
    ∃ zs : List Int, Ar w v zs ∧ ∀ W : World, Below w.heap.size w W → ∀ sp : Nat → Bool, (∀ q ∈ p, sp q.block = true) → DataW.Trod enc Try.prog W 0 sp true 22 v d p := by
  obtain ⟨zs, h1, ⟨h2, h3⟩, h4, h5⟩ := open_words hv h
  exact ⟨zs, ⟨h1, h4, fun z hz => Hd.wf_u64 (h3 z hz), by unfold maxLen at h2; omega⟩, h5⟩
end
end Yteeghjhkfaeflaa
end Go.Proofs
/- The last step of a row whose call leaves the old blocks as they were. -/
namespace Go.Proofs
namespace Yteeghjhkfaeflaa
open Go.RowKit Go.WideShapes Go.ChangeShapes
theorem row_end {H : Type} {enc : TypeId × Value → H} {P : Program} {f : Func} {s : ChangeSpec} {apart fresh handsOn again : Bool} {W W' : World} {args : Array Value} {v : Value} {ds gs : List (DataW H)} {old pa pv : List MemPlace}
    (hW : DataW.Whole enc P f.params.toList s.vars apart W args.toList ds gs old) (hb : Below W.heap.size W W') (hps : old = pa ++ pv)
    (hres : ∀ (b : Nat) (sp : Nat → Bool) (hd : Bool), DataW.TrodAll enc P W' b sp hd f.resultTypes.toList (v.resultList f.resultTypes.size) (s.fn H (ds ++ gs)).results [])
    (hargs : ∀ sp : Nat → Bool, (∀ p ∈ old, sp p.block = true) → DataW.TrodAll enc P W' 0 sp true f.params.toList args.toList (s.fn H (ds ++ gs)).args pa)
    (hvars : ∀ sp : Nat → Bool, (∀ p ∈ old, sp p.block = true) → DataW.TrodVars enc P W' sp s.vars (s.fn H (ds ++ gs)).vars pv)
    (hok : ∀ (j : Nat) (t : TypeId) (r : Value), f.resultTypes[j]? = some t → (v.resultList f.resultTypes.size)[j]? = some r → Value.okWide P W' .any 0 t r) :
    s.post enc P f apart fresh handsOn again W args v W' := by
  have hlt : ∀ p ∈ old, p.block < W.heap.size := fun p hp => hW.lt p hp
  have hin : ∀ p ∈ old, (fun b => decide (b < W.heap.size)) p.block = true := fun p hp => by simpa using hlt p hp
  refine ⟨ds, gs, old, [], pa, pv, hW, hres _ _ _, hargs _ hin, hvars _ hin, World.keptBut_mono (fun p hp => ⟨hp, Or.inr (List.mem_append.1 (hps ▸ hp))⟩) (hb.frame (· ∈ old)), fun _ => ?_⟩
  obtain ⟨_, _, _, _, _, hz, hn⟩ := hW
  have hall := trodAll_append (hargs (fun _ => true) (fun _ _ => rfl)) (hres 0 (fun _ => true) true)
  refine ⟨hok, _, _, old, ⟨[] ++ pa, pv, hall, hvars _ (fun _ _ => rfl), hps, fun b off hp => ?_, fun ha => hn ha⟩, fun p hp _ => hp⟩
  rw [hb.frozen (hlt _ hp)]
  exact hz b off hp
end Yteeghjhkfaeflaa
end Go.Proofs
/- cmp.Or of any two errors, Differ and the reference's Differ on any two arenas. -/
namespace Go.Proofs
namespace Yteeghjhkfaeflaa
open Go.RowKit

/-- what a call that answers a row of integers of its own and an error gives -/
def DAns (W : World) (r : List Int × Int) (e : Ending) (w' : World) : Prop :=
  ∃ v, e = .returned (.tuple #[v, .int .i64 r.2]) ∧ w'.ownsRow W.heap.size 3 1 v r.1.length (ic r.1) ∧ Below W.heap.size W w'
theorem differ_chk1 {xs ys : List Int} (h : chkF xs ≠ 0) : differF xs ys = ([], chkF xs) := by unfold differF; rw [if_pos h]
theorem differ_chk2 {xs ys : List Int} (h : chkF xs = 0) (h2 : chkF ys ≠ 0) : differF xs ys = ([], chkF ys) := by unfold differF; rw [if_neg (by simp [h]), if_pos h2]
theorem differ_form {xs ys : List Int} (h : chkF xs = 0) (h2 : chkF ys = 0) (h3 : xs.length ≠ ys.length) : differF xs ys = ([], 6) := by unfold differF; rw [if_neg (by simp [h]), if_neg (by simp [h2]), if_pos h3]
theorem differ_good {xs ys : List Int} (h : chkF xs = 0) (h2 : chkF ys = 0) (h3 : xs.length = ys.length) : differF xs ys = (diffs 0 xs ys, 0) := by unfold differF; rw [if_neg (by simp [h]), if_neg (by simp [h2]), if_neg (by simp [h3])]

set_option maxRecDepth 100000 in
theorem or40_any (g : Nat) (x y : Int) (w : World) (h : w.heap[g]? = some (.cells #[.int .i64 x, .int .i64 y] 26 (0, 0))) :
    Calls Try.prog 61 #[.slice (some ⟨g, 0, none⟩) 2 2] w fun e w' => e = .returned (.int .i64 (if x = 0 then y else x)) ∧ w = w' := by
  have d0 := cell_of_row _ _ 0 _ _ _ h
  have d1 := cell_of_row _ _ 1 _ _ _ h
  simp only [List.getElem?_toArray, List.getElem?_cons_zero, List.getElem?_cons_succ] at d0 d1
  clear h
  by_cases hx : x = 0
  · subst hx
    rw [if_pos rfl]
    by_cases hy : y = 0
    · subst hy
      go_enter Try.func61, Try.ntmps61
      go_wp2
      go_loopw [8] (fun i wr => ∃ j : Nat, j ≤ 2 ∧ i = .int .i64 j ∧ Hid (w = wr)) (fun i _ => 2 - (intOf i).toNat)
      case atStart => exact ⟨0, by omega, rfl, Lib.hid rfl⟩
      case round =>
        obtain ⟨j, hj, rfl, hw⟩ := hrel
        obtain rfl := hw.out
        rcases (by omega : j = 0 ∨ j = 1 ∨ j = 2) with rfl | rfl | rfl
        · go_wp2
          refine ⟨⟨1, by omega, rfl, Lib.hid trivial⟩, ?_⟩
          decide
        · go_wp2
          refine ⟨⟨2, by omega, rfl, Lib.hid trivial⟩, ?_⟩
          decide
        · go_wp2
          go_ret
          exact ⟨rfl, rfl⟩
    · have q : (y != 0) = true := by simpa using hy
      clear hy
      go_enter Try.func61, Try.ntmps61
      go_wp2
      go_loopw [8] (fun i wr => ∃ j : Nat, j ≤ 1 ∧ i = .int .i64 j ∧ Hid (w = wr)) (fun i _ => 2 - (intOf i).toNat)
      case atStart => exact ⟨0, by omega, rfl, Lib.hid rfl⟩
      case round =>
        obtain ⟨j, hj, rfl, hw⟩ := hrel
        obtain rfl := hw.out
        rcases (by omega : j = 0 ∨ j = 1) with rfl | rfl
        · go_wp2
          refine ⟨⟨1, by omega, rfl, Lib.hid trivial⟩, ?_⟩
          decide
        · go_wp2
          go_ret
          exact ⟨rfl, rfl⟩
  · have q : (x != 0) = true := by simpa using hx
    rw [if_neg hx]
    clear hx
    go_enter Try.func61, Try.ntmps61
    go_wp2
    go_loopw [8] (fun i wr => i = .int .i64 0 ∧ Hid (w = wr)) (fun i _ => 2 - (intOf i).toNat)
    case atStart => exact ⟨rfl, Lib.hid rfl⟩
    case round =>
      obtain ⟨rfl, hw⟩ := hrel
      obtain rfl := hw.out
      go_wp2
      go_ret
      exact ⟨rfl, rfl⟩

end Yteeghjhkfaeflaa
end Go.Proofs
