/- Arenas: what the document's operations do, as plain functions on lists of numbers. -/
import Derived.Test.YteeghjhkfaeflaaProg
import Derived.WalkKit
import Derived.OwnWalk
import Derived.BigQuiet
import Derived.Deep.QuietTactic
import Derived.Lib.Hide
import Derived.Laws.OwnMore
import Derived.Laws.Rows
import Derived.Deep.AppendLies
import Derived.Deep.RegionHeld3
import Derived.MapKept
namespace Go.Proofs
namespace Yteeghjhkfaeflaa
open Go.RowKit

/-- an operation: its kind, two addresses, a number of words, a value -/
structure AOp where
  kind : Int
  src : Int
  dst : Int
  n : Int
  val : Int
/-- n words at an address are a part of an arena of len words -/
def partB (len : Nat) (a n : Int) : Bool := decide (1 ≤ a) && (decide (a ≤ len) && (decide (0 ≤ n) && decide (n ≤ len - a)))
def chkF (ws : List Int) : Int := if ws.length < 1 ∨ 1601 < ws.length then 3 else if ws.headD 0 = 0 then 0 else 6
def copyL (ws : List Int) (a b n : Nat) : List Int := ws.take b ++ (ws.drop a).take n ++ ws.drop (b + n)
def zeroL (ws : List Int) (a n : Nat) : List Int := ws.take a ++ List.replicate n 0 ++ ws.drop (a + n)
/-- the words, what has been read, and the two counts -/
structure ASt where
  ws : List Int
  got : List Int
  r : Int
  w : Int
def stepF (s : ASt) (o : AOp) : Int × ASt :=
  if o.kind = 1 then (if partB s.ws.length o.src 1 = true then (0, { s with got := s.got ++ [s.ws.getD o.src.toNat 0], r := s.r + 1 }) else (7, s))
  else if o.kind = 2 then (if partB s.ws.length o.src 1 = true then (0, { s with ws := s.ws.set o.src.toNat o.val, w := s.w + 1 }) else (7, s))
  else if o.kind = 3 then (if partB s.ws.length o.src o.n = true ∧ partB s.ws.length o.dst o.n = true then (0, { s with ws := copyL s.ws o.src.toNat o.dst.toNat o.n.toNat, r := s.r + o.n, w := s.w + o.n }) else (7, s))
  else if o.kind = 4 then (if partB s.ws.length o.src o.n = true then (0, { s with ws := zeroL s.ws o.src.toNat o.n.toNat, w := s.w + o.n }) else (7, s))
  else (2, s)
/-- what Play answers: words, what was read, the two counts, the index, the error -/
structure AAns where
  ws : List Int
  got : List Int
  r : Int
  w : Int
  at_ : Int
  e : Int
def AAns.err (i e : Int) : AAns := ⟨[], [], 0, 0, i, e⟩
def goF : Nat → ASt → List AOp → AAns
  | _, s, [] => ⟨s.ws, s.got, s.r, s.w, 0, 0⟩
  | i, s, o :: r => if (stepF s o).1 = 0 then goF (i + 1) (stepF s o).2 r else AAns.err i (stepF s o).1
def playF (ws : List Int) (ops : List AOp) : AAns :=
  if chkF ws ≠ 0 then AAns.err 0 (chkF ws) else if 500 < ops.length then AAns.err (-1) 3 else goF 0 ⟨ws, [], 0, 0⟩ ops

theorem partB_spec {len : Nat} {a n : Int} : partB len a n = true ↔ 1 ≤ a ∧ a ≤ len ∧ 0 ≤ n ∧ n ≤ len - a := by
  simp [partB]
theorem copyL_length {ws : List Int} {a b n : Nat} (h : a + n ≤ ws.length) (h2 : b + n ≤ ws.length) : (copyL ws a b n).length = ws.length := by
  simp only [copyL, List.length_append, List.length_take, List.length_drop]; omega
theorem zeroL_length {ws : List Int} {a n : Nat} (h : a + n ≤ ws.length) : (zeroL ws a n).length = ws.length := by
  simp only [zeroL, List.length_append, List.length_take, List.length_drop, List.length_replicate]; omega
theorem step_length (s : ASt) (o : AOp) : (stepF s o).2.ws.length = s.ws.length := by
  unfold stepF
  split
  · split <;> rfl
  · split
    · split
      · simp
      · rfl
    · split
      · split
        · rename_i h
          obtain ⟨⟨h1, h2, h3, h4⟩, h5, h6, h7, h8⟩ := And.intro (partB_spec.1 h.1) (partB_spec.1 h.2)
          exact copyL_length (by omega) (by omega)
        · rfl
      · split
        · split
          · rename_i h
            obtain ⟨h1, h2, h3, h4⟩ := partB_spec.1 h
            exact zeroL_length (by omega)
          · rfl
        · rfl
/-- the counts stay small -/
theorem step_counts (s : ASt) (o : AOp) (h : s.ws.length ≤ 1601) : s.r ≤ (stepF s o).2.r ∧ (stepF s o).2.r ≤ s.r + 1601 ∧ s.w ≤ (stepF s o).2.w ∧ (stepF s o).2.w ≤ s.w + 1601 ∧ (stepF s o).2.got.length ≤ s.got.length + 1 := by
  unfold stepF
  split
  · split
    · simp; omega
    · simp; omega
  · split
    · split
      · simp; omega
      · simp; omega
    · split
      · split
        · rename_i h1
          obtain ⟨a1, a2, a3, a4⟩ := partB_spec.1 h1.1
          simp; omega
        · simp; omega
      · split
        · split
          · rename_i h1
            obtain ⟨a1, a2, a3, a4⟩ := partB_spec.1 h1
            simp; omega
          · simp; omega
        · simp; omega
/-- one more word copied -/
theorem copyL_zero (ws : List Int) (a b : Nat) : copyL ws a b 0 = ws := by simp [copyL]
theorem copyL_step {ws : List Int} {a b i : Nat} (h : a + i < ws.length) (h2 : b + i < ws.length) : (copyL ws a b i).set (b + i) (ws.getD (a + i) 0) = copyL ws a b (i + 1) := by
  apply List.ext_getElem?
  intro j
  simp only [copyL, List.getElem?_set, List.getElem?_append, List.length_append, List.length_take, List.length_drop, List.getElem?_take, List.getElem?_drop, List.getD_eq_getElem?_getD]
  have e1 : min b ws.length = b := by omega
  have e2 : min i (ws.length - a) = i := by omega
  have e3 : min (i + 1) (ws.length - a) = i + 1 := by omega
  rw [e1, e2, e3]
  by_cases hj : b + i = j
  · subst hj
    rw [if_pos rfl, if_pos (by omega), if_pos (by omega), if_neg (by omega), if_pos (by omega)]
    rw [show a + (b + i - b) = a + i by omega, List.getElem?_eq_getElem h]
    rfl
  · rw [if_neg hj]
    by_cases h3 : j < b
    · rw [if_pos (by omega), if_pos h3, if_pos (by omega), if_pos (by omega), if_pos h3]
    · by_cases h4 : j < b + i
      · rw [if_pos h4, if_neg h3, if_pos (by omega), if_neg h3, if_pos (by omega), if_pos (by omega)]
      · rw [if_neg h4, if_neg (by omega)]
        congr 1
        omega
theorem zeroL_zero (ws : List Int) (a : Nat) : zeroL ws a 0 = ws := by simp [zeroL]
theorem zeroL_step {ws : List Int} {a i : Nat} (h : a + i < ws.length) : (zeroL ws a i).set (a + i) 0 = zeroL ws a (i + 1) := by
  apply List.ext_getElem?
  intro j
  simp only [zeroL, List.getElem?_set, List.getElem?_append, List.length_append, List.length_take, List.length_drop, List.getElem?_take, List.getElem?_drop, List.length_replicate, List.getElem?_replicate]
  have e1 : min a ws.length = a := by omega
  rw [e1]
  by_cases hj : a + i = j
  · subst hj
    rw [if_pos rfl, if_pos (by omega), if_pos (by omega), if_neg (by omega), if_pos (by omega)]
  · rw [if_neg hj]
    by_cases h3 : j < a
    · rw [if_pos (by omega), if_pos h3, if_pos (by omega), if_pos (by omega), if_pos h3]
    · by_cases h4 : j < a + i
      · rw [if_pos h4, if_neg h3, if_pos (by omega), if_neg h3, if_pos (by omega), if_pos (by omega)]
      · rw [if_neg h4, if_neg (by omega)]
        congr 1
        omega
/-- whether the words from an address up to another one are 0, or the error -/
def zeroF (ws : List Int) (a b : Int) : Bool × Int :=
  if chkF ws ≠ 0 then (false, chkF ws) else if partB ws.length a (b - a) = true then (((ws.take b.toNat).drop a.toNat).all (fun z => decide (z = 0)), 0) else (false, 7)
/-- the addresses from k on where two lists differ -/
def diffs : Nat → List Int → List Int → List Int
  | k, x :: xs, y :: ys => if x = y then diffs (k + 1) xs ys else (k : Int) :: diffs (k + 1) xs ys
  | _, _, _ => []
def differF (vs ws : List Int) : List Int × Int :=
  if chkF vs ≠ 0 then ([], chkF vs) else if chkF ws ≠ 0 then ([], chkF ws) else if vs.length ≠ ws.length then ([], 6) else (diffs 0 vs ws, 0)
/-- one word, or the error -/
def getF (ws : List Int) (a : Int) : Int × Int :=
  if chkF ws ≠ 0 then (0, chkF ws) else if partB ws.length a 1 = true then (ws.getD a.toNat 0, 0) else (0, 7)
/-- the arena after one operation, or the error -/
def afterF (ws : List Int) (o : AOp) : List Int × Int := ((playF ws [o]).ws, (playF ws [o]).e)
end Yteeghjhkfaeflaa
end Go.Proofs
/- Lists of words in memory, and the smallest functions of the arena: Check and isPart. -/
namespace Go.Proofs
namespace Yteeghjhkfaeflaa
open Go.RowKit

theorem below_end {w W W' : World} (hB : Below w.heap.size w W) (h : Below W.heap.size W W') : Below w.heap.size w W' := hB.trans (h.mono hB.size)
theorem grown_of_below {a w : World} (h : Below a.heap.size a w) (row : Option Nat) : a.grownBy w row := ⟨h.os, h.tape, h.output, h.size, fun i hi _ => h.block i hi⟩
theorem own_below {w w' : World} {base size n : Nat} {e : TypeId} {v : Value} {xs : List Value} (h : w.ownsRow base e size v n xs) (hb : Below w.heap.size w w') : w'.ownsRow base e size v n xs :=
  h.kept (grown_of_below hb none) (by cases v.ownBlock <;> simp)
theorem grown_set (W : World) (fb i : Nat) (v : Value) : W.grownBy (W.setCell ⟨fb, i, none⟩ v) (some fb) :=
  ⟨rfl, rfl, rfl, by simp [World.setCell], fun k _ hk => Below.heap_setCell W ⟨fb, i, none⟩ v k (fun e => hk (by rw [e]))⟩
theorem size_set (W : World) (a : Addr) (v : Value) : (W.setCell a v).heap.size = W.heap.size := by simp [World.setCell]
theorem below_drewN {B : Nat} {a w : World} (h : Below B a w) (n : Nat) : Below B a (w.drewN n) := ⟨h.os, h.tape, h.output, h.size, h.block⟩
theorem cell_lt {W : World} {p : Addr} {u : Value} (h : W.cell? p = some u) : p.block < W.heap.size := by
  unfold World.cell? at h
  apply Classical.byContradiction
  intro hn
  have : W.heap[p.block]? = none := by simp; omega
  rw [this] at h
  simp at h

/-- the cells of a list of words -/
def wc (zs : List Int) : List Value := zs.map (Value.int .u64)
theorem wc_length (zs : List Int) : (wc zs).length = zs.length := by simp [wc]
theorem wc_append (xs ys : List Int) : wc (xs ++ ys) = wc xs ++ wc ys := by simp [wc]
theorem wc_get (zs : List Int) (k : Nat) (h : k < zs.length) : (wc zs)[k]? = some (.int .u64 (zs.getD k 0)) := by
  simp [wc, List.getD_eq_getElem?_getD, List.getElem?_eq_getElem h]
/-- v is a slice whose cells are the words zs -/
def WAt (W : World) (v : Value) (zs : List Int) : Prop := ∃ A cap, v = .slice A zs.length cap ∧ (0 < zs.length → ∃ b off, A = some ⟨b, off, none⟩ ∧ ∀ j u, (wc zs)[j]? = some u → W.cell? ⟨b, off + j, none⟩ = some u)
theorem WAt.nil (W : World) : WAt W (.slice none 0 0) [] := ⟨none, 0, rfl, fun h => by simp at h⟩
theorem WAt.of_own {W : World} {base : Nat} {v : Value} {zs : List Int} (h : W.ownsRow base 58 1 v zs.length (wc zs)) : WAt W v zs := by
  rcases h.2 with ⟨rfl, h0⟩ | ⟨gg, cap, cur, rfl, _⟩
  · exact ⟨none, 0, by rw [h0], fun h => by omega⟩
  · refine ⟨_, cap, rfl, fun _ => ⟨gg, 0, rfl, fun j u hu => ?_⟩⟩
    have := h.cells (g := gg) rfl j u hu
    rw [Nat.zero_add]
    have e : (⟨gg, 0, none⟩ : Addr).add j = ⟨gg, j, none⟩ := by unfold Addr.add; split <;> simp_all
    rwa [e] at this
theorem WAt.below {W W' : World} {v : Value} {zs : List Int} (h : WAt W v zs) (hb : Below W.heap.size W W') : WAt W' v zs := by
  obtain ⟨A, cap, rfl, h⟩ := h
  exact ⟨A, cap, rfl, fun h0 => let ⟨b, off, hA, hc⟩ := h h0; ⟨b, off, hA, fun j u hu => (hb.cell (cell_lt (hc j u hu))).trans (hc j u hu)⟩⟩
theorem WAt.row {W : World} {g : Nat} {zs : List Int} {cap : Nat} (h : W.heap[g]? = some (.cells (wc zs).toArray 58 (0, 0))) : WAt W (.slice (some ⟨g, 0, none⟩) zs.length cap) zs := by
  refine ⟨_, cap, rfl, fun _ => ⟨g, 0, rfl, fun j u hu => ?_⟩⟩
  rw [cell_of_row _ _ _ _ _ _ h, Nat.zero_add]
  simpa using hu
theorem info25 : (Try.prog.info? 58).map (fun i => (i.zero, i.size, i.bytes)) = some (some (.int .u64 0), 1, 8) := by kernel_rfl

theorem chk_long {zs : List Int} (h : zs.length < 1 ∨ 1601 < zs.length) : chkF zs = 3 := by unfold chkF; rw [if_pos h]
theorem chk_cases {zs : List Int} (h : ¬ (zs.length < 1 ∨ 1601 < zs.length)) : chkF zs = if zs.getD 0 0 = 0 then 0 else 6 := by
  unfold chkF
  rw [if_neg h]
  cases zs with
  | nil => simp at h
  | cons z r => rfl

set_option maxRecDepth 100000 in
theorem check41 (v : Value) (zs : List Int) (w : World) (h : WAt w v zs) (hm : zs.length ≤ 9223372036854775807) :
    Calls Try.prog 69 #[v] w fun e w' => e = .returned (.int .i64 (chkF zs)) ∧ w = w' := by
  obtain ⟨A, cap, rfl, hA⟩ := h
  have HA := Lib.hid hA
  clear hA
  by_cases h0 : zs.length < 1
  · have q : decide ((zs.length : Int) < 1) = true := decide_eq_true (by omega)
    have T := Lib.hid (chk_long (zs := zs) (.inl h0))
    go_enter Try.func69, Try.ntmps69
    go_wp2
    go_ret
    exact ⟨by rw [T.out]; rfl, rfl⟩
  · have q : decide ((zs.length : Int) < 1) = false := decide_eq_false (by omega)
    by_cases h1 : 1601 < zs.length
    · have q1 : decide ((1601 : Int) < (zs.length : Int)) = true := decide_eq_true (by omega)
      have T := Lib.hid (chk_long (zs := zs) (.inr h1))
      go_enter Try.func69, Try.ntmps69
      go_wp2
      go_ret
      exact ⟨by rw [T.out]; rfl, rfl⟩
    · have q1 : decide ((1601 : Int) < (zs.length : Int)) = false := decide_eq_false (by omega)
      obtain ⟨b, off, rfl, hc⟩ := HA.out (by omega)
      have d := hc 0 _ (wc_get zs 0 (by omega))
      rw [Nat.add_zero] at d
      have T := Lib.hid (chk_cases (zs := zs) (by omega))
      have q2 : (0 : Int) < (zs.length : Int) := by omega
      clear hc HA
      generalize zs.getD 0 0 = z at *
      by_cases hz : z = 0
      · subst hz
        go_enter Try.func69, Try.ntmps69
        go_wp2
        go_ret
        exact ⟨by rw [T.out]; rfl, rfl⟩
      · have q3 : (z != 0) = true := by simpa using hz
        have q4 : (z == 0) = false := by simpa using hz
        have T2 := Lib.hid (show chkF zs = 6 by rw [T.out, if_neg hz])
        go_enter Try.func69, Try.ntmps69
        go_wp2
        go_ret
        exact ⟨by rw [T2.out]; rfl, rfl⟩
end Yteeghjhkfaeflaa
end Go.Proofs
/- isPart, Get, Same and Ints. -/
namespace Go.Proofs
namespace Yteeghjhkfaeflaa
open Go.RowKit

set_option maxRecDepth 100000 in
theorem part74 (A : Option Addr) (len cap : Nat) (a n : Int) (w : World) (hm : len ≤ 1000000000) :
    Calls Try.prog 86 #[.slice A len cap, .int .i64 a, .int .i64 n] w fun e w' => e = .returned (.bool (partB len a n)) ∧ w = w' := by
  by_cases h1 : 1 ≤ a
  rotate_left
  · have q1 : decide (1 ≤ a) = false := decide_eq_false h1
    have T := Lib.hid (show partB len a n = false by unfold partB; rw [q1]; rfl)
    go_enter Try.func86, Try.ntmps86
    go_wp2
    go_ret
    exact ⟨by rw [T.out]; rfl, rfl⟩
  have q1 : decide (1 ≤ a) = true := decide_eq_true h1
  by_cases h2 : a ≤ (len : Int)
  rotate_left
  · have q2 : decide (a ≤ (len : Int)) = false := decide_eq_false h2
    have T := Lib.hid (show partB len a n = false by unfold partB; rw [q1, q2]; rfl)
    go_enter Try.func86, Try.ntmps86
    go_wp2
    go_ret
    exact ⟨by rw [T.out]; rfl, rfl⟩
  have q2 : decide (a ≤ (len : Int)) = true := decide_eq_true h2
  by_cases h3 : 0 ≤ n
  rotate_left
  · have q3 : decide (0 ≤ n) = false := decide_eq_false h3
    have T := Lib.hid (show partB len a n = false by unfold partB; rw [q1, q2, q3]; rfl)
    go_enter Try.func86, Try.ntmps86
    go_wp2
    go_ret
    exact ⟨by rw [T.out]; rfl, rfl⟩
  have q3 : decide (0 ≤ n) = true := decide_eq_true h3
  have T := Lib.hid (show partB len a n = decide (n ≤ (len : Int) - a) by unfold partB; rw [q1, q2, q3]; rfl)
  go_enter Try.func86, Try.ntmps86
  go_wp2
  go_ret
  exact ⟨by rw [T.out]; rfl, rfl⟩

set_option maxRecDepth 100000 in
theorem get62 (v : Value) (zs : List Int) (a : Int) (w : World) (h : WAt w v zs) (hm : zs.length ≤ 9223372036854775807) :
    Calls Try.prog 79 #[v, .int .i64 a] w fun e w' => e = .returned (.tuple #[.int .u64 (getF zs a).1, .int .i64 (getF zs a).2]) ∧ w = w' := by
  have C14 := Lib.hid (check41 v zs w h hm)
  obtain ⟨A, cap, rfl, hA⟩ := h
  have HA := Lib.hid hA
  clear hA
  by_cases hc : chkF zs = 0
  rotate_left
  · have q : (chkF zs != 0) = true := by simpa using hc
    have T := Lib.hid (show getF zs a = (0, chkF zs) by unfold getF; rw [if_pos hc])
    clear hc
    generalize chkF zs = c at *
    go_enter Try.func79, Try.ntmps79
    go_wp2_with (go_at_call 69; refine C14.out.mono ?_; rintro e w' ⟨rfl, rfl⟩)
    exact bodyPost_ret (v := .tuple #[.int .u64 0, .int .i64 c]) (by simp [results, Try.f79, go_sem]) rfl ⟨by rw [T.out], rfl⟩
  · have hl : 1 ≤ zs.length ∧ zs.length ≤ 1601 := by
      apply Classical.byContradiction
      intro hn
      rw [chk_long (by omega)] at hc
      cases hc
    rw [hc] at C14
    have P36 := Lib.hid (part74 A zs.length cap a 1 w (by omega))
    have H0 := Lib.hid hc
    clear hc
    cases hp : partB zs.length a 1 with
    | false =>
      rw [hp] at P36
      have T := Lib.hid (show getF zs a = (0, 7) by unfold getF; rw [if_neg (by simp [H0.out]), hp]; rfl)
      clear hp
      go_enter Try.func79, Try.ntmps79
      go_wp2_with (first
        | (go_at_call 69; refine C14.out.mono ?_; rintro e w' ⟨rfl, rfl⟩)
        | (go_at_call 86; refine P36.out.mono ?_; rintro e w' ⟨rfl, rfl⟩))
      exact bodyPost_ret (v := .tuple #[.int .u64 0, .int .i64 7]) (by simp [results, Try.f79, go_sem]) rfl ⟨by rw [T.out], rfl⟩
    | true =>
      rw [hp] at P36
      obtain ⟨p1, p2, p3, p4⟩ := partB_spec.1 hp
      obtain ⟨k, rfl⟩ : ∃ k : Nat, a = (k : Int) := ⟨a.toNat, by omega⟩
      have hk : (k : Int) < (zs.length : Int) := by omega
      have T := Lib.hid (show getF zs k = (zs.getD k 0, 0) by unfold getF; rw [if_neg (by simp [H0.out]), if_pos hp]; rfl)
      obtain ⟨b, off, rfl, hc⟩ := HA.out (by omega)
      have d := hc k _ (wc_get zs k (by omega))
      clear hp hc HA
      generalize zs.getD k 0 = z at *
      go_enter Try.func79, Try.ntmps79
      go_wp2_with (first
        | (go_at_call 69; refine C14.out.mono ?_; rintro e w' ⟨rfl, rfl⟩)
        | (go_at_call 86; refine P36.out.mono ?_; rintro e w' ⟨rfl, rfl⟩))
      exact bodyPost_ret (v := .tuple #[.int .u64 z, .int .i64 0]) (by simp [results, Try.f79, go_sem]) rfl ⟨by rw [T.out], rfl⟩
end Yteeghjhkfaeflaa
end Go.Proofs
/- The map of a player's methods. -/
namespace Go.Proofs
namespace Yteeghjhkfaeflaa
open Go.RowKit Go.MapKept

theorem upd68 {W : World} {b : Nat} {es : Array MapEntry} {c : Nat} (hb : W.heap[b]? = some (.map es c)) (k : Int) (v : Value) (hn : Instr.findNow (.int .i64) (.int .i64 k) es.toList 0 = some none) :
    ∃ W', (Instr.mapUpdate 123 (.map (some b)) (.int .i64 k) v).run Try.prog W = .ok () W' ∧ W'.heap[b]? = some (.map (es.push ⟨.int .i64 k, v, c⟩) (c + 1)) ∧ W.grownBy W' (some b) := by
  have hk : IsKey (.int .i64) (.int .i64 k) := by simp [IsKey]
  refine ⟨{ W with heap := W.heap.setIfInBounds b (.map (es.push ⟨.int .i64 k, v, c⟩) (c + 1)) }, ?_, (heap_set hb).1, rfl, rfl, rfl, by simp, fun i _ hi => (heap_set hb).2 i (fun e => hi (by rw [e]))⟩
  simp [Instr.mapUpdate, run_underlying Try.underlying123, Go.MapKept.run_getObj_map hb, run_checkKey Try.underlying3 hk, run_findKey Try.underlying3 hn, run_setObj_map _ hb, Result.andThen]
/-- the methods of the player at p, by their kinds -/
def mth (p : Addr) : Array MapEntry := #[⟨.int .i64 1, .func (.func 91) #[.pointer (some p)] #[], 0⟩, ⟨.int .i64 2, .func (.func 92) #[.pointer (some p)] #[], 1⟩, ⟨.int .i64 3, .func (.func 93) #[.pointer (some p)] #[], 2⟩, ⟨.int .i64 4, .func (.func 94) #[.pointer (some p)] #[], 3⟩]

theorem look68 {W : World} {b : Nat} {es : Array MapEntry} {c : Nat} (hb : W.heap[b]? = some (.map es c)) (k : Int) (r : Option (Nat × Value)) (hn : Instr.findNow (.int .i64) (.int .i64 k) es.toList 0 = some r) :
    (Instr.lookup 123 (.map (some b)) (.int .i64 k) true).run Try.prog W = .ok (.tuple #[match r with | some (_, v) => v | none => .nilFunc, .bool r.isSome]) W := by
  have hk : IsKey (.int .i64) (.int .i64 k) := by simp [IsKey]
  have hz : (zeroValue 125).run Try.prog W = .ok .nilFunc W := by kernel_rfl
  cases r with
  | none => simp [Instr.lookup, run_underlying Try.underlying123, Go.MapKept.run_getObj_map hb, run_checkKey Try.underlying3 hk, run_findKey Try.underlying3 hn, Result.andThen, hz]
  | some p => simp [Instr.lookup, run_underlying Try.underlying123, Go.MapKept.run_getObj_map hb, run_checkKey Try.underlying3 hk, run_findKey Try.underlying3 hn, Result.andThen]

set_option maxRecDepth 100000 in
theorem kinds60 (p : Addr) (w : World) :
    Calls Try.prog 85 #[.pointer (some p)] w fun e w' => e = .returned (.map (some w.heap.size)) ∧ Below w.heap.size w w' ∧ w.heap.size < w'.heap.size ∧ ∃ c, w'.heap[w.heap.size]? = some (.map (mth p) c) := by
  have hmm := @run_makeMap Try.prog
  obtain ⟨W1, u1, h1, g1⟩ := upd68 (heap_alloc_new w (.map #[] 0)) 1 (.func (.func 91) #[.pointer (some p)] #[]) rfl
  obtain ⟨W2, u2, h2, g2⟩ := upd68 h1 2 (.func (.func 92) #[.pointer (some p)] #[]) rfl
  obtain ⟨W3, u3, h3, g3⟩ := upd68 h2 3 (.func (.func 93) #[.pointer (some p)] #[]) rfl
  obtain ⟨W4, u4, h4, g4⟩ := upd68 h3 4 (.func (.func 94) #[.pointer (some p)] #[]) rfl
  have hB : Below w.heap.size w W4 := by
    have b0 : Below w.heap.size w (w.alloc (.map #[] 0)) := (Below.refl _ _).alloc (Nat.le_refl _) _
    have b1 := b0.grown g1 b0.size (fun k hk => by cases hk; exact Nat.le_refl _)
    have b2 := b1.grown g2 b1.size (fun k hk => by cases hk; exact Nat.le_refl _)
    have b3 := b2.grown g3 b2.size (fun k hk => by cases hk; exact Nat.le_refl _)
    exact b3.grown g4 b3.size (fun k hk => by cases hk; exact Nat.le_refl _)
  have H4 := Lib.hid h4
  have HB := Lib.hid hB
  clear h1 h2 h3 h4 g1 g2 g3 g4 hB
  go_enter Try.func85, Try.ntmps85
  go_wp2
  go_ret
  exact ⟨rfl, HB.out, (Array.getElem?_eq_some_iff.1 H4.out).1, _, H4.out⟩
end Yteeghjhkfaeflaa
end Go.Proofs
