/- Lists of words in memory, and the smallest functions of the arena: Check and isPart. -/
import Derived.Test.YtmgoonahpndfoaaArP
import Derived.Laws.OwnMore
import Derived.Laws.Rows
import Derived.Deep.AppendLies
import Derived.Deep.RegionHeld3
namespace Go.Proofs
namespace Ytmgoonahpndfoaa
open Go.RowKit

theorem below_end {w W W' : World} (hB : Below w.heap.size w W) (h : Below W.heap.size W W') : Below w.heap.size w W' := hB.trans (h.mono hB.size)
theorem grown_of_below {a w : World} (h : Below a.heap.size a w) (row : Option Nat) : a.grownBy w row := ⟨h.os, h.tape, h.output, h.size, fun i hi _ => h.block i hi⟩
theorem own_below {w w' : World} {base size n : Nat} {e : TypeId} {v : Value} {xs : List Value} (h : w.ownsRow base e size v n xs) (hb : Below w.heap.size w w') : w'.ownsRow base e size v n xs :=
  h.kept (grown_of_below hb none) (by cases v.ownBlock <;> simp)
theorem grown_set (W : World) (fb i : Nat) (v : Value) : W.grownBy (W.setCell ⟨fb, i, none⟩ v) (some fb) :=
  ⟨rfl, rfl, rfl, by simp [World.setCell], fun k _ hk => Below.heap_setCell W ⟨fb, i, none⟩ v k (fun e => hk (by rw [e]))⟩
theorem size_set (W : World) (a : Addr) (v : Value) : (W.setCell a v).heap.size = W.heap.size := by simp [World.setCell]
theorem below_drewN {B : Nat} {a w : World} (h : Below B a w) (n : Nat) : Below B a (w.drewN n) := ⟨h.os, h.tape, h.output, h.size, h.block⟩
theorem cell_lt {W : World} {p : Addr} {u : Value} (h : W.cell? p = some u) : p.block < W.heap.size := by
  unfold World.cell? at h
  apply Classical.byContradiction
  intro hn
  have : W.heap[p.block]? = none := by simp; omega
  rw [this] at h
  simp at h

/-- the cells of a list of words -/
def wc (zs : List Int) : List Value := zs.map (Value.int .u64)
theorem wc_length (zs : List Int) : (wc zs).length = zs.length := by simp [wc]
theorem wc_append (xs ys : List Int) : wc (xs ++ ys) = wc xs ++ wc ys := by simp [wc]
theorem wc_get (zs : List Int) (k : Nat) (h : k < zs.length) : (wc zs)[k]? = some (.int .u64 (zs.getD k 0)) := by
  simp [wc, List.getD_eq_getElem?_getD, List.getElem?_eq_getElem h]
/-- v is a slice whose cells are the words zs -/
def WAt (W : World) (v : Value) (zs : List Int) : Prop := ∃ A cap, v = .slice A zs.length cap ∧ (0 < zs.length → ∃ b off, A = some ⟨b, off, none⟩ ∧ ∀ j u, (wc zs)[j]? = some u → W.cell? ⟨b, off + j, none⟩ = some u)
theorem WAt.nil (W : World) : WAt W (.slice none 0 0) [] := ⟨none, 0, rfl, fun h => by simp at h⟩
theorem WAt.of_own {W : World} {base : Nat} {v : Value} {zs : List Int} (h : W.ownsRow base 42 1 v zs.length (wc zs)) : WAt W v zs := by
  rcases h.2 with ⟨rfl, h0⟩ | ⟨gg, cap, cur, rfl, _⟩
  · exact ⟨none, 0, by rw [h0], fun h => by omega⟩
  · refine ⟨_, cap, rfl, fun _ => ⟨gg, 0, rfl, fun j u hu => ?_⟩⟩
    have := h.cells (g := gg) rfl j u hu
    rw [Nat.zero_add]
    have e : (⟨gg, 0, none⟩ : Addr).add j = ⟨gg, j, none⟩ := by unfold Addr.add; split <;> simp_all
    rwa [e] at this
theorem WAt.below {W W' : World} {v : Value} {zs : List Int} (h : WAt W v zs) (hb : Below W.heap.size W W') : WAt W' v zs := by
  obtain ⟨A, cap, rfl, h⟩ := h
  exact ⟨A, cap, rfl, fun h0 => let ⟨b, off, hA, hc⟩ := h h0; ⟨b, off, hA, fun j u hu => (hb.cell (cell_lt (hc j u hu))).trans (hc j u hu)⟩⟩
theorem WAt.row {W : World} {g : Nat} {zs : List Int} {cap : Nat} (h : W.heap[g]? = some (.cells (wc zs).toArray 42 (0, 0))) : WAt W (.slice (some ⟨g, 0, none⟩) zs.length cap) zs := by
  refine ⟨_, cap, rfl, fun _ => ⟨g, 0, rfl, fun j u hu => ?_⟩⟩
  rw [cell_of_row _ _ _ _ _ _ h, Nat.zero_add]
  simpa using hu
theorem info25 : (Try.prog.info? 42).map (fun i => (i.zero, i.size, i.bytes)) = some (some (.int .u64 0), 1, 8) := by kernel_rfl

theorem chk_long {zs : List Int} (h : zs.length < 1 ∨ 1601 < zs.length) : chkF zs = 3 := by unfold chkF; rw [if_pos h]
theorem chk_cases {zs : List Int} (h : ¬ (zs.length < 1 ∨ 1601 < zs.length)) : chkF zs = if zs.getD 0 0 = 0 then 0 else 6 := by
  unfold chkF
  rw [if_neg h]
  cases zs with
  | nil => simp at h
  | cons z r => rfl

set_option maxRecDepth 100000 in
theorem check41 (v : Value) (zs : List Int) (w : World) (h : WAt w v zs) (hm : zs.length ≤ 9223372036854775807) :
    Calls Try.prog 41 #[v] w fun e w' => e = .returned (.int .i64 (chkF zs)) ∧ w = w' := by
  obtain ⟨A, cap, rfl, hA⟩ := h
  have HA := Lib.hid hA
  clear hA
  by_cases h0 : zs.length < 1
  · have q : decide ((zs.length : Int) < 1) = true := decide_eq_true (by omega)
    have T := Lib.hid (chk_long (zs := zs) (.inl h0))
    go_enter Try.func41, Try.ntmps41
    go_wp2
    go_ret
    exact ⟨by rw [T.out]; rfl, rfl⟩
  · have q : decide ((zs.length : Int) < 1) = false := decide_eq_false (by omega)
    by_cases h1 : 1601 < zs.length
    · have q1 : decide ((1601 : Int) < (zs.length : Int)) = true := decide_eq_true (by omega)
      have T := Lib.hid (chk_long (zs := zs) (.inr h1))
      go_enter Try.func41, Try.ntmps41
      go_wp2
      go_ret
      exact ⟨by rw [T.out]; rfl, rfl⟩
    · have q1 : decide ((1601 : Int) < (zs.length : Int)) = false := decide_eq_false (by omega)
      obtain ⟨b, off, rfl, hc⟩ := HA.out (by omega)
      have d := hc 0 _ (wc_get zs 0 (by omega))
      rw [Nat.add_zero] at d
      have T := Lib.hid (chk_cases (zs := zs) (by omega))
      have q2 : (0 : Int) < (zs.length : Int) := by omega
      clear hc HA
      generalize zs.getD 0 0 = z at *
      by_cases hz : z = 0
      · subst hz
        go_enter Try.func41, Try.ntmps41
        go_wp2
        go_ret
        exact ⟨by rw [T.out]; rfl, rfl⟩
      · have q3 : (z != 0) = true := by simpa using hz
        have q4 : (z == 0) = false := by simpa using hz
        have T2 := Lib.hid (show chkF zs = 6 by rw [T.out, if_neg hz])
        go_enter Try.func41, Try.ntmps41
        go_wp2
        go_ret
        exact ⟨by rw [T2.out]; rfl, rfl⟩
end Ytmgoonahpndfoaa
end Go.Proofs
