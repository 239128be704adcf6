/- A list of fields among the arguments: opened, and read again behind the call. -/
import Derived.Test.YtkhggnfhhafkjaaDoorSame
import Derived.WalkKit
import Derived.ProofKit
import Derived.OpenShut
import Derived.Deep.Slices
import Derived.Below
import Derived.ChangeSame
namespace Go.Proofs
namespace YtkhggnfhhafkjaaDoor
open Go.ChangeShapes Go.WideShapes Go.RowKit Go.Deep
set_option maxRecDepth 100000

theorem cellsOf50 : Tryd.prog.cellsOf 50 = 2 := by kernel_rfl
theorem cellsOf9 : Tryd.prog.cellsOf 9 = 1 := by kernel_rfl
theorem cellsOf4 : Tryd.prog.cellsOf 4 = 1 := by kernel_rfl
section
variable {H : Type} {enc : TypeId × Value → H}
theorem open_fld {w : World} {base : Nat} {sp : Nat → Bool} {hd : Bool} {n : Nat} {cs : List Value} {x : DataW H × List MemPlace} (h : DataW.trod enc Tryd.prog w base sp hd n 50 cs = some x) :
    ∃ (s : ByteArray) (b : Bool), cs = [.string s, .bool b] ∧ x = (.agg [.lit (.string s.data.toList), .lit (.bool b)], []) ∧ s.size ≤ maxLen := by
  obtain ⟨y0, y1, m, rfl, hl, h0, h1⟩ := trod_struct2 Tryd.underlying50 h
  rw [cellsOf50] at hl
  match cs, hl with
  | [c0, c1], _ =>
    have g0 : DataW.trod enc Tryd.prog w base sp hd m 9 [c0] = some y0 := by simpa [cellsOf9] using h0
    have g1 : DataW.trod enc Tryd.prog w base sp hd m 4 [c1] = some y1 := by simpa [cellsOf4] using h1
    obtain ⟨s, e0, rfl, hs⟩ := DataW.trod_string Tryd.underlying9 g0
    obtain ⟨b, e1, rfl⟩ := DataW.trod_bool Tryd.underlying4 g1
    simp only [List.cons.injEq, and_true] at e0 e1
    subst e0 e1
    exact ⟨s, b, rfl, by simp, hs⟩
theorem shut_fld {w : World} {base : Nat} {sp : Nat → Bool} {hd : Bool} (s : ByteArray) (b : Bool) (hs : s.size ≤ maxLen) : DataW.trod enc Tryd.prog w base sp hd 2 50 [.string s, .bool b] = some (.agg [.lit (.string s.data.toList), .lit (.bool b)], []) := by
  have h := trod_struct2_mk (enc := enc) (P := Tryd.prog) (w := w) (base := base) (spare := sp) (held := hd) (n := 1) (cs := [.string s, .bool b]) (y0 := (.lit (.string s.data.toList), [])) (y1 := (.lit (.bool b), [])) Tryd.underlying50 cellsOf50.symm
    (by simp [cellsOf9, DataW.trod, Tryd.underlying9, hs]) (by simp [cellsOf4, DataW.trod, Tryd.underlying4])
  simpa using h
theorem cells_two {w W : World} (hb : Below w.heap.size w W) {a : Addr} {cs : List Value} (h : w.cells? 0 a 2 = some cs) : W.cells? 0 a 2 = some cs := by
  obtain ⟨_, hl, hc⟩ := World.cells?_some h
  have k : ∀ i, i < 2 → W.cell? (a.add i) = w.cell? (a.add i) := fun i hi => by
    have h1 := hc i hi
    have h2 : cs[i]? = some (cs[i]'(by omega)) := List.getElem?_eq_getElem (by omega)
    rw [h2] at h1
    exact hb.cell (cell_lt h1)
  rw [← h]
  unfold World.cells?
  have e : List.range 2 = [0, 1] := rfl
  rw [e]
  simp only [List.mapM_cons, List.mapM_nil, k 0 (by omega), k 1 (by omega)]

theorem open_flds {w : World} {r : Reach} {b0 : Nat} {v : Value} {d : DataW H} {p : List MemPlace} (hv : Value.okWide Tryd.prog w r b0 32 v) (h : DataW.Trod enc Tryd.prog w 0 (fun _ => true) true 32 v d p) :
    ∃ fs : List Fld, FAt w v fs ∧ fs.length ≤ maxLen ∧ ∀ W : World, Below w.heap.size w W → ∀ sp : Nat → Bool, (∀ q ∈ p, sp q.block = true) → DataW.Trod enc Tryd.prog W 0 sp true 32 v d p := by
  obtain ⟨a0, len0, cap0, rfl⟩ := okWide_slice Tryd.underlying32 hv
  obtain ⟨fuel, hf⟩ := h
  rcases open_slice Tryd.underlying32 hf with ⟨h1, h2⟩ | ⟨a, len, cap, m, n, D, Pl, h1, _, hlc, hcm, hm, hx, hi⟩
  · simp only [Value.cells, List.cons.injEq, and_true, Value.slice.injEq] at h1
    obtain ⟨rfl, rfl, rfl⟩ := h1
    simp only [Prod.mk.injEq] at h2
    obtain ⟨rfl, rfl⟩ := h2
    exact ⟨[], ⟨none, 0, rfl, fun h => by simp at h⟩, by simp, fun W _ sp _ => shut_slice_nil Tryd.underlying32⟩
  · simp only [Value.cells, List.cons.injEq, and_true, Value.slice.injEq] at h1
    obtain ⟨rfl, rfl, rfl⟩ := h1
    simp only [if_true] at hm
    subst hm
    rw [cellsOf50] at hx hi
    have hs : ∀ i, i < m → ∃ x : ByteArray × Bool, w.cells? 0 (a.add (i * 2)) 2 = some [.string x.1, .bool x.2] ∧ D i = .agg [.lit (.string x.1.data.toList), .lit (.bool x.2)] ∧ Pl i = [] ∧ x.1.size ≤ maxLen := fun i hi' => by
      obtain ⟨cs', c1, c2⟩ := hi i hi'
      obtain ⟨s, b, rfl, e, hsz⟩ := open_fld c2
      simp only [Prod.mk.injEq] at e
      exact ⟨(s, b), c1, e.1, e.2, hsz⟩
    obtain ⟨f, hf'⟩ := choose_lt hs
    simp only [Prod.mk.injEq] at hx
    obtain ⟨rfl, rfl⟩ := hx
    refine ⟨(List.range len0).map fun i => ((f i).1.data.toList, (f i).2), ⟨some a, m, by simp, fun h0 => ?_⟩, by simp; omega, fun W hb sp hsp => ?_⟩
    · simp only [List.length_map, List.length_range] at h0
      have hc0 := (World.cells?_some (hf' 0 (by omega)).1).2.2 0 (by omega)
      have hspot : a.spot = none := by
        rcases a with ⟨ab, ao, asp⟩
        cases asp with
        | none => rfl
        | some k =>
          exfalso
          simp [World.cell?, Addr.add] at hc0
          split at hc0 <;> simp_all
      obtain ⟨ab, ao, asp⟩ := a
      simp only at hspot
      subst hspot
      refine ⟨ab, ao, rfl, fun j u hu => ?_⟩
      have hl : (fc ((List.range len0).map fun i => ((f i).1.data.toList, (f i).2))).length = len0 * 2 := by rw [fc_length]; simp
      have hj : j < len0 * 2 := by
        have := (List.getElem?_eq_some_iff.1 hu).1
        omega
      have hk : j / 2 < len0 := by omega
      obtain ⟨g0, g1⟩ := fc_get ((List.range len0).map fun i => ((f i).1.data.toList, (f i).2)) (j / 2) (by simpa using hk)
      simp only [List.getElem_map, List.getElem_range] at g0 g1
      obtain ⟨_, _, hc⟩ := World.cells?_some (hf' (j / 2) (by omega)).1
      have e : ∀ r, (((⟨ab, ao, none⟩ : Addr).add (j / 2 * 2)).add r) = ⟨ab, ao + (j / 2 * 2 + r), none⟩ := fun r => by rw [add_add]; simp [Addr.add]
      rcases Nat.mod_two_eq_zero_or_one j with h2 | h2
      · have ej : j / 2 * 2 + 0 = j := by omega
        have h3 := hc 0 (by omega)
        rw [e, ej] at h3
        rw [show j / 2 * 2 = j by omega] at g0
        rw [h3]
        rw [g0] at hu
        cases hu
        simp
      · have ej : j / 2 * 2 + 1 = j := by omega
        have h3 := hc 1 (by omega)
        rw [e, ej] at h3
        rw [ej] at g1
        rw [h3]
        rw [g1] at hu
        cases hu
        simp
    · have hel : ∀ i, i < m → ∃ cs n, W.cells? 0 (a.add (i * 2)) 2 = some cs ∧ DataW.trod enc Tryd.prog W 0 sp true n 50 cs = some (D i, Pl i) := fun i hi' => by
        obtain ⟨c1, c2, c3, c4⟩ := hf' i hi'
        exact ⟨_, 2, cells_two hb c1, by rw [c2, c3]; exact shut_fld _ _ c4⟩
      cases hsa : sp a.block with
      | true =>
        have := shut_slice_whole (enc := enc) (w := W) (base := 0) (held := true) Tryd.underlying32 (Nat.zero_le _) hlc hcm hsa D Pl (by rw [cellsOf50]; exact hel)
        rw [cellsOf50] at this
        exact this
      | false =>
        have h0 : m = 0 := by
          rcases Nat.eq_zero_or_pos m with h | h
          · exact h
          · have := hsp (.cell a.block (a.off + 0)) (List.mem_append_left _ (by unfold MemPlace.row; exact List.mem_map.2 ⟨0, by simp; omega, rfl⟩))
            rw [show (MemPlace.cell a.block (a.off + 0)).block = a.block from rfl, hsa] at this
            cases this
        subst h0
        obtain rfl : len0 = 0 := by omega
        have := shut_slice (enc := enc) (w := W) (base := 0) (held := true) Tryd.underlying32 (Nat.zero_le _) hlc hcm hsa D Pl (fun i hi' => by omega)
        simpa using this
end
end YtkhggnfhhafkjaaDoor
end Go.Proofs
