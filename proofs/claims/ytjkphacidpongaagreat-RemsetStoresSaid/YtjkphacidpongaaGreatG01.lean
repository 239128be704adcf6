/- Sets and lists of numbers among the arguments: opened, and read again behind the call. -/
import Derived.Test.YtjkphacidpongaaGreatRows
import Derived.Test.YtjkphacidpongaaGreatG00
import Derived.WalkKit
import Derived.ProofKit
import Derived.OpenShut
import Derived.Deep.Slices
import Derived.Below
import Derived.ChangeSame
namespace Go.Proofs
namespace YtjkphacidpongaaGreat
open Go.ChangeShapes Go.WideShapes Go.ChangeAt Go.RowKit Go.Deep
set_option maxRecDepth 100000

theorem cells3 : Tryz.prog.cellsOf 3 = 1 := by kernel_rfl
theorem cells22 : Tryz.prog.cellsOf 25 = 1 := by kernel_rfl
theorem cells24 : Tryz.prog.cellsOf 27 = 1 := by kernel_rfl
theorem cells_keep {w W : World} (hb : Below w.heap.size w W) {a : Addr} {n : Nat} {cs : List Value} (h : w.cells? 0 a n = some cs) : W.cells? 0 a n = some cs := by
  obtain ⟨_, hl, hc⟩ := World.cells?_some h
  have k : ∀ i, i < n → W.cell? (a.add i) = w.cell? (a.add i) := fun i hi => by
    have h1 := hc i hi
    have h2 : cs[i]? = some (cs[i]'(by omega)) := List.getElem?_eq_getElem (by omega)
    rw [h2] at h1
    exact hb.cell (cell_lt h1)
  rw [← h]
  unfold World.cells?
  have e : ∀ l : List Nat, (∀ i ∈ l, i < n) → l.mapM (fun i => W.cell? (a.add i)) = l.mapM (fun i => w.cell? (a.add i)) := by
    intro l
    induction l with
    | nil => intro _; rfl
    | cons i r ih =>
      intro hl
      rw [List.mapM_cons, List.mapM_cons, k i (hl i (by simp)), ih (fun j hj => hl j (by simp [hj]))]
  simp only [e (List.range n) (fun i hi => List.mem_range.1 hi)]
section
variable {H : Type} {enc : TypeId × Value → H}
/-- a slice of numbers -/
theorem open_ints {w : World} {fuel : Nat} {v : Value} {d : DataW H} {p : List MemPlace} (hf : DataW.trod enc Tryz.prog w 0 (fun _ => true) true fuel 25 [v] = some (d, p)) :
    ∃ zs : List Int, IAt w v zs ∧ zs.length ≤ maxLen ∧ v.cells = #[v] ∧ ∀ W : World, Below w.heap.size w W → ∀ sp : Nat → Bool, (∀ q ∈ p, sp q.block = true) → DataW.Trod enc Tryz.prog W 0 sp true 25 v d p := by
  rcases open_slice Tryz.underlying25 hf with ⟨h1, h2⟩ | ⟨a, len, cap, m, n, D, Pl, h1, _, hlc, hcm, hm, hx, hi⟩
  · simp only [List.cons.injEq, and_true] at h1
    subst h1
    simp only [Prod.mk.injEq] at h2
    obtain ⟨rfl, rfl⟩ := h2
    exact ⟨[], ⟨none, 0, rfl, fun h => by simp at h⟩, by simp, rfl, fun W _ sp _ => shut_slice_nil Tryz.underlying25⟩
  · simp only [List.cons.injEq, and_true] at h1
    subst h1
    simp only [if_true] at hm
    subst hm
    rw [cells3] at hx hi
    have hs : ∀ i, i < m → ∃ x : Int, w.cells? 0 (a.add (i * 1)) 1 = some [.int .i64 x] ∧ D i = .lit (.int .i64 x) ∧ Pl i = [] ∧ (Lit.int .i64 x).wf = true := fun i hi' => by
      obtain ⟨cs', c1, c2⟩ := hi i hi'
      obtain ⟨z, rfl, e, hw⟩ := DataW.trod_int Tryz.underlying3 c2
      simp only [Prod.mk.injEq] at e
      exact ⟨z, c1, e.1, e.2, hw⟩
    obtain ⟨f, hf'⟩ := choose_lt hs
    simp only [Prod.mk.injEq] at hx
    obtain ⟨rfl, rfl⟩ := hx
    refine ⟨(List.range len).map fun i => f i, ⟨some a, m, by simp, fun h0 => ?_⟩, by simp; omega, rfl, fun W hb sp hsp => ?_⟩
    · simp only [List.length_map, List.length_range] at h0
      have hc0 := (World.cells?_some (hf' 0 (by omega)).1).2.2 0 (by omega)
      have hspot : a.spot = none := by
        rcases a with ⟨ab, ao, asp⟩
        cases asp with
        | none => rfl
        | some k =>
          exfalso
          simp [World.cell?, Addr.add] at hc0
          split at hc0 <;> simp_all
      obtain ⟨ab, ao, asp⟩ := a
      simp only at hspot
      subst hspot
      refine ⟨ab, ao, rfl, fun j hj => ?_⟩
      have hj : j < len := by simpa using hj
      obtain ⟨_, _, hc⟩ := World.cells?_some (hf' j (by omega)).1
      have h3 := hc 0 (by omega)
      have e : (((⟨ab, ao, none⟩ : Addr).add (j * 1)).add 0) = ⟨ab, ao + j, none⟩ := by rw [add_add]; simp [Addr.add]
      rw [e] at h3
      rw [h3]
      simp [List.getD_eq_getElem?_getD, hj]
    · have hel : ∀ i, i < m → ∃ cs n, W.cells? 0 (a.add (i * 1)) 1 = some cs ∧ DataW.trod enc Tryz.prog W 0 sp true n 3 cs = some (D i, Pl i) := fun i hi' => by
        obtain ⟨c1, c2, c3, c4⟩ := hf' i hi'
        exact ⟨_, 1, cells_keep hb c1, by rw [c2, c3]; exact trod_int_mk 0 Tryz.underlying3 c4⟩
      cases hsa : sp a.block with
      | true =>
        have := shut_slice_whole (enc := enc) (w := W) (base := 0) (held := true) Tryz.underlying25 (Nat.zero_le _) hlc hcm hsa D Pl (by rw [cells3]; exact hel)
        rw [cells3] at this
        exact this
      | false =>
        have h0 : m = 0 := by
          rcases Nat.eq_zero_or_pos m with h | h
          · exact h
          · have := hsp (.cell a.block (a.off + 0)) (List.mem_append_left _ (by unfold MemPlace.row; exact List.mem_map.2 ⟨0, by simp; omega, rfl⟩))
            rw [show (MemPlace.cell a.block (a.off + 0)).block = a.block from rfl, hsa] at this
            cases this
        subst h0
        obtain rfl : len = 0 := by omega
        have := shut_slice (enc := enc) (w := W) (base := 0) (held := true) Tryz.underlying25 (Nat.zero_le _) hlc hcm hsa D Pl (fun i hi' => by omega)
        simpa using this
/-- a []int -/
theorem open_list {w : World} {r : Reach} {b0 : Nat} {v : Value} {d : DataW H} {p : List MemPlace} (hv : Value.okWide Tryz.prog w r b0 25 v) (h : DataW.Trod enc Tryz.prog w 0 (fun _ => true) true 25 v d p) :
    ∃ zs : List Int, IAt w v zs ∧ zs.length ≤ maxLen ∧ ∀ W : World, Below w.heap.size w W → ∀ sp : Nat → Bool, (∀ q ∈ p, sp q.block = true) → DataW.Trod enc Tryz.prog W 0 sp true 25 v d p := by
  obtain ⟨a0, len0, cap0, rfl⟩ := okWide_slice Tryz.underlying25 hv
  obtain ⟨fuel, hf⟩ := h
  obtain ⟨zs, h1, h2, -, h3⟩ := open_ints (v := .slice a0 len0 cap0) hf
  exact ⟨zs, h1, h2, h3⟩
/-- a set -/
theorem open_set {w : World} {r : Reach} {b0 : Nat} {v : Value} {d : DataW H} {p : List MemPlace} (hv : Value.okWide Tryz.prog w r b0 27 v) (h : DataW.Trod enc Tryz.prog w 0 (fun _ => true) true 27 v d p) :
    ∃ (u : Value) (zs : List Int), v = .agg #[u] ∧ IAt w u zs ∧ zs.length ≤ maxLen ∧ ∀ W : World, Below w.heap.size w W → ∀ sp : Nat → Bool, (∀ q ∈ p, sp q.block = true) → DataW.Trod enc Tryz.prog W 0 sp true 27 v d p := by
  obtain ⟨cs, rfl, hsz⟩ := okWide_struct Tryz.underlying27 hv
  obtain ⟨l⟩ := cs
  match l, hsz.trans cells24 with
  | [a0], _ =>
    obtain ⟨fuel, hf⟩ := h
    obtain ⟨xs, n, _, hx, _, hlen, hg⟩ := DataW.trod_struct Tryz.underlying27 hf
    match xs, hlen with
    | [y0], _ =>
      have h0 : DataW.trod enc Tryz.prog w 0 (fun _ => true) true n 25 [a0] = some y0 := by simpa [Value.cells, cells22] using hg 0 _ rfl
      obtain ⟨d0, p0⟩ := y0
      obtain ⟨zs, h1, h2, h3, h4⟩ := open_ints h0
      simp only [Prod.mk.injEq, List.map_cons, List.map_nil, List.flatMap_cons, List.flatMap_nil, List.append_nil] at hx
      obtain ⟨rfl, rfl⟩ := hx
      refine ⟨a0, zs, rfl, h1, h2, fun W hb sp hsp => ?_⟩
      obtain ⟨n2, hn2⟩ := h4 W hb sp hsp
      rw [h3] at hn2
      refine ⟨n2 + 1, ?_⟩
      have := trod_struct_mk (enc := enc) (P := Tryz.prog) (w := W) (base := 0) (spare := sp) (held := true) (t := 27) (n := n2) (cs := [a0]) (xs := [(d0, p)]) Tryz.underlying27 cells24.symm (by
        simp only [List.mapM_cons, List.mapM_nil, cells22]
        simp [hn2])
      simpa [Value.cells] using this
end
end YtjkphacidpongaaGreat
end Go.Proofs
/- The last step of a row whose call leaves the old blocks as they were. -/
namespace Go.Proofs
namespace YtjkphacidpongaaGreat
open Go.RowKit Go.WideShapes Go.ChangeShapes
theorem row_end {H : Type} {enc : TypeId × Value → H} {P : Program} {f : Func} {s : ChangeSpec} {apart fresh handsOn again : Bool} {W W' : World} {args : Array Value} {v : Value} {ds gs : List (DataW H)} {old pa pv : List MemPlace}
    (hW : DataW.Whole enc P f.params.toList s.vars apart W args.toList ds gs old) (hb : Below W.heap.size W W') (hps : old = pa ++ pv)
    (hres : ∀ (b : Nat) (sp : Nat → Bool) (hd : Bool), DataW.TrodAll enc P W' b sp hd f.resultTypes.toList (v.resultList f.resultTypes.size) (s.fn H (ds ++ gs)).results [])
    (hargs : ∀ sp : Nat → Bool, (∀ p ∈ old, sp p.block = true) → DataW.TrodAll enc P W' 0 sp true f.params.toList args.toList (s.fn H (ds ++ gs)).args pa)
    (hvars : ∀ sp : Nat → Bool, (∀ p ∈ old, sp p.block = true) → DataW.TrodVars enc P W' sp s.vars (s.fn H (ds ++ gs)).vars pv)
    (hok : ∀ (j : Nat) (t : TypeId) (r : Value), f.resultTypes[j]? = some t → (v.resultList f.resultTypes.size)[j]? = some r → Value.okWide P W' .any 0 t r) :
    s.post enc P f apart fresh handsOn again W args v W' := by
  have hlt : ∀ p ∈ old, p.block < W.heap.size := fun p hp => hW.lt p hp
  have hin : ∀ p ∈ old, (fun b => decide (b < W.heap.size)) p.block = true := fun p hp => by simpa using hlt p hp
  refine ⟨ds, gs, old, [], pa, pv, hW, hres _ _ _, hargs _ hin, hvars _ hin, World.keptBut_mono (fun p hp => ⟨hp, Or.inr (List.mem_append.1 (hps ▸ hp))⟩) (hb.frame (· ∈ old)), fun _ => ?_⟩
  obtain ⟨_, _, _, _, _, hz, hn⟩ := hW
  have hall := trodAll_append (hargs (fun _ => true) (fun _ _ => rfl)) (hres 0 (fun _ => true) true)
  refine ⟨hok, _, _, old, ⟨[] ++ pa, pv, hall, hvars _ (fun _ _ => rfl), hps, fun b off hp => ?_, fun ha => hn ha⟩, fun p hp _ => hp⟩
  rw [hb.frozen (hlt _ hp)]
  exact hz b off hp
end YtjkphacidpongaaGreat
end Go.Proofs
