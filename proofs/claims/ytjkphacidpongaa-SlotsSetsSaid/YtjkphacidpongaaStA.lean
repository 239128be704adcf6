/- Acts on a set: a slice of them among the arguments; what they make of a set, as plain facts. -/
import Derived.Test.YtjkphacidpongaaSlDo
import Derived.Test.YtjkphacidpongaaSlCb
import Derived.Test.YtjkphacidpongaaSmA
namespace Go.Proofs
namespace Ytjkphacidpongaa
open Go.ChangeShapes Go.WideShapes Go.ChangeAt Go.RowKit Go.Deep
set_option maxRecDepth 100000

def ActAt (W : World) (v : Value) (l : List (Int × Bool)) : Prop := ∃ A cap, v = .slice A l.length cap ∧ (0 < l.length → ∃ b off, A = some ⟨b, off, none⟩ ∧ ∀ j, j < l.length →
  W.cell? ⟨b, off + j * 2, none⟩ = some (.int .u16 (l.getD j (0, false)).1) ∧ W.cell? ⟨b, off + j * 2 + 1, none⟩ = some (.bool (l.getD j (0, false)).2))
theorem cells31 : Try.prog.cellsOf 31 = 2 := by kernel_rfl
theorem cells29 : Try.prog.cellsOf 29 = 1 := by kernel_rfl
theorem cells4 : Try.prog.cellsOf 4 = 1 := by kernel_rfl
section
variable {H : Type} {enc : TypeId × Value → H}
def acC (o : Int × Bool) : List Value := [.int .u16 o.1, .bool o.2]
def acD (o : Int × Bool) : DataW H := .agg [.lit (.int .u16 o.1), .lit (.bool o.2)]
def acWf (o : Int × Bool) : Prop := (Lit.int .u16 o.1).wf = true
theorem wf_u16 {z : Int} (h : (Lit.int .u16 z).wf = true) : 0 ≤ z ∧ z ≤ 65535 := by
  simp [Lit.wf, IntKind.min, IntKind.max, IntKind.signed, IntKind.bits] at h
  omega
theorem open_ac {w : World} {base : Nat} {sp : Nat → Bool} {hd : Bool} {n : Nat} {cs : List Value} {x : DataW H × List MemPlace} (h : DataW.trod enc Try.prog w base sp hd n 31 cs = some x) :
    ∃ o : Int × Bool, cs = acC o ∧ x = (acD o, []) ∧ acWf o := by
  obtain ⟨xs, m, _, hx, hl, hlen, hg⟩ := DataW.trod_struct Try.underlying31 h
  rw [cells31] at hl
  match cs, hl with
  | [a0, a1], _ =>
    match xs, hlen with
    | [y0, y1], _ =>
      have h0 : DataW.trod enc Try.prog w base sp hd m 29 [a0] = some y0 := by simpa [cells29] using hg 0 _ rfl
      have h1 : DataW.trod enc Try.prog w base sp hd m 4 [a1] = some y1 := by simpa [cells29, cells4] using hg 1 _ rfl
      obtain ⟨z0, e0, rfl, w0⟩ := DataW.trod_int Try.underlying29 h0
      obtain ⟨z1, e1, rfl⟩ := DataW.trod_bool Try.underlying4 h1
      simp only [List.cons.injEq, and_true] at e0 e1
      subst e0 e1
      exact ⟨⟨z0, z1⟩, rfl, by simpa [acD] using hx, w0⟩
theorem trod_bool_mk1 {w : World} {base : Nat} {sp : Nat → Bool} {hd : Bool} (b : Bool) (m : Nat) : DataW.trod enc Try.prog w base sp hd (m + 1) 4 [.bool b] = some (.lit (.bool b), []) := by simp [DataW.trod, Try.underlying4]
theorem shut_ac {w : World} {base : Nat} {sp : Nat → Bool} {hd : Bool} (o : Int × Bool) (h : acWf o) : DataW.trod enc Try.prog w base sp hd 2 31 (acC o) = some (acD o, []) := by
  have t := fun (z : Int) (hz : (Lit.int .u16 z).wf = true) => trod_int_mk (enc := enc) (P := Try.prog) (w := w) (base := base) (spare := sp) (held := hd) (t := 29) 0 Try.underlying29 hz
  have t2 := fun (b : Bool) => trod_bool_mk1 (enc := enc) (w := w) (base := base) (sp := sp) (hd := hd) b 0
  have := trod_struct_mk (enc := enc) (P := Try.prog) (w := w) (base := base) (spare := sp) (held := hd) (t := 31) (n := 1) (cs := acC o) (xs := [(.lit (.int .u16 o.1), []), (.lit (.bool o.2), [])]) Try.underlying31 cells31.symm (by
    simp [List.mapM_cons, acC, cells29, cells4, t _ h, t2])
  simpa [acD] using this
theorem open_acts {w : World} {r : Reach} {b0 : Nat} {v : Value} {d : DataW H} {p : List MemPlace} (hv : Value.okWide Try.prog w r b0 22 v) (h : DataW.Trod enc Try.prog w 0 (fun _ => true) true 22 v d p) :
    ∃ l : List (Int × Bool), ActAt w v l ∧ l.length ≤ maxLen ∧ (∀ o ∈ l, 0 ≤ o.1 ∧ o.1 ≤ 65535) ∧ ∀ W : World, Below w.heap.size w W → ∀ sp : Nat → Bool, (∀ q ∈ p, sp q.block = true) → DataW.Trod enc Try.prog W 0 sp true 22 v d p := by
  obtain ⟨a0, len0, cap0, rfl⟩ := okWide_slice Try.underlying22 hv
  obtain ⟨fuel, hf⟩ := h
  rcases open_slice Try.underlying22 hf with ⟨h1, h2⟩ | ⟨a, len, cap, m, n, D, Pl, h1, _, hlc, hcm, hm, hx, hi⟩
  · simp only [Value.cells, List.cons.injEq, and_true, Value.slice.injEq] at h1
    obtain ⟨rfl, rfl, rfl⟩ := h1
    simp only [Prod.mk.injEq] at h2
    obtain ⟨rfl, rfl⟩ := h2
    exact ⟨[], ⟨none, 0, rfl, fun h => by simp at h⟩, by simp, by simp, fun W _ sp _ => shut_slice_nil Try.underlying22⟩
  · simp only [Value.cells, List.cons.injEq, and_true, Value.slice.injEq] at h1
    obtain ⟨rfl, rfl, rfl⟩ := h1
    simp only [if_true] at hm
    subst hm
    rw [cells31] at hx hi
    have hs : ∀ i, i < m → ∃ x : Int × Bool, w.cells? 0 (a.add (i * 2)) 2 = some (acC x) ∧ D i = acD x ∧ Pl i = [] ∧ acWf x := fun i hi' => by
      obtain ⟨cs', c1, c2⟩ := hi i hi'
      obtain ⟨z, rfl, e, hw⟩ := open_ac c2
      simp only [Prod.mk.injEq] at e
      exact ⟨z, c1, e.1, e.2, hw⟩
    obtain ⟨f, hf'⟩ := choose_lt hs
    simp only [Prod.mk.injEq] at hx
    obtain ⟨rfl, rfl⟩ := hx
    refine ⟨(List.range len0).map fun i => f i, ⟨some a, m, by simp, fun h0 => ?_⟩, by simp; omega, (fun o ho => by obtain ⟨i, hi2, rfl⟩ := List.mem_map.1 ho; have := List.mem_range.1 hi2; exact wf_u16 (hf' i (by omega)).2.2.2), fun W hb sp hsp => ?_⟩
    · simp only [List.length_map, List.length_range] at h0
      have hc0 := (World.cells?_some (hf' 0 (by omega)).1).2.2 0 (by omega)
      have hc0 : w.cell? ((a.add (0 * 2)).add 0) = some (.int .u16 (f 0).1) := hc0
      have hspot : a.spot = none := by
        rcases a with ⟨ab, ao, asp⟩
        cases asp with
        | none => rfl
        | some k =>
          exfalso
          simp [World.cell?, Addr.add] at hc0
          split at hc0 <;> simp_all
      obtain ⟨ab, ao, asp⟩ := a
      simp only at hspot
      subst hspot
      refine ⟨ab, ao, rfl, fun j hj => ?_⟩
      have hj : j < len0 := by simpa using hj
      have hg : ((List.range len0).map fun i => f i).getD j (0, false) = f j := by simp [List.getD_eq_getElem?_getD, hj]
      rw [hg]
      obtain ⟨_, _, hc⟩ := World.cells?_some (hf' j (by omega)).1
      have h3 := hc 0 (by omega)
      have h4 := hc 1 (by omega)
      have e3 : (((⟨ab, ao, none⟩ : Addr).add (j * 2)).add 0) = ⟨ab, ao + j * 2, none⟩ := by rw [add_add]; simp [Addr.add]
      have e4 : (((⟨ab, ao, none⟩ : Addr).add (j * 2)).add 1) = ⟨ab, ao + j * 2 + 1, none⟩ := by rw [add_add]; simp [Addr.add]; omega
      rw [e3] at h3
      rw [e4] at h4
      exact ⟨h3, h4⟩
    · have hel : ∀ i, i < m → ∃ cs n, W.cells? 0 (a.add (i * 2)) 2 = some cs ∧ DataW.trod enc Try.prog W 0 sp true n 31 cs = some (D i, Pl i) := fun i hi' => by
        obtain ⟨c1, c2, c3, c4⟩ := hf' i hi'
        exact ⟨_, 2, cells_keep hb c1, by rw [c2, c3]; exact shut_ac _ c4⟩
      cases hsa : sp a.block with
      | true =>
        have := shut_slice_whole (enc := enc) (w := W) (base := 0) (held := true) Try.underlying22 (Nat.zero_le _) hlc hcm hsa D Pl (by rw [cells31]; exact hel)
        rw [cells31] at this
        exact this
      | false =>
        have h0 : m = 0 := by
          rcases Nat.eq_zero_or_pos m with h | h
          · exact h
          · have := hsp (.cell a.block (a.off + 0)) (List.mem_append_left _ (by unfold MemPlace.row; exact List.mem_map.2 ⟨0, by simp; omega, rfl⟩))
            rw [show (MemPlace.cell a.block (a.off + 0)).block = a.block from rfl, hsa] at this
            cases this
        subst h0
        obtain rfl : len0 = 0 := by omega
        have := shut_slice (enc := enc) (w := W) (base := 0) (held := true) Try.underlying22 (Nat.zero_le _) hlc hcm hsa D Pl (fun i hi' => by omega)
        simpa using this
end
/-- what acts make of a set -/
def aOf (x : Int) : Int := x % 60 + 1
def stepA (cs : List Int) (o : Int × Bool) : List Int := if o.2 = true then dropF cs (aOf o.1) else addF cs (aOf o.1)
def csA (l : List (Int × Bool)) (k : Nat) : List Int := (l.take k).foldl stepA newF
theorem csA_step {l : List (Int × Bool)} {k : Nat} (hk : k < l.length) : csA l (k + 1) = stepA (csA l k) (l.getD k (0, false)) := by
  unfold csA
  rw [List.take_add_one, List.foldl_append, List.getElem?_eq_getElem hk, List.getD_eq_getElem?_getD, List.getElem?_eq_getElem hk]
  rfl
theorem a_range {x : Int} (_h : 0 ≤ x) : 1 ≤ aOf x ∧ aOf x ≤ 60 := by unfold aOf; omega
structure Ok60 (cs : List Int) : Prop where
  good : Good cs
  le : ∀ y, 0 < y → y ∈ cs → y ≤ 60
theorem ok_step {cs : List Int} (h : Ok60 cs) {o : Int × Bool} (ho : 0 ≤ o.1) : Ok60 (stepA cs o) := by
  have ha := a_range ho
  unfold stepA
  split
  · exact ⟨drop_good1 h.good (by omega), fun y h0 hy => h.le y h0 ((drop_mem1 h.good (by omega) h0).1 hy).1⟩
  · refine ⟨add_good1 h.good (by omega), fun y h0 hy => ?_⟩
    rcases (add_mem h.good (by omega) h0).1 hy with rfl | hy
    · omega
    · exact h.le y h0 hy
theorem ok_acts {l : List (Int × Bool)} (hl : ∀ o ∈ l, 0 ≤ o.1 ∧ o.1 ≤ 65535) : ∀ k, k ≤ l.length → Ok60 (csA l k)
  | 0, _ => ⟨new_good, fun y h0 hy => absurd hy (not_new h0)⟩
  | k + 1, hk => by
    rw [csA_step (by omega)]
    refine ok_step (ok_acts hl k (by omega)) (hl _ ?_).1
    rw [List.getD_eq_getElem?_getD, List.getElem?_eq_getElem (by omega)]
    exact List.getElem_mem _
theorem len_more {c d : List Int} {a : Int} (ha : 1 ≤ a ∧ a ≤ 1600) (hn : a ∉ c) (h : ∀ x, 0 < x → (x ∈ d ↔ x = a ∨ x ∈ c)) : (srt d).length = (srt c).length + 1 := by
  have hp : (srt d).Perm (a :: srt c) := (List.perm_ext_iff_of_nodup ((srt_sorted d).imp (fun _ => by omega)) (List.nodup_cons.2 ⟨fun hm => hn (mem_srt.1 hm).2, (srt_sorted c).imp (fun _ => by omega)⟩)).2 (fun x => by
    rw [List.mem_cons, mem_srt, mem_srt]
    constructor
    · rintro ⟨hr, hx⟩
      rcases (h x (by omega)).1 hx with rfl | hx
      · exact .inl rfl
      · exact .inr ⟨hr, hx⟩
    · rintro (rfl | ⟨hr, hx⟩)
      · exact ⟨ha, (h x (by omega)).2 (.inl rfl)⟩
      · exact ⟨hr, (h x (by omega)).2 (.inr hx)⟩)
  have := hp.length_eq
  simpa using this
theorem len_add1 {cs : List Int} {a : Int} (h : Good cs) (ha : 1 ≤ a ∧ a ≤ 1600) (hn : a ∉ cs) : (srt (addF cs a)).length = (srt cs).length + 1 := len_more ha hn (fun _ hx => add_mem h ha hx)
theorem len_drop1 {cs : List Int} {a : Int} (h : Good cs) (ha : 1 ≤ a ∧ a ≤ 1600) (hn : a ∈ cs) : (srt cs).length = (srt (dropF cs a)).length + 1 := by
  refine len_more (a := a) ha (fun hm => ((drop_mem1 h ha (by omega)).1 hm).2 rfl) (fun x hx => ?_)
  rw [drop_mem1 h ha hx]
  constructor
  · intro hm
    by_cases e : x = a
    · exact .inl e
    · exact .inr ⟨hm, e⟩
  · rintro (rfl | ⟨hm, -⟩)
    · exact hn
    · exact hm
theorem add_same {cs : List Int} {a : Int} (h : Good cs) (ha : 1 ≤ a ∧ a ≤ 1600) (hn : a ∈ cs) : addF cs a = cs := by
  unfold addF; rw [(h.tab.has h.zero (by omega)).2 hn, if_pos rfl]
theorem drop_same {cs : List Int} {a : Int} (h : Good cs) (ha : 1 ≤ a ∧ a ≤ 1600) (hn : a ∉ cs) : dropF cs a = cs := drop_no ((h.tab.hasF h.zero (by omega)).2 hn)
theorem met_put {n : Nat} {l m : List Int} {x : Int} {b : Bool} (hx : 1 ≤ x ∧ x < n) (h1 : x ∈ m ↔ b = true) (h2 : ∀ j, 0 < j → j ≠ x → (j ∈ m ↔ j ∈ l)) : (metG n l).setIfInBounds x.toNat (.bool b) = metG n m := by
  apply Array.ext_getElem?
  intro j
  rw [Array.getElem?_setIfInBounds]
  by_cases hj : j < n
  · rw [metG_get _ _ hj, metG_get _ _ hj, metG_size]
    by_cases e : x.toNat = j
    · rw [if_pos e, if_pos (by omega)]
      congr 2
      rw [Bool.eq_iff_iff, decide_eq_true_eq, ← h1, show ((j : Nat) : Int) = x by omega]
      exact ⟨fun h => ⟨by omega, h⟩, fun h => h.2⟩
    · rw [if_neg e]
      congr 2
      rw [Bool.eq_iff_iff]
      simp only [decide_eq_true_eq]
      constructor
      · rintro ⟨h3, h4⟩; exact ⟨h3, (h2 j (by omega) (by omega)).2 h4⟩
      · rintro ⟨h3, h4⟩; exact ⟨h3, (h2 j (by omega) (by omega)).1 h4⟩
  · have e1 : (metG n l)[j]? = none := by rw [Array.getElem?_eq_none]; rw [metG_size]; omega
    have e2 : (metG n m)[j]? = none := by rw [Array.getElem?_eq_none]; rw [metG_size]; omega
    rw [e1, e2, metG_size]
    split
    · rw [if_neg (by omega)]
    · rfl
theorem met_at {n : Nat} {l : List Int} {x : Int} (hx : 1 ≤ x ∧ x < n) : (metG n l)[x.toNat]? = some (.bool (decide (x ∈ l))) := by
  rw [metG_get _ _ (by omega)]
  congr 2
  rw [Bool.eq_iff_iff]
  simp only [decide_eq_true_eq]
  rw [show ((x.toNat : Nat) : Int) = x by omega]
  exact ⟨fun h => h.2, fun h => ⟨by omega, h⟩⟩
theorem srt_at {cs : List Int} {k : Nat} (hk : k < 1600) (hm : (k : Int) + 1 ∈ cs) : (srtU cs k).length < (srt cs).length ∧ (srt cs).getD (srtU cs k).length 0 = (k : Int) + 1 := by
  have hn : k < nums.length := by rw [nums_len]; exact hk
  have e : srt cs = srtU cs k ++ ((k : Int) + 1) :: (nums.drop (k + 1)).filter (fun x => decide (x ∈ cs)) := by
    unfold srt srtU
    conv => lhs; rw [← List.take_append_drop k nums]
    rw [List.filter_append, List.drop_eq_getElem_cons hn, getElem_getD hn, nums_get hk, List.filter_cons_of_pos (by simpa using hm)]
  rw [e]
  refine ⟨by simp, ?_⟩
  simp [List.getD_eq_getElem?_getD]
theorem met_bool (n : Nat) (l : List Int) : ∀ u, u ∈ (metG n l).toList → ∀ z, u ≠ .int .i64 z := fun u hu z e => by
  obtain ⟨j, hj, hju⟩ := List.getElem_of_mem hu
  have h1 : (metG n l)[j]? = some u := by rw [← Array.getElem?_toList, List.getElem?_eq_getElem hj, hju]
  have hj2 : j < n := by have := Array.length_toList (xs := metG n l); rw [metG_size] at this; omega
  rw [metG_get _ _ hj2] at h1
  rw [e] at h1
  cases h1
theorem len_ans {cs : List Int} (h : Good cs) : lenA cs = (((srt cs).length : Int), 0) := by unfold lenA; rw [if_neg (by rw [chk_of_good h]; simp)]
theorem mk61 (W : World) : (Instr.makeSlice 28 (.int .i64 61) (.int .i64 61)).run Try.prog W = .ok (.slice (some ⟨W.heap.size, 0, none⟩) 61 61) (W.alloc (.cells (metG 61 []) 4)) := by
  obtain ⟨i0, hi, hz0, hz1, hz2⟩ := info_parts info4
  have h := run_makeSlice (P := Try.prog) W 28 4 i0 (.bool false) Try.underlying28 hi hz0 .i64 .i64 61 61 (by omega) (by omega) (by rw [hz1]; decide) (by rw [hz2]; decide) (by omega)
  rw [hz1] at h
  have e : ∀ n : Nat, madeCells (Value.bool false).cells (n * 1) = metG n [] := fun n => by
    rw [← metG_nil]
    apply Array.toList_inj.1
    rw [show (Value.bool false).cells = #[.bool false] from rfl, toList_madeCells_one, Nat.mul_one, Array.toList_replicate]
  have e2 : madeCells (Value.bool false).cells ((61 : Int).toNat * 1) = metG 61 [] := e 61
  rw [e2] at h
  exact h
end Ytjkphacidpongaa
end Go.Proofs
