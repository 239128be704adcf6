/- Cases and sets among the arguments: opened, and read again behind the call. -/
import Derived.Test.YtjkphacidpongaaGreatG01
import Derived.Test.YtjkphacidpongaaGreatG13
namespace Go.Proofs
namespace YtjkphacidpongaaGreat
open Go.ChangeShapes Go.WideShapes Go.ChangeAt Go.RowKit Go.Deep
set_option maxRecDepth 100000

theorem cellsCfg : Tryz.prog.cellsOf 23 = 5 := by kernel_rfl
theorem cellsSets : Tryz.prog.cellsOf 24 = 1 := by kernel_rfl
theorem cellsRm : Tryz.prog.cellsOf 29 = 2 := by kernel_rfl
theorem cellsCase : Tryz.prog.cellsOf 31 = 7 := by kernel_rfl
section
variable {H : Type} {enc : TypeId × Value → H}
/-- read again behind a call -/
def Back (enc : TypeId × Value → H) (w : World) (t : TypeId) (cs : List Value) (d : DataW H) (p : List MemPlace) : Prop :=
  ∀ W : World, Below w.heap.size w W → ∀ sp : Nat → Bool, (∀ q ∈ p, sp q.block = true) → ∃ n, DataW.trod enc Tryz.prog W 0 sp true n t cs = some (d, p)
theorem open_set_c {w : World} {fuel : Nat} {cs : List Value} {d : DataW H} {p : List MemPlace} (h : DataW.trod enc Tryz.prog w 0 (fun _ => true) true fuel 27 cs = some (d, p)) :
    ∃ (u : Value) (zs : List Int), cs = [u] ∧ IAt w u zs ∧ Back enc w 27 cs d p := by
  obtain ⟨y0, n, hx, hl, h0⟩ := trod_struct1 Tryz.underlying27 h
  rw [cells24] at hl
  match cs, hl with
  | [u], _ =>
    replace h0 : DataW.trod enc Tryz.prog w 0 (fun _ => true) true n 25 [u] = some y0 := by simpa [cells22] using h0
    obtain ⟨d0, p0⟩ := y0
    obtain ⟨zs, h1, h2, h3, h4⟩ := open_ints h0
    simp only [Prod.mk.injEq] at hx
    obtain ⟨rfl, rfl⟩ := hx
    refine ⟨u, zs, rfl, h1, fun W hb sp hsp => ?_⟩
    obtain ⟨n2, hn2⟩ := h4 W hb sp hsp
    rw [h3] at hn2
    exact ⟨n2 + 1, trod_struct1_mk (cs := [u]) (y0 := (d0, p)) Tryz.underlying27 cells24.symm (by simpa [cells22] using hn2)⟩
theorem open_sets_c {w : World} {fuel : Nat} {v : Value} {d : DataW H} {p : List MemPlace} (hf : DataW.trod enc Tryz.prog w 0 (fun _ => true) true fuel 24 [v] = some (d, p)) :
    ∃ (n : Nat) (a : Option Addr) (cap : Nat) (U : Nat → Value) (T : Nat → List Int), v = .slice a n cap ∧ (0 < n → ∃ b off, a = some ⟨b, off, none⟩ ∧ ∀ j, j < n → w.cell? ⟨b, off + j, none⟩ = some (U j)) ∧ (∀ j, j < n → IAt w (U j) (T j)) ∧ Back enc w 24 [v] d p := by
  rcases open_slice Tryz.underlying24 hf with ⟨h1, h2⟩ | ⟨a, len, cap, m, n, D, Pl, h1, _, hlc, hcm, hm, hx, hi⟩
  · simp only [List.cons.injEq, and_true] at h1
    subst h1
    simp only [Prod.mk.injEq] at h2
    obtain ⟨rfl, rfl⟩ := h2
    refine ⟨0, none, 0, fun _ => .slice none 0 0, fun _ => [], rfl, fun h => by omega, fun j hj => by omega, fun W _ sp _ => ?_⟩
    obtain ⟨n, hn⟩ := shut_slice_nil (enc := enc) (w := W) (base := 0) (spare := sp) (held := true) Tryz.underlying24
    exact ⟨n, by simpa [Value.cells] using hn⟩
  · simp only [List.cons.injEq, and_true] at h1
    subst h1
    simp only [if_true] at hm
    subst hm
    rw [cells24] at hx hi
    have hs : ∀ i, i < m → ∃ x : Value × List Int, w.cells? 0 (a.add (i * 1)) 1 = some [x.1] ∧ IAt w x.1 x.2 ∧ Back enc w 27 [x.1] (D i) (Pl i) := fun i hi' => by
      obtain ⟨cs', c1, c2⟩ := hi i hi'
      obtain ⟨u, zs, rfl, e1, e2⟩ := open_set_c c2
      exact ⟨(u, zs), c1, e1, e2⟩
    obtain ⟨f, hf'⟩ := choose_lt hs
    simp only [Prod.mk.injEq] at hx
    obtain ⟨rfl, rfl⟩ := hx
    refine ⟨len, some a, m, fun i => (f i).1, fun i => (f i).2, rfl, fun h0 => ?_, fun j hj => (hf' j (by omega)).2.1, fun W hb sp hsp => ?_⟩
    · have hc0 := (World.cells?_some (hf' 0 (by omega)).1).2.2 0 (by omega)
      have hc0 : w.cell? ((a.add (0 * 1)).add 0) = some (f 0).1 := hc0
      have hspot : a.spot = none := by
        obtain ⟨A, c, e, -⟩ := (hf' 0 (by omega)).2.1
        rcases a with ⟨ab, ao, asp⟩
        cases asp with
        | none => rfl
        | some k =>
          exfalso
          simp [World.cell?, Addr.add] at hc0
          split at hc0 <;> simp_all
      obtain ⟨ab, ao, asp⟩ := a
      simp only at hspot
      subst hspot
      refine ⟨ab, ao, rfl, fun j hj => ?_⟩
      obtain ⟨_, _, hc⟩ := World.cells?_some (hf' j (by omega)).1
      have h3 := hc 0 (by omega)
      have e : (((⟨ab, ao, none⟩ : Addr).add (j * 1)).add 0) = ⟨ab, ao + j, none⟩ := by rw [add_add]; simp [Addr.add]
      rw [e] at h3
      exact h3
    · have hel : ∀ i, i < m → ∃ cs n, W.cells? 0 (a.add (i * 1)) 1 = some cs ∧ DataW.trod enc Tryz.prog W 0 sp true n 27 cs = some (D i, Pl i) := fun i hi' => by
        obtain ⟨c1, c2, c3⟩ := hf' i hi'
        obtain ⟨n2, hn2⟩ := c3 W hb sp (fun q hq => hsp q (List.mem_append_right _ (List.mem_flatMap.2 ⟨i, List.mem_range.2 hi', hq⟩)))
        exact ⟨_, n2, cells_keep hb c1, hn2⟩
      cases hsa : sp a.block with
      | true =>
        have := shut_slice_whole_cells (enc := enc) (w := W) (base := 0) (held := true) Tryz.underlying24 (Nat.zero_le _) hlc hcm hsa D Pl (by rw [cells24]; exact hel)
        rw [cells24] at this
        exact this
      | false =>
        have h0 : m = 0 := by
          rcases Nat.eq_zero_or_pos m with h | h
          · exact h
          · have := hsp (.cell a.block (a.off + 0)) (List.mem_append_left _ (by unfold MemPlace.row; exact List.mem_map.2 ⟨0, by simp; omega, rfl⟩))
            rw [show (MemPlace.cell a.block (a.off + 0)).block = a.block from rfl, hsa] at this
            cases this
        subst h0
        obtain rfl : len = 0 := by omega
        have := shut_slice_cells (enc := enc) (w := W) (base := 0) (held := true) Tryz.underlying24 (Nat.zero_le _) hlc hcm hsa D Pl (fun i hi' => by omega)
        simpa using this
theorem open_rm_c {w : World} {fuel : Nat} {cs : List Value} {d : DataW H} {p : List MemPlace} (h : DataW.trod enc Tryz.prog w 0 (fun _ => true) true fuel 29 cs = some (d, p)) :
    ∃ (A nv : Value) (n : Nat) (U : Nat → Value) (T : Nat → List Int), cs = [A, nv] ∧ RS w A nv n U T ∧ Back enc w 29 cs d p := by
  obtain ⟨y0, y1, m, hx, hl, h0, h1⟩ := trod_struct2 Tryz.underlying29 h
  rw [cellsRm] at hl
  match cs, hl with
  | [v, u], _ =>
    replace h0 : DataW.trod enc Tryz.prog w 0 (fun _ => true) true m 24 [v] = some y0 := by simpa [cellsSets] using h0
    replace h1 : DataW.trod enc Tryz.prog w 0 (fun _ => true) true m 27 [u] = some y1 := by simpa [cells24] using h1
    obtain ⟨d0, p0⟩ := y0
    obtain ⟨d1, p1⟩ := y1
    obtain ⟨n, a, cap, U, T, rfl, e1, e2, e3⟩ := open_sets_c h0
    obtain ⟨u', zs, e, f1, f2⟩ := open_set_c h1
    simp only [List.cons.injEq, and_true] at e
    subst e
    simp only [Prod.mk.injEq] at hx
    obtain ⟨rfl, rfl⟩ := hx
    refine ⟨.slice a n cap, u, n, fun j => if j = n then u else U j, fun j => if j = n then zs else T j, rfl, ⟨⟨a, cap, rfl, fun h => ?_⟩, if_pos rfl, fun j hj => ?_⟩, fun W hb sp hsp => ?_⟩
    · obtain ⟨b, off, e, hc⟩ := e1 h
      exact ⟨b, off, e, fun j hj => by rw [if_neg (by omega)]; exact hc j hj⟩
    · by_cases hjn : j = n
      · simp only [if_pos hjn]; exact f1
      · simp only [if_neg hjn]; exact e2 j (by omega)
    · obtain ⟨n1, g1⟩ := e3 W hb sp (fun q hq => hsp q (List.mem_append_left _ hq))
      obtain ⟨n2, g2⟩ := f2 W hb sp (fun q hq => hsp q (List.mem_append_right _ hq))
      have g1 := DataW.trod_le (Nat.le_max_left n1 n2) g1
      have g2 := DataW.trod_le (Nat.le_max_right n1 n2) g2
      exact ⟨max n1 n2 + 1, trod_struct2_mk Tryz.underlying29 cellsRm.symm (y0 := (d0, p0)) (y1 := (d1, p1)) (by simpa [cellsSets] using g1) (by simpa [cells24] using g2)⟩
theorem open_cfg_c {w : World} {fuel : Nat} {cs : List Value} {d : DataW H} {p : List MemPlace} (h : DataW.trod enc Tryz.prog w 0 (fun _ => true) true fuel 23 cs = some (d, p)) :
    ∃ C N S K Q : Int, cs = [.int .i64 C, .int .i64 N, .int .i64 S, .int .i64 K, .int .i64 Q] ∧ Back enc w 23 cs d p := by
  obtain ⟨xs, n, _, hx, hl, hlen, hg⟩ := DataW.trod_struct Tryz.underlying23 h
  rw [cellsCfg] at hl
  match cs, hl with
  | [a0, a1, a2, a3, a4], _ =>
    match xs, hlen with
    | [y0, y1, y2, y3, y4], _ =>
      have h0 : DataW.trod enc Tryz.prog w 0 (fun _ => true) true n 3 [a0] = some y0 := by simpa [cells3] using hg 0 _ rfl
      have h1 : DataW.trod enc Tryz.prog w 0 (fun _ => true) true n 3 [a1] = some y1 := by simpa [cells3] using hg 1 _ rfl
      have h2 : DataW.trod enc Tryz.prog w 0 (fun _ => true) true n 3 [a2] = some y2 := by simpa [cells3] using hg 2 _ rfl
      have h3 : DataW.trod enc Tryz.prog w 0 (fun _ => true) true n 3 [a3] = some y3 := by simpa [cells3] using hg 3 _ rfl
      have h4 : DataW.trod enc Tryz.prog w 0 (fun _ => true) true n 3 [a4] = some y4 := by simpa [cells3] using hg 4 _ rfl
      obtain ⟨z0, e0, rfl, w0⟩ := DataW.trod_int Tryz.underlying3 h0
      obtain ⟨z1, e1, rfl, w1⟩ := DataW.trod_int Tryz.underlying3 h1
      obtain ⟨z2, e2, rfl, w2⟩ := DataW.trod_int Tryz.underlying3 h2
      obtain ⟨z3, e3, rfl, w3⟩ := DataW.trod_int Tryz.underlying3 h3
      obtain ⟨z4, e4, rfl, w4⟩ := DataW.trod_int Tryz.underlying3 h4
      simp only [List.cons.injEq, and_true] at e0 e1 e2 e3 e4
      subst e0 e1 e2 e3 e4
      simp only [Prod.mk.injEq] at hx
      obtain ⟨rfl, rfl⟩ := hx
      refine ⟨z0, z1, z2, z3, z4, rfl, fun W hb sp hsp => ⟨2, ?_⟩⟩
      have t := fun (z : Int) (hz : (Lit.int .i64 z).wf = true) => trod_int_mk (enc := enc) (P := Tryz.prog) (w := W) (base := 0) (spare := sp) (held := true) (t := 3) 0 Tryz.underlying3 hz
      have := trod_struct_mk (enc := enc) (P := Tryz.prog) (w := W) (base := 0) (spare := sp) (held := true) (t := 23) (n := 1) (cs := [.int .i64 z0, .int .i64 z1, .int .i64 z2, .int .i64 z3, .int .i64 z4]) (xs := [(.lit (.int .i64 z0), []), (.lit (.int .i64 z1), []), (.lit (.int .i64 z2), []), (.lit (.int .i64 z3), []), (.lit (.int .i64 z4), [])]) Tryz.underlying23 cellsCfg.symm (by
        simp [List.mapM_cons, cells3, t z0 w0, t z1 w1, t z2 w2, t z3 w3, t z4 w4])
      simpa using this
theorem open_case_c {w : World} {fuel : Nat} {cs : List Value} {d : DataW H} {p : List MemPlace} (h : DataW.trod enc Tryz.prog w 0 (fun _ => true) true fuel 31 cs = some (d, p)) :
    ∃ (C N S K Q : Int) (A nv : Value) (n : Nat) (U : Nat → Value) (T : Nat → List Int), cs = [.int .i64 C, .int .i64 N, .int .i64 S, .int .i64 K, .int .i64 Q, A, nv] ∧ RS w A nv n U T ∧ Back enc w 31 cs d p := by
  obtain ⟨y0, y1, m, hx, hl, h0, h1⟩ := trod_struct2 Tryz.underlying31 h
  rw [cellsCase] at hl
  match cs, hl with
  | [a0, a1, a2, a3, a4, v, u], _ =>
    replace h0 : DataW.trod enc Tryz.prog w 0 (fun _ => true) true m 23 [a0, a1, a2, a3, a4] = some y0 := by simpa [cellsCfg] using h0
    replace h1 : DataW.trod enc Tryz.prog w 0 (fun _ => true) true m 29 [v, u] = some y1 := by simpa [cellsRm] using h1
    obtain ⟨d0, p0⟩ := y0
    obtain ⟨d1, p1⟩ := y1
    obtain ⟨C, N, S, K, Q, e, f0⟩ := open_cfg_c h0
    obtain ⟨A, nv, n, U, T, e2, f1, f2⟩ := open_rm_c h1
    simp only [List.cons.injEq, and_true] at e e2
    obtain ⟨rfl, rfl, rfl, rfl, rfl⟩ := e
    obtain ⟨rfl, rfl⟩ := e2
    simp only [Prod.mk.injEq] at hx
    obtain ⟨rfl, rfl⟩ := hx
    refine ⟨C, N, S, K, Q, v, u, n, U, T, rfl, f1, fun W hb sp hsp => ?_⟩
    obtain ⟨n1, g1⟩ := f0 W hb sp (fun q hq => hsp q (List.mem_append_left _ hq))
    obtain ⟨n2, g2⟩ := f2 W hb sp (fun q hq => hsp q (List.mem_append_right _ hq))
    have g1 := DataW.trod_le (Nat.le_max_left n1 n2) g1
    have g2 := DataW.trod_le (Nat.le_max_right n1 n2) g2
    exact ⟨max n1 n2 + 1, trod_struct2_mk Tryz.underlying31 cellsCase.symm (y0 := (d0, p0)) (y1 := (d1, p1)) (by simpa [cellsCfg] using g1) (by simpa [cellsRm] using g2)⟩
theorem open_case {w : World} {r : Reach} {b0 : Nat} {v : Value} {d : DataW H} {p : List MemPlace} (hv : Value.okWide Tryz.prog w r b0 31 v) (h : DataW.Trod enc Tryz.prog w 0 (fun _ => true) true 31 v d p) :
    ∃ (C N S K Q : Int) (A nv : Value) (n : Nat) (U : Nat → Value) (T : Nat → List Int), v = .agg #[.int .i64 C, .int .i64 N, .int .i64 S, .int .i64 K, .int .i64 Q, A, nv] ∧ RS w A nv n U T ∧
      ∀ W : World, Below w.heap.size w W → ∀ sp : Nat → Bool, (∀ q ∈ p, sp q.block = true) → DataW.Trod enc Tryz.prog W 0 sp true 31 v d p := by
  obtain ⟨cs, rfl, hsz⟩ := okWide_struct Tryz.underlying31 hv
  obtain ⟨l⟩ := cs
  obtain ⟨fuel, hf⟩ := h
  have hf : DataW.trod enc Tryz.prog w 0 (fun _ => true) true fuel 31 l = some (d, p) := by simpa [Value.cells] using hf
  obtain ⟨C, N, S, K, Q, A, nv, n, U, T, rfl, hR, back⟩ := open_case_c hf
  refine ⟨C, N, S, K, Q, A, nv, n, U, T, rfl, hR, fun W hb sp hsp => ?_⟩
  obtain ⟨n2, hn2⟩ := back W hb sp hsp
  exact ⟨n2, by simpa [Value.cells] using hn2⟩
end
end YtjkphacidpongaaGreat
end Go.Proofs
/- A pair of numbers among the arguments. -/
namespace Go.Proofs
namespace YtjkphacidpongaaGreat
open Go.ChangeShapes Go.WideShapes Go.ChangeAt Go.RowKit Go.Deep
set_option maxRecDepth 100000

theorem cellsPair : Tryz.prog.cellsOf 42 = 2 := by kernel_rfl
theorem underPair : Tryz.prog.underlying 42 = some (.array 2 3) := Tryz.underlying42
section
variable {H : Type} {enc : TypeId × Value → H} {w : World}
def pairD (a b : Int) : DataW H := .agg [.lit (.int .i64 a), .lit (.int .i64 b)]
theorem shut_pair {base : Nat} {sp : Nat → Bool} {hd : Bool} {a b : Int} (ha : (Lit.int .i64 a).wf = true) (hb : (Lit.int .i64 b).wf = true) : DataW.Trod enc Tryz.prog w base sp hd 42 (.agg #[.int .i64 a, .int .i64 b]) (pairD a b) [] := by
  have t := fun (z : Int) (hz : (Lit.int .i64 z).wf = true) => trod_int_mk (enc := enc) (P := Tryz.prog) (w := w) (base := base) (spare := sp) (held := hd) (t := 3) 0 Tryz.underlying3 hz
  have r2 : List.range 2 = [0, 1] := rfl
  refine ⟨2, ?_⟩
  unfold DataW.trod
  rw [underPair]
  simp [r2, cells3, cellsPair, t _ ha, t _ hb, pairD, Value.cells]
theorem open_pair {r : Reach} {b0 : Nat} {v : Value} {d : DataW H} {p : List MemPlace} (hv : Value.okWide Tryz.prog w r b0 42 v) (h : DataW.Trod enc Tryz.prog w 0 (fun _ => true) true 42 v d p) :
    ∃ a b : Int, v = .agg #[.int .i64 a, .int .i64 b] ∧ d = pairD a b ∧ p = [] ∧ (Lit.int .i64 a).wf = true ∧ (Lit.int .i64 b).wf = true := by
  simp only [Value.okWide, underPair] at hv
  obtain ⟨cs, rfl, hc, _⟩ := hv
  rw [cellsPair] at hc
  obtain ⟨l⟩ := cs
  match l, hc with
  | [c0, c1], _ =>
    obtain ⟨fuel, hf⟩ := h
    match fuel, hf with
    | m + 1, hf =>
      have r2 : List.range 2 = [0, 1] := rfl
      rw [DataW.trod.eq_def] at hf
      simp [r2, cells3, Value.cells] at hf
      have hx := hf.2
      match h0 : DataW.trod enc Tryz.prog w 0 (fun _ => true) true m 3 [c0], h1 : DataW.trod enc Tryz.prog w 0 (fun _ => true) true m 3 [c1] with
      | none, _ => simp [h0] at hx
      | some y0, none => simp [h0, h1] at hx
      | some y0, some y1 =>
        simp [h0, h1] at hx
        obtain ⟨z0, e0, rfl, w0⟩ := DataW.trod_int Tryz.underlying3 h0
        obtain ⟨z1, e1, rfl, w1⟩ := DataW.trod_int Tryz.underlying3 h1
        simp only [List.cons.injEq, and_true] at e0 e1
        subst e0 e1
        exact ⟨z0, z1, rfl, hx.1.symm, by simpa using hx.2, w0, w1⟩
end
end YtjkphacidpongaaGreat
end Go.Proofs
