/- Play, as the program has it: the walk. -/
import Derived.Test.YteeghjhkfaeflaaG03
import Derived.WalkKit
import Derived.ProofKit
import Derived.OpenShut
import Derived.Deep.Slices
import Derived.Below
import Derived.ChangeSame
namespace Go.Proofs
namespace Yteeghjhkfaeflaa
open Go.RowKit

/-- the cells of a list of operations -/
def oc (ops : List AOp) : List Value := ops.flatMap fun o => (opC o).toList
theorem oc_length (ops : List AOp) : (oc ops).length = ops.length * 5 := by
  induction ops with
  | nil => rfl
  | cons o r ih => simp only [oc, List.flatMap_cons, List.length_append, List.length_cons] at *; rw [ih]; simp [opC]; omega
theorem oc_get (ops : List AOp) (k j : Nat) (hk : k < ops.length) (hj : j < 5) : (oc ops)[k * 5 + j]? = (opC ops[k])[j]? := by
  induction ops generalizing k with
  | nil => simp at hk
  | cons o r ih =>
    cases k with
    | zero =>
      simp only [oc, List.flatMap_cons, Nat.zero_mul, Nat.zero_add, List.getElem_cons_zero]
      rw [List.getElem?_append_left (by simp [opC]; omega)]
      simp
    | succ k =>
      simp only [oc, List.flatMap_cons, List.getElem_cons_succ]
      rw [List.getElem?_append_right (by simp [opC]; omega)]
      have := ih k (by simpa using hk)
      rw [← this]
      simp only [oc]
      congr 1
      simp [opC]
      omega
/-- v is a slice whose cells are the operations ops -/
def OAt (W : World) (v : Value) (ops : List AOp) : Prop := ∃ A cap, v = .slice A ops.length cap ∧ (0 < ops.length → ∃ b off, A = some ⟨b, off, none⟩ ∧ ∀ j u, (oc ops)[j]? = some u → W.cell? ⟨b, off + j, none⟩ = some u)
theorem OAt.below {W W' : World} {v : Value} {ops : List AOp} (h : OAt W v ops) (hb : Below W.heap.size W W') : OAt W' v ops := by
  obtain ⟨A, cap, rfl, h⟩ := h
  exact ⟨A, cap, rfl, fun h0 => let ⟨b, off, hA, hc⟩ := h h0; ⟨b, off, hA, fun j u hu => (hb.cell (cell_lt (hc j u hu))).trans (hc j u hu)⟩⟩
theorem goF_step {k : Nat} {s : ASt} {o : AOp} {r : List AOp} (h : (stepF s o).1 = 0) : goF k s (o :: r) = goF (k + 1) (stepF s o).2 r := by rw [goF, if_pos h]
theorem goF_err {k : Nat} {s : ASt} {o : AOp} {r : List AOp} (h : (stepF s o).1 ≠ 0) : goF k s (o :: r) = AAns.err k (stepF s o).1 := by rw [goF, if_neg h]
/-- which of the four methods an operation calls -/
theorem kind_cases (s : ASt) (o : AOp) : (o.kind = 1 ∨ o.kind = 2 ∨ o.kind = 3 ∨ o.kind = 4) ∨ (¬ (o.kind = 1 ∨ o.kind = 2 ∨ o.kind = 3 ∨ o.kind = 4) ∧ stepF s o = (2, s)) := by
  by_cases h : o.kind = 1 ∨ o.kind = 2 ∨ o.kind = 3 ∨ o.kind = 4
  · exact .inl h
  · refine .inr ⟨h, ?_⟩
    simp only [not_or] at h
    unfold stepF
    rw [if_neg h.1, if_neg h.2.1, if_neg h.2.2.1, if_neg h.2.2.2]
theorem step_code {s : ASt} {o : AOp} (h : o.kind = 1 ∨ o.kind = 2 ∨ o.kind = 3 ∨ o.kind = 4) : (stepF s o).1 = 0 ∨ (stepF s o).1 = 7 := by
  unfold stepF
  rcases h with h | h | h | h
  · rw [if_pos h]; split <;> simp
  · rw [if_neg (by omega), if_pos h]; split <;> simp
  · rw [if_neg (by omega), if_neg (by omega), if_pos h]; split <;> simp
  · rw [if_neg (by omega), if_neg (by omega), if_neg (by omega), if_pos h]; split <;> simp

/-- the method at an operation's kind, called -/
theorem meth (H : Nat) (s : ASt) (o : AOp) (W : World) (hP : PSt H W s) (hk : o.kind = 1 ∨ o.kind = 2 ∨ o.kind = 3 ∨ o.kind = 4) (hsz : H + 4 ≤ W.heap.size) (hlen : s.ws.length ≤ 1601) (hr : 0 ≤ s.r ∧ s.r ≤ 1000000000) (hw : 0 ≤ s.w ∧ s.w ≤ 1000000000) (hg : s.got.length ≤ 1000000) :
    ∃ f, Instr.findNow (.int .i64) (.int .i64 o.kind) (mth ⟨H + 2, 0, none⟩).toList 0 = some (some (o.kind.toNat - 1, .func (.func f) #[.pointer (some ⟨H + 2, 0, none⟩)] #[])) ∧
      Calls Try.prog f #[.pointer (some ⟨H + 2, 0, none⟩), opV o] W fun e W' => e = .returned (.bool (decide ((stepF s o).1 = 0))) ∧ Kp H W W' ∧ PSt H W' (stepF s o).2 := by
  rcases hk with h | h | h | h
  · exact ⟨91, by rw [h]; rfl, get70 H s o W hP h hsz hlen hr hg⟩
  · exact ⟨92, by rw [h]; rfl, set71 H s o W hP h hsz hlen hw⟩
  · exact ⟨93, by rw [h]; rfl, copy72 H s o W hP h hsz hlen hw hr⟩
  · exact ⟨94, by rw [h]; rfl, clear73 H s o W hP h hsz hlen hw⟩
theorem no_meth (p : Addr) (k : Int) (h : ¬ (k = 1 ∨ k = 2 ∨ k = 3 ∨ k = 4)) : Instr.findNow (.int .i64) (.int .i64 k) (mth p).toList 0 = some none := by
  simp only [not_or] at h
  have e1 : (k == 1) = false := by simpa using h.1
  have e2 : (k == 2) = false := by simpa using h.2.1
  have e3 : (k == 3) = false := by simpa using h.2.2.1
  have e4 : (k == 4) = false := by simpa using h.2.2.2
  simp [mth, Instr.findNow, Instr.sameNow, e1, e2, e3, e4]
/-- what Play answers, said in memory -/
def PAns (w : World) (R : AAns) (e : Ending) (w' : World) : Prop := ∃ v1 v2, e = .returned (.tuple #[v1, v2, .agg #[.int .i64 R.r, .int .i64 R.w], .int .i64 R.at_, .int .i64 R.e]) ∧
  w'.ownsRow w.heap.size 58 1 v1 R.ws.length (wc R.ws) ∧ w'.ownsRow w.heap.size 58 1 v2 R.got.length (wc R.got) ∧ Below w.heap.size w w'
theorem mk25 (n : Nat) (hn : n ≤ 1601) (W : World) : (Instr.makeSlice 22 (.int .i64 n) (.int .i64 n)).run Try.prog W = .ok (.slice (some ⟨W.heap.size, 0, none⟩) n n) (W.alloc (.cells (wc (List.replicate n 0)).toArray 58)) := by
  obtain ⟨i0, hi, hz0, hz1, hz2⟩ := info_parts info25
  have h := run_makeSlice (P := Try.prog) W 22 58 i0 (.int .u64 0) Try.underlying22 hi hz0 .i64 .i64 n n (by omega) (by omega) (by rw [hz1]; simp; omega) (by rw [hz2]; omega) (by omega)
  rw [hz1, Int.toNat_natCast] at h
  have e : (madeCells (Value.int .u64 0).cells (n * 1)).toList = wc (List.replicate n 0) := by
    rw [show (Value.int .u64 0).cells = #[.int .u64 0] from rfl, toList_madeCells_one, Nat.mul_one]; unfold wc; rw [List.map_replicate]
  have e' : madeCells (Value.int .u64 0).cells (n * 1) = (wc (List.replicate n 0)).toArray := by rw [← e, Array.toArray_toList]
  rw [e'] at h
  exact h
/-- the words of an argument copied to a new row of as many -/
theorem copy_all {W : World} {g n cap : Nat} {A : Option Addr} {ws : List Int} {cur : List Int} (h : W.heap[g]? = some (.cells (wc cur).toArray 58 (0, 0))) (hl : cur.length = ws.length) (hn : n = ws.length) (hv : WAt W (.slice A n cap) ws) (h1 : 0 < ws.length) :
    ∃ W', (Builtin.copy_ #[22, 22] 3 #[.slice (some ⟨g, 0, none⟩) n n, .slice A n cap]).run Try.prog W = .ok (.int .i64 n) W' ∧ W'.heap[g]? = some (.cells (wc ws).toArray 58 (0, 0)) ∧ W.grownBy W' (some g) ∧ W'.heap.size = W.heap.size := by
  subst hn
  obtain ⟨A', cap', e, hA⟩ := hv
  obtain ⟨b, off, rfl, hc⟩ := hA h1
  simp only [Value.slice.injEq] at e
  obtain ⟨rfl, _, rfl⟩ := e
  have hr := run_copy_row (P := Try.prog) W 22 22 3 58 g 0 ws.length ws.length ⟨b, off, none⟩ ws.length cap (wc cur).toArray 58 (wc ws) Try.underlying22 size25 h (by rw [wc_length]; exact (Nat.min_self _).symm)
    (fun j v hj => by
      have e : (⟨b, off, none⟩ : Addr).add j = ⟨b, off + j, none⟩ := by simp [Addr.add]
      rw [e]; exact hc j v hj)
    (by simp [wc_length, hl]) (fun u hu => by simp only [wc, List.mem_map] at hu; obtain ⟨z, _, rfl⟩ := hu; rfl)
  rw [wc_length] at hr
  refine ⟨_, hr, ?_, grown_row _ _ _, by simp⟩
  have := setRow_heap W g (wc cur).toArray ((wc cur).toArray.toList.take 0 ++ wc ws ++ (wc cur).toArray.toList.drop (0 + ws.length)).toArray 58 (0, 0) h
  rw [this]
  have hd : (wc cur).drop ws.length = [] := List.drop_of_length_le (by rw [wc_length, hl]; exact Nat.le_refl _)
  simp [hd]

set_option maxRecDepth 100000 in
set_option maxHeartbeats 2000000 in
theorem play42_go (v lv : Value) (ws : List Int) (ops : List AOp) (w : World) (hv : WAt w v ws) (hl : OAt w lv ops) (hc : chkF ws = 0) (h500 : ops.length ≤ 500) :
    Calls Try.prog 72 #[v, lv] w fun e w' => PAns w (playF ws ops) e w' := by
  have hlen : 1 ≤ ws.length ∧ ws.length ≤ 1601 := by
    apply Classical.byContradiction
    intro hn
    rw [chk_long (by omega)] at hc
    cases hc
  have C14 := check41 v ws (w.alloc (.cells #[.int .i64 0, .int .i64 0] 106)) (hv.below (alloc_below w _)) (by omega)
  rw [hc] at C14
  have C := Lib.hid C14
  have HC := Lib.hid hc
  have HV := Lib.hid hv
  have HL := Lib.hid hl
  obtain ⟨A, cap, rfl, -⟩ := hv
  obtain ⟨A2, cap2, rfl, -⟩ := hl
  have q5 : decide ((500 : Int) < (ops.length : Int)) = false := decide_eq_false (by omega)
  have hl1 := hlen.1
  have hl2 := hlen.2
  have hmk := mk25 ws.length hlen.2
  clear C14 hc
  go_enter Try.func72, Try.ntmps72
  go_upto_region 7 with (first
    | (go_at_call 69; refine C.out.mono ?_; rintro e w' ⟨rfl, rfl⟩))
  rw [show w.heap.size + 1 + 1 = w.heap.size + 2 from rfl]
  have b1 := alloc_below w (.cells #[.int .i64 0, .int .i64 0] 106)
  have b2 := alloc_below (w.alloc (.cells #[.int .i64 0, .int .i64 0] 106)) (.cells (wc (List.replicate ws.length 0)).toArray 58)
  have b3 := alloc_below ((w.alloc (.cells #[.int .i64 0, .int .i64 0] 106)).alloc (.cells (wc (List.replicate ws.length 0)).toArray 58)) (.cells #[.slice (some ⟨w.heap.size + 1, 0, none⟩) ws.length ws.length, .slice none 0 0, .int .i64 0, .int .i64 0] 122)
  have n0 := keep_heap b3 (keep_heap b2 (heap_alloc_new w (.cells #[.int .i64 0, .int .i64 0] 106)))
  have n1 := keep_heap b3 (heap_alloc_new (w.alloc (.cells #[.int .i64 0, .int .i64 0] 106)) (.cells (wc (List.replicate ws.length 0)).toArray 58))
  have n2 := heap_alloc_new ((w.alloc (.cells #[.int .i64 0, .int .i64 0] 106)).alloc (.cells (wc (List.replicate ws.length 0)).toArray 58)) (.cells #[.slice (some ⟨w.heap.size + 1, 0, none⟩) ws.length ws.length, .slice none 0 0, .int .i64 0, .int .i64 0] 122)
  have bb := below_end (below_end b1 b2) b3
  have hz : (((w.alloc (.cells #[.int .i64 0, .int .i64 0] 106)).alloc (.cells (wc (List.replicate ws.length 0)).toArray 58)).alloc (.cells #[.slice (some ⟨w.heap.size + 1, 0, none⟩) ws.length ws.length, .slice none 0 0, .int .i64 0, .int .i64 0] 122)).heap.size = w.heap.size + 3 := by simp
  generalize (((w.alloc (.cells #[.int .i64 0, .int .i64 0] 106)).alloc (.cells (wc (List.replicate ws.length 0)).toArray 58)).alloc (.cells #[.slice (some ⟨w.heap.size + 1, 0, none⟩) ws.length ws.length, .slice none 0 0, .int .i64 0, .int .i64 0] 122)) = W2 at *
  simp only [World.size_alloc] at n1 n2
  rw [show w.heap.size + 1 + 1 = w.heap.size + 2 from rfl] at n2
  obtain ⟨W3, hcp, h3, g3, s3⟩ := copy_all n1 (by simp) rfl (HV.out.below bb) (by omega)
  have m0 := (g3.block _ (by omega) (by simp)).trans n0
  have m2 := (g3.block _ (by omega) (by simp)).trans n2
  have bb3 : Below w.heap.size w W3 := bb.grown g3 (by omega) (fun k hk => by cases hk; omega)
  have k0 := cell_of_row _ _ 0 _ _ _ n2
  simp only [List.getElem?_toArray, List.getElem?_cons_zero] at k0
  have hs3 : W3.heap.size = w.heap.size + 3 := by omega
  have P3 : PSt w.heap.size W3 ⟨ws, [], 0, 0⟩ := ⟨⟨_, m2, World.ownsRow_nil _ _ _ _⟩, h3⟩
  have M0 := Lib.hid m0
  have BB3 := Lib.hid bb3
  have PP3 := Lib.hid P3
  have HS3 := Lib.hid hs3
  clear n0 n1 n2 m0 m2 bb bb3 h3 g3 b1 b2 b3 P3 hmk
  go_upto_region 9 with (first
    | (go_at_call 85; refine (kinds60 ⟨w.heap.size + 2, 0, none⟩ _).mono ?_; rintro e W4 ⟨rfl, hb4, hs4, c4, hm4⟩))
  have cnt4 := Lib.hid (keep_heap hb4 M0.out)
  have P4 := Lib.hid (PP3.out.below hb4)
  have B4 := Lib.hid (BB3.out.trans (hb4.mono (by omega)))
  rw [hs3] at hm4 hs4
  have MP4 := Lib.hid hm4
  have HO : Hid (0 < ops.length → ∃ b off, A2 = some ⟨b, off, none⟩ ∧ ∀ j u, (oc ops)[j]? = some u → w.cell? ⟨b, off + j, none⟩ = some u) := Lib.hid (by
    obtain ⟨A', cap', e, hA⟩ := HL.out
    simp only [Value.slice.injEq] at e
    obtain ⟨rfl, _, _⟩ := e
    exact hA)
  have ST := Lib.hid (show playF ws ops = goF 0 ⟨ws, [], 0, 0⟩ (ops.drop 0) by unfold playF; rw [HC.out, if_neg (by simp), if_neg (by omega), List.drop_zero])
  clear hm4 hb4 hs3 hcp k0
  go_wp2
  go_loopw [37] (fun i wr => ∃ (k : Nat) (s : ASt), k ≤ ops.length ∧ i = .int .i64 k ∧ Hid (PSt w.heap.size wr s) ∧ Hid (wr.heap[w.heap.size]? = some (.cells #[.int .i64 0, .int .i64 0] 106 (0, 0))) ∧ Hid (wr.heap[w.heap.size + 3]? = some (.map (mth ⟨w.heap.size + 2, 0, none⟩) c4)) ∧ Hid (Below w.heap.size w wr) ∧
      w.heap.size + 4 ≤ wr.heap.size ∧ Hid (playF ws ops = goF k s (ops.drop k)) ∧ Hid (s.ws.length = ws.length ∧ 0 ≤ s.r ∧ s.r ≤ 1601 * k ∧ 0 ≤ s.w ∧ s.w ≤ 1601 * k ∧ s.got.length ≤ k)) (fun i _ => ops.length - (intOf i).toNat)
  case atStart => exact ⟨0, ⟨ws, [], 0, 0⟩, by omega, rfl, P4, cnt4, MP4, B4, by omega, ST, Lib.hid ⟨rfl, by simp⟩⟩
  case round =>
    obtain ⟨k, s, hk, rfl, hP, hcn, hmp, hB, hsz, hpl, hbd⟩ := hrel
    by_cases hlt : k < ops.length
    · obtain ⟨b, off, rfl, hoc⟩ := HO.out (by omega)
      have hlt' : (k : Int) < (ops.length : Int) := by omega
      have dr := Lib.hid (List.drop_eq_getElem_cons hlt)
      have hcl : ∀ j u, j < 5 → (opC ops[k])[j]? = some u → wr.cell? ⟨b, off + k * 5 + j, none⟩ = some u := fun j u hj hu => by
        have h1 := hoc (k * 5 + j) u (by rw [oc_get ops k j hlt hj]; exact hu)
        rw [← Nat.add_assoc] at h1
        exact (hB.out.cell (p := ⟨b, _, none⟩) (cell_lt h1)).trans h1
      obtain ⟨o, ho⟩ : ∃ o, ops[k] = o := ⟨_, rfl⟩
      rw [ho] at hcl dr
      have HOK := Lib.hid ho
      clear ho hoc
      obtain ⟨kd, a, bb, n, val⟩ := o
      have d0 := hcl 0 (.int .i64 kd) (by omega) rfl
      have d1 := hcl 1 (.int .i64 a) (by omega) rfl
      have d2 := hcl 2 (.int .i64 bb) (by omega) rfl
      have d3 := hcl 3 (.int .i64 n) (by omega) rfl
      have d4 := hcl 4 (.int .u64 val) (by omega) rfl
      rw [Nat.add_zero] at d0
      clear hcl
      go_upto_region 12 with (fail)
      have nb := heap_alloc_new wr (.cells #[.int .i64 kd, .int .i64 a, .int .i64 bb, .int .i64 n, .int .u64 val] 110)
      have vb := Lib.hid (alloc_below wr (.cells #[.int .i64 kd, .int .i64 a, .int .i64 bb, .int .i64 n, .int .u64 val] 110))
      clear d0 d1 d2 d3 d4
      generalize wr.alloc (.cells #[.int .i64 kd, .int .i64 a, .int .i64 bb, .int .i64 n, .int .u64 val] 110) = V at *
      have hPV := Lib.hid (hP.out.below vb.out)
      have hcV := Lib.hid (keep_heap vb.out hcn.out)
      have hmV := Lib.hid (keep_heap vb.out hmp.out)
      have hBV := Lib.hid (hB.out.trans (vb.out.mono (by omega)))
      have hsV : w.heap.size + 4 ≤ V.heap.size := by have := vb.out.size; omega
      have d0 := cell_of_row _ _ 0 _ _ _ nb
      have d1 := cell_of_row _ _ 1 _ _ _ nb
      have d2 := cell_of_row _ _ 2 _ _ _ nb
      have d3 := cell_of_row _ _ 3 _ _ _ nb
      have d4 := cell_of_row _ _ 4 _ _ _ nb
      simp only [List.getElem?_toArray, List.getElem?_cons_zero, List.getElem?_cons_succ] at d0 d1 d2 d3 d4
      have NB := Lib.hid nb
      have HSZ := Lib.hid hsz
      clear nb hP hcn hmp hB hsz
      rcases kind_cases s ⟨kd, a, bb, n, val⟩ with hkd | ⟨hno, hst⟩
      rotate_left
      · have hlk := look68 hmV.out kd none (no_meth _ _ hno)
        simp only [Option.isSome_none] at hlk
        have R := Lib.hid (show playF ws ops = AAns.err k 2 by rw [hpl.out, dr.out, goF_err (by rw [hst]; exact (by decide : (2 : Int) ≠ 0)), hst])
        have z0 := cell_of_row _ _ 0 _ _ _ hcV.out
        have z1 := cell_of_row _ _ 1 _ _ _ hcV.out
        have y0 := frozen_of_row _ _ 0 _ _ hcV.out
        have y1 := frozen_of_row _ _ 1 _ _ hcV.out
        simp only [List.getElem?_toArray, List.getElem?_cons_zero, List.getElem?_cons_succ] at z0 z1
        clear hno hst
        go_wp2
        refine bodyPost_ret (v := .tuple #[.slice none 0 0, .slice none 0 0, .agg #[.int .i64 0, .int .i64 0], .int .i64 k, .int .i64 2]) (by simp [results, Try.f72, go_sem, z0, z1]) rfl ⟨_, _, by rw [R.out]; rfl, by rw [R.out]; exact World.ownsRow_nil _ _ _ _, by rw [R.out]; exact World.ownsRow_nil _ _ _ _, ?_⟩
        exact (Below.setCell (p := ⟨w.heap.size, 1, none⟩) (Below.setCell (p := ⟨w.heap.size, 0, none⟩) hBV.out (Nat.le_refl _) _) (Nat.le_refl _) _)
      have hbd' := hbd.out
      rcases hkd with hkd | hkd | hkd | hkd
      · obtain rfl : kd = 1 := hkd
        have hlk := look68 hmV.out 1 (some (0, .func (.func 91) #[.pointer (some ⟨w.heap.size + 2, 0, none⟩)] #[])) rfl
        simp only [Option.isSome_some] at hlk
        have M := get70 w.heap.size s ⟨1, a, bb, n, val⟩ V hPV.out rfl hsV (by omega) ⟨by omega, by omega⟩ (by omega)
        unfold opV opC at M
        dsimp only at M
        have hc7 := step_code (s := s) (o := ⟨1, a, bb, n, val⟩) (by simp)
        have hcnt := step_counts s ⟨1, a, bb, n, val⟩ (by omega)
        have hsl := step_length s ⟨1, a, bb, n, val⟩
        have hgs : (stepF s ⟨1, a, bb, n, val⟩).1 = 0 → playF ws ops = goF (k + 1) (stepF s ⟨1, a, bb, n, val⟩).2 (ops.drop (k + 1)) := fun h => by rw [hpl.out, dr.out, goF_step h]
        have hge : (stepF s ⟨1, a, bb, n, val⟩).1 = 7 → playF ws ops = AAns.err k 7 := fun h => by rw [hpl.out, dr.out, goF_err (by rw [h]; decide), h]
        have HGS := Lib.hid hgs
        have HGE := Lib.hid hge
        have HCN := Lib.hid (And.intro hcnt hsl)
        clear hgs hge hcnt hsl hbd'
        generalize stepF s ⟨1, a, bb, n, val⟩ = SF at *
        obtain ⟨cd, s'⟩ := SF
        dsimp only at M hc7
        rcases hc7 with rfl | rfl
        · have MH := Lib.hid M
          have HR := Lib.hid (HGS.out rfl)
          clear M HGS HGE
          go_wp2_with (go_at_call 91; refine MH.out.mono ?_; rintro e W5 ⟨rfl, hk5, hp5⟩)
          have hb := hbd.out
          have hc := HCN.out
          refine ⟨⟨k + 1, s', by omega, by simp, Lib.hid hp5, Lib.hid ((hk5.low.block _ (by omega)).trans hcV.out), Lib.hid (hk5.map.trans hmV.out), Lib.hid (hBV.out.trans (hk5.low.mono (by omega))), by have := hk5.low.size; omega, HR, Lib.hid (by omega)⟩, ?_⟩
          show ops.length - ((k : Int) + 1).toNat < ops.length - ((k : Int)).toNat
          omega
        · have MH := Lib.hid M
          have R := Lib.hid (HGE.out rfl)
          clear M HGS HGE
          go_wp2_with (go_at_call 91; refine MH.out.mono ?_; rintro e W5 ⟨rfl, hk5, hp5⟩; have c5 := (hk5.low.block _ (by omega)).trans hcV.out; have B5 := hBV.out.trans (hk5.low.mono (by omega)); have z0 := cell_of_row _ _ 0 _ _ _ c5; have z1 := cell_of_row _ _ 1 _ _ _ c5; have y0 := frozen_of_row _ _ 0 _ _ c5; have y1 := frozen_of_row _ _ 1 _ _ c5; simp only [List.getElem?_toArray, List.getElem?_cons_zero, List.getElem?_cons_succ] at z0 z1; clear c5)
          refine bodyPost_ret (v := .tuple #[.slice none 0 0, .slice none 0 0, .agg #[.int .i64 0, .int .i64 0], .int .i64 k, .int .i64 7]) (by simp [results, Try.f72, go_sem, z0, z1]) rfl ⟨_, _, by rw [R.out]; rfl, by rw [R.out]; exact World.ownsRow_nil _ _ _ _, by rw [R.out]; exact World.ownsRow_nil _ _ _ _, ?_⟩
          exact (Below.setCell (p := ⟨w.heap.size, 1, none⟩) (Below.setCell (p := ⟨w.heap.size, 0, none⟩) B5 (Nat.le_refl _) _) (Nat.le_refl _) _)
      · obtain rfl : kd = 2 := hkd
        have hlk := look68 hmV.out 2 (some (1, .func (.func 92) #[.pointer (some ⟨w.heap.size + 2, 0, none⟩)] #[])) rfl
        simp only [Option.isSome_some] at hlk
        have M := set71 w.heap.size s ⟨2, a, bb, n, val⟩ V hPV.out rfl hsV (by omega) ⟨by omega, by omega⟩
        unfold opV opC at M
        dsimp only at M
        have hc7 := step_code (s := s) (o := ⟨2, a, bb, n, val⟩) (by simp)
        have hcnt := step_counts s ⟨2, a, bb, n, val⟩ (by omega)
        have hsl := step_length s ⟨2, a, bb, n, val⟩
        have hgs : (stepF s ⟨2, a, bb, n, val⟩).1 = 0 → playF ws ops = goF (k + 1) (stepF s ⟨2, a, bb, n, val⟩).2 (ops.drop (k + 1)) := fun h => by rw [hpl.out, dr.out, goF_step h]
        have hge : (stepF s ⟨2, a, bb, n, val⟩).1 = 7 → playF ws ops = AAns.err k 7 := fun h => by rw [hpl.out, dr.out, goF_err (by rw [h]; decide), h]
        have HGS := Lib.hid hgs
        have HGE := Lib.hid hge
        have HCN := Lib.hid (And.intro hcnt hsl)
        clear hgs hge hcnt hsl hbd'
        generalize stepF s ⟨2, a, bb, n, val⟩ = SF at *
        obtain ⟨cd, s'⟩ := SF
        dsimp only at M hc7
        rcases hc7 with rfl | rfl
        · have MH := Lib.hid M
          have HR := Lib.hid (HGS.out rfl)
          clear M HGS HGE
          go_wp2_with (go_at_call 92; refine MH.out.mono ?_; rintro e W5 ⟨rfl, hk5, hp5⟩)
          have hb := hbd.out
          have hc := HCN.out
          refine ⟨⟨k + 1, s', by omega, by simp, Lib.hid hp5, Lib.hid ((hk5.low.block _ (by omega)).trans hcV.out), Lib.hid (hk5.map.trans hmV.out), Lib.hid (hBV.out.trans (hk5.low.mono (by omega))), by have := hk5.low.size; omega, HR, Lib.hid (by omega)⟩, ?_⟩
          show ops.length - ((k : Int) + 1).toNat < ops.length - ((k : Int)).toNat
          omega
        · have MH := Lib.hid M
          have R := Lib.hid (HGE.out rfl)
          clear M HGS HGE
          go_wp2_with (go_at_call 92; refine MH.out.mono ?_; rintro e W5 ⟨rfl, hk5, hp5⟩; have c5 := (hk5.low.block _ (by omega)).trans hcV.out; have B5 := hBV.out.trans (hk5.low.mono (by omega)); have z0 := cell_of_row _ _ 0 _ _ _ c5; have z1 := cell_of_row _ _ 1 _ _ _ c5; have y0 := frozen_of_row _ _ 0 _ _ c5; have y1 := frozen_of_row _ _ 1 _ _ c5; simp only [List.getElem?_toArray, List.getElem?_cons_zero, List.getElem?_cons_succ] at z0 z1; clear c5)
          refine bodyPost_ret (v := .tuple #[.slice none 0 0, .slice none 0 0, .agg #[.int .i64 0, .int .i64 0], .int .i64 k, .int .i64 7]) (by simp [results, Try.f72, go_sem, z0, z1]) rfl ⟨_, _, by rw [R.out]; rfl, by rw [R.out]; exact World.ownsRow_nil _ _ _ _, by rw [R.out]; exact World.ownsRow_nil _ _ _ _, ?_⟩
          exact (Below.setCell (p := ⟨w.heap.size, 1, none⟩) (Below.setCell (p := ⟨w.heap.size, 0, none⟩) B5 (Nat.le_refl _) _) (Nat.le_refl _) _)
      · obtain rfl : kd = 3 := hkd
        have hlk := look68 hmV.out 3 (some (2, .func (.func 93) #[.pointer (some ⟨w.heap.size + 2, 0, none⟩)] #[])) rfl
        simp only [Option.isSome_some] at hlk
        have M := copy72 w.heap.size s ⟨3, a, bb, n, val⟩ V hPV.out rfl hsV (by omega) ⟨by omega, by omega⟩ ⟨by omega, by omega⟩
        unfold opV opC at M
        dsimp only at M
        have hc7 := step_code (s := s) (o := ⟨3, a, bb, n, val⟩) (by simp)
        have hcnt := step_counts s ⟨3, a, bb, n, val⟩ (by omega)
        have hsl := step_length s ⟨3, a, bb, n, val⟩
        have hgs : (stepF s ⟨3, a, bb, n, val⟩).1 = 0 → playF ws ops = goF (k + 1) (stepF s ⟨3, a, bb, n, val⟩).2 (ops.drop (k + 1)) := fun h => by rw [hpl.out, dr.out, goF_step h]
        have hge : (stepF s ⟨3, a, bb, n, val⟩).1 = 7 → playF ws ops = AAns.err k 7 := fun h => by rw [hpl.out, dr.out, goF_err (by rw [h]; decide), h]
        have HGS := Lib.hid hgs
        have HGE := Lib.hid hge
        have HCN := Lib.hid (And.intro hcnt hsl)
        clear hgs hge hcnt hsl hbd'
        generalize stepF s ⟨3, a, bb, n, val⟩ = SF at *
        obtain ⟨cd, s'⟩ := SF
        dsimp only at M hc7
        rcases hc7 with rfl | rfl
        · have MH := Lib.hid M
          have HR := Lib.hid (HGS.out rfl)
          clear M HGS HGE
          go_wp2_with (go_at_call 93; refine MH.out.mono ?_; rintro e W5 ⟨rfl, hk5, hp5⟩)
          have hb := hbd.out
          have hc := HCN.out
          refine ⟨⟨k + 1, s', by omega, by simp, Lib.hid hp5, Lib.hid ((hk5.low.block _ (by omega)).trans hcV.out), Lib.hid (hk5.map.trans hmV.out), Lib.hid (hBV.out.trans (hk5.low.mono (by omega))), by have := hk5.low.size; omega, HR, Lib.hid (by omega)⟩, ?_⟩
          show ops.length - ((k : Int) + 1).toNat < ops.length - ((k : Int)).toNat
          omega
        · have MH := Lib.hid M
          have R := Lib.hid (HGE.out rfl)
          clear M HGS HGE
          go_wp2_with (go_at_call 93; refine MH.out.mono ?_; rintro e W5 ⟨rfl, hk5, hp5⟩; have c5 := (hk5.low.block _ (by omega)).trans hcV.out; have B5 := hBV.out.trans (hk5.low.mono (by omega)); have z0 := cell_of_row _ _ 0 _ _ _ c5; have z1 := cell_of_row _ _ 1 _ _ _ c5; have y0 := frozen_of_row _ _ 0 _ _ c5; have y1 := frozen_of_row _ _ 1 _ _ c5; simp only [List.getElem?_toArray, List.getElem?_cons_zero, List.getElem?_cons_succ] at z0 z1; clear c5)
          refine bodyPost_ret (v := .tuple #[.slice none 0 0, .slice none 0 0, .agg #[.int .i64 0, .int .i64 0], .int .i64 k, .int .i64 7]) (by simp [results, Try.f72, go_sem, z0, z1]) rfl ⟨_, _, by rw [R.out]; rfl, by rw [R.out]; exact World.ownsRow_nil _ _ _ _, by rw [R.out]; exact World.ownsRow_nil _ _ _ _, ?_⟩
          exact (Below.setCell (p := ⟨w.heap.size, 1, none⟩) (Below.setCell (p := ⟨w.heap.size, 0, none⟩) B5 (Nat.le_refl _) _) (Nat.le_refl _) _)
      · obtain rfl : kd = 4 := hkd
        have hlk := look68 hmV.out 4 (some (3, .func (.func 94) #[.pointer (some ⟨w.heap.size + 2, 0, none⟩)] #[])) rfl
        simp only [Option.isSome_some] at hlk
        have M := clear73 w.heap.size s ⟨4, a, bb, n, val⟩ V hPV.out rfl hsV (by omega) ⟨by omega, by omega⟩
        unfold opV opC at M
        dsimp only at M
        have hc7 := step_code (s := s) (o := ⟨4, a, bb, n, val⟩) (by simp)
        have hcnt := step_counts s ⟨4, a, bb, n, val⟩ (by omega)
        have hsl := step_length s ⟨4, a, bb, n, val⟩
        have hgs : (stepF s ⟨4, a, bb, n, val⟩).1 = 0 → playF ws ops = goF (k + 1) (stepF s ⟨4, a, bb, n, val⟩).2 (ops.drop (k + 1)) := fun h => by rw [hpl.out, dr.out, goF_step h]
        have hge : (stepF s ⟨4, a, bb, n, val⟩).1 = 7 → playF ws ops = AAns.err k 7 := fun h => by rw [hpl.out, dr.out, goF_err (by rw [h]; decide), h]
        have HGS := Lib.hid hgs
        have HGE := Lib.hid hge
        have HCN := Lib.hid (And.intro hcnt hsl)
        clear hgs hge hcnt hsl hbd'
        generalize stepF s ⟨4, a, bb, n, val⟩ = SF at *
        obtain ⟨cd, s'⟩ := SF
        dsimp only at M hc7
        rcases hc7 with rfl | rfl
        · have MH := Lib.hid M
          have HR := Lib.hid (HGS.out rfl)
          clear M HGS HGE
          go_wp2_with (go_at_call 94; refine MH.out.mono ?_; rintro e W5 ⟨rfl, hk5, hp5⟩)
          have hb := hbd.out
          have hc := HCN.out
          refine ⟨⟨k + 1, s', by omega, by simp, Lib.hid hp5, Lib.hid ((hk5.low.block _ (by omega)).trans hcV.out), Lib.hid (hk5.map.trans hmV.out), Lib.hid (hBV.out.trans (hk5.low.mono (by omega))), by have := hk5.low.size; omega, HR, Lib.hid (by omega)⟩, ?_⟩
          show ops.length - ((k : Int) + 1).toNat < ops.length - ((k : Int)).toNat
          omega
        · have MH := Lib.hid M
          have R := Lib.hid (HGE.out rfl)
          clear M HGS HGE
          go_wp2_with (go_at_call 94; refine MH.out.mono ?_; rintro e W5 ⟨rfl, hk5, hp5⟩; have c5 := (hk5.low.block _ (by omega)).trans hcV.out; have B5 := hBV.out.trans (hk5.low.mono (by omega)); have z0 := cell_of_row _ _ 0 _ _ _ c5; have z1 := cell_of_row _ _ 1 _ _ _ c5; have y0 := frozen_of_row _ _ 0 _ _ c5; have y1 := frozen_of_row _ _ 1 _ _ c5; simp only [List.getElem?_toArray, List.getElem?_cons_zero, List.getElem?_cons_succ] at z0 z1; clear c5)
          refine bodyPost_ret (v := .tuple #[.slice none 0 0, .slice none 0 0, .agg #[.int .i64 0, .int .i64 0], .int .i64 k, .int .i64 7]) (by simp [results, Try.f72, go_sem, z0, z1]) rfl ⟨_, _, by rw [R.out]; rfl, by rw [R.out]; exact World.ownsRow_nil _ _ _ _, by rw [R.out]; exact World.ownsRow_nil _ _ _ _, ?_⟩
          exact (Below.setCell (p := ⟨w.heap.size, 1, none⟩) (Below.setCell (p := ⟨w.heap.size, 0, none⟩) B5 (Nat.le_refl _) _) (Nat.le_refl _) _)
    · have ek : k = ops.length := by omega
      subst ek
      obtain ⟨⟨gv, p1, p2⟩, p3⟩ := hP.out
      have P1 := Lib.hid p1
      have P2 := Lib.hid p2
      have P3 := Lib.hid p3
      have R := Lib.hid (show playF ws ops = ⟨s.ws, s.got, s.r, s.w, 0, 0⟩ by rw [hpl.out, List.drop_length, goF])
      have k0 := cell_of_row _ _ 0 _ _ _ p1
      have k1 := cell_of_row _ _ 1 _ _ _ p1
      have k2 := cell_of_row _ _ 2 _ _ _ p1
      have k3 := cell_of_row _ _ 3 _ _ _ p1
      have z0 := cell_of_row _ _ 0 _ _ _ hcn.out
      have z1 := cell_of_row _ _ 1 _ _ _ hcn.out
      have y0 := frozen_of_row _ _ 0 _ _ hcn.out
      have y1 := frozen_of_row _ _ 1 _ _ hcn.out
      simp only [List.getElem?_toArray, List.getElem?_cons_zero, List.getElem?_cons_succ] at k0 k1 k2 k3 z0 z1
      clear p1 p2 p3
      go_wp2
      have KA := Lib.hid (And.intro k0 (And.intro k1 (And.intro k2 k3)))
      have kb : ∀ x y : Value, ((wr.setCell ⟨w.heap.size, 0, none⟩ x).setCell ⟨w.heap.size, 1, none⟩ y).cell? ⟨w.heap.size + 2, 0, none⟩ = some (.slice (some ⟨w.heap.size + 1, 0, none⟩) s.ws.length s.ws.length) ∧ ((wr.setCell ⟨w.heap.size, 0, none⟩ x).setCell ⟨w.heap.size, 1, none⟩ y).cell? ⟨w.heap.size + 2, 1, none⟩ = some gv ∧
          ((wr.setCell ⟨w.heap.size, 0, none⟩ x).setCell ⟨w.heap.size, 1, none⟩ y).cell? ⟨w.heap.size + 2, 2, none⟩ = some (.int .i64 s.r) ∧ ((wr.setCell ⟨w.heap.size, 0, none⟩ x).setCell ⟨w.heap.size, 1, none⟩ y).cell? ⟨w.heap.size + 2, 3, none⟩ = some (.int .i64 s.w) := fun x y => by
        have e1 := set_far (b := w.heap.size) (i := 1) y (by omega) (set_far (b := w.heap.size) (i := 0) x (by omega) P1.out)
        have q0 := cell_of_row _ _ 0 _ _ _ e1
        have q1 := cell_of_row _ _ 1 _ _ _ e1
        have q2 := cell_of_row _ _ 2 _ _ _ e1
        have q3 := cell_of_row _ _ 3 _ _ _ e1
        simp only [List.getElem?_toArray, List.getElem?_cons_zero, List.getElem?_cons_succ] at q0 q1 q2 q3
        exact ⟨q0, q1, q2, q3⟩
      have KB := Lib.hid kb
      clear kb
      go_region_held3 (fun w' => w'.cell? ⟨w.heap.size + 2, 0, none⟩ = some (.slice (some ⟨w.heap.size + 1, 0, none⟩) s.ws.length s.ws.length) ∧ w'.cell? ⟨w.heap.size + 2, 1, none⟩ = some gv ∧ w'.cell? ⟨w.heap.size + 2, 2, none⟩ = some (.int .i64 s.r) ∧ w'.cell? ⟨w.heap.size + 2, 3, none⟩ = some (.int .i64 s.w))
        (first | exact KA.out | exact KB.out _ _) (fail)
      all_goals
        have r0 := set_row (set_row hcn.out 0 (.int .i64 s.r)) 1 (.int .i64 s.w)
        simp only [List.setIfInBounds_toArray, List.set_cons_succ, List.set_cons_zero] at r0
        have Z0 := Lib.hid (show ((wr.setCell ⟨w.heap.size, 0, none⟩ (.int .i64 s.r)).setCell ⟨w.heap.size, 1, none⟩ (.int .i64 s.w)).drew.heap[w.heap.size]? = _ from r0)
        have Z2 := Lib.hid (show ((wr.setCell ⟨w.heap.size, 0, none⟩ (.int .i64 s.r)).setCell ⟨w.heap.size, 1, none⟩ (.int .i64 s.w)).drew.heap[w.heap.size + 1]? = _ from set_far (b := w.heap.size) (i := 1) (.int .i64 s.w) (by omega) (set_far (b := w.heap.size) (i := 0) (.int .i64 s.r) (by omega) P3.out))
        have Z3 := Lib.hid (show ((wr.setCell ⟨w.heap.size, 0, none⟩ (.int .i64 s.r)).setCell ⟨w.heap.size, 1, none⟩ (.int .i64 s.w)).drew.ownsRow (w.heap.size + 4) 58 1 gv s.got.length (wc s.got) from own_set (own_set P2.out w.heap.size 0 (.int .i64 s.r) (by omega)) w.heap.size 1 (.int .i64 s.w) (by omega))
        have Z4 := Lib.hid (show Below w.heap.size w ((wr.setCell ⟨w.heap.size, 0, none⟩ (.int .i64 s.r)).setCell ⟨w.heap.size, 1, none⟩ (.int .i64 s.w)).drew from below_drewN (Below.setCell (p := ⟨w.heap.size, 1, none⟩) (Below.setCell (p := ⟨w.heap.size, 0, none⟩) hB.out (Nat.le_refl _) _) (Nat.le_refl _) _) 1)
        clear r0 k0 k1 k2 k3 z0 z1 y0 y1 KA KB
        generalize ((wr.setCell ⟨w.heap.size, 0, none⟩ (.int .i64 s.r)).setCell ⟨w.heap.size, 1, none⟩ (.int .i64 s.w)).drew = W6 at *
        have z0 := cell_of_row _ _ 0 _ _ _ Z0.out
        have z1 := cell_of_row _ _ 1 _ _ _ Z0.out
        simp only [List.getElem?_toArray, List.getElem?_cons_zero, List.getElem?_cons_succ] at z0 z1
        go_wp2
        have hl6 := hbd.out.1
        refine bodyPost_ret (v := .tuple #[.slice (some ⟨w.heap.size + 1, 0, none⟩) s.ws.length s.ws.length, gv, .agg #[.int .i64 s.r, .int .i64 s.w], .int .i64 0, .int .i64 0]) (by simp [results, Try.f72, go_sem, z0, z1]) rfl ⟨_, _, by rw [R.out], ?_, ?_, ?_⟩
        · rw [R.out]
          exact ⟨by rw [wc_length, Nat.mul_one], .inr ⟨w.heap.size + 1, s.ws.length, _, rfl, by omega, Z2.out, Nat.le_refl _, by unfold maxLen; omega, by simp [wc_length], by rw [Nat.mul_one]; exact List.take_of_length_le (show (wc s.ws).length ≤ s.ws.length by rw [wc_length]; exact Nat.le_refl _)⟩⟩
        · rw [R.out]
          refine ⟨Z3.out.1, ?_⟩
          rcases Z3.out.2 with h | ⟨g, cap, cur, h1, h2, h3⟩
          · exact .inl h
          · exact .inr ⟨g, cap, cur, h1, by omega, h3⟩
        · exact Z4.out
theorem err_ans {w w' : World} {i e : Int} (hb : Below w.heap.size w w') : PAns w (AAns.err i e) (.returned (.tuple #[.slice none 0 0, .slice none 0 0, .agg #[.int .i64 0, .int .i64 0], .int .i64 i, .int .i64 e])) w' :=
  ⟨_, _, rfl, World.ownsRow_nil _ _ _ _, World.ownsRow_nil _ _ _ _, hb⟩
set_option maxRecDepth 100000 in
set_option maxHeartbeats 1000000 in
theorem play42_bad (v lv : Value) (ws : List Int) (ops : List AOp) (w : World) (hv : WAt w v ws) (hl : OAt w lv ops) (hm : ws.length ≤ 9223372036854775807) (hc : chkF ws ≠ 0) :
    Calls Try.prog 72 #[v, lv] w fun e w' => PAns w (playF ws ops) e w' := by
  have R := Lib.hid (show playF ws ops = AAns.err 0 (chkF ws) by unfold playF; rw [if_pos hc])
  have C := Lib.hid (check41 v ws (w.alloc (.cells #[.int .i64 0, .int .i64 0] 106)) (hv.below (alloc_below w _)) hm)
  obtain ⟨A, cap, rfl, -⟩ := hv
  obtain ⟨A2, cap2, rfl, -⟩ := hl
  have q : (chkF ws != 0) = true := by simpa using hc
  have hn := heap_alloc_new w (.cells #[.int .i64 0, .int .i64 0] 106)
  have hb := Lib.hid (alloc_below w (.cells #[.int .i64 0, .int .i64 0] 106))
  have z0 := cell_of_row _ _ 0 _ _ _ hn
  have z1 := cell_of_row _ _ 1 _ _ _ hn
  have y0 := frozen_of_row _ _ 0 _ _ hn
  have y1 := frozen_of_row _ _ 1 _ _ hn
  simp only [List.getElem?_toArray, List.getElem?_cons_zero, List.getElem?_cons_succ] at z0 z1
  clear hc hn
  generalize chkF ws = c at *
  go_enter Try.func72, Try.ntmps72
  go_upto_region 1 with (fail)
  generalize w.alloc (.cells #[.int .i64 0, .int .i64 0] 106) = W1 at *
  go_wp2_with (go_at_call 69; refine C.out.mono ?_; rintro e w' ⟨rfl, rfl⟩)
  refine bodyPost_ret (v := .tuple #[.slice none 0 0, .slice none 0 0, .agg #[.int .i64 0, .int .i64 0], .int .i64 0, .int .i64 c]) (by simp [results, Try.f72, go_sem, z0, z1]) rfl ?_
  rw [R.out]
  exact err_ans (Below.setCell (p := ⟨w.heap.size, 1, none⟩) (Below.setCell (p := ⟨w.heap.size, 0, none⟩) hb.out (Nat.le_refl _) _) (Nat.le_refl _) _)
set_option maxRecDepth 100000 in
set_option maxHeartbeats 1000000 in
theorem play42_long (v lv : Value) (ws : List Int) (ops : List AOp) (w : World) (hv : WAt w v ws) (hl : OAt w lv ops) (hm : ws.length ≤ 9223372036854775807) (hm2 : ops.length ≤ 9223372036854775807) (hc : chkF ws = 0) (h500 : 500 < ops.length) :
    Calls Try.prog 72 #[v, lv] w fun e w' => PAns w (playF ws ops) e w' := by
  have R := Lib.hid (show playF ws ops = AAns.err (-1) 3 by unfold playF; rw [if_neg (by simp [hc]), if_pos h500])
  have C14 := check41 v ws (w.alloc (.cells #[.int .i64 0, .int .i64 0] 106)) (hv.below (alloc_below w _)) hm
  rw [hc] at C14
  have C := Lib.hid C14
  obtain ⟨A, cap, rfl, -⟩ := hv
  obtain ⟨A2, cap2, rfl, -⟩ := hl
  have q5 : decide ((500 : Int) < (ops.length : Int)) = true := decide_eq_true (by omega)
  have hn := heap_alloc_new w (.cells #[.int .i64 0, .int .i64 0] 106)
  have hb := Lib.hid (alloc_below w (.cells #[.int .i64 0, .int .i64 0] 106))
  have z0 := cell_of_row _ _ 0 _ _ _ hn
  have z1 := cell_of_row _ _ 1 _ _ _ hn
  have y0 := frozen_of_row _ _ 0 _ _ hn
  have y1 := frozen_of_row _ _ 1 _ _ hn
  simp only [List.getElem?_toArray, List.getElem?_cons_zero, List.getElem?_cons_succ] at z0 z1
  clear hc hn C14
  go_enter Try.func72, Try.ntmps72
  go_upto_region 1 with (fail)
  generalize w.alloc (.cells #[.int .i64 0, .int .i64 0] 106) = W1 at *
  go_wp2_with (go_at_call 69; refine C.out.mono ?_; rintro e w' ⟨rfl, rfl⟩)
  refine bodyPost_ret (v := .tuple #[.slice none 0 0, .slice none 0 0, .agg #[.int .i64 0, .int .i64 0], .int .i64 (-1), .int .i64 3]) (by simp [results, Try.f72, go_sem, z0, z1]) rfl ?_
  rw [R.out]
  exact err_ans (Below.setCell (p := ⟨w.heap.size, 1, none⟩) (Below.setCell (p := ⟨w.heap.size, 0, none⟩) hb.out (Nat.le_refl _) _) (Nat.le_refl _) _)
/-- Play, for every arena and every list of operations -/
theorem play42 (v lv : Value) (ws : List Int) (ops : List AOp) (w : World) (hv : WAt w v ws) (hl : OAt w lv ops) (hm : ws.length ≤ 9223372036854775807) (hm2 : ops.length ≤ 9223372036854775807) :
    Calls Try.prog 72 #[v, lv] w fun e w' => PAns w (playF ws ops) e w' := by
  by_cases hc : chkF ws = 0
  · by_cases h : 500 < ops.length
    · exact play42_long v lv ws ops w hv hl hm hm2 hc h
    · exact play42_go v lv ws ops w hv hl hc (by omega)
  · exact play42_bad v lv ws ops w hv hl hm hc
end Yteeghjhkfaeflaa
end Go.Proofs
/- Words and operations among the arguments: opened, and read again behind the call. -/
namespace Go.Proofs
namespace Yteeghjhkfaeflaa
open Go.ChangeShapes Go.WideShapes Go.RowKit Go.Deep
set_option maxRecDepth 100000

instance : Inhabited AOp := ⟨⟨0, 0, 0, 0, 0⟩⟩
theorem cellsOf25 : Try.prog.cellsOf 58 = 1 := by kernel_rfl
theorem cellsOf3 : Try.prog.cellsOf 3 = 1 := by kernel_rfl
theorem cellsOf56 : Try.prog.cellsOf 110 = 5 := by kernel_rfl
theorem cells_keep {w W : World} (hb : Below w.heap.size w W) {a : Addr} {n : Nat} {cs : List Value} (h : w.cells? 0 a n = some cs) : W.cells? 0 a n = some cs := by
  obtain ⟨_, hl, hc⟩ := World.cells?_some h
  have k : ∀ i, i < n → W.cell? (a.add i) = w.cell? (a.add i) := fun i hi => by
    have h1 := hc i hi
    have h2 : cs[i]? = some (cs[i]'(by omega)) := List.getElem?_eq_getElem (by omega)
    rw [h2] at h1
    exact hb.cell (cell_lt h1)
  rw [← h]
  unfold World.cells?
  have e : ∀ l : List Nat, (∀ i ∈ l, i < n) → l.mapM (fun i => W.cell? (a.add i)) = l.mapM (fun i => w.cell? (a.add i)) := by
    intro l
    induction l with
    | nil => intro _; rfl
    | cons i r ih =>
      intro hl
      rw [List.mapM_cons, List.mapM_cons, k i (hl i (by simp)), ih (fun j hj => hl j (by simp [hj]))]
  simp only [e (List.range n) (fun i hi => List.mem_range.1 hi)]
section
variable {H : Type} {enc : TypeId × Value → H}
/-- what an operation reads as -/
def opD (o : AOp) : DataW H := .agg [.lit (.int .i64 o.kind), .lit (.int .i64 o.src), .lit (.int .i64 o.dst), .lit (.int .i64 o.n), .lit (.int .u64 o.val)]
/-- its five numbers are numbers of their kinds -/
def opWf (o : AOp) : Prop := (Lit.int .i64 o.kind).wf = true ∧ (Lit.int .i64 o.src).wf = true ∧ (Lit.int .i64 o.dst).wf = true ∧ (Lit.int .i64 o.n).wf = true ∧ (Lit.int .u64 o.val).wf = true
theorem open_op {w : World} {base : Nat} {sp : Nat → Bool} {hd : Bool} {n : Nat} {cs : List Value} {x : DataW H × List MemPlace} (h : DataW.trod enc Try.prog w base sp hd n 110 cs = some x) :
    ∃ o : AOp, cs = (opC o).toList ∧ x = (opD o, []) ∧ opWf o := by
  obtain ⟨xs, m, _, hx, hl, hlen, hg⟩ := DataW.trod_struct Try.underlying110 h
  rw [cellsOf56] at hl
  match cs, hl with
  | [a0, a1, a2, a3, a4], _ =>
    match xs, hlen with
    | [y0, y1, y2, y3, y4], _ =>
      have h0 : DataW.trod enc Try.prog w base sp hd m 3 [a0] = some y0 := by simpa [cellsOf3] using hg 0 _ rfl
      have h1 : DataW.trod enc Try.prog w base sp hd m 3 [a1] = some y1 := by simpa [cellsOf3] using hg 1 _ rfl
      have h2 : DataW.trod enc Try.prog w base sp hd m 3 [a2] = some y2 := by simpa [cellsOf3] using hg 2 _ rfl
      have h3 : DataW.trod enc Try.prog w base sp hd m 3 [a3] = some y3 := by simpa [cellsOf3] using hg 3 _ rfl
      have h4 : DataW.trod enc Try.prog w base sp hd m 58 [a4] = some y4 := by simpa [cellsOf25] using hg 4 _ rfl
      obtain ⟨z0, e0, rfl, w0⟩ := DataW.trod_int Try.underlying3 h0
      obtain ⟨z1, e1, rfl, w1⟩ := DataW.trod_int Try.underlying3 h1
      obtain ⟨z2, e2, rfl, w2⟩ := DataW.trod_int Try.underlying3 h2
      obtain ⟨z3, e3, rfl, w3⟩ := DataW.trod_int Try.underlying3 h3
      obtain ⟨z4, e4, rfl, w4⟩ := DataW.trod_int Try.underlying58 h4
      simp only [List.cons.injEq, and_true] at e0 e1 e2 e3 e4
      subst e0 e1 e2 e3 e4
      exact ⟨⟨z0, z1, z2, z3, z4⟩, rfl, by simpa [opD] using hx, w0, w1, w2, w3, w4⟩
theorem shut_op {w : World} {base : Nat} {sp : Nat → Bool} {hd : Bool} (o : AOp) (h : opWf o) : DataW.trod enc Try.prog w base sp hd 2 110 (opC o).toList = some (opD o, []) := by
  have t := fun (z : Int) (hz : (Lit.int .i64 z).wf = true) => trod_int_mk (enc := enc) (P := Try.prog) (w := w) (base := base) (spare := sp) (held := hd) (t := 3) 0 Try.underlying3 hz
  have t5 := fun (z : Int) (hz : (Lit.int .u64 z).wf = true) => trod_int_mk (enc := enc) (P := Try.prog) (w := w) (base := base) (spare := sp) (held := hd) (t := 58) 0 Try.underlying58 hz
  obtain ⟨w0, w1, w2, w3, w4⟩ := h
  have := trod_struct_mk (enc := enc) (P := Try.prog) (w := w) (base := base) (spare := sp) (held := hd) (t := 110) (n := 1) (cs := (opC o).toList) (xs := [(.lit (.int .i64 o.kind), []), (.lit (.int .i64 o.src), []), (.lit (.int .i64 o.dst), []), (.lit (.int .i64 o.n), []), (.lit (.int .u64 o.val), [])]) Try.underlying110 cellsOf56.symm (by
    simp [List.mapM_cons, opC, cellsOf3, cellsOf25, t _ w0, t _ w1, t _ w2, t _ w3, t5 _ w4])
  simpa [opD] using this
/-- a slice of words -/
theorem open_words {w : World} {r : Reach} {b0 : Nat} {v : Value} {d : DataW H} {p : List MemPlace} (hv : Value.okWide Try.prog w r b0 22 v) (h : DataW.Trod enc Try.prog w 0 (fun _ => true) true 22 v d p) :
    ∃ zs : List Int, WAt w v zs ∧ (zs.length ≤ maxLen ∧ ∀ z ∈ zs, (Lit.int .u64 z).wf = true) ∧ (∀ A n c, v = .slice A n c → n ≤ c) ∧ ∀ W : World, Below w.heap.size w W → ∀ sp : Nat → Bool, (∀ q ∈ p, sp q.block = true) → DataW.Trod enc Try.prog W 0 sp true 22 v d p := by
  obtain ⟨a0, len0, cap0, rfl⟩ := okWide_slice Try.underlying22 hv
  obtain ⟨fuel, hf⟩ := h
  rcases open_slice Try.underlying22 hf with ⟨h1, h2⟩ | ⟨a, len, cap, m, n, D, Pl, h1, _, hlc, hcm, hm, hx, hi⟩
  · simp only [Value.cells, List.cons.injEq, and_true, Value.slice.injEq] at h1
    obtain ⟨rfl, rfl, rfl⟩ := h1
    simp only [Prod.mk.injEq] at h2
    obtain ⟨rfl, rfl⟩ := h2
    exact ⟨[], ⟨none, 0, rfl, fun h => by simp at h⟩, ⟨by simp, fun z hz => by simp at hz⟩, fun A n c e => by cases e; exact Nat.le_refl _, fun W _ sp _ => shut_slice_nil Try.underlying22⟩
  · simp only [Value.cells, List.cons.injEq, and_true, Value.slice.injEq] at h1
    obtain ⟨rfl, rfl, rfl⟩ := h1
    simp only [if_true] at hm
    subst hm
    rw [cellsOf25] at hx hi
    have hs : ∀ i, i < m → ∃ x : Int, w.cells? 0 (a.add (i * 1)) 1 = some [.int .u64 x] ∧ D i = .lit (.int .u64 x) ∧ Pl i = [] ∧ (Lit.int .u64 x).wf = true := fun i hi' => by
      obtain ⟨cs', c1, c2⟩ := hi i hi'
      obtain ⟨z, rfl, e, hw⟩ := DataW.trod_int Try.underlying58 c2
      simp only [Prod.mk.injEq] at e
      exact ⟨z, c1, e.1, e.2, hw⟩
    obtain ⟨f, hf'⟩ := choose_lt hs
    simp only [Prod.mk.injEq] at hx
    obtain ⟨rfl, rfl⟩ := hx
    refine ⟨(List.range len0).map fun i => f i, ⟨some a, m, by simp, fun h0 => ?_⟩, ⟨by simp; omega, fun z hz => by
      obtain ⟨i, hi', rfl⟩ := List.mem_map.1 hz
      exact (hf' i (by have := List.mem_range.1 hi'; omega)).2.2.2⟩, fun A n c e => by cases e; exact hlc, fun W hb sp hsp => ?_⟩
    · simp only [List.length_map, List.length_range] at h0
      have hc0 := (World.cells?_some (hf' 0 (by omega)).1).2.2 0 (by omega)
      have hspot : a.spot = none := by
        rcases a with ⟨ab, ao, asp⟩
        cases asp with
        | none => rfl
        | some k =>
          exfalso
          simp [World.cell?, Addr.add] at hc0
          split at hc0 <;> simp_all
      obtain ⟨ab, ao, asp⟩ := a
      simp only at hspot
      subst hspot
      refine ⟨ab, ao, rfl, fun j u hu => ?_⟩
      have hj : j < len0 := by
        have := (List.getElem?_eq_some_iff.1 hu).1
        rw [wc_length] at this
        simpa using this
      obtain ⟨_, _, hc⟩ := World.cells?_some (hf' j (by omega)).1
      have h3 := hc 0 (by omega)
      have e : (((⟨ab, ao, none⟩ : Addr).add (j * 1)).add 0) = ⟨ab, ao + j, none⟩ := by rw [add_add]; simp [Addr.add]
      rw [e] at h3
      rw [h3]
      rw [wc_get _ j (by simpa using hj)] at hu
      cases hu
      simp [List.getD_eq_getElem?_getD, hj]
    · have hel : ∀ i, i < m → ∃ cs n, W.cells? 0 (a.add (i * 1)) 1 = some cs ∧ DataW.trod enc Try.prog W 0 sp true n 58 cs = some (D i, Pl i) := fun i hi' => by
        obtain ⟨c1, c2, c3, c4⟩ := hf' i hi'
        exact ⟨_, 1, cells_keep hb c1, by rw [c2, c3]; exact trod_int_mk 0 Try.underlying58 c4⟩
      cases hsa : sp a.block with
      | true =>
        have := shut_slice_whole (enc := enc) (w := W) (base := 0) (held := true) Try.underlying22 (Nat.zero_le _) hlc hcm hsa D Pl (by rw [cellsOf25]; exact hel)
        rw [cellsOf25] at this
        exact this
      | false =>
        have h0 : m = 0 := by
          rcases Nat.eq_zero_or_pos m with h | h
          · exact h
          · have := hsp (.cell a.block (a.off + 0)) (List.mem_append_left _ (by unfold MemPlace.row; exact List.mem_map.2 ⟨0, by simp; omega, rfl⟩))
            rw [show (MemPlace.cell a.block (a.off + 0)).block = a.block from rfl, hsa] at this
            cases this
        subst h0
        obtain rfl : len0 = 0 := by omega
        have := shut_slice (enc := enc) (w := W) (base := 0) (held := true) Try.underlying22 (Nat.zero_le _) hlc hcm hsa D Pl (fun i hi' => by omega)
        simpa using this
/-- a slice of operations -/
theorem open_ops {w : World} {r : Reach} {b0 : Nat} {v : Value} {d : DataW H} {p : List MemPlace} (hv : Value.okWide Try.prog w r b0 111 v) (h : DataW.Trod enc Try.prog w 0 (fun _ => true) true 111 v d p) :
    ∃ ops : List AOp, OAt w v ops ∧ ops.length ≤ maxLen ∧ (∀ o ∈ ops, opWf o) ∧ (∀ A n c, v = .slice A n c → n ≤ c) ∧ ∀ W : World, Below w.heap.size w W → ∀ sp : Nat → Bool, (∀ q ∈ p, sp q.block = true) → DataW.Trod enc Try.prog W 0 sp true 111 v d p := by
  obtain ⟨a0, len0, cap0, rfl⟩ := okWide_slice Try.underlying111 hv
  obtain ⟨fuel, hf⟩ := h
  rcases open_slice Try.underlying111 hf with ⟨h1, h2⟩ | ⟨a, len, cap, m, n, D, Pl, h1, _, hlc, hcm, hm, hx, hi⟩
  · simp only [Value.cells, List.cons.injEq, and_true, Value.slice.injEq] at h1
    obtain ⟨rfl, rfl, rfl⟩ := h1
    simp only [Prod.mk.injEq] at h2
    obtain ⟨rfl, rfl⟩ := h2
    exact ⟨[], ⟨none, 0, rfl, fun h => by simp at h⟩, by simp, by simp, fun A n c e => by cases e; exact Nat.le_refl _, fun W _ sp _ => shut_slice_nil Try.underlying111⟩
  · simp only [Value.cells, List.cons.injEq, and_true, Value.slice.injEq] at h1
    obtain ⟨rfl, rfl, rfl⟩ := h1
    simp only [if_true] at hm
    subst hm
    rw [cellsOf56] at hx hi
    have hs : ∀ i, i < m → ∃ x : AOp, w.cells? 0 (a.add (i * 5)) 5 = some (opC x).toList ∧ D i = opD x ∧ Pl i = [] ∧ opWf x := fun i hi' => by
      obtain ⟨cs', c1, c2⟩ := hi i hi'
      obtain ⟨z, rfl, e, hw⟩ := open_op c2
      simp only [Prod.mk.injEq] at e
      exact ⟨z, c1, e.1, e.2, hw⟩
    obtain ⟨f, hf'⟩ := choose_lt hs
    simp only [Prod.mk.injEq] at hx
    obtain ⟨rfl, rfl⟩ := hx
    refine ⟨(List.range len0).map fun i => f i, ⟨some a, m, by simp, fun h0 => ?_⟩, by simp; omega, (fun o ho => by obtain ⟨i, hi2, rfl⟩ := List.mem_map.1 ho; have := List.mem_range.1 hi2; exact (hf' i (by omega)).2.2.2), fun A n c e => by cases e; exact hlc, fun W hb sp hsp => ?_⟩
    · simp only [List.length_map, List.length_range] at h0
      have hc0 := (World.cells?_some (hf' 0 (by omega)).1).2.2 0 (by omega)
      have hc0 : w.cell? ((a.add (0 * 5)).add 0) = some (.int .i64 (f 0).kind) := hc0
      have hspot : a.spot = none := by
        rcases a with ⟨ab, ao, asp⟩
        cases asp with
        | none => rfl
        | some k =>
          exfalso
          simp [World.cell?, Addr.add] at hc0
          split at hc0 <;> simp_all
      obtain ⟨ab, ao, asp⟩ := a
      simp only at hspot
      subst hspot
      refine ⟨ab, ao, rfl, fun j u hu => ?_⟩
      have hj : j < len0 * 5 := by
        have := (List.getElem?_eq_some_iff.1 hu).1
        rw [oc_length] at this
        simpa using this
      have hk : j / 5 < len0 := by omega
      obtain ⟨_, _, hc⟩ := World.cells?_some (hf' (j / 5) (by omega)).1
      have h3 := hc (j % 5) (by omega)
      have e : (((⟨ab, ao, none⟩ : Addr).add (j / 5 * 5)).add (j % 5)) = ⟨ab, ao + j, none⟩ := by rw [add_add, show j / 5 * 5 + j % 5 = j by omega]; simp [Addr.add]
      rw [e] at h3
      rw [h3]
      have h4 := oc_get ((List.range len0).map fun i => f i) (j / 5) (j % 5) (by simpa using hk) (by omega)
      rw [show j / 5 * 5 + j % 5 = j by omega, hu] at h4
      rw [h4]
      simp
    · have hel : ∀ i, i < m → ∃ cs n, W.cells? 0 (a.add (i * 5)) 5 = some cs ∧ DataW.trod enc Try.prog W 0 sp true n 110 cs = some (D i, Pl i) := fun i hi' => by
        obtain ⟨c1, c2, c3, c4⟩ := hf' i hi'
        exact ⟨_, 2, cells_keep hb c1, by rw [c2, c3]; exact shut_op _ c4⟩
      cases hsa : sp a.block with
      | true =>
        have := shut_slice_whole (enc := enc) (w := W) (base := 0) (held := true) Try.underlying111 (Nat.zero_le _) hlc hcm hsa D Pl (by rw [cellsOf56]; exact hel)
        rw [cellsOf56] at this
        exact this
      | false =>
        have h0 : m = 0 := by
          rcases Nat.eq_zero_or_pos m with h | h
          · exact h
          · have := hsp (.cell a.block (a.off + 0)) (List.mem_append_left _ (by unfold MemPlace.row; exact List.mem_map.2 ⟨0, by simp; omega, rfl⟩))
            rw [show (MemPlace.cell a.block (a.off + 0)).block = a.block from rfl, hsa] at this
            cases this
        subst h0
        obtain rfl : len0 = 0 := by omega
        have := shut_slice (enc := enc) (w := W) (base := 0) (held := true) Try.underlying111 (Nat.zero_le _) hlc hcm hsa D Pl (fun i hi' => by omega)
        simpa using this
end
end Yteeghjhkfaeflaa
end Go.Proofs
