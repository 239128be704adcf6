/- Shapes, their sizes and headers as plain functions on numbers; Check and Size, the program's and the reference's. -/
import Derived.Test.YteeghjhkfaeflaaProg
import Derived.WalkKit
import Derived.OwnWalk
import Derived.BigQuiet
import Derived.Deep.QuietTactic
import Derived.StillTailTactics
import Derived.Laws.BitsAllLaws
import Derived.Lib.Hide
import Derived.Below
import Derived.Outline
import Derived.Test.YteeghjhkfaeflaaRows
import Derived.ProofKit
import Derived.OpenShut
import Derived.ChangeSame
import Derived.Laws.IdiomArrays
namespace Go.Proofs
namespace Yteeghjhkfaeflaa
namespace Hd
open Go.RowKit

def SI (P : Int) : Prop := -9223372036854775808 ≤ P ∧ P ≤ 9223372036854775807
def chkV (P R : Int) : Int := if P < 0 ∨ R < 0 then 7 else if 63 < P + R then 11 else 0
def packV (P R : Int) : Int := 1 + 256 * P + 65536 * R
theorem chk_range {P R : Int} (h : P < 0 ∨ R < 0) : chkV P R = 7 := if_pos h
theorem chk_large {P R : Int} (h : ¬ (P < 0 ∨ R < 0)) (h2 : 63 < P + R) : chkV P R = 11 := by unfold chkV; rw [if_neg h, if_pos h2]
theorem chk_ok {P R : Int} (h : ¬ (P < 0 ∨ R < 0)) (h2 : ¬ 63 < P + R) : chkV P R = 0 := by unfold chkV; rw [if_neg h, if_neg h2]
theorem chk_zero {P R : Int} : chkV P R = 0 ↔ 0 ≤ P ∧ 0 ≤ R ∧ P + R ≤ 63 := by
  unfold chkV
  constructor
  · intro h; split at h
    · omega
    · split at h <;> omega
  · intro h; rw [if_neg (by omega), if_neg (by omega)]
theorem alloc_below (w : World) (o : Obj) : Below w.heap.size w (w.alloc o) := (Below.refl _ _).alloc (Nat.le_refl _) _
theorem below_end {w W W' : World} (hB : Below w.heap.size w W) (h : Below W.heap.size W W') : Below w.heap.size w W' := hB.trans (h.mono hB.size)

set_option maxRecDepth 100000 in
theorem check58 (P R : Int) (hP : SI P) (hR : SI R) (w : World) :
    Calls Try.prog 83 #[.agg #[.int .i64 P, .int .i64 R]] w fun e w' => e = .returned (.int .i64 (chkV P R)) ∧ Below w.heap.size w w' := by
  obtain ⟨p0, p1⟩ := hP
  obtain ⟨r0, r1⟩ := hR
  by_cases h1 : P < 0
  · have q1 : decide (P < 0) = true := decide_eq_true h1
    have T := Lib.hid (chk_range (P := P) (R := R) (.inl h1))
    go_enter Try.func83, Try.ntmps83
    go_wp2
    go_ret
    exact ⟨by rw [T.out]; rfl, alloc_below _ _⟩
  · have q1 : decide (P < 0) = false := decide_eq_false h1
    by_cases h2 : R < 0
    · have q2 : decide (R < 0) = true := decide_eq_true h2
      have T := Lib.hid (chk_range (P := P) (R := R) (.inr h2))
      go_enter Try.func83, Try.ntmps83
      go_wp2
      go_ret
      exact ⟨by rw [T.out]; rfl, alloc_below _ _⟩
    · have q2 : decide (R < 0) = false := decide_eq_false h2
      by_cases h3 : 63 < P + R
      · have q3 : decide (63 - P < R) = true := decide_eq_true (by omega)
        have T := Lib.hid (chk_large (P := P) (R := R) (by omega) h3)
        go_enter Try.func83, Try.ntmps83
        go_wp2
        go_ret
        exact ⟨by rw [T.out]; rfl, alloc_below _ _⟩
      · have q3 : decide (63 - P < R) = false := decide_eq_false (by omega)
        have T := Lib.hid (chk_ok (P := P) (R := R) (by omega) h3)
        go_enter Try.func83, Try.ntmps83
        go_wp2
        go_ret
        exact ⟨by rw [T.out]; rfl, alloc_below _ _⟩
set_option maxRecDepth 100000 in
theorem check44 (P R : Int) (hP : SI P) (hR : SI R) (w : World) :
    Calls Try.prog 53 #[.agg #[.int .i64 P, .int .i64 R]] w fun e w' => e = .returned (.int .i64 (chkV P R)) ∧ Below w.heap.size w w' := by
  obtain ⟨p0, p1⟩ := hP
  obtain ⟨r0, r1⟩ := hR
  by_cases h1 : P < 0
  · have q1 : decide (P < 0) = true := decide_eq_true h1
    have T := Lib.hid (chk_range (P := P) (R := R) (.inl h1))
    go_enter Try.func53, Try.ntmps53
    go_wp2
    go_ret
    exact ⟨by rw [T.out]; rfl, alloc_below _ _⟩
  · have q1 : decide (P < 0) = false := decide_eq_false h1
    by_cases h2 : R < 0
    · have q2 : decide (R < 0) = true := decide_eq_true h2
      have T := Lib.hid (chk_range (P := P) (R := R) (.inr h2))
      go_enter Try.func53, Try.ntmps53
      go_wp2
      go_ret
      exact ⟨by rw [T.out]; rfl, alloc_below _ _⟩
    · have q2 : decide (R < 0) = false := decide_eq_false h2
      by_cases h3 : 63 < P + R
      · have T := Lib.hid (chk_large (P := P) (R := R) (by omega) h3)
        by_cases h4 : 64 < P
        · have q4 : decide (64 < P) = true := decide_eq_true h4
          go_enter Try.func53, Try.ntmps53
          go_wp2
          go_ret
          exact ⟨by rw [T.out]; rfl, alloc_below _ _⟩
        · have q4 : decide (64 < P) = false := decide_eq_false h4
          by_cases h5 : 64 < R
          · have q5 : decide (64 < R) = true := decide_eq_true h5
            go_enter Try.func53, Try.ntmps53
            go_wp2
            go_ret
            exact ⟨by rw [T.out]; rfl, alloc_below _ _⟩
          · have q5 : decide (64 < R) = false := decide_eq_false h5
            have q3 : decide (64 < 1 + P + R) = true := decide_eq_true (by omega)
            go_enter Try.func53, Try.ntmps53
            go_wp2
            go_ret
            exact ⟨by rw [T.out]; rfl, alloc_below _ _⟩
      · have T := Lib.hid (chk_ok (P := P) (R := R) (by omega) h3)
        have q4 : decide (64 < P) = false := decide_eq_false (by omega)
        have q5 : decide (64 < R) = false := decide_eq_false (by omega)
        have q3 : decide (64 < 1 + P + R) = false := decide_eq_false (by omega)
        go_enter Try.func53, Try.ntmps53
        go_wp2
        go_ret
        exact ⟨by rw [T.out]; rfl, alloc_below _ _⟩
theorem bcell {W w1 : World} (hb : Below W.heap.size W w1) : (∀ b o, b < W.heap.size → w1.cell? ⟨b, o, none⟩ = W.cell? ⟨b, o, none⟩) ∧ (∀ b o, b < W.heap.size → w1.frozen? ⟨b, o, none⟩ = W.frozen? ⟨b, o, none⟩) :=
  ⟨fun b o h => hb.cell (p := ⟨b, o, none⟩) h, fun b o h => hb.frozen (p := ⟨b, o, none⟩) h⟩
def sizeV (P R : Int) : Int := if chkV P R = 0 then 1 + P + R else 0
def packE (P R : Int) : Int := if chkV P R = 0 then packV P R else 0
set_option maxRecDepth 100000 in
theorem size38 (P R : Int) (hP : SI P) (hR : SI R) (w : World) :
    Calls Try.prog 70 #[.agg #[.int .i64 P, .int .i64 R]] w fun e w' => e = .returned (.tuple #[.int .i64 (sizeV P R), .int .i64 (chkV P R)]) ∧ Below w.heap.size w w' := by
  have H := Lib.hid (fun W => check58 P R hP hR W)
  obtain ⟨p0, p1⟩ := hP
  obtain ⟨r0, r1⟩ := hR
  by_cases h : chkV P R = 0
  · have T := Lib.hid (show sizeV P R = 1 + P + R from if_pos h)
    have hz := chk_zero.1 h
    obtain ⟨z0, z1, z2⟩ := hz
    have h' := Lib.hid h
    rw [h] at H
    rw [h]
    clear h
    go_enter Try.func70, Try.ntmps70
    go_wp2_with (go_at_call 83; refine (H.out _).mono ?_; rintro e w1 ⟨rfl, hb1⟩; obtain ⟨hc1, hf1⟩ := bcell hb1)
    go_ret2
    exact ⟨by rw [T.out]; rfl, below_end (alloc_below _ _) hb1⟩
  · have T := Lib.hid (show sizeV P R = 0 from if_neg h)
    obtain ⟨c, hc⟩ : ∃ c, chkV P R = c := ⟨_, rfl⟩
    rw [hc] at H h
    rw [hc]
    clear hc
    have q1 : (c != 0) = true := by simpa using h
    go_enter Try.func70, Try.ntmps70
    go_wp2_with (go_at_call 83; refine (H.out _).mono ?_; rintro e w1 ⟨rfl, hb1⟩; obtain ⟨hc1, hf1⟩ := bcell hb1)
    go_ret2
    exact ⟨by rw [T.out]; rfl, below_end (alloc_below _ _) hb1⟩
end Hd
end Yteeghjhkfaeflaa
end Go.Proofs
/- Shapes, numbers, words and pairs among the arguments: opened and shut; the row's last step. -/
namespace Go.Proofs
namespace Yteeghjhkfaeflaa
namespace Hd
open Go.ChangeShapes Go.WideShapes Go.ChangeAt Go.RowKit
set_option maxRecDepth 100000

theorem row_end {H : Type} {enc : TypeId × Value → H} {P : Program} {f : Func} {s : ChangeSpec} {apart fresh handsOn again : Bool} {W W' : World} {args : Array Value} {v : Value} {ds gs : List (DataW H)} {old pa pv : List MemPlace}
    (hW : DataW.Whole enc P f.params.toList s.vars apart W args.toList ds gs old) (hb : Below W.heap.size W W') (hps : old = pa ++ pv)
    (hres : ∀ (b : Nat) (sp : Nat → Bool) (hd : Bool), DataW.TrodAll enc P W' b sp hd f.resultTypes.toList (v.resultList f.resultTypes.size) (s.fn H (ds ++ gs)).results [])
    (hargs : ∀ sp : Nat → Bool, (∀ p ∈ old, sp p.block = true) → DataW.TrodAll enc P W' 0 sp true f.params.toList args.toList (s.fn H (ds ++ gs)).args pa)
    (hvars : ∀ sp : Nat → Bool, (∀ p ∈ old, sp p.block = true) → DataW.TrodVars enc P W' sp s.vars (s.fn H (ds ++ gs)).vars pv)
    (hok : ∀ (j : Nat) (t : TypeId) (r : Value), f.resultTypes[j]? = some t → (v.resultList f.resultTypes.size)[j]? = some r → Value.okWide P W' .any 0 t r) :
    s.post enc P f apart fresh handsOn again W args v W' := by
  have hlt : ∀ p ∈ old, p.block < W.heap.size := fun p hp => hW.lt p hp
  have hin : ∀ p ∈ old, (fun b => decide (b < W.heap.size)) p.block = true := fun p hp => by simpa using hlt p hp
  refine ⟨ds, gs, old, [], pa, pv, hW, hres _ _ _, hargs _ hin, hvars _ hin, World.keptBut_mono (fun p hp => ⟨hp, Or.inr (List.mem_append.1 (hps ▸ hp))⟩) (hb.frame (· ∈ old)), fun _ => ?_⟩
  obtain ⟨_, _, _, _, _, hz, hn⟩ := hW
  have hall := trodAll_append (hargs (fun _ => true) (fun _ _ => rfl)) (hres 0 (fun _ => true) true)
  refine ⟨hok, _, _, old, ⟨[] ++ pa, pv, hall, hvars _ (fun _ _ => rfl), hps, fun b off hp => ?_, fun ha => hn ha⟩, fun p hp _ => hp⟩
  rw [hb.frozen (hlt _ hp)]
  exact hz b off hp
theorem wf_i64 {z : Int} (h : (Lit.int .i64 z).wf = true) : SI z := by
  simp [Lit.wf, IntKind.min, IntKind.max, IntKind.signed, IntKind.bits] at h
  exact ⟨by omega, by omega⟩
theorem wf_u64 {z : Int} (h : (Lit.int .u64 z).wf = true) : 0 ≤ z ∧ z ≤ 18446744073709551615 := by
  simp [Lit.wf, IntKind.min, IntKind.max, IntKind.signed, IntKind.bits] at h
  omega
theorem cells3 : Try.prog.cellsOf 3 = 1 := by kernel_rfl
theorem cells23 : Try.prog.cellsOf 51 = 2 := by kernel_rfl
theorem cells45 : Try.prog.cellsOf 23 = 2 := by kernel_rfl
theorem under45 : Try.prog.underlying 23 = some (.array 2 3) := by kernel_rfl
section
variable {H : Type} {enc : TypeId × Value → H} {w : World} {base : Nat} {spare : Nat → Bool} {held : Bool}
def twoD (a b : Int) : DataW H := .agg [.lit (.int .i64 a), .lit (.int .i64 b)]
theorem open_shape {r : Reach} {b0 : Nat} {v : Value} {d : DataW H} {p : List MemPlace} (hv : Value.okWide Try.prog w r b0 51 v) (h : DataW.Trod enc Try.prog w base spare held 51 v d p) :
    ∃ P R : Int, v = .agg #[.int .i64 P, .int .i64 R] ∧ d = twoD P R ∧ p = [] ∧ (Lit.int .i64 P).wf = true ∧ (Lit.int .i64 R).wf = true := by
  obtain ⟨cs, rfl, hsz⟩ := okWide_struct Try.underlying51 hv
  obtain ⟨l⟩ := cs
  match l, hsz.trans cells23 with
  | [a0, a1], _ =>
    obtain ⟨fuel, hf⟩ := h
    obtain ⟨xs, n, _, hx, _, hlen, hg⟩ := DataW.trod_struct Try.underlying51 hf
    match xs, hlen with
    | [y0, y1], _ =>
      have h0 : DataW.trod enc Try.prog w base spare held n 3 [a0] = some y0 := by simpa [Value.cells, cells3] using hg 0 _ rfl
      have h1 : DataW.trod enc Try.prog w base spare held n 3 [a1] = some y1 := by simpa [Value.cells, cells3] using hg 1 _ rfl
      obtain ⟨z0, e0, rfl, w0⟩ := DataW.trod_int Try.underlying3 h0
      obtain ⟨z1, e1, rfl, w1⟩ := DataW.trod_int Try.underlying3 h1
      simp only [List.cons.injEq, and_true] at e0 e1
      subst e0 e1
      simp only [Prod.mk.injEq] at hx
      exact ⟨z0, z1, rfl, hx.1, hx.2, w0, w1⟩
theorem shut_shape {P R : Int} (w0 : (Lit.int .i64 P).wf = true) (w1 : (Lit.int .i64 R).wf = true) :
    DataW.Trod enc Try.prog w base spare held 51 (.agg #[.int .i64 P, .int .i64 R]) (twoD P R) [] := by
  have t := fun (z : Int) (hz : (Lit.int .i64 z).wf = true) => trod_int_mk (enc := enc) (P := Try.prog) (w := w) (base := base) (spare := spare) (held := held) (t := 3) 0 Try.underlying3 hz
  refine ⟨2, ?_⟩
  have := trod_struct_mk (enc := enc) (P := Try.prog) (w := w) (base := base) (spare := spare) (held := held) (t := 51) (n := 1) (cs := [.int .i64 P, .int .i64 R]) (xs := [(.lit (.int .i64 P), []), (.lit (.int .i64 R), [])]) Try.underlying51 cells23.symm (by
    simp [List.mapM_cons, cells3, t P w0, t R w1])
  simpa [Value.cells, twoD] using this
theorem open_num {r : Reach} {b0 : Nat} {v : Value} {d : DataW H} {p : List MemPlace} (hv : Value.okWide Try.prog w r b0 3 v) (h : DataW.Trod enc Try.prog w base spare held 3 v d p) :
    ∃ n : Int, v = .int .i64 n ∧ d = .lit (.int .i64 n) ∧ p = [] ∧ (Lit.int .i64 n).wf = true := by
  obtain ⟨n, rfl, rfl, rfl, hw⟩ := open_int Try.underlying3 hv h
  exact ⟨n, rfl, rfl, rfl, hw⟩
theorem open_word {r : Reach} {b0 : Nat} {v : Value} {d : DataW H} {p : List MemPlace} (hv : Value.okWide Try.prog w r b0 58 v) (h : DataW.Trod enc Try.prog w base spare held 58 v d p) :
    ∃ n : Int, v = .int .u64 n ∧ d = .lit (.int .u64 n) ∧ p = [] ∧ (Lit.int .u64 n).wf = true := by
  obtain ⟨n, rfl, rfl, rfl, hw⟩ := open_int Try.underlying58 hv h
  exact ⟨n, rfl, rfl, rfl, hw⟩
theorem shut_pair {a b : Int} (ha : (Lit.int .i64 a).wf = true) (hb : (Lit.int .i64 b).wf = true) :
    DataW.Trod enc Try.prog w base spare held 23 (.agg #[.int .i64 a, .int .i64 b]) (twoD a b) [] := by
  refine ⟨2, ?_⟩
  have t := fun (z : Int) (hz : (Lit.int .i64 z).wf = true) => trod_int_mk (enc := enc) (P := Try.prog) (w := w) (base := base) (spare := spare) (held := held) (t := 3) 0 Try.underlying3 hz
  have r2 : List.range 2 = [0, 1] := rfl
  show DataW.trod enc Try.prog w base spare held 2 23 [.int .i64 a, .int .i64 b] = some (twoD a b, [])
  unfold DataW.trod
  rw [under45]
  simp [r2, cells3, cells45, t _ ha, t _ hb, twoD]
theorem open_pair {r : Reach} {b0 : Nat} {v : Value} {d : DataW H} {p : List MemPlace} (hv : Value.okWide Try.prog w r b0 23 v) (h : DataW.Trod enc Try.prog w 0 (fun _ => true) true 23 v d p) :
    ∃ a b : Int, v = .agg #[.int .i64 a, .int .i64 b] ∧ d = twoD a b ∧ p = [] ∧ (Lit.int .i64 a).wf = true ∧ (Lit.int .i64 b).wf = true := by
  simp only [Value.okWide, under45] at hv
  obtain ⟨cs, rfl, hc, _⟩ := hv
  rw [cells45] at hc
  obtain ⟨l⟩ := cs
  match l, hc with
  | [c0, c1], _ =>
    obtain ⟨fuel, hf⟩ := h
    match fuel, hf with
    | m + 1, hf =>
      have r2 : List.range 2 = [0, 1] := rfl
      rw [DataW.trod.eq_def] at hf
      simp [r2, cells3, Value.cells] at hf
      have hx := hf.2
      match h0 : DataW.trod enc Try.prog w 0 (fun _ => true) true m 3 [c0], h1 : DataW.trod enc Try.prog w 0 (fun _ => true) true m 3 [c1] with
      | none, _ => simp [h0] at hx
      | some y0, none => simp [h0, h1] at hx
      | some y0, some y1 =>
        simp [h0, h1] at hx
        obtain ⟨z0, e0, rfl, w0⟩ := DataW.trod_int Try.underlying3 h0
        obtain ⟨z1, e1, rfl, w1⟩ := DataW.trod_int Try.underlying3 h1
        simp only [List.cons.injEq, and_true] at e0 e1
        subst e0 e1
        exact ⟨z0, z1, rfl, hx.1.symm, by simpa using hx.2, w0, w1⟩
end
end Hd
end Yteeghjhkfaeflaa
end Go.Proofs
