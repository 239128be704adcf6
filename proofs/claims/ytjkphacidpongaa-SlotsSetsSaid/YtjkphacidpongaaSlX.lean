/- Adding to a table, and dropping. -/
import Derived.Test.YtjkphacidpongaaSlW
namespace Go.Proofs
namespace Ytjkphacidpongaa
open Go.RowKit

theorem grown_step {W X Y : World} {g g' : Nat} (h : W.grownBy X (some g)) (k : X.grownBy Y (some g')) (hg : g' = g ∨ W.heap.size ≤ g') : W.grownBy Y (some g) :=
  ⟨k.os.trans h.os, k.tape.trans h.tape, k.output.trans h.output, Nat.le_trans h.size k.size, fun i hi hne => (k.block i (by have := h.size; omega) (fun e => by injection e with e; exact hg.elim (fun h2 => hne (by rw [e, h2])) (fun h2 => by omega))).trans (h.block i hi hne)⟩
theorem grown_below {W X Y : World} {r : Option Nat} (h : W.grownBy X r) (k : Below X.heap.size X Y) : W.grownBy Y r :=
  ⟨k.os.trans h.os, k.tape.trans h.tape, k.output.trans h.output, Nat.le_trans h.size k.size, fun i hi hne => (k.block i (by have := h.size; omega)).trans (h.block i hi hne)⟩
theorem below_grown {W X Y : World} {r : Option Nat} (k : Below W.heap.size W X) (h : X.grownBy Y r) : W.grownBy Y r :=
  ⟨h.os.trans k.os, h.tape.trans k.tape, h.output.trans k.output, Nat.le_trans k.size h.size, fun i hi hne => (h.block i (by have := k.size; omega) hne).trans (k.block i hi)⟩
theorem grown_of_old {w W X : World} {g : Nat} (hB : Below w.heap.size w W) (h : W.grownBy X (some g)) (hg : w.heap.size ≤ g) : Below w.heap.size w X := hB.grown h hB.size (fun k e => by injection e with e; omega)
/-- what find needs of a table of the call's own -/
structure Own (W : World) (g : Nat) (cs : List Int) : Prop where
  at_ : TAt W g cs
  zero : (0 : Int) ∈ cs
  tab : Tab cs
theorem Own.find {W : World} {g : Nat} {cs : List Int} (h : Own W g cs) (a : Int) (ha : 1 ≤ a ∧ a ≤ 1600) :
    Calls Try.prog 42 #[tv g cs.length, .int .i64 a] W fun e w' => e = .returned (.tuple #[.int .i64 (findF cs a), .bool (hasB cs a)]) ∧ Below W.heap.size W w' :=
  find46 _ cs a W h.at_.iat h.zero (fun c hc => (h.tab.rng c hc).1) (by have := h.tab.hi; omega) ha
set_option maxRecDepth 100000 in
set_option maxHeartbeats 1000000 in
theorem add48_in (g : Nat) (cs : List Int) (a : Int) (W : World) (h : Own W g cs) (ha : 1 ≤ a ∧ a ≤ 1600) (hh : hasB cs a = true) :
    Calls Try.prog 37 #[tv g cs.length, .int .i64 a] W fun e W' => e = .returned (.tuple #[tv g cs.length, .bool false]) ∧ Below W.heap.size W W' := by
  have F := Lib.hid (h.find a ha)
  rw [hh] at F
  unfold tv at *
  generalize findF cs a = p at *
  generalize cs.length = n at *
  clear h hh
  go_enter Try.func37, Try.ntmps37
  go_wp2_with (go_at_call 42; refine F.out.mono ?_; rintro e w1 ⟨rfl, hb⟩; have B := Lib.hid hb; clear hb)
  refine bodyPost_ret (v := .tuple #[.slice (some ⟨g, 0, none⟩) n n, .bool false]) (by simp [results, Try.f37, go_sem]) rfl ⟨rfl, B.out⟩
theorem find_free {cs : List Int} {a : Int} (h : hasB cs a = false) : findF cs a = (pos a cs.length (freeI cs a) : Int) := by unfold findF; rw [h]; rfl
theorem find_stop_at {cs : List Int} {a : Int} (h : hasB cs a = true) : findF cs a = (pos a cs.length (stopI cs a) : Int) := by unfold findF; rw [h]; rfl
theorem put_at (cs : List Int) (a : Int) : putF cs a = cs.set (pos a cs.length (freeI cs a)) a := rfl
set_option maxRecDepth 100000 in
set_option maxHeartbeats 1000000 in
theorem add48_calm (g : Nat) (cs : List Int) (a : Int) (W : World) (h : TAt W g cs) (hs : StepOk cs a) :
    Calls Try.prog 37 #[tv g cs.length, .int .i64 a] W fun e W' => e = .returned (.tuple #[tv g cs.length, .bool true]) ∧ TAt W' g (putF cs a) ∧ W.grownBy W' (some g) := by
  have hO : Own W g cs := ⟨h, hs.zero, hs.tab⟩
  have hh := (hs.tab.hasF hs.zero (by have := hs.is; omega)).2 hs.not
  have F := Lib.hid (hO.find a hs.is)
  have hl : 0 < cs.length := by have := hs.tab.lo; omega
  have hm := hs.tab.hi
  have hp := pos_lt a hl (freeI cs a)
  have KC := Lib.hid (fun w1 (hb : Below W.heap.size W w1) => crowded56 (tv g (putF cs a).length) (putF cs a) (w1.setCell ⟨g, pos a cs.length (freeI cs a), none⟩ (.int .i64 a)) (TAt.iat ((h.below hb).set _ a)) (by rw [put_len]; omega))
  rw [put_len, hs.calm] at KC
  have TA := Lib.hid (fun w1 (hb : Below W.heap.size W w1) => (h.below hb).set (pos a cs.length (freeI cs a)) a)
  have TC := Lib.hid (fun w1 (hb : Below W.heap.size W w1) => (h.below hb).cell hp)
  rw [hh, find_free hh] at F
  rw [← put_at] at TA
  have hp' : (pos a cs.length (freeI cs a) : Int) < (cs.length : Int) := by omega
  have ad : (⟨g, 0, none⟩ : Addr).add (pos a cs.length (freeI cs a)) = ⟨g, pos a cs.length (freeI cs a), none⟩ := by unfold Addr.add; split <;> simp_all
  unfold tv at *
  generalize pos a cs.length (freeI cs a) = p at *
  generalize putF cs a = ds at *
  generalize cs.getD p 0 = old at *
  generalize cs.length = n at *
  clear h hs hO hh
  go_enter Try.func37, Try.ntmps37
  go_wp2_with (first
    | (go_at_call 42; refine F.out.mono ?_; rintro e w1 ⟨rfl, hb⟩; have B := Lib.hid hb; clear hb; obtain ⟨t1, f1⟩ := TC.out _ B.out)
    | (go_at_call 67; refine (KC.out _ B.out).mono ?_; rintro e w2 ⟨rfl, rfl⟩))
  refine bodyPost_ret (v := .tuple #[.slice (some ⟨g, 0, none⟩) n n, .bool true]) (by simp [results, Try.f37, go_sem]) rfl ⟨rfl, TA.out _ B.out, below_grown B.out (grown_set _ g p _)⟩
/-- a slice's cells lie in no block g -/
def Apart (v : Value) (g : Nat) : Prop := ∀ A n c b off, v = .slice A n c → 0 < n → A = some ⟨b, off, none⟩ → b ≠ g
theorem IAt.apart {W W' : World} {v : Value} {l : List Int} {g : Nat} (h : IAt W v l) (hg : W.grownBy W' (some g)) (ha : Apart v g) : IAt W' v l := by
  obtain ⟨A, cap, rfl, h⟩ := h
  exact ⟨A, cap, rfl, fun h0 => let ⟨b, off, hA, hc⟩ := h h0; ⟨b, off, hA, fun j hj => (World.cell?_of_block (hg.block b (cell_lt (hc j hj)) (fun e => by injection e with e; exact ha _ _ _ b off rfl h0 hA e))).trans (hc j hj)⟩⟩
theorem IAt.far {W : World} {v : Value} {l : List Int} {g : Nat} (h : IAt W v l) (hg : W.heap.size ≤ g) : Apart v g := by
  obtain ⟨A, cap, rfl, h⟩ := h
  intro A' n c b off e h0 e2
  cases e
  obtain ⟨b', off', e3, hc⟩ := h h0
  rw [e2] at e3
  cases e3
  have := cell_lt (hc 0 h0)
  dsimp only at this
  omega
set_option maxRecDepth 100000 in
set_option maxHeartbeats 1000000 in
theorem addAll52_calm (g : Nat) (cs : List Int) (v : Value) (l : List Int) (W : World) (h : TAt W g cs) (hv : IAt W v l) (hA : Apart v g) (hr : Roomy cs l) (hll : l.length ≤ 100000) :
    Calls Try.prog 64 #[tv g cs.length, v] W fun e W' => e = .returned (tv g cs.length) ∧ TAt W' g (l.foldl putF cs) ∧ W.grownBy W' (some g) := by
  have AD := Lib.hid (fun k (hk : k < l.length) X (hx : TAt X g ((l.take k).foldl putF cs)) => add48_calm g _ (l.getD k 0) X hx (by have := hr.at_ k hk; rwa [getElem_getD hk] at this))
  have LN := Lib.hid (fun k => (hr.upto k).all.2.1)
  have SN := Lib.hid (fun k (hk : k < l.length) => (show (l.take (k + 1)).foldl putF cs = putF ((l.take k).foldl putF cs) (l.getD k 0) by rw [take_snoc hk, List.foldl_append]; rfl))
  have VC := Lib.hid (fun X (hx : W.grownBy X (some g)) => hv.apart hx hA)
  obtain ⟨A, cap, rfl, -⟩ := hv
  have H := Lib.hid h
  have TL := Lib.hid (List.take_length (l := l))
  obtain ⟨m, hm2⟩ : ∃ m, l.length = m := ⟨_, rfl⟩
  have VX := Lib.hid (fun X (hx : W.grownBy X (some g)) k (hk : k < m) => (show ∃ b off, A = some ⟨b, off, none⟩ ∧ X.cell? ⟨b, off + k, none⟩ = some (.int .i64 (l.getD k 0)) by
    obtain ⟨A', cap', e, hc⟩ := VC.out X hx
    cases e
    obtain ⟨b, off, h1, h2⟩ := hc (by omega)
    exact ⟨b, off, h1, h2 k (by omega)⟩))
  rw [hm2] at AD SN TL hll ⊢
  unfold tv at *
  generalize cs.length = n at *
  clear h hA hr VC hm2
  go_enter Try.func64, Try.ntmps64
  go_wp2
  go_loopw [0, 6, 9] (fun t a i wr => ∃ k : Nat, k ≤ m ∧ i = .int .i64 k ∧ t = .slice (some ⟨g, 0, none⟩) n n ∧ Hid (TAt wr g ((l.take k).foldl putF cs)) ∧ Hid (W.grownBy wr (some g))) (fun _ _ i _ => m - (intOf i).toNat)
  case atStart => exact ⟨0, by omega, rfl, rfl, H, Lib.hid ⟨rfl, rfl, rfl, Nat.le_refl _, fun _ _ _ => rfl⟩⟩
  case round =>
    obtain ⟨k, hk, rfl, rfl, HT, HG⟩ := hrel
    by_cases hlt : k < m
    rotate_left
    · have hlt' : ¬ (k : Int) < (m : Int) := by omega
      obtain rfl : k = m := by omega
      rw [TL.out] at HT
      clear AD SN VX TL
      go_wp2
      refine bodyPost_ret (v := .slice (some ⟨g, 0, none⟩) n n) (by simp [results, Try.f64, go_sem]) rfl ⟨rfl, HT.out, HG.out⟩
    have hlt' : (k : Int) < (m : Int) := by omega
    obtain ⟨b1, o1, rfl, ca⟩ := VX.out _ HG.out k hlt
    have ad1 : (⟨b1, o1, none⟩ : Addr).add k = ⟨b1, o1 + k, none⟩ := by unfold Addr.add; split <;> simp_all
    have C := Lib.hid (AD.out k hlt wr HT.out)
    rw [LN.out] at C
    have S := Lib.hid (SN.out k hlt)
    generalize l.getD k 0 = x at *
    go_wp2_with (go_at_call 37; refine C.out.mono ?_; rintro e w1 ⟨rfl, ht, hg⟩; have T1 := Lib.hid ht; have G1 := Lib.hid (grown_step HG.out hg (.inl rfl)); clear ht hg)
    refine ⟨⟨k + 1, by omega, by simp, rfl, Lib.hid (by rw [S.out]; exact T1.out), G1⟩, ?_⟩
    show m - ((k : Int) + 1).toNat < m - ((k : Int)).toNat
    omega
end Ytjkphacidpongaa
end Go.Proofs
