/- The iterator over the cells of a path. -/
import Derived.Test.YtjkphacidpongaaSlE
namespace Go.Proofs
namespace Ytjkphacidpongaa
open Go.RowKit
attribute [local go_sem] Oper.semAt_some

/-- the boxes of a table and of a number -/
structure SeqAt (W : World) (bt ba : Nat) (v : Value) (cs : List Int) (a : Int) : Prop where
  bt : W.heap[bt]? = some (.cells #[v] 71 (0, 0))
  ba : W.heap[ba]? = some (.cells #[.int .i64 a] 3 (0, 0))
  ar : IAt W v cs
theorem SeqAt.below {W W' : World} {bt ba : Nat} {v : Value} {cs : List Int} {a : Int} (h : SeqAt W bt ba v cs a) (hb : Below W.heap.size W W') : SeqAt W' bt ba v cs a := ⟨keep_heap hb h.bt, keep_heap hb h.ba, h.ar.below hb⟩
def encP (a : Int) (n i : Nat) : Array Value := #[.int .i64 (pos a n i)]
/-- a round that may be -/
def RunP (cs : List Int) (a : Int) (i : Nat) : Prop := i < cs.length ∧ ∀ j, j < i → pv cs a j ≠ 0
/-- where the path ends -/
def EndP (cs : List Int) (a : Int) (i : Nat) : Prop := i = cs.length ∨ ∃ k, i = k + 1 ∧ k < cs.length ∧ pv cs a k = 0
theorem run_iff (cs : List Int) (a : Int) (i : Nat) : RunP cs a i ↔ i < cs.length ∧ ∀ j, j < i → pv cs a j ≠ 0 := Iff.rfl
theorem end_iff (cs : List Int) (a : Int) (i : Nat) : EndP cs a i ↔ (i = cs.length ∨ ∃ k, i = k + 1 ∧ k < cs.length ∧ pv cs a k = 0) := Iff.rfl
theorem pv_eq (cs : List Int) (a : Int) (i : Nat) : cs.getD (pos a cs.length i) 0 = pv cs a i := rfl
set_option maxRecDepth 100000 in
set_option maxHeartbeats 1000000 in
theorem iter66 (n : Nat) (hn : 1 ≤ n) (v : Value) (cs : List Int) (a : Int) (hl : 1 ≤ cs.length ∧ cs.length ≤ 100000) (ha : 1 ≤ a ∧ a ≤ 1600) (bt ba l : Nat) (J : Nat → World → Prop) (K : World → Prop) (w : World)
    (hG : ∀ i W, J i W → SeqAt W bt ba v cs a) (hJ : ∀ i W W', J i W → Below W.heap.size W W' → J i W')
    (hY : ∀ i W1, J i W1 → RunP cs a i → w.heap.size ≤ W1.heap.size → YieldAt Fence.wide (n - 1) Try.prog l (encP a cs.length i) W1 fun e W' =>
      (e = .returned (.bool true) ∧ J (i + 1) W' ∨ e = .returned (.bool false) ∧ K W') ∧ W1.heap.size ≤ W'.heap.size)
    (h0 : J 0 w) :
    Calls Try.prog 87 #[.func (.yield l) #[] #[], .pointer (some ⟨ba, 0, none⟩), .pointer (some ⟨bt, 0, none⟩)] w fun e W' => (∃ v, e = .returned v) ∧ ((∃ i, EndP cs a i ∧ J i W') ∨ K W') := by
  have HG := Lib.hid hG
  have HJ := Lib.hid hJ
  have HY := Lib.hid hY
  have H0 := Lib.hid h0
  have S0 := hG _ _ h0
  obtain ⟨A, cap, hv, -⟩ := S0.ar
  subst hv
  obtain ⟨c0, -⟩ := one_cell S0.bt
  obtain ⟨c1, -⟩ := one_cell S0.ba
  have PL := Lib.hid (fun i => pos_lt a (show 0 < cs.length by omega) i)
  have PC := Lib.hid (fun i => pos_cast a (show 0 < cs.length by omega) i)
  have PV := Lib.hid (pv_eq cs a)
  have RP := Lib.hid (run_iff cs a)
  have EP := Lib.hid (end_iff cs a)
  have CA := Lib.hid (fun i W (h : J i W) j (hj : j < cs.length) => (show ∃ b off, A = some ⟨b, off, none⟩ ∧ W.cell? ⟨b, off + j, none⟩ = some (.int .i64 (cs.getD j 0)) by
    obtain ⟨A', cap', e, hA⟩ := (hG i W h).ar
    cases e
    obtain ⟨b, off, h1, h2⟩ := hA (by omega)
    exact ⟨b, off, h1, h2 j hj⟩))
  have hmul : IntKind.i64.wrap (a * 40503) = a * 40503 := IntWalk.i64_in _ (by omega)
  clear hG hJ hY h0 S0
  obtain ⟨m, hm2⟩ : ∃ m, cs.length = m := ⟨_, rfl⟩
  rw [hm2] at hl PL PC PV RP EP CA HY HG c0
  clear hm2
  go_enter Try.func87, Try.ntmps87
  go_wp2
  go_loopw [5, 6, 11] (fun x y q wr => ∃ k : Nat, q = .int .i64 k ∧ k ≤ m ∧ Hid (J k wr) ∧ Hid (∀ j, j < k → pv cs a j ≠ 0) ∧ w.heap.size ≤ wr.heap.size) (fun _ _ q _ => m - (intOf q).toNat)
  case atStart => exact ⟨0, rfl, by omega, H0, Lib.hid (fun j hj => by omega), Nat.le_refl _⟩
  case round =>
    obtain ⟨k, rfl, hkm, hj, HN, hsz⟩ := hrel
    by_cases hlt : k < m
    rotate_left
    · have q : decide ((k : Int) < (m : Int)) = false := decide_eq_false (by omega)
      have q' : ¬ (k : Int) < (m : Int) := by omega
      have T := Lib.hid (show k = m by omega)
      clear hkm hlt
      go_wp2
      exact bodyPost_end (v := .tuple #[]) (results_none rfl _ _ _) rfl ⟨⟨_, rfl⟩, .inl ⟨k, (EP.out k).2 (.inl T.out), hj.out⟩⟩
    have q : decide ((k : Int) < (m : Int)) = true := decide_eq_true (by omega)
    have q' : (k : Int) < (m : Int) := by omega
    obtain ⟨d0, -⟩ := one_cell (HG.out _ _ hj.out).bt
    have hadd : IntKind.i64.wrap (a * 40503 + (k : Int)) = a * 40503 + (k : Int) := IntWalk.i64_in _ (by omega)
    have hnn : (0 : Int) ≤ a * 40503 + (k : Int) := by omega
    have e2 : (a * 40503 + (k : Int)) % (m : Int) = (pos a m k : Int) := (PC.out k).symm
    have mz : ((m : Int) == 0) = false := by simp; omega
    have hp := PL.out k
    have hy := HY.out k wr hj.out ((RP.out k).2 ⟨hlt, HN.out⟩) hsz
    obtain ⟨fn, tm, asg, bd, hy, hR⟩ := hy
    dsimp only [encP] at hy
    have HR := Lib.hid hR
    clear hR
    obtain ⟨pk, hpk⟩ : ∃ pk, pos a m k = pk := ⟨_, rfl⟩
    have HPK := Lib.hid hpk
    rw [hpk] at e2 hp hy
    clear hpk mz
    go_upto_region 5 with fail
    refine (wpIn_wide (n := n)).1 ?_
    gi_wp2
    refine HR.out.mono ?_
    rintro e W' ⟨(⟨rfl, hj'⟩ | ⟨rfl, hk'⟩), hsz'⟩
    · obtain ⟨d0', -⟩ := one_cell (HG.out _ _ hj').bt
      obtain ⟨b1, o1, rfl, ca⟩ := CA.out _ _ hj' pk hp
      have PVK := Lib.hid (show cs.getD pk 0 = pv cs a k by rw [← HPK.out]; exact PV.out k)
      have ad1 : (⟨b1, o1, none⟩ : Addr).add pk = ⟨b1, o1 + pk, none⟩ := by unfold Addr.add; split <;> simp_all
      have hpi : (pk : Int) < (m : Int) := by omega
      have HJ' := Lib.hid hj'
      generalize cs.getD pk 0 = x at *
      clear hj'
      by_cases hx : x = 0
      · have q0 : (x == 0) = true := by simpa using hx
        have HX := Lib.hid hx
        clear hx
        gi_wp2
        go_wp2
        exact bodyPost_ret (v := .tuple #[]) (by simp [results, Try.f87, go_sem]) rfl ⟨⟨_, rfl⟩, .inl ⟨k + 1, (EP.out _).2 (.inr ⟨k, rfl, hlt, by rw [← PVK.out, HX.out]⟩), HJ'.out⟩⟩
      · have q0 : (x == 0) = false := by simpa using hx
        have HX := Lib.hid hx
        clear hx
        gi_wp2
        go_wp2
        refine ⟨⟨k + 1, by simp, by omega, HJ', Lib.hid (fun j hj2 => ?_), by omega⟩, ?_⟩
        · rcases Nat.lt_or_ge j k with h3 | h3
          · exact HN.out j h3
          · obtain rfl : j = k := by omega
            rw [← PVK.out]; exact HX.out
        · simp only [intOf]; omega
    · gi_wp2
      go_wp2
      exact bodyPost_ret (v := .tuple #[]) (by simp [results, Try.f87, go_sem]) rfl ⟨⟨_, rfl⟩, .inr hk'⟩
end Ytjkphacidpongaa
end Go.Proofs
