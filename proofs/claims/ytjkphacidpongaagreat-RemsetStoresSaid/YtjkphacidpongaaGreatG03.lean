/- OnesCount and checkSize. -/
import Derived.Test.YtjkphacidpongaaGreatQSlN
import Derived.Test.YtjkphacidpongaaGreatG02
namespace Go.Proofs
namespace YtjkphacidpongaaGreat
open Go.RowKit
set_option maxRecDepth 100000 in
set_option maxHeartbeats 1000000 in
theorem ones68 (n : Int) (w : World) : Calls Tryz.prog 145 #[.int .u64 n] w fun e w' => e = .returned (.int .i64 (onesF n)) ∧ w = w' := by
  obtain ⟨x1, h1⟩ : ∃ x, on1 n = x := ⟨_, rfl⟩
  obtain ⟨x2, h2⟩ : ∃ x, on2 x1 = x := ⟨_, rfl⟩
  obtain ⟨x3, h3⟩ : ∃ x, on3 x2 = x := ⟨_, rfl⟩
  obtain ⟨x4, h4⟩ : ∃ x, on4 x3 = x := ⟨_, rfl⟩
  obtain ⟨x5, h5⟩ : ∃ x, on5 x4 = x := ⟨_, rfl⟩
  obtain ⟨x6, h6⟩ : ∃ x, on6 x5 = x := ⟨_, rfl⟩
  obtain ⟨x7, h7⟩ : ∃ x, on7 x6 = x := ⟨_, rfl⟩
  have T := Lib.hid (show onesF n = x7 by unfold onesF; rw [h1, h2, h3, h4, h5, h6, h7])
  have H1 := Lib.hid h1
  have H2 := Lib.hid h2
  have H3 := Lib.hid h3
  have H4 := Lib.hid h4
  have H5 := Lib.hid h5
  have H6 := Lib.hid h6
  have H7 := Lib.hid h7
  clear h1 h2 h3 h4 h5 h6 h7
  go_enter Tryz.func145, Tryz.ntmps145
  go_upto_region 2 with fail
  rw [show IntKind.u64.wrap (bits BinOp.and IntKind.u64 (n / 2) 6148914691236517205 + bits BinOp.and IntKind.u64 n 6148914691236517205) = x1 from H1.out]
  go_upto_region 3 with fail
  rw [show IntKind.u64.wrap (bits BinOp.and IntKind.u64 (x1 / 4) 3689348814741910323 + bits BinOp.and IntKind.u64 x1 3689348814741910323) = x2 from H2.out]
  go_upto_region 4 with fail
  rw [show bits BinOp.and IntKind.u64 (IntKind.u64.wrap (x2 / 16 + x2)) 1085102592571150095 = x3 from H3.out]
  go_upto_region 5 with fail
  rw [show IntKind.u64.wrap (x3 + x3 / 256) = x4 from H4.out]
  go_upto_region 6 with fail
  rw [show IntKind.u64.wrap (x4 + x4 / 65536) = x5 from H5.out]
  go_upto_region 7 with fail
  rw [show IntKind.u64.wrap (x5 + x5 / 4294967296) = x6 from H6.out]
  go_wp2
  refine bodyPost_ret (v := .int .i64 x7) (by have := H7.out; unfold on7 at this; rw [IntWalk.i64_left] at this; simpa [results, Tryz.f145, go_sem] using this) rfl ⟨by rw [T.out], rfl⟩
set_option maxRecDepth 100000 in
theorem ones63 (n : Int) (w : World) : Calls Tryz.prog 143 #[.int .u64 n] w fun e w' => e = .returned (.int .i64 (onesF n)) ∧ w = w' := by
  have H := Lib.hid (ones68 n w)
  generalize onesF n = x at *
  go_enter Tryz.func143, Tryz.ntmps143
  go_wp2_with (go_at_call 145; refine H.out.mono ?_; rintro e w1 ⟨rfl, rfl⟩)
  go_ret
  exact ⟨rfl, rfl⟩
def sizeE (n : Nat) : Int := if 8192 < n then 3 else if isPow n = true then 0 else 6
theorem ones_pow {n : Nat} (h : 8 ≤ n) (h2 : n ≤ 8192) : (onesF n != 1) = !isPow n := by
  have := List.all_eq_true.1 ones_all n (by simp; omega)
  have e : (onesF n == 1) = [1, 2, 4, 8, 16, 32, 64, 128, 256, 512, 1024, 2048, 4096, 8192].contains n := by simpa using this
  unfold bne
  rw [e, isPow]
  congr 1
  rw [Bool.eq_iff_iff]
  simp only [List.contains_eq_mem, List.mem_cons, List.not_mem_nil, or_false, decide_eq_true_eq]
  omega
theorem pow_no {n : Nat} (h : n < 8) : isPow n = false := by
  cases hp : isPow n with
  | false => rfl
  | true => have := pow_lo hp; omega
set_option maxRecDepth 100000 in
set_option maxHeartbeats 1000000 in
theorem csize54 (n : Nat) (hn : n ≤ 4611686018427387904) (w : World) : Calls Tryz.prog 138 #[.int .i64 n] w fun e w' => e = .returned (.int .i64 (sizeE n)) ∧ w = w' := by
  by_cases h1 : 8192 < n
  · have e : sizeE n = 3 := by unfold sizeE; rw [if_pos h1]
    rw [e]
    have q : decide ((8192 : Int) < (n : Int)) = true := decide_eq_true (by omega)
    have q' : 8192 < (n : Int) := by omega
    clear h1 e
    go_enter Tryz.func138, Tryz.ntmps138
    go_wp2
    go_ret
    exact ⟨rfl, rfl⟩
  have q : decide ((8192 : Int) < (n : Int)) = false := decide_eq_false (by omega)
  by_cases h2 : n < 8
  · have e : sizeE n = 6 := by unfold sizeE; rw [if_neg h1, if_neg (by rw [pow_no h2]; simp)]
    rw [e]
    have q2 : decide ((n : Int) < 8) = true := decide_eq_true (by omega)
    clear h1 h2 e
    go_enter Tryz.func138, Tryz.ntmps138
    go_wp2
    go_ret
    exact ⟨rfl, rfl⟩
  have q2 : decide ((n : Int) < 8) = false := decide_eq_false (by omega)
  have qp := ones_pow (by omega : 8 ≤ n) (by omega)
  have H := Lib.hid (ones63 n w)
  have hw : IntKind.u64.wrap (n : Int) = n := IntWalk.u64_in _ (by omega)
  have e : sizeE n = if isPow n = true then 0 else 6 := by unfold sizeE; rw [if_neg h1]
  rw [e]
  generalize onesF n = x at *
  cases hp : isPow n with
  | true =>
    rw [hp] at qp
    have q3 : (x != 1) = false := qp
    rw [if_pos rfl]
    clear h1 h2 e qp hp
    go_enter Tryz.func138, Tryz.ntmps138
    go_wp2_with (go_at_call 143; refine H.out.mono ?_; rintro e w1 ⟨rfl, rfl⟩)
    go_ret
    exact ⟨rfl, rfl⟩
  | false =>
    rw [hp] at qp
    have q3 : (x != 1) = true := qp
    rw [if_neg (by simp)]
    clear h1 h2 e qp hp
    go_enter Tryz.func138, Tryz.ntmps138
    go_wp2_with (go_at_call 143; refine H.out.mono ?_; rintro e w1 ⟨rfl, rfl⟩)
    go_ret
    exact ⟨rfl, rfl⟩
end YtjkphacidpongaaGreat
end Go.Proofs
/- The iterator over the cells of a path. -/
namespace Go.Proofs
namespace YtjkphacidpongaaGreat
open Go.RowKit
attribute [local go_sem] Oper.semAt_some

/-- the boxes of a table and of a number -/
structure SeqAt (W : World) (bt ba : Nat) (v : Value) (cs : List Int) (a : Int) : Prop where
  bt : W.heap[bt]? = some (.cells #[v] 104 (0, 0))
  ba : W.heap[ba]? = some (.cells #[.int .i64 a] 3 (0, 0))
  ar : IAt W v cs
theorem SeqAt.below {W W' : World} {bt ba : Nat} {v : Value} {cs : List Int} {a : Int} (h : SeqAt W bt ba v cs a) (hb : Below W.heap.size W W') : SeqAt W' bt ba v cs a := ⟨keep_heap hb h.bt, keep_heap hb h.ba, h.ar.below hb⟩
def encP (a : Int) (n i : Nat) : Array Value := #[.int .i64 (pos a n i)]
/-- a round that may be -/
def RunP (cs : List Int) (a : Int) (i : Nat) : Prop := i < cs.length ∧ ∀ j, j < i → pv cs a j ≠ 0
/-- where the path ends -/
def EndP (cs : List Int) (a : Int) (i : Nat) : Prop := i = cs.length ∨ ∃ k, i = k + 1 ∧ k < cs.length ∧ pv cs a k = 0
theorem run_iff (cs : List Int) (a : Int) (i : Nat) : RunP cs a i ↔ i < cs.length ∧ ∀ j, j < i → pv cs a j ≠ 0 := Iff.rfl
theorem end_iff (cs : List Int) (a : Int) (i : Nat) : EndP cs a i ↔ (i = cs.length ∨ ∃ k, i = k + 1 ∧ k < cs.length ∧ pv cs a k = 0) := Iff.rfl
theorem pv_eq (cs : List Int) (a : Int) (i : Nat) : cs.getD (pos a cs.length i) 0 = pv cs a i := rfl
set_option maxRecDepth 100000 in
set_option maxHeartbeats 1000000 in
theorem iter66 (n : Nat) (hn : 1 ≤ n) (v : Value) (cs : List Int) (a : Int) (hl : 1 ≤ cs.length ∧ cs.length ≤ 100000) (ha : 1 ≤ a ∧ a ≤ 1600) (bt ba l : Nat) (J : Nat → World → Prop) (K : World → Prop) (w : World)
    (hG : ∀ i W, J i W → SeqAt W bt ba v cs a) (hJ : ∀ i W W', J i W → Below W.heap.size W W' → J i W')
    (hY : ∀ i W1, J i W1 → RunP cs a i → w.heap.size ≤ W1.heap.size → YieldAt Fence.wide (n - 1) Tryz.prog l (encP a cs.length i) W1 fun e W' =>
      (e = .returned (.bool true) ∧ J (i + 1) W' ∨ e = .returned (.bool false) ∧ K W') ∧ W1.heap.size ≤ W'.heap.size)
    (h0 : J 0 w) :
    Calls Tryz.prog 142 #[.func (.yield l) #[] #[], .pointer (some ⟨ba, 0, none⟩), .pointer (some ⟨bt, 0, none⟩)] w fun e W' => (∃ v, e = .returned v) ∧ ((∃ i, EndP cs a i ∧ J i W') ∨ K W') := by
  have HG := Lib.hid hG
  have HJ := Lib.hid hJ
  have HY := Lib.hid hY
  have H0 := Lib.hid h0
  have S0 := hG _ _ h0
  obtain ⟨A, cap, hv, -⟩ := S0.ar
  subst hv
  obtain ⟨c0, -⟩ := one_cell S0.bt
  obtain ⟨c1, -⟩ := one_cell S0.ba
  have PL := Lib.hid (fun i => pos_lt a (show 0 < cs.length by omega) i)
  have PC := Lib.hid (fun i => pos_cast a (show 0 < cs.length by omega) i)
  have PV := Lib.hid (pv_eq cs a)
  have RP := Lib.hid (run_iff cs a)
  have EP := Lib.hid (end_iff cs a)
  have CA := Lib.hid (fun i W (h : J i W) j (hj : j < cs.length) => (show ∃ b off, A = some ⟨b, off, none⟩ ∧ W.cell? ⟨b, off + j, none⟩ = some (.int .i64 (cs.getD j 0)) by
    obtain ⟨A', cap', e, hA⟩ := (hG i W h).ar
    cases e
    obtain ⟨b, off, h1, h2⟩ := hA (by omega)
    exact ⟨b, off, h1, h2 j hj⟩))
  have hmul : IntKind.i64.wrap (a * 40503) = a * 40503 := IntWalk.i64_in _ (by omega)
  clear hG hJ hY h0 S0
  obtain ⟨m, hm2⟩ : ∃ m, cs.length = m := ⟨_, rfl⟩
  rw [hm2] at hl PL PC PV RP EP CA HY HG c0
  clear hm2
  go_enter Tryz.func142, Tryz.ntmps142
  go_wp2
  go_loopw [5, 6, 11] (fun x y q wr => ∃ k : Nat, q = .int .i64 k ∧ k ≤ m ∧ Hid (J k wr) ∧ Hid (∀ j, j < k → pv cs a j ≠ 0) ∧ w.heap.size ≤ wr.heap.size) (fun _ _ q _ => m - (intOf q).toNat)
  case atStart => exact ⟨0, rfl, by omega, H0, Lib.hid (fun j hj => by omega), Nat.le_refl _⟩
  case round =>
    obtain ⟨k, rfl, hkm, hj, HN, hsz⟩ := hrel
    by_cases hlt : k < m
    rotate_left
    · have q : decide ((k : Int) < (m : Int)) = false := decide_eq_false (by omega)
      have q' : ¬ (k : Int) < (m : Int) := by omega
      have T := Lib.hid (show k = m by omega)
      clear hkm hlt
      go_wp2
      exact bodyPost_end (v := .tuple #[]) (results_none rfl _ _ _) rfl ⟨⟨_, rfl⟩, .inl ⟨k, (EP.out k).2 (.inl T.out), hj.out⟩⟩
    have q : decide ((k : Int) < (m : Int)) = true := decide_eq_true (by omega)
    have q' : (k : Int) < (m : Int) := by omega
    obtain ⟨d0, -⟩ := one_cell (HG.out _ _ hj.out).bt
    have hadd : IntKind.i64.wrap (a * 40503 + (k : Int)) = a * 40503 + (k : Int) := IntWalk.i64_in _ (by omega)
    have hnn : (0 : Int) ≤ a * 40503 + (k : Int) := by omega
    have e2 : (a * 40503 + (k : Int)) % (m : Int) = (pos a m k : Int) := (PC.out k).symm
    have mz : ((m : Int) == 0) = false := by simp; omega
    have hp := PL.out k
    have hy := HY.out k wr hj.out ((RP.out k).2 ⟨hlt, HN.out⟩) hsz
    obtain ⟨fn, tm, asg, bd, hy, hR⟩ := hy
    dsimp only [encP] at hy
    have HR := Lib.hid hR
    clear hR
    obtain ⟨pk, hpk⟩ : ∃ pk, pos a m k = pk := ⟨_, rfl⟩
    have HPK := Lib.hid hpk
    rw [hpk] at e2 hp hy
    clear hpk mz
    go_upto_region 5 with fail
    refine (wpIn_wide (n := n)).1 ?_
    gi_wp2
    refine HR.out.mono ?_
    rintro e W' ⟨(⟨rfl, hj'⟩ | ⟨rfl, hk'⟩), hsz'⟩
    · obtain ⟨d0', -⟩ := one_cell (HG.out _ _ hj').bt
      obtain ⟨b1, o1, rfl, ca⟩ := CA.out _ _ hj' pk hp
      have PVK := Lib.hid (show cs.getD pk 0 = pv cs a k by rw [← HPK.out]; exact PV.out k)
      have ad1 : (⟨b1, o1, none⟩ : Addr).add pk = ⟨b1, o1 + pk, none⟩ := by unfold Addr.add; split <;> simp_all
      have hpi : (pk : Int) < (m : Int) := by omega
      have HJ' := Lib.hid hj'
      generalize cs.getD pk 0 = x at *
      clear hj'
      by_cases hx : x = 0
      · have q0 : (x == 0) = true := by simpa using hx
        have HX := Lib.hid hx
        clear hx
        gi_wp2
        go_wp2
        exact bodyPost_ret (v := .tuple #[]) (by simp [results, Tryz.f142, go_sem]) rfl ⟨⟨_, rfl⟩, .inl ⟨k + 1, (EP.out _).2 (.inr ⟨k, rfl, hlt, by rw [← PVK.out, HX.out]⟩), HJ'.out⟩⟩
      · have q0 : (x == 0) = false := by simpa using hx
        have HX := Lib.hid hx
        clear hx
        gi_wp2
        go_wp2
        refine ⟨⟨k + 1, by simp, by omega, HJ', Lib.hid (fun j hj2 => ?_), by omega⟩, ?_⟩
        · rcases Nat.lt_or_ge j k with h3 | h3
          · exact HN.out j h3
          · obtain rfl : j = k := by omega
            rw [← PVK.out]; exact HX.out
        · simp only [intOf]; omega
    · gi_wp2
      go_wp2
      exact bodyPost_ret (v := .tuple #[]) (by simp [results, Tryz.f142, go_sem]) rfl ⟨⟨_, rfl⟩, .inr hk'⟩
end YtjkphacidpongaaGreat
end Go.Proofs
