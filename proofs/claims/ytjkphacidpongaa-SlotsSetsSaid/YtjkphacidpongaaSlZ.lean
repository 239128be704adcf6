/- add and addAll whole; drop. -/
import Derived.Test.YtjkphacidpongaaSlY
namespace Go.Proofs
namespace Ytjkphacidpongaa
open Go.RowKit

set_option maxRecDepth 100000 in
set_option maxHeartbeats 2000000 in
theorem add48_full (g : Nat) (cs : List Int) (a : Int) (W : World) (h : TAt W g cs) (hG : Good cs) (ha : 1 ≤ a ∧ a ≤ 1600) (hn : a ∉ cs) (hc : crowd (putF cs a) = true) :
    Calls Try.prog 37 #[tv g cs.length, .int .i64 a] W fun e W' => ∃ g', e = .returned (.tuple #[tv g' (anewF (putF cs a)).length, .bool true]) ∧ W.heap.size ≤ g' ∧ TAt W' g' (anewF (putF cs a)) ∧ W.grownBy W' (some g) := by
  have hO : Own W g cs := ⟨h, hG.zero, hG.tab⟩
  have hh := (hG.tab.hasF hG.zero (by omega)).2 hn
  obtain ⟨hr, hp2, hT⟩ := anew_room hG ha hn
  have F := Lib.hid (hO.find a ha)
  have hl : 0 < cs.length := by have := hG.tab.lo; omega
  have hm := hG.tab.hi
  have hp := pos_lt a hl (freeI cs a)
  have KC := Lib.hid (fun w1 (hb : Below W.heap.size W w1) => crowded56 (tv g (putF cs a).length) (putF cs a) (w1.setCell ⟨g, pos a cs.length (freeI cs a), none⟩ (.int .i64 a)) (TAt.iat ((h.below hb).set _ a)) (by rw [put_len]; omega))
  have AN := Lib.hid (fun w1 (hb : Below W.heap.size W w1) => anew61 g (putF cs a) (w1.setCell ⟨g, pos a cs.length (freeI cs a), none⟩ (.int .i64 a)) ((h.below hb).set _ a) hT hr hp2)
  rw [put_len, hc] at KC
  rw [put_len] at AN
  have TC := Lib.hid (fun w1 (hb : Below W.heap.size W w1) => (h.below hb).cell hp)
  rw [hh, find_free hh] at F
  have hp' : (pos a cs.length (freeI cs a) : Int) < (cs.length : Int) := by omega
  have ad : (⟨g, 0, none⟩ : Addr).add (pos a cs.length (freeI cs a)) = ⟨g, pos a cs.length (freeI cs a), none⟩ := by unfold Addr.add; split <;> simp_all
  unfold tv at *
  generalize pos a cs.length (freeI cs a) = p at *
  generalize anewF (putF cs a) = D at *
  generalize D.length = N at *
  generalize cs.getD p 0 = old at *
  generalize cs.length = n at *
  clear h hG hO hh hr hp2 hT hc hn
  go_enter Try.func37, Try.ntmps37
  go_wp2_with (first
    | (go_at_call 42; refine F.out.mono ?_; rintro e w1 ⟨rfl, hb⟩; have B := Lib.hid hb; clear hb; obtain ⟨t1, f1⟩ := TC.out _ B.out)
    | (go_at_call 67; refine (KC.out _ B.out).mono ?_; rintro e w2 ⟨rfl, rfl⟩)
    | (go_at_call 68; refine (AN.out _ B.out).mono ?_; rintro e w3 ⟨g', rfl, hgs, ht, hb3⟩; have T3 := Lib.hid ht; have B3 := Lib.hid hb3; have G3 := Lib.hid hgs; clear ht hb3 hgs))
  refine bodyPost_ret (v := .tuple #[.slice (some ⟨g', 0, none⟩) N N, .bool true]) (by simp [results, Try.f37, go_sem]) rfl ⟨g', rfl, ?_, T3.out, ?_⟩
  · have h1 := G3.out; have h2 := B.out.size; rw [size_set] at h1; omega
  · exact grown_below (below_grown B.out (grown_set _ g p _)) B3.out
/-- what add answers -/
structure AddAns (W : World) (g : Nat) (cs : List Int) (a : Int) (e : Ending) (W' : World) : Prop where
  ex : ∃ g', e = .returned (.tuple #[tv g' (addF cs a).length, .bool (!hasB cs a)]) ∧ (g' = g ∨ W.heap.size ≤ g') ∧ TAt W' g' (addF cs a)
  grown : W.grownBy W' (some g)
theorem add48 (g : Nat) (cs : List Int) (a : Int) (W : World) (h : TAt W g cs) (hG : Good cs) (ha : 1 ≤ a ∧ a ≤ 1600) :
    Calls Try.prog 37 #[tv g cs.length, .int .i64 a] W fun e W' => AddAns W g cs a e W' := by
  by_cases hm : a ∈ cs
  · have hh := (hG.tab.has hG.zero (by omega)).2 hm
    refine (add48_in g cs a W ⟨h, hG.zero, hG.tab⟩ ha hh).mono ?_
    rintro e W' ⟨rfl, hb⟩
    refine ⟨⟨g, ?_, .inl rfl, ?_⟩, grown_of_below hb _⟩
    · rw [add_in hG (by omega) hm, hh]; rfl
    · rw [add_in hG (by omega) hm]; exact h.below hb
  · have hh := (hG.tab.hasF hG.zero (by omega)).2 hm
    cases hc : crowd (putF cs a) with
    | false =>
      have hs : StepOk cs a := ⟨hG.tab, hG.zero, ha, hm, hc⟩
      refine (add48_calm g cs a W h hs).mono ?_
      rintro e W' ⟨rfl, ht, hg⟩
      refine ⟨⟨g, ?_, .inl rfl, ?_⟩, hg⟩
      · rw [hs.add, hh, put_len]; rfl
      · rw [hs.add]; exact ht
    | true =>
      refine (add48_full g cs a W h hG ha hm hc).mono ?_
      rintro e W' ⟨g', rfl, hgs, ht, hg⟩
      have e0 : addF cs a = anewF (putF cs a) := by unfold addF; rw [hh, if_neg (by simp), if_pos hc]
      refine ⟨⟨g', ?_, .inr hgs, ?_⟩, hg⟩
      · rw [e0, hh]; rfl
      · rw [e0]; exact ht
theorem adds_upto {l cs : List Int} (h : Good cs) (hl : ∀ x ∈ l, 1 ≤ x ∧ x ≤ 1600) (k : Nat) : Good ((l.take k).foldl addF cs) := (adds_ok (l.take k) h (fun x hx => hl x (List.mem_of_mem_take hx))).1
set_option maxRecDepth 100000 in
set_option maxHeartbeats 1000000 in
theorem addAll52 (g : Nat) (cs : List Int) (v : Value) (l : List Int) (W : World) (h : TAt W g cs) (hv : IAt W v l) (hA : Apart v g) (hG : Good cs) (hl : ∀ x ∈ l, 1 ≤ x ∧ x ≤ 1600) (hll : l.length ≤ 100000) :
    Calls Try.prog 64 #[tv g cs.length, v] W fun e W' => ∃ g', e = .returned (tv g' (l.foldl addF cs).length) ∧ (g' = g ∨ W.heap.size ≤ g') ∧ TAt W' g' (l.foldl addF cs) ∧ W.grownBy W' (some g) := by
  have AD := Lib.hid (fun k (hk : k < l.length) X g2 (hx : TAt X g2 ((l.take k).foldl addF cs)) => add48 g2 _ (l.getD k 0) X hx (adds_upto hG hl k) (hl _ (getD_mem hk)))
  have SN := Lib.hid (fun k (hk : k < l.length) => (show (l.take (k + 1)).foldl addF cs = addF ((l.take k).foldl addF cs) (l.getD k 0) by rw [take_snoc hk, List.foldl_append]; rfl))
  have VC := Lib.hid (fun X (hx : W.grownBy X (some g)) => hv.apart hx hA)
  obtain ⟨A, cap, rfl, -⟩ := hv
  have H := Lib.hid h
  have TL := Lib.hid (List.take_length (l := l))
  obtain ⟨m, hm2⟩ : ∃ m, l.length = m := ⟨_, rfl⟩
  have VX := Lib.hid (fun X (hx : W.grownBy X (some g)) k (hk : k < m) => (show ∃ b off, A = some ⟨b, off, none⟩ ∧ X.cell? ⟨b, off + k, none⟩ = some (.int .i64 (l.getD k 0)) by
    obtain ⟨A', cap', e, hc⟩ := VC.out X hx
    cases e
    obtain ⟨b, off, h1, h2⟩ := hc (by omega)
    exact ⟨b, off, h1, h2 k (by omega)⟩))
  rw [hm2] at AD SN TL hll ⊢
  have H0 := Lib.hid (show ((l.take 0).foldl addF cs) = cs by simp)
  unfold tv at *
  clear h hA VC hm2 hG hl
  go_enter Try.func64, Try.ntmps64
  go_wp2
  go_loopw [0, 6, 9] (fun t a i wr => ∃ k g2 n2 : Nat, k ≤ m ∧ i = .int .i64 k ∧ t = .slice (some ⟨g2, 0, none⟩) n2 n2 ∧ Hid (n2 = ((l.take k).foldl addF cs).length) ∧ Hid (g2 = g ∨ W.heap.size ≤ g2) ∧ Hid (TAt wr g2 ((l.take k).foldl addF cs)) ∧ Hid (W.grownBy wr (some g))) (fun _ _ i _ => m - (intOf i).toNat)
  case atStart => exact ⟨0, g, cs.length, by omega, rfl, rfl, Lib.hid (by rw [H0.out]), Lib.hid (.inl rfl), Lib.hid (by rw [H0.out]; exact H.out), Lib.hid ⟨rfl, rfl, rfl, Nat.le_refl _, fun _ _ _ => rfl⟩⟩
  case round =>
    obtain ⟨k, g2, n2, hk, rfl, rfl, HN, HO, HT, HG⟩ := hrel
    by_cases hlt : k < m
    rotate_left
    · have hlt' : ¬ (k : Int) < (m : Int) := by omega
      obtain rfl : k = m := by omega
      rw [TL.out] at HT HN
      clear AD SN VX TL
      go_wp2
      refine bodyPost_ret (v := .slice (some ⟨g2, 0, none⟩) n2 n2) (by simp [results, Try.f64, go_sem]) rfl ⟨g2, by rw [← HN.out], HO.out, HT.out, HG.out⟩
    have hlt' : (k : Int) < (m : Int) := by omega
    obtain ⟨b1, o1, rfl, ca⟩ := VX.out _ HG.out k hlt
    have ad1 : (⟨b1, o1, none⟩ : Addr).add k = ⟨b1, o1 + k, none⟩ := by unfold Addr.add; split <;> simp_all
    have C := Lib.hid (AD.out k hlt wr g2 HT.out)
    rw [← HN.out] at C
    have S := Lib.hid (SN.out k hlt)
    generalize l.getD k 0 = x at *
    generalize ((l.take k).foldl addF cs) = d at *
    go_wp2_with (go_at_call 37; refine C.out.mono ?_; rintro e w1 ⟨⟨g3, he, hg3, ht⟩, hg⟩; subst he; unfold tv; have T1 := Lib.hid ht; have O1 := Lib.hid (show g3 = g ∨ W.heap.size ≤ g3 from hg3.elim (fun e => by rw [e]; exact HO.out) (fun h => .inr (Nat.le_trans HG.out.size h))); have G1 := Lib.hid (grown_step HG.out hg HO.out); clear ht hg hg3)
    refine ⟨⟨k + 1, g3, (addF d x).length, by omega, by simp, rfl, Lib.hid (by rw [S.out]), O1, Lib.hid (by rw [S.out]; exact T1.out), G1⟩, ?_⟩
    show m - ((k : Int) + 1).toNat < m - ((k : Int)).toNat
    omega
set_option maxRecDepth 100000 in
set_option maxHeartbeats 1000000 in
theorem drop50 (g : Nat) (cs : List Int) (a : Int) (W : World) (h : TAt W g cs) (hG : Good cs) (ha : 1 ≤ a ∧ a ≤ 1600) :
    Calls Try.prog 36 #[tv g cs.length, .int .i64 a] W fun e W' => e = .returned (.bool (hasB cs a)) ∧ TAt W' g (dropF cs a) ∧ W.grownBy W' (some g) := by
  have F := Lib.hid ((Own.mk h hG.zero hG.tab).find a ha)
  have hl : 0 < cs.length := by have := hG.tab.lo; omega
  cases hh : hasB cs a with
  | false =>
    rw [hh] at F
    have TA := Lib.hid (fun w1 (hb : Below W.heap.size W w1) => h.below hb)
    rw [drop_no hh]
    unfold tv at *
    generalize findF cs a = p at *
    generalize cs.length = n at *
    clear h hG hh
    go_enter Try.func36, Try.ntmps36
    go_wp2_with (go_at_call 42; refine F.out.mono ?_; rintro e w1 ⟨rfl, hb⟩; have B := Lib.hid hb; clear hb)
    refine bodyPost_ret (v := .bool false) (by simp [results, Try.f36, go_sem]) rfl ⟨rfl, TA.out _ B.out, grown_of_below B.out _⟩
  | true =>
    have hp := pos_lt a hl (stopI cs a)
    rw [hh, find_stop_at hh] at F
    have TA := Lib.hid (fun w1 (hb : Below W.heap.size W w1) => (h.below hb).set (pos a cs.length (stopI cs a)) (-1))
    have TC := Lib.hid (fun w1 (hb : Below W.heap.size W w1) => (h.below hb).cell hp)
    rw [drop_yes hh]
    have hp' : (pos a cs.length (stopI cs a) : Int) < (cs.length : Int) := by omega
    have ad : (⟨g, 0, none⟩ : Addr).add (pos a cs.length (stopI cs a)) = ⟨g, pos a cs.length (stopI cs a), none⟩ := by unfold Addr.add; split <;> simp_all
    unfold tv at *
    generalize pos a cs.length (stopI cs a) = p at *
    generalize cs.set p (-1) = ds at *
    generalize cs.getD p 0 = old at *
    generalize cs.length = n at *
    clear h hG hh
    go_enter Try.func36, Try.ntmps36
    go_wp2_with (go_at_call 42; refine F.out.mono ?_; rintro e w1 ⟨rfl, hb⟩; have B := Lib.hid hb; clear hb; obtain ⟨t1, f1⟩ := TC.out _ B.out)
    refine bodyPost_ret (v := .bool true) (by simp [results, Try.f36, go_sem]) rfl ⟨rfl, TA.out _ B.out, below_grown B.out (grown_set _ g p _)⟩
end Ytjkphacidpongaa
end Go.Proofs
