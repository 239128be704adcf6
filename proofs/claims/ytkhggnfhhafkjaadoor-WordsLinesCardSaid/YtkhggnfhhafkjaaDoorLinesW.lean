/- words.Lines at a text that ends in a newline. -/
import Derived.Test.YtkhggnfhhafkjaaDoorLinesI
import Derived.Test.YtkhggnfhhafkjaaDoorSplit
import Derived.Shelf.RegionOpen
import Derived.RangeFuncCalls
namespace Go.Proofs
namespace YtkhggnfhhafkjaaDoor
open Go.RowKit
attribute [local go_sem] Oper.semAt_some

theorem lines74 (s : ByteArray) (w : World) : Calls Tryd.prog 74 #[.string s] w fun e w' => e = .returned (.func (.func 100) #[] #[.pointer (some ⟨w.heap.size, 0, none⟩)]) ∧ w' = w.alloc (.cells #[.string s] 9) := by
  go_enter Tryd.func74, Tryd.ntmps74
  go_wp2
  go_ret
  exact ⟨rfl, rfl⟩

/-- a line without its newline -/
def chop (x : List UInt8) : List UInt8 := Lib.trimSuffix x [10]
theorem chop_pcs (l : List UInt8) : (pcs l).map chop = lnsC [] l := by
  unfold pcs chop
  rw [List.map_map]
  exact (List.map_congr_left (g := id) (fun x _ => trim_10 x)).trans (List.map_id _)
/-- append, folded -/
def appF (ts : Array TypeId) (ty : TypeId) (args : Array Value) : Sem Value := Builtin.append_ ts ty args
theorem fold_append (ts : Array TypeId) (ty : TypeId) (args : Array Value) : Builtin.append_ ts ty args = appF ts ty args := rfl
/-- what holds between two rounds -/
structure LI (w : World) (pre : List (List UInt8)) (W : World) : Prop where
  row : ∃ v, Boxed W w.heap.size 69 v ∧ W.ownsRow (w.heap.size + 4) 9 1 v pre.length (sc (pre.map chop))
  below : Below w.heap.size w W
theorem LI.turn {w : World} {pre : List (List UInt8)} {W W' : World} {r : Nat} (h : LI w pre W) (h0 : w.heap.size + 1 ≤ r) (h1 : r < w.heap.size + 4) (hg : W.grownBy W' (some r)) : LI w pre W' := by
  obtain ⟨⟨v, a2, a3⟩, a7⟩ := h
  refine ⟨⟨v, a2.kept hg (by simp; omega), a3.kept hg ?_⟩, a7.grown hg a7.size (fun k e => by cases e; omega)⟩
  cases ho : v.ownBlock with
  | none => exact .inl rfl
  | some k =>
    right
    have := (a3.lt k ho).1
    intro e
    injection e with e
    omega

/-- the iterator over the lines of no text -/
theorem iter100_nil (s : ByteArray) (hs : s.size = 0) (b l : Nat) (w : World) (hl : w.heap[b]? = some (.cells #[.string s] 9 (0, 0))) :
    Calls Tryd.prog 100 #[.func (.yield l) #[] #[], .pointer (some ⟨b, 0, none⟩)] w fun e w' => (∃ v, e = .returned v) ∧ w = w' := by
  have c0 : w.cell? ⟨b, 0, none⟩ = some (.string s) := by rw [cell_of_row _ _ _ _ _ _ hl]; rfl
  have q : decide ((0 : Int) < (s.size : Int)) = false := decide_eq_false (by omega)
  clear hl
  go_enter Tryd.func100, Tryd.ntmps100
  go_wp2
  go_loopw [3, 4] (fun _ _ wr => w = wr) (fun _ _ _ => 0)
  case atStart => rfl
  case round =>
    subst hrel
    go_wp2
    exact bodyPost_end (v := .tuple #[]) (results_none rfl _ _ _) rfl ⟨⟨_, rfl⟩, rfl⟩
theorem nil_iter (n : Nat) (_ : 1 ≤ n) (s : ByteArray) (hs : s.size = 0) (b : Nat) (w : World) (hl : w.heap[b]? = some (.cells #[.string s] 9 (0, 0))) :
    IterAt n Tryd.prog 100 #[.pointer (some ⟨b, 0, none⟩)] encS (fun _ => False) (fun _ => True) (fun xs => xs = []) (fun _ => True) 0 b w := by
  intro l J Jx _ hJ _ hY h0
  refine callsIn_wide.2 ((iter100_nil s hs b l w hl).mono fun e W' h => ?_)
  obtain ⟨hv, rfl⟩ := h
  exact ⟨hv, .inl ⟨[], rfl, h0⟩⟩

set_option maxRecDepth 100000 in
set_option maxHeartbeats 1000000 in
theorem lines52_nil (s : ByteArray) (w : World) (h : s.size = 0) :
    CallsIn Fence.wide 9 Tryd.prog 52 #[.string s] w fun e w' => ∃ v, e = .returned (.tuple #[v, .int .i64 0]) ∧ SAt w' v [] ∧ Below w.heap.size w w' := by
  have q : decide ((1048576 : Int) < (s.size : Int)) = false := decide_eq_false (by omega)
  have hl0 : s.data.toList = [] := List.eq_nil_of_length_eq_zero (by simpa using h)
  have HN := Lib.hid (show Lib.countByte s.data.toList 10 = 0 by rw [hl0]; rfl)
  have q2 : (s.toList == []) = true := by rw [ByteArray.toList_eq, hl0]; rfl
  have q3 : (s.toList != []) = false := by rw [ByteArray.toList_eq, hl0]; rfl
  have H := Lib.hid h
  clear hl0 h
  refine callsIn_of_wp_marks Tryd.func52 rfl trivial ?_ rfl
  simp only [Tryd.ntmps52, List.size_toArray, List.length_cons, List.length_nil, Nat.reduceAdd, Nat.reduceSub, Array.replicate_succ, Array.replicate_zero, List.push_toArray, List.append_toArray, List.nil_append, List.cons_append]
  gi_wp2_with (first
    | (refine ⟨trivial, ?_⟩; gi_at_call 73; refine (callsIn_wide.2 (Tryd.strings_Count_one s _ _)).mono ?_; rintro e w1 ⟨rfl, rfl⟩; rw [HN.out])
    | (refine ⟨trivial, ?_⟩; gi_at_call 74; refine (callsIn_wide.2 (lines74 s _)).mono ?_; rintro e w' ⟨rfl, rfl⟩)
    | (refine ⟨trivial, ?_⟩; go_at_K))
  have b0 := (Boxed.new w1 69 (.slice none 0 0)).alloc (.cells #[.string s] 9)
  have b1 := Boxed.new (w1.alloc (.cells #[.slice none 0 0] 69)) 9 (.string s)
  have hB0 : Below w1.heap.size w1 ((w1.alloc (.cells #[.slice none 0 0] 69)).alloc (.cells #[.string s] 9)) := by go_grown
  have hz : ((w1.alloc (.cells #[.slice none 0 0] 69)).alloc (.cells #[.string s] 9)).heap.size = w1.heap.size + 2 := by simp
  simp only [World.size_alloc] at b1
  obtain ⟨W0, hW0⟩ : ∃ W0, ((w1.alloc (.cells #[.slice none 0 0] 69)).alloc (.cells #[.string s] 9)) = W0 := ⟨_, rfl⟩
  rw [hW0] at b0 b1 hB0 hz ⊢
  clear hW0
  refine range_at (w := W0) (n := 9) (by omega) (w1.heap.size + 1) (by omega) (gf := 100) (lb := #[.pointer (some ⟨w1.heap.size + 1, 0, none⟩)]) rfl (enters_of Tryd.func100 (by kernel_rfl) rfl) (encs := encS) (R := fun _ => False) (G := fun _ => True) (S := fun xs => xs = []) (Sp := fun _ => True) (N := 0)
    (fun W1 hb hsz => nil_iter 8 (by omega) s H.out _ W1 ((hb.block _ (by omega)).trans b1)) (fun _ => rfl) (LI w1) (fun _ _ _ => trivial) (fun _ _ _ => False) (fun _ _ _ _ => False)
    (fun pre W W' r hr hi hg => hi.turn (by omega) (by omega) hg) (fun c pre W W' r hr hi hg => hi) (fun pre x a' u W W' r hr hi hg => hi)
    (fun W1 hb => ⟨⟨_, b0.kept (grown_of_below hb none) (by simp), World.ownsRow_nil _ _ _ _⟩, hB0.trans (hb.mono (by omega))⟩) (fun _ _ _ _ hx _ _ _ => hx.elim) (fun _ _ _ _ _ hx _ _ _ => hx.elim) ?done (fun _ _ _ _ hf => hf.elim)
  case done =>
    rintro xs W rfl ⟨⟨v, a2, a3⟩, a7⟩ hK
    rw [hz] at hK ⊢
    obtain ⟨Av, cv, rfl⟩ := own_form a3
    have c2 := a2.cell
    have A3 := Lib.hid a3
    clear a3
    gi_wp2
    refine ⟨by simp, .inl ⟨_, _, rfl, run_takeDeferred hK, ?_⟩⟩
    have hrow := ownsRow_putObj A3.out (.deferred none) hK rfl
    refine ⟨.tuple #[.slice Av 0 cv, .int .i64 0], by simp [results, Tryd.f52, go_sem], .slice Av 0 cv, rfl, ?_, ?_⟩
    · exact SAt.of_own (ls := []) hrow
    · exact a7.trans (belowK_b (w := w1) (Nat.le_refl _) _ (w1.heap.size + 2) _ _ (by omega) hK rfl rfl)

/-- a round's frame -/
def LFr (s : ByteArray) (c B : Nat) (x : List UInt8) (a : Act) : Prop := a = { tmps := #[.string s, undef, .slice none 0 0, .int .i64 0, .pointer (some ⟨B, 0, none⟩), .string ⟨x.toArray⟩, .string s, .int .i64 s.size, .bool false, .string s, .bool true, .bool true, .string s, .bool true, .bool false, .bool false, .string s, .int .i64 c, .bool false, .string s,
  .func (.func 100) #[] #[.pointer (some ⟨B + 1, 0, none⟩)], .string ⟨x.toArray⟩, undef, undef, undef, undef, undef, undef, undef], defers := [] }

attribute [local go_sem ↓] fold_append
set_option maxRecDepth 100000 in
set_option maxHeartbeats 1000000 in
theorem lines52_in (s : ByteArray) (w : World) (h : s.size ≤ 1048576) (h0 : s.data.toList ≠ []) (he : s.data.toList = [] ∨ s.data.toList.getLast? = some 10) (h2 : (lnsC [] s.data.toList).length ≤ 5000) :
    CallsIn Fence.wide 9 Tryd.prog 52 #[.string s] w fun e w' => ∃ v, e = .returned (.tuple #[v, .int .i64 0]) ∧ SAt w' v (lnsC [] s.data.toList) ∧ Below w.heap.size w w' := by
  have q : decide ((1048576 : Int) < (s.size : Int)) = false := decide_eq_false (by omega)
  have HE := Lib.hid he
  have H2 := Lib.hid h2
  obtain ⟨c, hc⟩ : ∃ c, Lib.countByte s.data.toList 10 = c := ⟨_, rfl⟩
  have h3 : c ≤ 5000 := by rw [← hc]; unfold Lib.countByte; rw [← lns_count s.data.toList []]; exact h2
  have HN := Lib.hid hc
  have q4 : decide ((5000 : Int) < (c : Int)) = false := decide_eq_false (by omega)
  clear h2 hc he
  have q2 : (s.toList == []) = false := by rw [ByteArray.toList_eq]; simpa using h0
  have q3 : (s.toList != []) = true := by rw [ByteArray.toList_eq]; simpa using h0
  have E := Lib.hid (show Lib.hasSuffix s.data.toList (⟨#[10]⟩ : ByteArray).data.toList = true by
    rw [show (⟨#[10]⟩ : ByteArray).data.toList = [10] from rfl, ends_10]; simpa using HE.out.resolve_left h0)
  clear h0
  refine callsIn_of_wp_marks Tryd.func52 rfl trivial ?_ rfl
  simp only [Tryd.ntmps52, List.size_toArray, List.length_cons, List.length_nil, Nat.reduceAdd, Nat.reduceSub, Array.replicate_succ, Array.replicate_zero, List.push_toArray, List.append_toArray, List.nil_append, List.cons_append]
  gi_wp2_with (first
    | (refine ⟨trivial, ?_⟩; gi_at_call 72; refine (callsIn_wide.2 (Tryd.strings_HasSuffix s _ _ (by omega))).mono ?_; rintro e w1 ⟨rfl, rfl⟩; rw [E.out])
    | (refine ⟨trivial, ?_⟩; gi_at_call 73; refine (callsIn_wide.2 (Tryd.strings_Count_one s _ _)).mono ?_; rintro e w1 ⟨rfl, rfl⟩; rw [HN.out])
    | (refine ⟨trivial, ?_⟩; gi_at_call 74; refine (callsIn_wide.2 (lines74 s _)).mono ?_; rintro e w' ⟨rfl, rfl⟩))
  have b0 := (Boxed.new w1 69 (.slice none 0 0)).alloc (.cells #[.string s] 9)
  have b1 := Boxed.new (w1.alloc (.cells #[.slice none 0 0] 69)) 9 (.string s)
  have hB0 : Below w1.heap.size w1 ((w1.alloc (.cells #[.slice none 0 0] 69)).alloc (.cells #[.string s] 9)) := by go_grown
  have hz : ((w1.alloc (.cells #[.slice none 0 0] 69)).alloc (.cells #[.string s] 9)).heap.size = w1.heap.size + 2 := by simp
  simp only [World.size_alloc] at b1
  obtain ⟨W0, hW0⟩ : ∃ W0, ((w1.alloc (.cells #[.slice none 0 0] 69)).alloc (.cells #[.string s] 9)) = W0 := ⟨_, rfl⟩
  rw [hW0] at b0 b1 hB0 hz ⊢
  clear hW0
  refine range_at (w := W0) (n := 9) (by omega) (w1.heap.size + 1) (by omega) (gf := 100) (lb := #[.pointer (some ⟨w1.heap.size + 1, 0, none⟩)]) rfl (enters_of Tryd.func100 (by kernel_rfl) rfl) (encs := encS) (R := fun x => x.length ≤ 1048576) (G := fun _ => True) (S := fun xs => xs = pcs s.data.toList) (Sp := fun pre => pre <+: pcs s.data.toList) (N := s.size + 1)
    (fun W1 hb hsz => lines_iter 8 (by omega) s h HE.out _ W1 ((hb.block _ (by omega)).trans b1)) (fun _ => rfl) (LI w1) (fun _ _ _ => trivial) (fun _ _ _ => False) (fun pre x a' W => LI w1 pre W ∧ LFr s c w1.heap.size x a')
    (fun pre W W' r hr hi hg => hi.turn (by omega) (by omega) hg) (fun c pre W W' r hr hi hg => hi) (fun pre x a' u W W' r hr hi hg => ⟨hi.1.turn (by omega) (by omega) hg, hi.2⟩)
    (fun W1 hb => ⟨⟨_, b0.kept (grown_of_below hb none) (by simp), World.ownsRow_nil _ _ _ _⟩, hB0.trans (hb.mono (by omega))⟩) ?assign ?body ?done (fun _ _ _ _ hf => hf.elim)
  case assign =>
    intro l pre x W hx hI _ hsz
    have HI := Lib.hid hI
    clear hI
    dsimp only [encS]
    gi_wp2
    exact ⟨KeptB.refl _ _ _, HI.out, rfl⟩
  case body =>
    rintro l pre x a' W hx ⟨⟨⟨v, a2, a3⟩, a7⟩, rfl⟩ hlen hsz
    have c2 := a2.cell
    have f2 := a2.frozen
    obtain ⟨i0, hi, hz0, hz1, hz2⟩ := info_parts info9
    have hmx : Tryd.prog.follows .mixedOrders = true := by kernel_rfl
    have hd : 1 ≤ 9 - 1 - 1 := by omega
    have hxs : (⟨x.toArray⟩ : ByteArray).size = x.length := by simp [ByteArray.size]
    have hch : (⟨(Lib.trimSuffix (⟨x.toArray⟩ : ByteArray).data.toList (⟨#[10]⟩ : ByteArray).data.toList).toArray⟩ : ByteArray) = ⟨(chop x).toArray⟩ := rfl
    have HCH := Lib.hid hch
    have HXS := Lib.hid hxs
    have hcl : (chop x).length ≤ x.length := by
      unfold chop Lib.trimSuffix
      split
      · simp
      · exact Nat.le_refl _
    have hcs : (⟨(chop x).toArray⟩ : ByteArray).size = (chop x).length := by simp [ByteArray.size]
    have HCS := Lib.hid hcs
    clear hch hxs hcs
    have push : ∀ w2 : World, Below W.drew.heap.size W.drew w2 → ∃ v' w3, (appF #[69, 69] 69 #[v, .slice (some ⟨w2.heap.size, 0, none⟩) 1 1]).run Tryd.prog (w2.alloc (.cells #[.string ⟨(chop x).toArray⟩] 9)) = .ok v' w3 ∧
        w3.ownsRow (w1.heap.size + 4) 9 1 v' (pre.length + 1) (sc (pre.map chop) ++ [.string ⟨(chop x).toArray⟩]) ∧ W.grownBy w3 v.ownBlock ∧ w3.cell? ⟨w1.heap.size, 0, none⟩ = some v ∧ w3.frozen? ⟨w1.heap.size, 0, none⟩ = false ∧ w2.cell? ⟨w1.heap.size, 0, none⟩ = some v ∧ (w2.alloc (.cells #[.string ⟨(chop x).toArray⟩] 9)).cell? ⟨w1.heap.size, 0, none⟩ = some v := by
      intro w2 hb
      have hbW : Below W.heap.size W w2 := (below_drewN (Below.refl _ _) 1).trans hb
      have hg2 := grown_of_below hbW none
      have a32 := own_below a3 hbW
      obtain ⟨v', w3, hr, h1, h2, _⟩ := run_append_own (P := Tryd.prog) (w2.alloc (.cells #[.string ⟨(chop x).toArray⟩] 9)) (w1.heap.size + 4) 69 69 9 i0 _ 1 16 Tryd.underlying69 hi hz0 hz1 hz2 rfl (by decide) v pre.length (sc (pre.map chop)) (a32.alloc _)
        ⟨w2.heap.size, 0, none⟩ 1 1 [.string ⟨(chop x).toArray⟩] rfl (fun j u hj => by
          have e : (⟨w2.heap.size, 0, none⟩ : Addr).add j = ⟨w2.heap.size, j, none⟩ := by unfold Addr.add; split <;> simp_all
          rw [e, cell_of_row _ _ _ _ _ _ (heap_alloc_new w2 _)]
          simpa using hj) (by simp [Value.oneCell']) (by unfold maxLen; omega) (by omega) (by have := hbW.size; simp; omega)
      have k := boxed_through (a2.kept hg2 (by simp)) (by omega) a32 h2
      exact ⟨v', w3, hr, h1, ((grown_of_below hbW _).trans (World.grownBy_alloc w2 _ _)).trans h2, k.cell, k.frozen, (a2.kept hg2 (by simp)).cell, ((a2.kept hg2 (by simp)).alloc _).cell⟩
    have fin : ∀ (w3 : World) (g' cap' : Nat), w3.ownsRow (w1.heap.size + 4) 9 1 (.slice (some ⟨g', 0, none⟩) (pre.length + 1) cap') (pre.length + 1) (sc (pre.map chop) ++ [.string ⟨(chop x).toArray⟩]) → W.grownBy w3 v.ownBlock →
        KeptB W0.heap.size (w1.heap.size + 1) W (w3.setCell ⟨w1.heap.size, 0, none⟩ (.slice (some ⟨g', 0, none⟩) (pre.length + 1) cap')) ∧ LI w1 (pre ++ [x]) (w3.setCell ⟨w1.heap.size, 0, none⟩ (.slice (some ⟨g', 0, none⟩) (pre.length + 1) cap')) := by
      intro w3 g' cap' h1 h2
      have hblk := (h1.lt g' rfl).1
      have hb3 : Boxed w3 w1.heap.size 69 v := a2.kept h2 (fun e => by have := (a3.lt _ e.symm).1; omega)
      refine ⟨⟨by rw [size_set]; exact h2.size, fun k hk hkl => ?_⟩, ⟨_, hb3.set _, ?_⟩, ?_⟩
      · rw [Below.heap_setCell w3 _ _ k (by simp; omega)]
        exact h2.block k hkl (fun e => by have := (a3.lt k e.symm).1; omega)
      · rw [List.map_append, List.map_singleton, sc_snoc, List.length_append, List.length_singleton]
        refine World.ownsRow.kept h1 (grown_set w3 _ 0 _) ?_
        right; intro e; simp [Value.ownBlock] at e; omega
      · exact (a7.grown h2 a7.size (fun k hk => by have := (a3.lt k hk).1; omega)).setCell (p := ⟨w1.heap.size, 0, none⟩) (Nat.le_refl _) _
    have FIN := Lib.hid fin
    clear fin
    have PUSH := Lib.hid push
    clear push
    gi_wp2
    gi_region_with_o (first
      | (refine ⟨trivial, ?_⟩; gi_at_call 75; refine (CallsIn.inRound l (callsIn_wide.2 (Tryd.strings_TrimSuffix _ _ _ (by rw [HXS.out]; omega)))).mono ?_; rintro e w' ⟨rfl, rfl⟩; rw [HCH.out])
      | (refine ⟨trivial, ?_⟩; gi_at_call 70; refine (CallsIn.inRound l (callsIn_wide.2 (clone70 _ _ (by rw [HCS.out]; omega)))).mono ?_; rintro e w2 ⟨rfl, hbel⟩
         obtain ⟨v', w3, hrun, hown3, hgrow3, hc3, hf3, hc4, hc5⟩ := PUSH.out w2 hbel; obtain ⟨g', cap', rfl⟩ := ownsRow_succ hown3; have HO3 := Lib.hid hown3; have HG3 := Lib.hid hgrow3; clear hown3 hgrow3))
    all_goals exact FIN.out _ _ _ HO3.out HG3.out
  case done =>
    rintro xs W rfl ⟨⟨v, a2, a3⟩, a7⟩ hK
    rw [hz] at hK ⊢
    obtain ⟨Av, cv, rfl⟩ := own_form a3
    have c2 := a2.cell
    have A3 := Lib.hid a3
    clear a3
    gi_wp2
    refine ⟨by simp, .inl ⟨_, _, rfl, run_takeDeferred hK, ?_⟩⟩
    have hpl : (pcs s.data.toList).length = (lnsC [] s.data.toList).length := by simp [pcs]
    have hrow := ownsRow_putObj A3.out (.deferred none) hK rfl
    rw [chop_pcs, hpl] at hrow
    refine ⟨.tuple #[.slice Av (pcs s.data.toList).length cv, .int .i64 0], by simp [results, Tryd.f52, go_sem], .slice Av (pcs s.data.toList).length cv, rfl, ?_, ?_⟩
    · rw [hpl]; exact SAt.of_own hrow
    · exact a7.trans (belowK_b (w := w1) (Nat.le_refl _) _ (w1.heap.size + 2) _ _ (by omega) hK rfl rfl)
/-- words.Lines, for every text -/
theorem lines52 (s : ByteArray) (w : World) :
    Calls Tryd.prog 52 #[.string s] w fun e w' => ∃ v, e = .returned (.tuple #[v, .int .i64 (linesF s.data.toList).2]) ∧ SAt w' v (linesF s.data.toList).1 ∧ Below w.heap.size w w' := by
  by_cases h : 1048576 < s.size
  · exact lines52_long s w h
  · have hl : ¬ 1048576 < s.data.toList.length := by simpa using h
    by_cases h0 : s.data.toList = []
    · have F : linesF s.data.toList = ([], 0) := by unfold linesF; rw [if_neg hl, if_pos h0]
      rw [F]
      exact callsIn_wide.1 (lines52_nil s w (by have := congrArg List.length h0; simpa using this))
    · by_cases h1 : s.data.toList.getLast? = some 10
      · by_cases h2 : 5000 < (lnsC [] s.data.toList).length
        · exact lines52_many s w h h0 h1 h2
        · have F : linesF s.data.toList = (lnsC [] s.data.toList, 0) := by unfold linesF; rw [if_neg hl, if_neg h0, if_pos h1, if_neg h2]
          rw [F]
          exact callsIn_wide.1 (lines52_in s w (by omega) h0 (.inr h1) (by omega))
      · exact lines52_form s w h h0 h1
end YtkhggnfhhafkjaaDoor
end Go.Proofs
