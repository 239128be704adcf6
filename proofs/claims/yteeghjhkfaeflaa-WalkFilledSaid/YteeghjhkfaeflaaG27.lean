/- Check, Objects, Slots and Refs, the program's. -/
import Derived.Test.YteeghjhkfaeflaaG23
import Derived.Test.YteeghjhkfaeflaaG24
import Derived.Test.YteeghjhkfaeflaaG25
import Derived.Test.YteeghjhkfaeflaaG26
namespace Go.Proofs
namespace Yteeghjhkfaeflaa
open Go.RowKit

def objsF (ws : List Int) (f t : Int) : List Int × Int := colF (fun x => [x]) (fun _ => 0) ws f t
def slotsF (ws : List Int) (f t : Int) : List Int × Int := colF (fun x => (sltF ws x).1) (fun x => (sltF ws x).2) ws f t
def shpsF (ws : List Int) (f t : Int) : List (Int × Int) × Int := colF (shpL ws) (fun x => (objF ws x).2.2) ws f t
def refsF (ws : List Int) (f t : Int) : List (Int × Int) × Int := colF (fun x => (refF ws x).1) (fun x => (refF ws x).2) ws f t
/-- references as an answer -/
def RfAns (w : World) (R : List (Int × Int) × Int) (e : Ending) (w' : World) : Prop := ∃ u, e = .returned (.tuple #[u, .int .i64 R.2]) ∧ w'.ownsRow w.heap.size 57 2 u R.1.length (pc R.1) ∧ Below w.heap.size w w'
theorem ref_len (ws : List Int) (x : Int) : (refF ws x).1.length ≤ 64 := by
  unfold refF
  split
  · have := slt_len ws x
    rw [List.length_zip]; omega
  · simp
theorem nothing37 (x : Int) (w : World) : Calls Try.prog 37 #[.int .i64 x] w fun e w' => e = .returned (.tuple #[]) ∧ w = w' := by
  go_enter Try.func37, Try.ntmps37
  go_wp2
  exact bodyPost_end (v := .tuple #[]) (results_none rfl _ _ _) rfl ⟨rfl, rfl⟩
set_option maxRecDepth 100000 in
set_option maxHeartbeats 400000 in
theorem wcheck13 (v : Value) (ws : List Int) (f t : Int) (w : World) (h : Ar w v ws) :
    Calls Try.prog 13 #[v, .int .i64 f, .int .i64 t] w fun e w' => e = .returned (.tuple #[.int .i64 (wcF ws f t).1, .int .i64 (wcF ws f t).2]) ∧ Below w.heap.size w w' := by
  have E := Lib.hid (each36 v ws f t 37 #[] (fun _ _ W => Below w.heap.size w W) w h (enters_of Try.func37 (by kernel_rfl) rfl)
    ⟨fun C W hb _ _ => hb, fun C s W W' r h1 h2 h3 h4 => h3.grown h4 h3.size (fun k e => by injection e with e; omega), fun C pre W hb => h.below hb, fun C pre x W hb _ _ _ => (nothing37 x W).mono (by rintro e W' ⟨rfl, rfl⟩; exact ⟨rfl, hb, KeptR.refl _ _ _⟩)⟩)
  generalize wcF ws f t = q at *
  obtain ⟨q1, q2⟩ := q
  obtain ⟨Av, cv, rfl, -, -⟩ := h.open
  clear h
  go_enter Try.func13, Try.ntmps13
  go_wp2_with (go_at_call 36; refine E.out.mono ?_; rintro e w1 ⟨rfl, C, hb1⟩)
  exact bodyPost_ret (v := .tuple #[.int .i64 q1, .int .i64 q2]) (by simp [results, Try.f13, go_sem]) rfl ⟨rfl, hb1⟩
set_option maxRecDepth 100000 in
set_option maxHeartbeats 400000 in
theorem objects15 (v : Value) (ws : List Int) (f t : Int) (w : World) (h : Ar w v ws) :
    Calls Try.prog 15 #[v, .int .i64 f, .int .i64 t] w fun e w' => IAns w (objsF ws f t) e w' := by
  have E := Lib.hid (col40 v ws f t 41 (enters_of Try.func41 (by kernel_rfl) rfl) (fun x => [x]) (fun _ => 0) (fun x => by simp) w h (fun x W hb => itself41 v x W))
  unfold objsF IAns
  generalize colF (fun x => [x]) (fun _ => 0) ws f t = q at *
  obtain ⟨q1, q2⟩ := q
  dsimp only at *
  obtain ⟨Av, cv, rfl, -, -⟩ := h.open
  clear h
  go_enter Try.func15, Try.ntmps15
  go_wp2_with (go_at_call 40; refine E.out.mono ?_; rintro e w1 ⟨u, rfl, ho, hb⟩; have HO := Lib.hid ho; have HB := Lib.hid hb; clear hb; obtain ⟨A, c, rfl⟩ := own_form ho; clear ho)
  exact bodyPost_ret (v := .tuple #[.slice A q1.length c, .int .i64 q2]) (by simp [results, Try.f15, go_sem]) rfl ⟨_, rfl, HO.out, HB.out⟩
set_option maxRecDepth 100000 in
set_option maxHeartbeats 400000 in
theorem slots22 (v : Value) (ws : List Int) (f t : Int) (w : World) (h : Ar w v ws) :
    Calls Try.prog 22 #[v, .int .i64 f, .int .i64 t] w fun e w' => IAns w (slotsF ws f t) e w' := by
  have E := Lib.hid (col40 v ws f t 44 (enters_of Try.func44 (by kernel_rfl) rfl) (fun x => (sltF ws x).1) (fun x => (sltF ws x).2) (fun x => Nat.le_trans (slt_len ws x) (by decide)) w h (fun x W hb => (slots19 v ws x W (h.below hb)).mono fun e w' h => h.xat))
  unfold slotsF IAns
  generalize colF (fun x => (sltF ws x).1) (fun x => (sltF ws x).2) ws f t = q at *
  obtain ⟨q1, q2⟩ := q
  dsimp only at *
  obtain ⟨Av, cv, rfl, -, -⟩ := h.open
  clear h
  go_enter Try.func22, Try.ntmps22
  go_wp2_with (go_at_call 40; refine E.out.mono ?_; rintro e w1 ⟨u, rfl, ho, hb⟩; have HO := Lib.hid ho; have HB := Lib.hid hb; clear hb; obtain ⟨A, c, rfl⟩ := own_form ho; clear ho)
  exact bodyPost_ret (v := .tuple #[.slice A q1.length c, .int .i64 q2]) (by simp [results, Try.f22, go_sem]) rfl ⟨_, rfl, HO.out, HB.out⟩
set_option maxRecDepth 100000 in
set_option maxHeartbeats 400000 in
theorem refs24 (v : Value) (ws : List Int) (f t : Int) (w : World) (h : Ar w v ws) :
    Calls Try.prog 24 #[v, .int .i64 f, .int .i64 t] w fun e w' => RfAns w (refsF ws f t) e w' := by
  have E := Lib.hid (col46 v ws f t 47 (enters_of Try.func47 (by kernel_rfl) rfl) (fun x => (refF ws x).1) (fun x => (refF ws x).2) (fun x => ref_len ws x) w h (fun x W hb => refs47 v ws x W (h.below hb)))
  unfold refsF RfAns
  generalize colF (fun x => (refF ws x).1) (fun x => (refF ws x).2) ws f t = q at *
  obtain ⟨q1, q2⟩ := q
  dsimp only at *
  obtain ⟨Av, cv, rfl, -, -⟩ := h.open
  clear h
  go_enter Try.func24, Try.ntmps24
  go_wp2_with (go_at_call 46; refine E.out.mono ?_; rintro e w1 ⟨u, rfl, ho, hb⟩; have HO := Lib.hid ho; have HB := Lib.hid hb; clear hb; obtain ⟨A, c, rfl⟩ := own_form ho; clear ho)
  exact bodyPost_ret (v := .tuple #[.slice A q1.length c, .int .i64 q2]) (by simp [results, Try.f24, go_sem]) rfl ⟨_, rfl, HO.out, HB.out⟩
end Yteeghjhkfaeflaa
end Go.Proofs
/- Find, the program's. -/
namespace Go.Proofs
namespace Yteeghjhkfaeflaa
open Go.RowKit

/-- the last of these that is not above a -/
def lastF (a : Int) (l : List Int) : Int := l.foldl (fun acc o => if o ≤ a then o else acc) 0
theorem last_snoc (a : Int) (l : List Int) (o : Int) : lastF a (l ++ [o]) = if o ≤ a then o else lastF a l := by simp [lastF]
def findF (ws : List Int) (f t a : Int) : Int × Int :=
  if (objsF ws f t).2 ≠ 0 then (0, (objsF ws f t).2) else if a < f ∨ t ≤ a then (0, 4) else (lastF a (objsF ws f t).1, 0)
theorem col_len {α : Type} (fl : Int → List α) (fe : Int → Int) (h : ∀ x, (fl x).length ≤ 64) (ws : List Int) (f t : Int) : (colF fl fe ws f t).1.length ≤ 102464 := by
  unfold colF
  split
  · have h1 := flat_len fl h (visL ws f t)
    have h2 := vis_len ws f t
    dsimp only
    omega
  · simp
theorem objs_len (ws : List Int) (f t : Int) : (objsF ws f t).1.length ≤ 102464 := col_len _ _ (by simp) ws f t
set_option maxRecDepth 100000 in
set_option maxHeartbeats 1000000 in
theorem find18 (v : Value) (ws : List Int) (f t a : Int) (w : World) (h : Ar w v ws) :
    Calls Try.prog 18 #[v, .int .i64 f, .int .i64 t, .int .i64 a] w fun e w' => e = .returned (.tuple #[.int .i64 (findF ws f t a).1, .int .i64 (findF ws f t a).2]) ∧ Below w.heap.size w w' := by
  have E := Lib.hid ((objects15 v ws f t w h).mono fun e w' h => h.own2)
  have hlen := objs_len ws f t
  unfold findF
  generalize objsF ws f t = q at *
  obtain ⟨l, c⟩ := q
  dsimp only at *
  obtain ⟨Av, cv, rfl, -, -⟩ := h.open
  clear h
  by_cases hc : c = 0
  rotate_left
  · rw [if_pos hc]
    have q : (c != 0) = true := by simpa using hc
    clear hc
    go_enter Try.func18, Try.ntmps18
    go_wp2_with (go_at_call 15; refine E.out.mono ?_; rintro e w1 ⟨u, rfl, hx, hb⟩; have HB := Lib.hid hb; clear hb)
    exact bodyPost_ret (v := .tuple #[.int .i64 0, .int .i64 c]) (by simp [results, Try.f18, go_sem]) rfl ⟨rfl, HB.out⟩
  subst hc
  rw [if_neg (by simp)]
  by_cases h1 : a < f
  · rw [if_pos (.inl h1)]
    have q1 : decide (a < f) = true := decide_eq_true h1
    clear h1
    go_enter Try.func18, Try.ntmps18
    go_wp2_with (go_at_call 15; refine E.out.mono ?_; rintro e w1 ⟨u, rfl, hx, hb⟩; have HB := Lib.hid hb; clear hb)
    exact bodyPost_ret (v := .tuple #[.int .i64 0, .int .i64 4]) (by simp [results, Try.f18, go_sem]) rfl ⟨rfl, HB.out⟩
  have q1 : decide (a < f) = false := decide_eq_false h1
  by_cases h2 : t ≤ a
  · rw [if_pos (.inr h2)]
    have q2 : decide (t ≤ a) = true := decide_eq_true h2
    clear h1 h2
    go_enter Try.func18, Try.ntmps18
    go_wp2_with (go_at_call 15; refine E.out.mono ?_; rintro e w1 ⟨u, rfl, hx, hb⟩; have HB := Lib.hid hb; clear hb)
    exact bodyPost_ret (v := .tuple #[.int .i64 0, .int .i64 4]) (by simp [results, Try.f18, go_sem]) rfl ⟨rfl, HB.out⟩
  have q2 : decide (t ≤ a) = false := decide_eq_false h2
  rw [if_neg (by omega)]
  clear h1 h2
  go_enter Try.func18, Try.ntmps18
  go_upto_region 6 with (go_at_call 15; refine E.out.mono ?_; rintro e w1 ⟨u, rfl, hx, hb⟩; have HB := Lib.hid hb; clear hb; obtain ⟨A, cp, rfl, hc⟩ := hx.out; have HA := Lib.hid hc; clear hc hx)
  obtain ⟨m, hm⟩ : ∃ m, l.length = m := ⟨_, rfl⟩
  have HM := Lib.hid hm
  rw [hm] at hlen ⊢
  clear hm q1 q2
  go_wp2
  go_loopw [8, 33] (fun o i wr => ∃ j : Nat, j ≤ m ∧ i = .int .i64 j ∧ o = .int .i64 (lastF a (l.take j)) ∧ Hid (w1 = wr)) (fun _ i _ => m - (intOf i).toNat)
  case atStart => exact ⟨0, by omega, rfl, rfl, Lib.hid rfl⟩
  case round =>
    obtain ⟨j, hj, rfl, rfl, hw⟩ := hrel
    obtain rfl := hw.out
    by_cases hlt : j < m
    · have hlt' : (j : Int) < (m : Int) := by omega
      have hjl : j < l.length := by rw [HM.out]; exact hlt
      obtain ⟨b1, o1, rfl, ca⟩ := HA.out (by omega)
      have ca' := ca j _ (ic_get l j hjl)
      have ad1 : (⟨b1, o1, none⟩ : Addr).add j = ⟨b1, o1 + j, none⟩ := by unfold Addr.add; split <;> simp_all
      have LS := Lib.hid (show lastF a (l.take (j + 1)) = if l.getD j 0 ≤ a then l.getD j 0 else lastF a (l.take j) by
        rw [List.take_add_one, List.getElem?_eq_getElem hjl]
        simp only [Option.toList_some, last_snoc, List.getD_eq_getElem?_getD, List.getElem?_eq_getElem hjl, Option.getD_some])
      generalize l.getD j 0 = x at *
      clear ca
      by_cases hx : x ≤ a
      · have q3 : decide (x ≤ a) = true := decide_eq_true hx
        have HX := Lib.hid hx
        clear hx
        go_wp2
        refine ⟨⟨j + 1, by omega, by simp, by rw [LS.out, if_pos HX.out], Lib.hid trivial⟩, ?_⟩
        show m - ((j : Int) + 1).toNat < m - ((j : Int)).toNat
        omega
      · have q3 : decide (x ≤ a) = false := decide_eq_false hx
        have HX := Lib.hid hx
        clear hx
        go_wp2
        refine ⟨⟨j + 1, by omega, by simp, by rw [LS.out, if_neg HX.out], Lib.hid trivial⟩, ?_⟩
        show m - ((j : Int) + 1).toNat < m - ((j : Int)).toNat
        omega
    · have ek : j = m := by omega
      have hlt' : ¬ (j : Int) < (m : Int) := by omega
      have ht : l.take j = l := List.take_of_length_le (by rw [HM.out]; omega)
      rw [ht]
      clear ek ht
      go_wp2
      exact bodyPost_ret (v := .tuple #[.int .i64 (lastF a l), .int .i64 0]) (by simp [results, Try.f18, go_sem]) rfl ⟨rfl, HB.out⟩
end Yteeghjhkfaeflaa
end Go.Proofs
