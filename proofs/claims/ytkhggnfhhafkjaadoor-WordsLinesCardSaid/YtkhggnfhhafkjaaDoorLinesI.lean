/- The library's iterator over the lines of a text, of which every line ends in a newline. -/
import Derived.Test.YtkhggnfhhafkjaaDoorLinesE
import Derived.Test.YtkhggnfhhafkjaaDoorRangeAt
import Derived.Test.YtkhggnfhhafkjaaDoorSeq
namespace Go.Proofs
namespace YtkhggnfhhafkjaaDoor
open Go.RowKit

/-- the lines, each with its newline -/
def pcs (l : List UInt8) : List (List UInt8) := (lnsC [] l).map (· ++ [10])
/-- the text of these lines -/
def glue (xs : List (List UInt8)) : List UInt8 := xs.flatMap (· ++ [10])
def encS (x : List UInt8) : Array Value := #[.string ⟨x.toArray⟩]

theorem idx_first (t r : List UInt8) (h : ∀ c ∈ t, c ≠ 10) : Lib.indexByte (t ++ 10 :: r) 10 = t.length := by
  induction t with
  | nil => simp [Lib.indexByte]
  | cons c t ih =>
    have hc := h c (by simp)
    have := ih (fun d hd => h d (by simp [hd]))
    have h2 : (c == 10) = false := by simpa using hc
    simp only [List.cons_append, Lib.indexByte, this, h2]
    have h3 : ((t.length : Int) == -1) = false := beq_eq_false_iff_ne.2 (by omega)
    simp [h3]
/-- a rest that is not empty and ends in a newline: its first line and what follows -/
theorem first_line (l : List UInt8) (h : l ≠ []) (h1 : l.getLast? = some 10) : ∃ t r, l = t ++ 10 :: r ∧ (∀ c ∈ t, c ≠ 10) ∧ (r = [] ∨ r.getLast? = some 10) := by
  induction l with
  | nil => exact absurd rfl h
  | cons c l ih =>
    by_cases hc : c = 10
    · subst hc
      refine ⟨[], l, rfl, by simp, ?_⟩
      cases l with
      | nil => exact .inl rfl
      | cons d l => exact .inr (by simpa using h1)
    · cases l with
      | nil => simp at h1; exact absurd h1 hc
      | cons d l =>
        obtain ⟨t, r, e, ht, hr⟩ := ih (by simp) (by simpa using h1)
        exact ⟨c :: t, r, by rw [e]; rfl, fun x hx => by
          rcases List.mem_cons.1 hx with rfl | hx
          · exact hc
          · exact ht x hx, hr⟩
theorem lns_pre {l t r : List UInt8} (e : l = t ++ 10 :: r) (ht : ∀ c ∈ t, c ≠ 10) : pcs l = (t ++ [10]) :: pcs r := by
  subst e; unfold pcs; rw [lns_first t r ht]; rfl
/-- how much of the text the box still holds -/
def boxN (b : Nat) (W : World) : Nat := match W.cell? ⟨b, 0, none⟩ with | some (.string s) => s.size | _ => 0
theorem boxN_eq {b : Nat} {W : World} {s : ByteArray} (h : W.heap[b]? = some (.cells #[.string s] 9 (0, 0))) : boxN b W = s.size := by
  unfold boxN; rw [cell_of_row _ _ _ _ _ _ h]; rfl
theorem grown_drew {A X : World} {r : Option Nat} (h : A.grownBy X r) : A.grownBy X.drew r := ⟨h.os, h.tape, h.output, h.size, h.block⟩
def YieldsS (n l b N B : Nat) (J Jx : List (List UInt8) → World → Prop) : Prop :=
  ∀ pre x W1, J pre W1 → x.length ≤ 1048576 → pre.length < N + 1 → B ≤ W1.heap.size → YieldAt Fence.wide (n - 1) Tryd.prog l (encS x) W1 fun e W' =>
    (e = .returned (.bool true) ∧ J (pre ++ [x]) W' ∧ W1.heap.size ≤ W'.heap.size ∧ W'.heap[b]? = W1.heap[b]?) ∨ (e = .returned (.bool false) ∧ Jx (pre ++ [x]) W')

set_option maxRecDepth 100000 in
set_option maxHeartbeats 1000000 in
theorem iter100 (n : Nat) (hn : 1 ≤ n) (s : ByteArray) (hs : s.size ≤ 1048576) (he : s.data.toList = [] ∨ s.data.toList.getLast? = some 10) (b l : Nat) (J Jx : List (List UInt8) → World → Prop) (w : World)
    (hl : w.heap[b]? = some (.cells #[.string s] 9 (0, 0))) (hJ : ∀ s W W', J s W → W.grownBy W' (some b) → J s W') (hY : YieldsS n l b s.size w.heap.size J Jx) (h0 : J [] w) :
    Calls Tryd.prog 100 #[.func (.yield l) #[] #[], .pointer (some ⟨b, 0, none⟩)] w fun e W' => (∃ v, e = .returned v) ∧ (J (pcs s.data.toList) W' ∨ ∃ pre, pre <+: pcs s.data.toList ∧ Jx pre W') := by
  have HJ := Lib.hid hJ
  have HY := Lib.hid hY
  have H0 := Lib.hid h0
  have HL := Lib.hid hl
  have HE := Lib.hid he
  clear hJ hY h0 hl he
  go_enter Tryd.func100, Tryd.ntmps100
  go_wp2
  go_loopw [3, 4] (fun _ _ wr => ∃ (pre : List (List UInt8)) (rs : ByteArray), Hid (J pre wr) ∧ Hid (wr.heap[b]? = some (.cells #[.string rs] 9 (0, 0))) ∧ Hid (pcs s.data.toList = pre ++ pcs rs.data.toList) ∧ Hid (rs.data.toList = [] ∨ rs.data.toList.getLast? = some 10) ∧
      pre.length + rs.size ≤ s.size ∧ w.heap.size ≤ wr.heap.size) (fun _ _ wr => boxN b wr)
  case atStart => exact ⟨[], s, H0, HL, Lib.hid rfl, HE, by simp, Nat.le_refl _⟩
  case round =>
    obtain ⟨pre, rs, hj, hbx, T, hend, hlen, hsz⟩ := hrel
    have c0 : wr.cell? ⟨b, 0, none⟩ = some (.string rs) := by rw [cell_of_row _ _ _ _ _ _ hbx.out]; rfl
    have f0 : wr.frozen? ⟨b, 0, none⟩ = false := frozen_of_row _ _ _ _ _ hbx.out
    by_cases hz : rs.size = 0
    · have q : decide ((0 : Int) < (rs.size : Int)) = false := decide_eq_false (by omega)
      have TE := Lib.hid (show pcs s.data.toList = pre by rw [T.out, List.eq_nil_of_length_eq_zero (show rs.data.toList.length = 0 by simpa using hz)]; simp [pcs, lnsC])
      go_wp2
      exact bodyPost_end (v := .tuple #[]) (results_none rfl _ _ _) rfl ⟨⟨_, rfl⟩, .inl (by rw [TE.out]; exact hj.out)⟩
    · have q : decide ((0 : Int) < (rs.size : Int)) = true := decide_eq_true (by omega)
      have hne : rs.data.toList ≠ [] := fun e => hz (by have := congrArg List.length e; simpa using this)
      obtain ⟨t, r, e, ht, hr⟩ := first_line _ hne (hend.out.resolve_left hne)
      have ID := Lib.hid (show Lib.indexByte rs.data.toList (10 : Int).toNat.toUInt8 = t.length by rw [show (10 : Int).toNat.toUInt8 = 10 from rfl, e]; exact idx_first t r ht)
      have PE := Lib.hid (lns_pre e ht)
      have hel := congrArg List.length e
      simp only [List.length_append, List.length_cons, Array.length_toList] at hel
      have hel' : rs.size = t.length + (r.length + 1) := hel
      have X1 := Lib.hid (show rs.extract 0 (t.length + 1) = ⟨(t ++ [10]).toArray⟩ by
        rw [cut_to rs 0 (t.length + 1) (by omega), e]; simp [List.take_append, List.take_of_length_le (Nat.le_succ t.length)])
      have X2 := Lib.hid (show (rs.extract (t.length + 1) rs.size).data.toList = r by rw [drop_data, e]; simp)
      have hr' := Lib.hid hr
      have hb1 : t.length + 1 ≤ rs.size := by omega
      have hb2 := Lib.hid hel'
      clear e hne hr ht hel hel'
      go_wp2_with (go_at_call 101; refine (Tryd.strings_IndexByte rs 10 _).mono ?_; rintro e w1 ⟨rfl, rfl⟩; rw [ID.out])
      go_region
      go_ways
      go_upto_region 6 with (fail)
      have hbx2 := Lib.hid (show (w1.setCell ⟨b, 0, none⟩ (.string (rs.extract (t.length + 1) rs.size))).drew.heap[b]? = some (.cells #[.string (rs.extract (t.length + 1) rs.size)] 9 (0, 0)) from heap_setCell_same w1 b 0 _ _ _ hbx.out)
      have hj2 : J pre (w1.setCell ⟨b, 0, none⟩ (.string (rs.extract (t.length + 1) rs.size))).drew := HJ.out _ _ _ hj.out (grown_drew (grown_set w1 b 0 _))
      obtain ⟨fn, tm, asg, bd, hy, hR⟩ := HY.out pre (t ++ [10]) _ hj2 (by simp; omega) (by omega) (by simpa using hsz)
      dsimp only [encS] at hy
      rw [← X1.out] at hy
      have HR := Lib.hid hR
      clear hR hj2
      refine (wpIn_wide (n := n)).1 ?_
      gi_wp2
      refine HR.out.mono ?_
      rintro e W' (⟨rfl, hj', hsz', hb'⟩ | ⟨rfl, hx⟩)
      · gi_wp2
        go_wp2
        have hb3 := hb'.trans hbx2.out
        have hxs : (rs.extract (t.length + 1) rs.size).size = rs.size - (t.length + 1) := by simp
        have hwz : w1.heap.size ≤ W'.heap.size := by simpa using hsz'
        refine ⟨⟨pre ++ [t ++ [10]], _, Lib.hid hj', Lib.hid hb3, Lib.hid (by rw [T.out, PE.out, X2.out]; simp), by rw [X2.out]; exact hr', by rw [hxs]; simp; omega, by omega⟩, ?_⟩
        rw [boxN_eq hb3, boxN_eq hbx.out, hxs]
        omega
      · gi_wp2
        go_wp2
        exact bodyPost_ret (results_none rfl _ _ _) rfl ⟨⟨_, rfl⟩, .inr ⟨_, by rw [T.out, PE.out]; exact ⟨pcs r, by simp⟩, hx⟩⟩
theorem lines_iter (n : Nat) (hn : 1 ≤ n) (s : ByteArray) (hs : s.size ≤ 1048576) (he : s.data.toList = [] ∨ s.data.toList.getLast? = some 10) (b : Nat) (w : World) (hl : w.heap[b]? = some (.cells #[.string s] 9 (0, 0))) :
    IterAt n Tryd.prog 100 #[.pointer (some ⟨b, 0, none⟩)] encS (fun x => x.length ≤ 1048576) (fun _ => True) (fun xs => xs = pcs s.data.toList) (fun pre => pre <+: pcs s.data.toList) (s.size + 1) b w := by
  intro l J Jx _ hJ _ hY h0
  refine callsIn_wide.2 ((iter100 n hn s hs he b l J Jx w hl hJ (fun pre x W1 h1 hx h2 h3 => hY pre x W1 h1 hx h2 h3) h0).mono fun e W' h => ?_)
  obtain ⟨hv, h⟩ := h
  refine ⟨hv, ?_⟩
  rcases h with h | ⟨pre, hp, h⟩
  · exact .inl ⟨_, rfl, h⟩
  · exact .inr ⟨pre, hp, h⟩
end YtkhggnfhhafkjaaDoor
end Go.Proofs
