/- What lies in an arena that has been filled, as plain facts. -/
import Derived.Test.YteeghjhkfaeflaaQWlR
namespace Go.Proofs
namespace Yteeghjhkfaeflaa
open Go.RowKit

/-- an object of this shape lies there, its words 0 -/
def FreshAt (V : List Int) (a : Int) (p : Int × Int) : Prop := V.getD a.toNat 0 = Hd.packV p.1 p.2 ∧ ∀ i : Nat, a < i → (i : Int) < a + (1 + p.1 + p.2) → V.getD i 0 = 0
theorem shp_cons {p : Int × Int} {l : List (Int × Int)} (h : shpE (p :: l) = 0) : Hd.chkV p.1 p.2 = 0 ∧ shpE l = 0 := by
  rw [shpE] at h
  by_cases hp : Hd.chkV p.1 p.2 = 0
  · rw [if_neg (by simp [hp])] at h; exact ⟨hp, h⟩
  · rw [if_pos hp] at h; exact absurd h hp
theorem fil_all : ∀ (l : List (Int × Int)) (ws : List Int) (f : Int), chkF ws = 0 → 1 ≤ f → shpE l = 0 → endF f l ≤ ws.length →
    (filW ws f l).length = ws.length ∧ chkF (filW ws f l) = 0 ∧ (∀ i : Nat, ((i : Int) < f ∨ endF f l ≤ i) → (filW ws f l).getD i 0 = ws.getD i 0) ∧ ∀ (j : Nat) (hj : j < l.length), FreshAt (filW ws f l) (endF f (l.take j)) l[j]
  | [], ws, f, hc, _, _, _ => ⟨rfl, hc, fun _ _ => rfl, fun j hj => by simp at hj⟩
  | p :: l, ws, f, hc, hf, hs, he => by
    obtain ⟨hp, hl⟩ := shp_cons hs
    obtain ⟨z0, z1, z2⟩ := Hd.chk_zero.1 hp
    obtain ⟨y, z⟩ := p
    dsimp only at *
    obtain ⟨k, rfl⟩ : ∃ k : Nat, f = k := ⟨f.toNat, by omega⟩
    obtain ⟨P, rfl⟩ : ∃ p : Nat, y = p := ⟨y.toNat, by omega⟩
    obtain ⟨R, rfl⟩ : ∃ r : Nat, z = r := ⟨z.toNat, by omega⟩
    rw [endF] at he
    dsimp only at he
    have hg := end_ge l ((k : Int) + (1 + P + R)) hl
    have hn : k + (1 + P + R) ≤ ws.length := by omega
    rw [filW, endF]
    dsimp only
    rw [mak_is hc (by omega) (by omega) hn]
    dsimp only
    have hlen := mkL_length (Hd.packV P R) hn
    have hch := mkL_chk (Hd.packV P R) hc (by omega : 1 ≤ k) hn
    have hget := mkL_get (Hd.packV P R) hn (by omega)
    obtain ⟨i1, i2, i3, i4⟩ := fil_all l (mkL ws k (1 + P + R) (Hd.packV P R)) ((k : Int) + (1 + P + R)) hch (by omega) hl (by rw [hlen]; exact he)
    refine ⟨i1.trans hlen, i2, fun i hi => ?_, fun j hj => ?_⟩
    · rw [i3 i (by omega), hget i, if_neg (by omega), if_neg (by omega)]
    · cases j with
      | zero =>
        simp only [List.take_zero, endF, List.getElem_cons_zero]
        refine ⟨?_, fun i h1 h2 => ?_⟩
        · rw [Int.toNat_natCast, i3 k (by omega), hget k, if_pos rfl]
        · dsimp only at h2
          rw [i3 i (by omega), hget i, if_neg (by omega), if_pos (by omega)]
      | succ j =>
        simp only [List.take_succ_cons, endF, List.getElem_cons_succ]
        exact i4 j (by simpa using hj)
theorem fresh_ob {V : List Int} {a : Int} {p : Int × Int} (h : FreshAt V a p) (hc : chkF V = 0) (h1 : 1 ≤ a) (hs : Hd.chkV p.1 p.2 = 0) (h2 : a + (1 + p.1 + p.2) ≤ V.length) :
    objF V a = (p.1, p.2, 0) ∧ sizF V a = (1 + p.1 + p.2, 0) ∧ (refF V a).2 = 0 ∧ ∀ q ∈ (refF V a).1, q.2 = 0 := by
  obtain ⟨y, z⟩ := p
  obtain ⟨z0, z1, z2⟩ := Hd.chk_zero.1 hs
  obtain ⟨g1, g2⟩ := h
  dsimp only at *
  obtain ⟨k, rfl⟩ : ∃ k : Nat, a = k := ⟨a.toNat, by omega⟩
  obtain ⟨P, rfl⟩ : ∃ p : Nat, y = p := ⟨y.toNat, by omega⟩
  obtain ⟨R, rfl⟩ : ∃ r : Nat, z = r := ⟨z.toNat, by omega⟩
  rw [Int.toNat_natCast] at g1
  have ob := ob_of hc (by omega) (by omega : k + (1 + P + R) ≤ V.length) (by omega) g1
  have hpz : ∀ z ∈ part V (k + 1) P, z = 0 := by
    intro z hz
    obtain ⟨i, hi, rfl⟩ := List.getElem_of_mem hz
    have hpl : (part V (k + 1) P).length = P := part_length (by omega)
    have := part_get (ws := V) (k := k + 1) (n := P) (i := i) (by omega)
    rw [List.getD_eq_getElem?_getD, List.getElem?_eq_getElem hi] at this
    simp only [Option.getD_some] at this
    rw [this]
    exact g2 (k + 1 + i) (by omega) (by omega)
  have ep : ptrsF V k = (part V (k + 1) P, 0) := by
    unfold ptrsF
    rw [ob.is]
    simp only [↓reduceIte, Int.toNat_natCast]
    unfold adrsF
    rw [if_pos]
    rw [List.all_eq_true]
    intro z hz
    rw [hpz z hz]; decide
  have es : sltF V k = (upL (k + 1) P, 0) := by unfold sltF; rw [ob.is]; simp
  refine ⟨ob.is, by unfold sizF; rw [ob.is]; simp, ?_, ?_⟩
  · unfold refF; rw [es, ep]; rfl
  · unfold refF
    rw [es, ep]
    intro q hq
    have hq : q ∈ (upL (k + 1) P).zip (part V (k + 1) P) := hq
    exact hpz _ (List.of_mem_zip hq).2
theorem fil_walk {V : List Int} (hc : chkF V = 0) : ∀ (l : List (Int × Int)) (f : Int) (k : Nat), 1 ≤ f → shpE l = 0 → endF f l ≤ V.length → (∀ (j : Nat) (hj : j < l.length), FreshAt V (endF f (l.take j)) l[j]) → (endF f l - f).toNat < k →
    goW V (endF f l) k f = (plcF f l, none) ∧ ∀ x ∈ plcF f l, (refF V x).2 = 0 ∧ ∀ q ∈ (refF V x).1, q.2 = 0
  | [], f, k, _, _, _, _, _ => ⟨goW_stop _ (Int.lt_irrefl _), by simp [plcF]⟩
  | p :: l, f, 0, _, _, _, _, h => by omega
  | p :: l, f, k + 1, hf, hs, he, hF, hk => by
    obtain ⟨hp, hl⟩ := shp_cons hs
    obtain ⟨z0, z1, z2⟩ := Hd.chk_zero.1 hp
    rw [endF] at he hk ⊢
    have hg := end_ge l (f + (1 + p.1 + p.2)) hl
    have h0 : FreshAt V f p := by
      have := hF 0 (by simp)
      simpa only [List.take_zero, endF, List.getElem_cons_zero] using this
    obtain ⟨o1, o2, o3, o4⟩ := fresh_ob h0 hc hf hp (by omega)
    obtain ⟨i1, i2⟩ := fil_walk hc l (f + (1 + p.1 + p.2)) k (by omega) hl he (fun j hj => by
      have := hF (j + 1) (by simpa using hj)
      simpa only [List.take_succ_cons, endF, List.getElem_cons_succ] using this) (by omega)
    constructor
    · rw [goW_step k (by omega) (by rw [o2]; simp only [ne_eq, not_true_eq_false, false_or]; omega), o2, i1, plcF]
    · intro x hx
      rw [plcF] at hx
      rcases List.mem_cons.1 hx with rfl | hx
      · exact ⟨o3, o4⟩
      · exact i2 x hx
theorem diffs_mem9 : ∀ (xs ys : List Int) (k : Nat), ∀ d ∈ diffs k xs ys, ∃ i : Nat, d = ((k + i : Nat) : Int) ∧ i < xs.length ∧ xs.getD i 0 ≠ ys.getD i 0
  | [], ys, k => by rw [diffs_nil]; simp
  | x :: xs, [], k => by simp [diffs]
  | x :: xs, y :: ys, k => by
    intro d hd
    by_cases h : x = y
    · rw [diffs_eq h] at hd
      obtain ⟨i, e, h1, h2⟩ := diffs_mem9 xs ys (k + 1) d hd
      exact ⟨i + 1, by rw [e]; congr 1; omega, by simp only [List.length_cons]; omega, by simpa [List.getD_eq_getElem?_getD] using h2⟩
    · rw [diffs_ne h] at hd
      rcases List.mem_cons.1 hd with rfl | hd
      · exact ⟨0, rfl, by simp, by simpa using h⟩
      · obtain ⟨i, e, h1, h2⟩ := diffs_mem9 xs ys (k + 1) d hd
        exact ⟨i + 1, by rw [e]; congr 1; omega, by simp only [List.length_cons]; omega, by simpa [List.getD_eq_getElem?_getD] using h2⟩
/-- all that the law asks of what Fill fills -/
structure Filled (ws : List Int) (f t : Int) (l : List (Int × Int)) (V : List Int) (en : Int) : Prop where
  wc : (wcF V f en).2 = 0
  vis : visL V f en = plcF f l
  sh : ∀ (j : Nat) (hj : j < l.length), objF V (endF f (l.take j)) = (l[j].1, l[j].2, 0)
  ref : (refsF V f en).2 = 0 ∧ ∀ q ∈ (refsF V f en).1, q.2 = 0
  dif : (differF ws V).2 = 0 ∧ ∀ d ∈ (differF ws V).1, f ≤ d ∧ d < en
  top : en ≤ t
  ui : ∀ z ∈ V, Hd.UI z
  len : V.length = ws.length
theorem filled {ws : List Int} {f t : Int} {l : List (Int × Int)} (hu : ∀ z ∈ ws, Hd.UI z) (hs : strF ws f t = 0) (hc : shpE l = 0) (ht : ¬ t < endF f l) : Filled ws f t l (filW ws f l) (endF f l) := by
  obtain ⟨c1, c2, c3, c4, c5⟩ := str_ok hs
  have hge := end_ge l f hc
  obtain ⟨a1, a2, a3, a4⟩ := fil_all l ws f c1 c2 hc (by omega)
  have hst : strF (filW ws f l) f (endF f l) = 0 := by
    unfold strF
    rw [if_neg (by simp [a2]), a1, if_neg (by omega)]
  obtain ⟨w1, w2⟩ := fil_walk a2 l f ((endF f l - f).toNat + 1) c2 hc (by rw [a1]; omega) a4 (by omega)
  have hv : visL (filW ws f l) f (endF f l) = plcF f l := by rw [vis_mk hst]; unfold wlk; rw [w1]
  have hw : (wcF (filW ws f l) f (endF f l)).2 = 0 := by rw [wc_mk hst]; unfold wlk; rw [w1]; rfl
  have hr := refs_fine hw (fun x hx => (w2 x (by rw [← hv]; exact hx)).1)
  refine ⟨hw, hv, fun j hj => ?_, ⟨by rw [hr], fun q hq => ?_⟩, ⟨?_, fun d hd => ?_⟩, by omega, ?_, a1⟩
  · have e1 := (end_upto (f := f) hc j).1
    have e2 := (end_upto (f := f) hc (j + 1)).2
    rw [show l.take (j + 1) = l.take j ++ [l[j]] by rw [List.take_add_one, List.getElem?_eq_getElem hj]; rfl, end_snoc] at e2
    exact (fresh_ob (a4 j hj) a2 (by omega) (shp_all hc _ (List.getElem_mem hj)) (by rw [a1]; omega)).1
  · rw [hr] at hq
    obtain ⟨x, hx, hq⟩ := List.mem_flatMap.1 hq
    exact (w2 x (by rw [← hv]; exact hx)).2 q hq
  · rw [differ_good c1 a2 a1.symm]
  · rw [differ_good c1 a2 a1.symm] at hd
    obtain ⟨i, e, h1, h2⟩ := diffs_mem9 _ _ 0 d hd
    rw [Nat.zero_add] at e
    apply Classical.byContradiction
    intro hn
    exact h2 (a3 i (by omega)).symm
  · have := (fil_upto hu hs hc (by omega) l.length (Nat.le_refl _)).2.2
    rwa [List.take_length] at this
end Yteeghjhkfaeflaa
end Go.Proofs
