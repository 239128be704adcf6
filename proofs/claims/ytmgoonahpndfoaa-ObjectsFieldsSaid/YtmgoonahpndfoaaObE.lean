/- Size, Slots, Pointer, Raw, Pointers, SetPointer and SetRaw, the program's. -/
import Derived.Test.YtmgoonahpndfoaaObD
namespace Go.Proofs
namespace Ytmgoonahpndfoaa
open Go.RowKit

/-- a value that is an arena's words -/
structure Ar (W : World) (v : Value) (ws : List Int) : Prop where
  at_ : WAt W v ws
  cap : ∀ A n c, v = .slice A n c → n ≤ c
  ui : ∀ z ∈ ws, Hd.UI z
  len : ws.length ≤ 9223372036854775807
theorem Ar.below {W W' : World} {v : Value} {ws : List Int} (h : Ar W v ws) (hb : Below W.heap.size W W') : Ar W' v ws := ⟨h.at_.below hb, h.cap, h.ui, h.len⟩
theorem Ar.open {W : World} {v : Value} {ws : List Int} (h : Ar W v ws) : ∃ A cap, v = .slice A ws.length cap ∧ WAt W (.slice A ws.length cap) ws ∧ ws.length ≤ cap := by
  obtain ⟨h1, h2, h3, h4⟩ := h
  obtain ⟨A, cap, rfl, hA⟩ := h1
  exact ⟨A, cap, rfl, ⟨A, cap, rfl, hA⟩, h2 _ _ _ rfl⟩
theorem part_ui {ws : List Int} (hu : ∀ z ∈ ws, Hd.UI z) (k n : Nat) : ∀ z ∈ part ws k n, 0 ≤ z := fun z hz => (hu z (List.mem_of_mem_drop (List.mem_of_mem_take hz))).1
/-- what find answers where there is no object -/
def fErr (E : Int) : Value := .tuple #[.agg #[.int .i64 0, .int .i64 0, .int .i64 0, .slice none 0 0, .int .i64 0, .slice none 0 0, .slice none 0 0, .int .i64 0, .slice none 0 0], .int .i64 E]

set_option maxRecDepth 100000 in
set_option maxHeartbeats 400000 in
theorem pointer22_err (A : Option Addr) (n cap : Nat) (a E : Int) (f : Int) (w : World) (hE : E ≠ 0) (F : Hid (Calls Try.prog 48 #[.slice A n cap, .int .i64 a] w fun e w' => e = .returned (fErr E) ∧ Below w.heap.size w w')) :
    Calls Try.prog 22 #[.slice A n cap, .int .i64 a, .int .i64 f] w fun e w' => e = .returned (.tuple #[.int .i64 0, .int .i64 E]) ∧ Below w.heap.size w w' := by
  unfold fErr at F
  have q : (E != 0) = true := by simpa using hE
  clear hE
  go_enter Try.func22, Try.ntmps22
  go_wp2_with (go_at_call 48; refine F.out.mono ?_; rintro e w1 ⟨rfl, hb1⟩)
  exact bodyPost_ret (v := .tuple #[.int .i64 0, .int .i64 E]) (by simp [results, Try.f22, go_sem]) rfl ⟨rfl, hb1.alloc hb1.size _⟩
set_option maxRecDepth 100000 in
set_option maxHeartbeats 400000 in
theorem pointer22_ok (A : Option Addr) (ws : List Int) (cap k P R : Nat) (f : Int) (w : World) (h : WAt w (.slice A ws.length cap) ws) (hcap : ws.length ≤ cap) (hu : ∀ z ∈ ws, Hd.UI z) (ho : ObOk ws k P R) :
    Calls Try.prog 22 #[.slice A ws.length cap, .int .i64 k, .int .i64 f] w fun e w' => e = .returned (.tuple #[.int .i64 (gtF (part ws (k + 1) P) f).1, .int .i64 (gtF (part ws (k + 1) P) f).2]) ∧ Below w.heap.size w w' := by
  have F := Lib.hid (find48_ok A ws cap k P R w h hcap hu ho)
  have hl := ho.len
  have hf := ho.fit
  have e1 : (part ws (k + 1) P).length = P := part_length (by omega)
  generalize ws.length = n at *
  have G := Lib.hid (fun W x (hx : WAt W (.slice x (part ws (k + 1) P).length (part ws (k + 1) P).length) (part ws (k + 1) P)) => get52 A n cap ((k : Int) + 1) x (part ws (k + 1) P) (part_ui hu (k + 1) P) f W hx)
  rw [e1] at G
  clear h hu ho e1
  generalize gtF (part ws (k + 1) P) f = q at *
  obtain ⟨q1, q2⟩ := q
  generalize part ws (k + 1) P = zp at *
  generalize part ws (k + 1 + P) R = zr at *
  unfold objV at F
  unfold fv at G
  (try dsimp only at G)
  (try dsimp only)
  go_enter Try.func22, Try.ntmps22
  go_wp2_with (first
    | (go_at_call 48; refine F.out.mono ?_; rintro e w1 ⟨a1, a2, rfl, x1, x2, hb1⟩; have X1 := Lib.hid x1; have X2 := Lib.hid x2; clear x1 x2)
    | (go_at_call 52; refine (G.out _ _ (X1.out.below (hb1.alloc hb1.size _))).mono ?_; rintro e w2 ⟨rfl, hb2⟩))
  exact bodyPost_ret (v := .tuple #[.int .i64 q1, .int .i64 q2]) (by simp [results, Try.f22, go_sem]) rfl ⟨rfl, below_end (hb1.alloc hb1.size _) hb2⟩
theorem pointer22 (v : Value) (ws : List Int) (a : Int) (f : Int) (w : World) (h : Ar w v ws) :
    Calls Try.prog 22 #[v, .int .i64 a, .int .i64 f] w fun e w' => e = .returned (.tuple #[.int .i64 (ptrF ws a f).1, .int .i64 (ptrF ws a f).2]) ∧ Below w.heap.size w w' := by
  obtain ⟨A, cap, rfl, h1, h2⟩ := h.open
  rcases obj_cases ws a with ⟨E, hE, e⟩ | ⟨k, P, R, rfl, ho⟩
  · have T : ptrF ws a f = (0, E) := by unfold ptrF; rw [e, if_neg hE]
    have := pointer22_err A ws.length cap a E f w hE (Lib.hid (find48_err A ws cap a E w h1 h.len h.ui e hE))
    rw [T]; exact this
  · have T : ptrF ws k f = gtF (part ws (k + 1) P) f := by unfold ptrF; rw [ho.is, if_pos rfl]; simp only [Int.toNat_natCast]
    rw [T]
    exact pointer22_ok A ws cap k P R f w h1 h2 h.ui ho
set_option maxRecDepth 100000 in
set_option maxHeartbeats 400000 in
theorem raw24_err (A : Option Addr) (n cap : Nat) (a E : Int) (f : Int) (w : World) (hE : E ≠ 0) (F : Hid (Calls Try.prog 48 #[.slice A n cap, .int .i64 a] w fun e w' => e = .returned (fErr E) ∧ Below w.heap.size w w')) :
    Calls Try.prog 24 #[.slice A n cap, .int .i64 a, .int .i64 f] w fun e w' => e = .returned (.tuple #[.int .u64 0, .int .i64 E]) ∧ Below w.heap.size w w' := by
  unfold fErr at F
  have q : (E != 0) = true := by simpa using hE
  clear hE
  go_enter Try.func24, Try.ntmps24
  go_wp2_with (go_at_call 48; refine F.out.mono ?_; rintro e w1 ⟨rfl, hb1⟩)
  exact bodyPost_ret (v := .tuple #[.int .u64 0, .int .i64 E]) (by simp [results, Try.f24, go_sem]) rfl ⟨rfl, hb1.alloc hb1.size _⟩
set_option maxRecDepth 100000 in
set_option maxHeartbeats 400000 in
theorem raw24_ok (A : Option Addr) (ws : List Int) (cap k P R : Nat) (f : Int) (w : World) (h : WAt w (.slice A ws.length cap) ws) (hcap : ws.length ≤ cap) (hu : ∀ z ∈ ws, Hd.UI z) (ho : ObOk ws k P R) :
    Calls Try.prog 24 #[.slice A ws.length cap, .int .i64 k, .int .i64 f] w fun e w' => e = .returned (.tuple #[.int .u64 (rdF (part ws (k + 1 + P) R) f).1, .int .i64 (rdF (part ws (k + 1 + P) R) f).2]) ∧ Below w.heap.size w w' := by
  have F := Lib.hid (find48_ok A ws cap k P R w h hcap hu ho)
  have hl := ho.len
  have hf := ho.fit
  have e1 : (part ws (k + 1 + P) R).length = R := part_length (by omega)
  generalize ws.length = n at *
  have G := Lib.hid (fun W x (hx : WAt W (.slice x (part ws (k + 1 + P) R).length (part ws (k + 1 + P) R).length) (part ws (k + 1 + P) R)) => read53 A n cap ((k : Int) + 1 + (P : Int)) x (part ws (k + 1 + P) R) f W hx)
  rw [e1] at G
  clear h hu ho e1
  generalize rdF (part ws (k + 1 + P) R) f = q at *
  obtain ⟨q1, q2⟩ := q
  generalize part ws (k + 1) P = zp at *
  generalize part ws (k + 1 + P) R = zr at *
  unfold objV at F
  unfold fv at G
  (try dsimp only at G)
  (try dsimp only)
  go_enter Try.func24, Try.ntmps24
  go_wp2_with (first
    | (go_at_call 48; refine F.out.mono ?_; rintro e w1 ⟨a1, a2, rfl, x1, x2, hb1⟩; have X1 := Lib.hid x1; have X2 := Lib.hid x2; clear x1 x2)
    | (go_at_call 53; refine (G.out _ _ (X2.out.below (hb1.alloc hb1.size _))).mono ?_; rintro e w2 ⟨rfl, hb2⟩))
  exact bodyPost_ret (v := .tuple #[.int .u64 q1, .int .i64 q2]) (by simp [results, Try.f24, go_sem]) rfl ⟨rfl, below_end (hb1.alloc hb1.size _) hb2⟩
theorem raw24 (v : Value) (ws : List Int) (a : Int) (f : Int) (w : World) (h : Ar w v ws) :
    Calls Try.prog 24 #[v, .int .i64 a, .int .i64 f] w fun e w' => e = .returned (.tuple #[.int .u64 (rawF ws a f).1, .int .i64 (rawF ws a f).2]) ∧ Below w.heap.size w w' := by
  obtain ⟨A, cap, rfl, h1, h2⟩ := h.open
  rcases obj_cases ws a with ⟨E, hE, e⟩ | ⟨k, P, R, rfl, ho⟩
  · have T : rawF ws a f = (0, E) := by unfold rawF; rw [e, if_neg hE]
    have := raw24_err A ws.length cap a E f w hE (Lib.hid (find48_err A ws cap a E w h1 h.len h.ui e hE))
    rw [T]; exact this
  · have T : rawF ws k f = rdF (part ws (k + 1 + P) R) f := by unfold rawF; rw [ho.is, if_pos rfl]; simp only [Int.toNat_natCast]
    rw [T]
    exact raw24_ok A ws cap k P R f w h1 h2 h.ui ho
set_option maxRecDepth 100000 in
set_option maxHeartbeats 400000 in
theorem pointers26_err (A : Option Addr) (n cap : Nat) (a E : Int)  (w : World) (hE : E ≠ 0) (F : Hid (Calls Try.prog 48 #[.slice A n cap, .int .i64 a] w fun e w' => e = .returned (fErr E) ∧ Below w.heap.size w w')) :
    Calls Try.prog 26 #[.slice A n cap, .int .i64 a] w fun e w' => e = .returned (.tuple #[.slice none 0 0, .int .i64 E]) ∧ Below w.heap.size w w' := by
  unfold fErr at F
  have q : (E != 0) = true := by simpa using hE
  clear hE
  go_enter Try.func26, Try.ntmps26
  go_wp2_with (go_at_call 48; refine F.out.mono ?_; rintro e w1 ⟨rfl, hb1⟩)
  exact bodyPost_ret (v := .tuple #[.slice none 0 0, .int .i64 E]) (by simp [results, Try.f26, go_sem]) rfl ⟨rfl, hb1.alloc hb1.size _⟩
set_option maxRecDepth 100000 in
set_option maxHeartbeats 400000 in
theorem pointers26_ok (A : Option Addr) (ws : List Int) (cap k P R : Nat)  (w : World) (h : WAt w (.slice A ws.length cap) ws) (hcap : ws.length ≤ cap) (hu : ∀ z ∈ ws, Hd.UI z) (ho : ObOk ws k P R) :
    Calls Try.prog 26 #[.slice A ws.length cap, .int .i64 k] w fun e w' => IAns w (adrsF (part ws (k + 1) P)) e w' := by
  have F := Lib.hid (find48_ok A ws cap k P R w h hcap hu ho)
  have hl := ho.len
  have hf := ho.fit
  have e1 : (part ws (k + 1) P).length = P := part_length (by omega)
  generalize ws.length = n at *
  have G := Lib.hid (fun W x (hx : WAt W (.slice x (part ws (k + 1) P).length (part ws (k + 1) P).length) (part ws (k + 1) P)) => all54 A n cap ((k : Int) + 1) x (part ws (k + 1) P) (part_ui hu (k + 1) P) (by omega) W hx)
  rw [e1] at G
  clear h hu ho e1
  generalize adrsF (part ws (k + 1) P) = q at *
  obtain ⟨q1, q2⟩ := q
  generalize part ws (k + 1) P = zp at *
  generalize part ws (k + 1 + P) R = zr at *
  unfold objV at F
  unfold fv at G
  (try dsimp only at G)
  (try dsimp only)
  go_enter Try.func26, Try.ntmps26
  go_wp2_with (first
    | (go_at_call 48; refine F.out.mono ?_; rintro e w1 ⟨a1, a2, rfl, x1, x2, hb1⟩; have X1 := Lib.hid x1; have X2 := Lib.hid x2; clear x1 x2)
    | (go_at_call 54; refine (G.out _ _ (X1.out.below (hb1.alloc hb1.size _))).mono ?_; rintro e w2 ⟨u, rfl, ho, hb2⟩))
  exact bodyPost_ret (v := .tuple #[u, .int .i64 q2]) (by simp [results, Try.f26, go_sem]) rfl ⟨u, rfl, own_mono ho (hb1.alloc hb1.size _).size, below_end (hb1.alloc hb1.size _) hb2⟩
theorem pointers26 (v : Value) (ws : List Int) (a : Int)  (w : World) (h : Ar w v ws) :
    Calls Try.prog 26 #[v, .int .i64 a] w fun e w' => IAns w (ptrsF ws a) e w' := by
  obtain ⟨A, cap, rfl, h1, h2⟩ := h.open
  rcases obj_cases ws a with ⟨E, hE, e⟩ | ⟨k, P, R, rfl, ho⟩
  · have T : ptrsF ws a = ([], E) := by unfold ptrsF; rw [e, if_neg hE]
    have := pointers26_err A ws.length cap a E w hE (Lib.hid (find48_err A ws cap a E w h1 h.len h.ui e hE))
    rw [T]; exact this.mono (fun e w' ⟨h1, h2⟩ => ⟨_, h1, World.ownsRow_nil _ _ _ _, h2⟩)
  · have T : ptrsF ws k = adrsF (part ws (k + 1) P) := by unfold ptrsF; rw [ho.is, if_pos rfl]; simp only [Int.toNat_natCast]
    rw [T]
    exact pointers26_ok A ws cap k P R w h1 h2 h.ui ho
set_option maxRecDepth 100000 in
set_option maxHeartbeats 400000 in
theorem setp30_err (A : Option Addr) (n cap : Nat) (a E f z : Int) (w : World) (hE : E ≠ 0) (F : Hid (Calls Try.prog 48 #[.slice A n cap, .int .i64 a] w fun e w' => e = .returned (fErr E) ∧ Below w.heap.size w w')) :
    Calls Try.prog 30 #[.slice A n cap, .int .i64 a, .int .i64 f, .int .i64 z] w fun e w' => e = .returned (.tuple #[.slice none 0 0, .int .i64 E]) ∧ Below w.heap.size w w' := by
  unfold fErr at F
  have q : (E != 0) = true := by simpa using hE
  clear hE
  go_enter Try.func30, Try.ntmps30
  go_wp2_with (go_at_call 48; refine F.out.mono ?_; rintro e w1 ⟨rfl, hb1⟩)
  exact bodyPost_ret (v := .tuple #[.slice none 0 0, .int .i64 E]) (by simp [results, Try.f30, go_sem]) rfl ⟨rfl, hb1.alloc hb1.size _⟩
set_option maxRecDepth 100000 in
set_option maxHeartbeats 400000 in
theorem setp30_ok (A : Option Addr) (ws : List Int) (cap k P R : Nat) (f z : Int) (w : World) (h : WAt w (.slice A ws.length cap) ws) (hcap : ws.length ≤ cap) (hu : ∀ z ∈ ws, Hd.UI z) (ho : ObOk ws k P R) :
    Calls Try.prog 30 #[.slice A ws.length cap, .int .i64 k, .int .i64 f, .int .i64 z] w fun e w' => CAns w (stF ws (k + 1) P f z) e w' := by
  have F := Lib.hid (find48_ok A ws cap k P R w h hcap hu ho)
  have hl := ho.len
  have hf := ho.fit
  have hk := ho.one
  have hc := ho.chk
  have G := Lib.hid (fun W x (hb : Below w.heap.size w W) => set56 A ws cap (k + 1) x P f z W (WAt.below h hb) hc (by omega) (by omega))
  rw [show ((k + 1 : Nat) : Int) = (k : Int) + 1 by omega] at G
  have B := Lib.hid h
  clear h hu ho hc
  generalize stF ws (k + 1) P f z = q at *
  obtain ⟨q1, q2⟩ := q
  unfold objV at F
  unfold fv at G
  generalize ws.length = n at *
  go_enter Try.func30, Try.ntmps30
  go_wp2_with (first
    | (go_at_call 48; refine F.out.mono ?_; rintro e w1 ⟨a1, a2, rfl, x1, x2, hb1⟩; clear x1 x2)
    | (go_at_call 56; refine (G.out _ _ (hb1.alloc hb1.size _)).mono ?_; rintro e w2 ⟨u, rfl, ho, hb2⟩))
  exact bodyPost_ret (v := .tuple #[u, .int .i64 q2]) (by simp [results, Try.f30, go_sem]) rfl ⟨u, rfl, own_mono ho (hb1.alloc hb1.size _).size, below_end (hb1.alloc hb1.size _) hb2⟩
theorem setp30 (v : Value) (ws : List Int) (a f z : Int) (w : World) (h : Ar w v ws) :
    Calls Try.prog 30 #[v, .int .i64 a, .int .i64 f, .int .i64 z] w fun e w' => CAns w (spF ws a f z) e w' := by
  obtain ⟨A, cap, rfl, h1, h2⟩ := h.open
  rcases obj_cases ws a with ⟨E, hE, e⟩ | ⟨k, P, R, rfl, ho⟩
  · have T : spF ws a f z = ([], E) := by unfold spF; rw [e, if_neg hE]
    have := setp30_err A ws.length cap a E f z w hE (Lib.hid (find48_err A ws cap a E w h1 h.len h.ui e hE))
    rw [T]; exact this.mono (fun e w' ⟨h1, h2⟩ => ⟨_, h1, World.ownsRow_nil _ _ _ _, h2⟩)
  · have T : spF ws k f z = stF ws (k + 1) P f z := by unfold spF; rw [ho.is, if_pos rfl]; simp only [Int.toNat_natCast]
    rw [T]
    exact setp30_ok A ws cap k P R f z w h1 h2 h.ui ho
set_option maxRecDepth 100000 in
set_option maxHeartbeats 400000 in
theorem setr32_err (A : Option Addr) (n cap : Nat) (a E f z : Int) (w : World) (hE : E ≠ 0) (F : Hid (Calls Try.prog 48 #[.slice A n cap, .int .i64 a] w fun e w' => e = .returned (fErr E) ∧ Below w.heap.size w w')) :
    Calls Try.prog 32 #[.slice A n cap, .int .i64 a, .int .i64 f, .int .u64 z] w fun e w' => e = .returned (.tuple #[.slice none 0 0, .int .i64 E]) ∧ Below w.heap.size w w' := by
  unfold fErr at F
  have q : (E != 0) = true := by simpa using hE
  clear hE
  go_enter Try.func32, Try.ntmps32
  go_wp2_with (go_at_call 48; refine F.out.mono ?_; rintro e w1 ⟨rfl, hb1⟩)
  exact bodyPost_ret (v := .tuple #[.slice none 0 0, .int .i64 E]) (by simp [results, Try.f32, go_sem]) rfl ⟨rfl, hb1.alloc hb1.size _⟩
set_option maxRecDepth 100000 in
set_option maxHeartbeats 400000 in
theorem setr32_ok (A : Option Addr) (ws : List Int) (cap k P R : Nat) (f z : Int) (w : World) (h : WAt w (.slice A ws.length cap) ws) (hcap : ws.length ≤ cap) (hu : ∀ z ∈ ws, Hd.UI z) (ho : ObOk ws k P R) :
    Calls Try.prog 32 #[.slice A ws.length cap, .int .i64 k, .int .i64 f, .int .u64 z] w fun e w' => CAns w (wrF ws (k + 1 + P) R f z) e w' := by
  have F := Lib.hid (find48_ok A ws cap k P R w h hcap hu ho)
  have hl := ho.len
  have hf := ho.fit
  have hk := ho.one
  have hc := ho.chk
  have G := Lib.hid (fun W x (hb : Below w.heap.size w W) => write57 A ws cap (k + 1 + P) x R f z W (WAt.below h hb) hc (by omega) (by omega))
  rw [show ((k + 1 + P : Nat) : Int) = (k : Int) + 1 + (P : Int) by omega] at G
  have B := Lib.hid h
  clear h hu ho hc
  generalize wrF ws (k + 1 + P) R f z = q at *
  obtain ⟨q1, q2⟩ := q
  unfold objV at F
  unfold fv at G
  generalize ws.length = n at *
  go_enter Try.func32, Try.ntmps32
  go_wp2_with (first
    | (go_at_call 48; refine F.out.mono ?_; rintro e w1 ⟨a1, a2, rfl, x1, x2, hb1⟩; clear x1 x2)
    | (go_at_call 57; refine (G.out _ _ (hb1.alloc hb1.size _)).mono ?_; rintro e w2 ⟨u, rfl, ho, hb2⟩))
  exact bodyPost_ret (v := .tuple #[u, .int .i64 q2]) (by simp [results, Try.f32, go_sem]) rfl ⟨u, rfl, own_mono ho (hb1.alloc hb1.size _).size, below_end (hb1.alloc hb1.size _) hb2⟩
theorem setr32 (v : Value) (ws : List Int) (a f z : Int) (w : World) (h : Ar w v ws) :
    Calls Try.prog 32 #[v, .int .i64 a, .int .i64 f, .int .u64 z] w fun e w' => CAns w (srF ws a f z) e w' := by
  obtain ⟨A, cap, rfl, h1, h2⟩ := h.open
  rcases obj_cases ws a with ⟨E, hE, e⟩ | ⟨k, P, R, rfl, ho⟩
  · have T : srF ws a f z = ([], E) := by unfold srF; rw [e, if_neg hE]
    have := setr32_err A ws.length cap a E f z w hE (Lib.hid (find48_err A ws cap a E w h1 h.len h.ui e hE))
    rw [T]; exact this.mono (fun e w' ⟨h1, h2⟩ => ⟨_, h1, World.ownsRow_nil _ _ _ _, h2⟩)
  · have T : srF ws k f z = wrF ws (k + 1 + P) R f z := by unfold srF; rw [ho.is, if_pos rfl]; simp only [Int.toNat_natCast]
    rw [T]
    exact setr32_ok A ws cap k P R f z w h1 h2 h.ui ho
set_option maxRecDepth 100000 in
set_option maxHeartbeats 400000 in
theorem size17 (v : Value) (ws : List Int) (a : Int) (w : World) (h : Ar w v ws) :
    Calls Try.prog 17 #[v, .int .i64 a] w fun e w' => e = .returned (.tuple #[.int .i64 (sizF ws a).1, .int .i64 (sizF ws a).2]) ∧ Below w.heap.size w w' := by
  obtain ⟨A, cap, rfl, h1, h2⟩ := h.open
  rcases obj_cases ws a with ⟨E, hE, e⟩ | ⟨k, P, R, rfl, ho⟩
  · have T : sizF ws a = (0, E) := by unfold sizF; rw [e, if_neg hE]
    have F := Lib.hid (find48_err A ws cap a E w h1 h.len h.ui e hE)
    rw [T]
    clear T e h h1 h2 hE
    unfold zObj objV at F
    go_enter Try.func17, Try.ntmps17
    go_wp2_with (go_at_call 48; refine F.out.mono ?_; rintro e w1 ⟨rfl, hb1⟩)
    exact bodyPost_ret (v := .tuple #[.int .i64 0, .int .i64 E]) (by simp [results, Try.f17, go_sem]) rfl ⟨rfl, hb1.alloc hb1.size _⟩
  · have T : sizF ws k = (1 + (P : Int) + R, 0) := by unfold sizF; rw [ho.is, if_pos rfl]
    have F := Lib.hid (find48_ok A ws cap k P R w h1 h2 h.ui ho)
    rw [T]
    clear T h h1 h2 ho
    unfold objV at F
    go_enter Try.func17, Try.ntmps17
    go_wp2_with (go_at_call 48; refine F.out.mono ?_; rintro e w1 ⟨a1, a2, rfl, x1, x2, hb1⟩; clear x1 x2)
    exact bodyPost_ret (v := .tuple #[.int .i64 (1 + (P : Int) + R), .int .i64 0]) (by simp [results, Try.f17, go_sem]) rfl ⟨rfl, hb1.alloc hb1.size _⟩
set_option maxRecDepth 100000 in
set_option maxHeartbeats 400000 in
theorem slots19 (v : Value) (ws : List Int) (a : Int) (w : World) (h : Ar w v ws) :
    Calls Try.prog 19 #[v, .int .i64 a] w fun e w' => IAns w (sltF ws a) e w' := by
  obtain ⟨A, cap, rfl, h1, h2⟩ := h.open
  rcases obj_cases ws a with ⟨E, hE, e⟩ | ⟨k, P, R, rfl, ho⟩
  · have T : sltF ws a = ([], E) := by unfold sltF; rw [e, if_neg hE]
    have F := Lib.hid (find48_err A ws cap a E w h1 h.len h.ui e hE)
    have G := Lib.hid (fun W => addresses51 none 0 0 0 none 0 W (by omega) (by omega))
    rw [T]
    clear T e h h1 h2 hE
    unfold zObj objV at F
    unfold fv at G
    rw [show upL 0 0 = [] from rfl, show ((0 : Nat) : Int) = 0 from rfl] at G
    go_enter Try.func19, Try.ntmps19
    go_wp2_with (first
      | (go_at_call 48; refine F.out.mono ?_; rintro e w1 ⟨rfl, hb1⟩)
      | (go_at_call 51; refine (G.out _).mono ?_; rintro e w2 ⟨u, rfl, ho, hb2⟩))
    exact bodyPost_ret (v := .tuple #[u, .int .i64 E]) (by simp [results, Try.f19, go_sem]) rfl ⟨u, rfl, own_mono ho (hb1.alloc hb1.size _).size, below_end (hb1.alloc hb1.size _) hb2⟩
  · have T : sltF ws k = (upL (k + 1) P, 0) := by unfold sltF; rw [ho.is, if_pos rfl]; simp only [Int.toNat_natCast]
    have F := Lib.hid (find48_ok A ws cap k P R w h1 h2 h.ui ho)
    have hl := ho.len
    have hf := ho.fit
    have G := Lib.hid (fun W x => addresses51 A ws.length cap (k + 1) x P W (by omega) (by omega))
    rw [show ((k + 1 : Nat) : Int) = (k : Int) + 1 by omega] at G
    rw [T]
    clear T h h1 h2 ho hl hf
    have UL := Lib.hid (upL_length (k + 1) P)
    generalize upL (k + 1) P = up at *
    unfold objV at F
    unfold fv at G
    go_enter Try.func19, Try.ntmps19
    go_wp2_with (first
      | (go_at_call 48; refine F.out.mono ?_; rintro e w1 ⟨a1, a2, rfl, x1, x2, hb1⟩; clear x1 x2)
      | (go_at_call 51; refine (G.out _ _).mono ?_; rintro e w2 ⟨u, rfl, ho, hb2⟩))
    rw [← UL.out] at ho
    exact bodyPost_ret (v := .tuple #[u, .int .i64 0]) (by simp [results, Try.f19, go_sem]) rfl ⟨u, rfl, own_mono ho (hb1.alloc hb1.size _).size, below_end (hb1.alloc hb1.size _) hb2⟩
end Ytmgoonahpndfoaa
end Go.Proofs
