/-
  fanlightlaw18: notes. No condition.
-/
import Derived.Test.YtbnlpidhbilenaaGD
namespace Go.Proofs.Ytbnlpidhbilenaa
open Go.RowKit Go.Deep Plain
set_option linter.unusedVariables false
set_option linter.unusedSimpArgs false
set_option maxRecDepth 100000
/-- a frame that came in and was answered: its port stays -/
theorem portOf_0 (fA : Option Addr) (fn fc : Nat) (tick port : Int) (A : Option Addr) (n c : Nat) (w : World) :
    Calls Try.prog 42 #[.agg #[.bool false, .slice fA fn fc, .int .i64 tick, .int .i64 port], .agg #[.slice A n c, .int .i64 0]] w fun e w' => e = .returned (.int .i64 port) ∧ Below w.heap.size w w' := by
  have HB := Lib.hid (bthen (ball w (.cells #[.bool false, .slice fA fn fc, .int .i64 tick, .int .i64 port] 29)) (ball _ (.cells #[.slice A n c, .int .i64 0] 33)))
  have h1 : Blk ((w.alloc (.cells #[.bool false, .slice fA fn fc, .int .i64 tick, .int .i64 port] 29)).alloc (.cells #[.slice A n c, .int .i64 0] 33)) w.heap.size 29 #[.bool false, .slice fA fn fc, .int .i64 tick, .int .i64 port] := (Blk.new w _ _).alloc _
  have h2 := Blk.new (w.alloc (.cells #[.bool false, .slice fA fn fc, .int .i64 tick, .int .i64 port] 29)) 33 #[.slice A n c, .int .i64 0]
  rw [World.size_alloc] at h2
  obtain ⟨w1, hw1⟩ : ∃ w1, w1 = (w.alloc (.cells #[.bool false, .slice fA fn fc, .int .i64 tick, .int .i64 port] 29)).alloc (.cells #[.slice A n c, .int .i64 0] 33) := ⟨_, rfl⟩
  rw [← hw1] at h1 h2 HB
  have HW := Lib.hid hw1
  clear hw1
  have x0 : w1.cell? ⟨w.heap.size, 0, none⟩ = some (.bool false) := h1.cell 0
  have x3 : w1.cell? ⟨w.heap.size, 3, none⟩ = some (.int .i64 port) := h1.cell 3
  have y1 : w1.cell? ⟨w.heap.size + 1, 1, none⟩ = some (.int .i64 0) := h2.cell 1
  clear h1 h2
  go_enter Try.func42, Try.ntmps42
  go_upto_region 1 with fail
  rw [← HW.out]
  go_wp2
  go_ret
  exact ⟨rfl, HB.out⟩
theorem HiS.low {W : World} {base gh : Nat} {now : Int} {v : Value} {es : List En} (h : HiS W base gh now v es) : ∀ x ∈ hiL gh v, base ≤ x := fun x hx => by
  unfold hiL at hx
  rcases List.mem_cons.1 hx with rfl | hx
  · exact h.gb
  · rw [Option.mem_toList] at hx
    exact (own_blk h.row hx).1
def eb (b : Int) (fA : Option Addr) (fc : Nat) : En := ⟨b, -1, false, false, fA, 0, fc, 0, 0, none, 0, 0, 0, 0, 0⟩
def ed (fA : Option Addr) (fc : Nat) (aA : Option Addr) (ac : Nat) : En := ⟨1, 3, false, false, fA, 0, fc, 0, 0, aA, 0, ac, 0, 0, 0⟩
theorem RdE0 (w : World) (A : Option Addr) : Rd w A [] := ⟨By.nil, fun h => absurd h (by simp)⟩
theorem list3 {L : List En} (h : L.length = 3) : ∃ a b c, L = [a, b, c] := by
  rcases L with _ | ⟨a, L⟩
  · cases h
  rcases L with _ | ⟨b, L⟩
  · simp at h
  rcases L with _ | ⟨c, L⟩
  · simp at h
  rcases L with _ | ⟨d, L⟩
  · exact ⟨a, b, c, rfl⟩
  · simp at h
theorem like_eq {x y : En} (h : x.like y) : y = ⟨x.b, x.e, x.ends, x.out, y.fA, x.fn, y.fc, x.tick, x.port, y.aA, x.an, y.ac, x.err, x.pr, x.po⟩ := by
  obtain ⟨b, e, s, t, f, n, c, u, v, g, m, d, r, p, z⟩ := y
  unfold En.like at h
  simp only at h
  obtain ⟨rfl, rfl, rfl, rfl, rfl, rfl, rfl, rfl, rfl, rfl, rfl⟩ := h
  rfl
theorem three_row {w : World} {A : Option Addr} {L : List En} {fA2 fA3 fA5 A4 : Option Addr} {fc2 fc3 fc5 c4 : Nat} (hL : L.length = 3) (hR : RdE w A L) (q : ∀ i, i < 3 → (([ed fA2 fc2 A4 c4, eb 2 fA3 fc3, eb 4 fA5 fc5] : List En).getD i en0).like (L.getD i en0)) :
    ∃ (g o : Nat) (f0 g0 f1 g1 f2 g2 : Option Addr) (c0 d0 c1 d1 c2 d2 : Nat), A = some ⟨g, o, none⟩ ∧ g < w.heap.size ∧ At w ⟨g, o, none⟩ [.int .i64 1, .int .i64 3, .bool false, .bool false, .slice f0 0 c0, .int .i64 0, .int .i64 0, .slice g0 0 d0, .int .i64 0, .int .i64 0, .int .i64 0] ∧ At w ⟨g, o + 11, none⟩ [.int .i64 2, .int .i64 (-1), .bool false, .bool false, .slice f1 0 c1, .int .i64 0, .int .i64 0, .slice g1 0 d1, .int .i64 0, .int .i64 0, .int .i64 0] ∧ At w ⟨g, o + 22, none⟩ [.int .i64 4, .int .i64 (-1), .bool false, .bool false, .slice f2 0 c2, .int .i64 0, .int .i64 0, .slice g2 0 d2, .int .i64 0, .int .i64 0, .int .i64 0] := by
  obtain ⟨l0, l1, l2, hL3⟩ := list3 hL
  subst hL3
  obtain ⟨g6, o6, rfl, hlt6, hA⟩ := hR (by simp)
  have q0 : l0 = _ := like_eq (q 0 (by omega))
  have q1 : l1 = _ := like_eq (q 1 (by omega))
  have q2 : l2 = _ := like_eq (q 2 (by omega))
  have hA0 : At w ⟨g6, o6 + 0 * 11, none⟩ l0.cs := hA 0 (by simp)
  have hA1 : At w ⟨g6, o6 + 1 * 11, none⟩ l1.cs := hA 1 (by simp)
  have hA2 : At w ⟨g6, o6 + 2 * 11, none⟩ l2.cs := hA 2 (by simp)
  rw [q0] at hA0
  rw [q1] at hA1
  rw [q2] at hA2
  rw [Nat.zero_mul, Nat.add_zero] at hA0
  exact ⟨g6, o6, l0.fA, l0.aA, l1.fA, l1.aA, l2.fA, l2.aA, l0.fc, l0.ac, l1.fc, l1.ac, l2.fc, l2.ac, rfl, hlt6, hA0, hA1, hA2⟩
theorem RdNil (w : World) : Rd w none [] := ⟨By.nil, fun h => absurd h (by simp)⟩
set_option maxHeartbeats 8000000 in
theorem notes_any (w : World) : Calls Try.prog 9 #[] w fun e w' => e = .returned (.bool true) ∧ Below w.heap.size w w' := by
  go_enter Try.func9, Try.ntmps9
  go_upto_region 2 with (go_at_call 16; refine (hnew_any _).mono ?_; rintro ee w1 ⟨rfl, hh1, hb1⟩)
  have HC1 := Lib.hid (begin_any hh1 rfl (by omega) (by omega) (by omega) false 0 0 none 0 0 [] rfl (by omega) (RdNil _) (fun _ => rfl))
  have HB1 := Lib.hid hb1
  have HH1 := Lib.hid hh1
  clear hh1 hb1
  go_upto_region 3 with (go_at_call 11; first
    | ((with_reducible refine (HC1.out).mono ?_); rintro ee w2 ⟨rfl, A2, c2, fA2, fc2, hh2, hf2, _, _, _, hn2, hk2, _⟩; have HB2 := Lib.hid (hk2.below HB1.out (Nat.le_refl _) (HH1.out.low)); have HH2 := Lib.hid hh2; have HC2 := Lib.hid (begin_any hh2 rfl (by simp) (by omega) (by omega) false 0 0 none 0 0 [] rfl (by omega) (RdNil _) (fun _ => rfl)); clear hk2 hh2)
    | ((with_reducible refine (HC2.out).mono ?_); rintro ee w3 ⟨rfl, A3, c3, fA3, fc3, hh3, hf3, _, _, _, hn3, hk3, _⟩))
  have HB3 := Lib.hid (hk3.below HB2.out (Nat.le_refl _) HH2.out.low)
  obtain ⟨gE, hgE⟩ := hh3.some rfl (by simp)
  subst hgE
  have HD := Lib.hid (fun W A' c' => portOf_0 fA2 0 fc2 0 0 A' 0 c' W)
  have HC3 := Lib.hid (show Calls Try.prog 12 #[.pointer (some ⟨w.heap.size, 0, none⟩), .int .i64 0, .agg #[.slice none 0 0, .int .i64 0]] w3 (EdOk w.heap.size w.heap.size gE 2 2 c3 [eb 1 fA2 fc2, eb 2 fA3 fc3] 0 (eb 1 fA2 fc2) none 0 [] 0 0 w3) from
    end_any (show HiS w3 w.heap.size w.heap.size 2 (.slice (some ⟨gE, 0, none⟩) 2 c3) [eb 1 fA2 fc2, eb 2 fA3 fc3] from hh3) rfl (by omega) (by omega) (by omega) 0 (by omega) (eb 1 fA2 fc2) rfl rfl none 0 0 [] rfl (by omega) (RdNil _) (fun _ => rfl) 0 0 (fun W A' c' _ _ _ => HD.out W A' c'))
  have HH3 := Lib.hid hh3
  have HN2 := Lib.hid hn2
  have HN3 := Lib.hid hn3
  clear hh3 hn2 hn3 hf2 hf3 hk3
  go_upto_region 4 with (go_at_call 12; refine (HC3.out).mono ?_; rintro ee w4 ⟨rfl, A4, c4, hh4, _, _, _, _, hn4, hk4⟩)
  have HB4 := Lib.hid (hk4.below HB3.out (Nat.le_refl _) (show ∀ x ∈ hiL w.heap.size (.slice (some ⟨gE, 0, none⟩) 2 c3), w.heap.size ≤ x from HH3.out.low))
  have HH4 := Lib.hid (show HiS w4 w.heap.size w.heap.size 3 (.slice (some ⟨gE, 0, none⟩) 2 c3) [ed fA2 fc2 A4 c4, eb 2 fA3 fc3] from hh4)
  have HN4 := Lib.hid hn4
  clear hh4 hn4 hk4 HC3 HD
  have HC4 := Lib.hid (begin_any HH4.out rfl (by omega) (by omega) (by omega) false 0 0 none 0 0 [] rfl (by omega) (RdNil _) (fun _ => rfl))
  go_upto_region 5 with (go_at_call 11; refine (HC4.out).mono ?_; rintro ee w5 ⟨rfl, A5, c5, fA5, fc5, hh5, hf5, _, _, _, hn5, hk5, _⟩)
  have HB5 := Lib.hid (hk5.below HB4.out (Nat.le_refl _) (HH4.out.low))
  obtain ⟨gF, hgF⟩ := hh5.some rfl (by omega)
  subst hgF
  have HH5 := Lib.hid (show HiS w5 w.heap.size w.heap.size 4 (.slice (some ⟨gF, 0, none⟩) 3 c5) [ed fA2 fc2 A4 c4, eb 2 fA3 fc3, eb 4 fA5 fc5] from hh5)
  have HN5 := Lib.hid hn5
  clear hh5 hn5 hk5 hf5 HC4
  have HC5 := Lib.hid (all_any HH5.out rfl (by omega) (fun _ => []) (fun _ => []) (fun i hi => by
    obtain rfl | rfl | rfl : i = 0 ∨ i = 1 ∨ i = 2 := by omega
    · exact ⟨RdE0 _ _, rfl, HN2.out, by show 0 ≤ 1000000; omega, RdE0 _ _, rfl, HN4.out, by show 0 ≤ 1000000; omega⟩
    · exact ⟨RdE0 _ _, rfl, HN3.out, by show 0 ≤ 1000000; omega, RdE0 _ _, rfl, fun _ => rfl, by show 0 ≤ 1000000; omega⟩
    · exact ⟨RdE0 _ _, rfl, HN5.out, by show 0 ≤ 1000000; omega, RdE0 _ _, rfl, fun _ => rfl, by show 0 ≤ 1000000; omega⟩))
  go_upto_region 6 with (go_at_call 15; refine (HC5.out).mono ?_; rintro ee w6 ⟨A6, L, rfl, hL, hR, hb6, hlk⟩)
  have HB6 := Lib.hid (bthen HB5.out hb6)
  have HH6 := Lib.hid (HH5.out.below hb6)
  obtain ⟨g6, o6, f0, g0, f1, g1, f2, g2, c0, d0, c1, d1, c2, d2, rfl, hlt6, hA0, hA1, hA2⟩ := three_row hL hR (fun i hi => (hlk i hi).1)
  have HAh := Lib.hid (ahead_any ⟨1, 3, false, false, f0, 0, c0, 0, 0, g0, 0, d0, 0, 0, 0⟩ ⟨4, -1, false, false, f2, 0, c2, 0, 0, g2, 0, d2, 0, 0, 0⟩)
  have HAh2 := Lib.hid (ahead_any ⟨1, 3, false, false, f0, 0, c0, 0, 0, g0, 0, d0, 0, 0, 0⟩ ⟨2, -1, false, false, f1, 0, c1, 0, 0, g1, 0, d1, 0, 0, 0⟩)
  unfold En.val En.cs at HAh HAh2
  clear hlk hL hR hb6
  have S0 : Below w6.heap.size w6 w6 := Below.refl _ _
  have r0_0 : ∀ W, Below w6.heap.size w6 W → W.cell? ⟨g6, o6, none⟩ = some (.int .i64 1) := fun W h => (hA0.below h hlt6).cell' 0 rfl
  have r0_1 : ∀ W, Below w6.heap.size w6 W → W.cell? ⟨g6, o6 + 1, none⟩ = some (.int .i64 3) := fun W h => (hA0.below h hlt6).cell' 1 rfl
  have r0_2 : ∀ W, Below w6.heap.size w6 W → W.cell? ⟨g6, o6 + 2, none⟩ = some (.bool false) := fun W h => (hA0.below h hlt6).cell' 2 rfl
  have r0_3 : ∀ W, Below w6.heap.size w6 W → W.cell? ⟨g6, o6 + 3, none⟩ = some (.bool false) := fun W h => (hA0.below h hlt6).cell' 3 rfl
  have r0_4 : ∀ W, Below w6.heap.size w6 W → W.cell? ⟨g6, o6 + 4, none⟩ = some (.slice f0 0 c0) := fun W h => (hA0.below h hlt6).cell' 4 rfl
  have r0_5 : ∀ W, Below w6.heap.size w6 W → W.cell? ⟨g6, o6 + 5, none⟩ = some (.int .i64 0) := fun W h => (hA0.below h hlt6).cell' 5 rfl
  have r0_6 : ∀ W, Below w6.heap.size w6 W → W.cell? ⟨g6, o6 + 6, none⟩ = some (.int .i64 0) := fun W h => (hA0.below h hlt6).cell' 6 rfl
  have r0_7 : ∀ W, Below w6.heap.size w6 W → W.cell? ⟨g6, o6 + 7, none⟩ = some (.slice g0 0 d0) := fun W h => (hA0.below h hlt6).cell' 7 rfl
  have r0_8 : ∀ W, Below w6.heap.size w6 W → W.cell? ⟨g6, o6 + 8, none⟩ = some (.int .i64 0) := fun W h => (hA0.below h hlt6).cell' 8 rfl
  have r0_9 : ∀ W, Below w6.heap.size w6 W → W.cell? ⟨g6, o6 + 9, none⟩ = some (.int .i64 0) := fun W h => (hA0.below h hlt6).cell' 9 rfl
  have r0_10 : ∀ W, Below w6.heap.size w6 W → W.cell? ⟨g6, o6 + 10, none⟩ = some (.int .i64 0) := fun W h => (hA0.below h hlt6).cell' 10 rfl
  have r1_0 : ∀ W, Below w6.heap.size w6 W → W.cell? ⟨g6, o6 + 11, none⟩ = some (.int .i64 2) := fun W h => (hA1.below h hlt6).cell' 0 rfl
  have r1_1 : ∀ W, Below w6.heap.size w6 W → W.cell? ⟨g6, o6 + 11 + 1, none⟩ = some (.int .i64 (-1)) := fun W h => (hA1.below h hlt6).cell' 1 rfl
  have r1_2 : ∀ W, Below w6.heap.size w6 W → W.cell? ⟨g6, o6 + 11 + 2, none⟩ = some (.bool false) := fun W h => (hA1.below h hlt6).cell' 2 rfl
  have r1_3 : ∀ W, Below w6.heap.size w6 W → W.cell? ⟨g6, o6 + 11 + 3, none⟩ = some (.bool false) := fun W h => (hA1.below h hlt6).cell' 3 rfl
  have r1_4 : ∀ W, Below w6.heap.size w6 W → W.cell? ⟨g6, o6 + 11 + 4, none⟩ = some (.slice f1 0 c1) := fun W h => (hA1.below h hlt6).cell' 4 rfl
  have r1_5 : ∀ W, Below w6.heap.size w6 W → W.cell? ⟨g6, o6 + 11 + 5, none⟩ = some (.int .i64 0) := fun W h => (hA1.below h hlt6).cell' 5 rfl
  have r1_6 : ∀ W, Below w6.heap.size w6 W → W.cell? ⟨g6, o6 + 11 + 6, none⟩ = some (.int .i64 0) := fun W h => (hA1.below h hlt6).cell' 6 rfl
  have r1_7 : ∀ W, Below w6.heap.size w6 W → W.cell? ⟨g6, o6 + 11 + 7, none⟩ = some (.slice g1 0 d1) := fun W h => (hA1.below h hlt6).cell' 7 rfl
  have r1_8 : ∀ W, Below w6.heap.size w6 W → W.cell? ⟨g6, o6 + 11 + 8, none⟩ = some (.int .i64 0) := fun W h => (hA1.below h hlt6).cell' 8 rfl
  have r1_9 : ∀ W, Below w6.heap.size w6 W → W.cell? ⟨g6, o6 + 11 + 9, none⟩ = some (.int .i64 0) := fun W h => (hA1.below h hlt6).cell' 9 rfl
  have r1_10 : ∀ W, Below w6.heap.size w6 W → W.cell? ⟨g6, o6 + 11 + 10, none⟩ = some (.int .i64 0) := fun W h => (hA1.below h hlt6).cell' 10 rfl
  have r2_0 : ∀ W, Below w6.heap.size w6 W → W.cell? ⟨g6, o6 + 22, none⟩ = some (.int .i64 4) := fun W h => (hA2.below h hlt6).cell' 0 rfl
  have r2_1 : ∀ W, Below w6.heap.size w6 W → W.cell? ⟨g6, o6 + 22 + 1, none⟩ = some (.int .i64 (-1)) := fun W h => (hA2.below h hlt6).cell' 1 rfl
  have r2_2 : ∀ W, Below w6.heap.size w6 W → W.cell? ⟨g6, o6 + 22 + 2, none⟩ = some (.bool false) := fun W h => (hA2.below h hlt6).cell' 2 rfl
  have r2_3 : ∀ W, Below w6.heap.size w6 W → W.cell? ⟨g6, o6 + 22 + 3, none⟩ = some (.bool false) := fun W h => (hA2.below h hlt6).cell' 3 rfl
  have r2_4 : ∀ W, Below w6.heap.size w6 W → W.cell? ⟨g6, o6 + 22 + 4, none⟩ = some (.slice f2 0 c2) := fun W h => (hA2.below h hlt6).cell' 4 rfl
  have r2_5 : ∀ W, Below w6.heap.size w6 W → W.cell? ⟨g6, o6 + 22 + 5, none⟩ = some (.int .i64 0) := fun W h => (hA2.below h hlt6).cell' 5 rfl
  have r2_6 : ∀ W, Below w6.heap.size w6 W → W.cell? ⟨g6, o6 + 22 + 6, none⟩ = some (.int .i64 0) := fun W h => (hA2.below h hlt6).cell' 6 rfl
  have r2_7 : ∀ W, Below w6.heap.size w6 W → W.cell? ⟨g6, o6 + 22 + 7, none⟩ = some (.slice g2 0 d2) := fun W h => (hA2.below h hlt6).cell' 7 rfl
  have r2_8 : ∀ W, Below w6.heap.size w6 W → W.cell? ⟨g6, o6 + 22 + 8, none⟩ = some (.int .i64 0) := fun W h => (hA2.below h hlt6).cell' 8 rfl
  have r2_9 : ∀ W, Below w6.heap.size w6 W → W.cell? ⟨g6, o6 + 22 + 9, none⟩ = some (.int .i64 0) := fun W h => (hA2.below h hlt6).cell' 9 rfl
  have r2_10 : ∀ W, Below w6.heap.size w6 W → W.cell? ⟨g6, o6 + 22 + 10, none⟩ = some (.int .i64 0) := fun W h => (hA2.below h hlt6).cell' 10 rfl
  clear hA0 hA1 hA2
  go_region_held3 (fun W => Below w6.heap.size w6 W)
    (first | (with_reducible exact Below.drew S0) | (with_reducible exact bthen (by assumption) (by assumption)) | (with_reducible assumption))
    (first
      | (go_at_call 14; refine (hnow_any (HH6.out.below (by assumption))).mono ?_; rintro ee W7 ⟨rfl, rfl⟩)
      | (go_at_call 26; (with_reducible refine (HAh.out _).mono ?_); rintro ee W8 ⟨rfl, hb8⟩)
      | (go_at_call 26; (with_reducible refine (HAh2.out _).mono ?_); rintro ee W9 ⟨rfl, hb9⟩))
  have HF := Lib.hid (show Below w.heap.size w W9 from bthen HB6.out (by assumption))
  go_wp2
  go_ret
  exact ⟨rfl, HF.out⟩
end Go.Proofs.Ytbnlpidhbilenaa
