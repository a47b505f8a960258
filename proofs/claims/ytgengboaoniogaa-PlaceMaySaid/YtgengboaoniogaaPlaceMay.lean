/-
  PlaceMay: its walk.
-/
import Derived.Test.YtgengboaoniogaaPlV
import Derived.Test.YtgengboaoniogaaPlN
namespace Go.Proofs.Ytgengboaoniogaa
open Go.RowKit Plain
set_option linter.unusedVariables false
set_option maxRecDepth 100000
set_option linter.unusedSimpArgs false

/-- two Words of the reference stay -/
structure S2 (w0 : World) (g h : Nat) (a b c d p q r t : Int) (W : World) : Prop where
  b1 : Blk W g 48 #[.int .i64 a, .int .i64 b, .int .i64 c, .int .i64 d]
  b2 : Blk W h 48 #[.int .i64 p, .int .i64 q, .int .i64 r, .int .i64 t]
  bel : Below w0.heap.size w0 W
theorem S2.below {w0 : World} {g h : Nat} {a b c d p q r t : Int} {W W' : World} (s : S2 w0 g h a b c d p q r t W) (hb : Below W.heap.size W W') : S2 w0 g h a b c d p q r t W' := ⟨s.b1.below hb, s.b2.below hb, bthen s.bel hb⟩
theorem S2.drew {w0 : World} {g h : Nat} {a b c d p q r t : Int} {W : World} (s : S2 w0 g h a b c d p q r t W) : S2 w0 g h a b c d p q r t W.drew := ⟨s.b1, s.b2, s.bel.drew⟩
theorem S2.new (w : World) (a b c d p q r t : Int) : S2 w w.heap.size (w.heap.size + 1) a b c d p q r t ((w.alloc (.cells #[.int .i64 a, .int .i64 b, .int .i64 c, .int .i64 d] 48)).alloc (.cells #[.int .i64 p, .int .i64 q, .int .i64 r, .int .i64 t] 48)) := by
  have h2 := Blk.new (w.alloc (.cells #[.int .i64 a, .int .i64 b, .int .i64 c, .int .i64 d] 48)) 48 #[.int .i64 p, .int .i64 q, .int .i64 r, .int .i64 t]
  rw [World.size_alloc] at h2
  exact ⟨(Blk.new w _ _).alloc _, h2, b2all w _ _⟩

set_option maxHeartbeats 8000000 in
theorem placeMay_walk (x y : Wd) (w : World) : Calls Try.prog 7 #[x.val, y.val] w fun e w' => e = .returned (.bool true) ∧ Below w.heap.size w w' := by
  have HT := Lib.hid (to_any x)
  have HV := Lib.hid (to_any y)
  have HM := Lib.hid (may_any x y)
  have HR := Lib.hid (rmay_any x y)
  have HA : ∀ w, Calls Try.prog 26 #[x.val, .agg #[.int .i64 4, .int .i64 0, .int .i64 0, .int .i64 0]] w fun e w' => e = .returned (.bool false) ∧ Below w.heap.size w w' := fun w => by
    have := may_any x ⟨4, 0, 0, 0⟩ w
    rw [show x.may ⟨4, 0, 0, 0⟩ = false by unfold Wd.may; rw [show (Wd.mk 4 0 0 0).can = false by decide, Bool.and_false]; rfl] at this
    exact this
  have HZ : ∀ w, Calls Try.prog 26 #[.agg #[.int .i64 (-1), .int .i64 0, .int .i64 0, .int .i64 0], y.val] w fun e w' => e = .returned (.bool false) ∧ Below w.heap.size w w' := fun w => by
    have := may_any ⟨-1, 0, 0, 0⟩ y w
    rw [show (Wd.mk (-1) 0 0 0).may y = false by unfold Wd.may; rw [show (Wd.mk (-1) 0 0 0).can = false by decide]; rfl] at this
    exact this
  generalize x.may y = m at *
  obtain ⟨a, b, c, d⟩ := x
  obtain ⟨p, q, r, t⟩ := y
  simp only [Wd.v4] at HT HV HM HR HA HZ ⊢
  have HA' := Lib.hid HA
  have HZ' := Lib.hid HZ
  clear HA HZ
  have hmm : (m == m) = true := by simp
  have S0 := S2.new w a b c d p q r t
  have HS0 := Lib.hid S0
  clear S0
  go_enter Try.func7, Try.ntmps7
  go_upto_region 1 with fail
  have S0 := HS0.out
  clear HS0
  generalize (w.alloc (.cells #[.int .i64 a, .int .i64 b, .int .i64 c, .int .i64 d] 48)).alloc (.cells #[.int .i64 p, .int .i64 q, .int .i64 r, .int .i64 t] 48) = w1 at *
  generalize w.heap.size + 1 = h at *
  generalize w.heap.size = g at *
  have r10 : ∀ W, S2 w g h a b c d p q r t W → W.cell? ⟨g, 0, none⟩ = some (.int .i64 a) := fun W s => s.b1.cell 0
  have r11 : ∀ W, S2 w g h a b c d p q r t W → W.cell? ⟨g, 1, none⟩ = some (.int .i64 b) := fun W s => s.b1.cell 1
  have r12 : ∀ W, S2 w g h a b c d p q r t W → W.cell? ⟨g, 2, none⟩ = some (.int .i64 c) := fun W s => s.b1.cell 2
  have r13 : ∀ W, S2 w g h a b c d p q r t W → W.cell? ⟨g, 3, none⟩ = some (.int .i64 d) := fun W s => s.b1.cell 3
  have r20 : ∀ W, S2 w g h a b c d p q r t W → W.cell? ⟨h, 0, none⟩ = some (.int .i64 p) := fun W s => s.b2.cell 0
  have r21 : ∀ W, S2 w g h a b c d p q r t W → W.cell? ⟨h, 1, none⟩ = some (.int .i64 q) := fun W s => s.b2.cell 1
  have r22 : ∀ W, S2 w g h a b c d p q r t W → W.cell? ⟨h, 2, none⟩ = some (.int .i64 r) := fun W s => s.b2.cell 2
  have r23 : ∀ W, S2 w g h a b c d p q r t W → W.cell? ⟨h, 3, none⟩ = some (.int .i64 t) := fun W s => s.b2.cell 3
  go_region_held3 (fun W => S2 w g h a b c d p q r t W)
    (first | (with_reducible exact S0.drew) | (with_reducible exact S2.below (by assumption) (by assumption)))
    (first
      | (go_at_call 22; refine (moves_any _).mono ?_; rintro e w' ⟨rfl, hbh⟩)
      | (go_at_call 20; (with_reducible refine (HT.out _).mono ?_); rintro e w' ⟨rfl, hbh⟩)
      | (go_at_call 20; (with_reducible refine (HV.out _).mono ?_); rintro e w' ⟨rfl, hbh⟩)
      | (go_at_call 27; (with_reducible refine (HR.out _).mono ?_); rintro e w' ⟨rfl, hbh⟩)
      | (go_at_call 26; (with_reducible refine (HM.out _).mono ?_); rintro e w' ⟨rfl, hbh⟩)
      | (go_at_call 26; (with_reducible refine (HA'.out _).mono ?_); rintro e w' ⟨rfl, hbh⟩)
      | (go_at_call 26; (with_reducible refine (HZ'.out _).mono ?_); rintro e w' ⟨rfl, hbh⟩))
  all_goals
    go_wp2
    go_ret
    exact ⟨rfl, S2.bel (by assumption)⟩
end Go.Proofs.Ytgengboaoniogaa
