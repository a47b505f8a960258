/-
  TrackNext: its walk.
-/
import Derived.Test.YtcbbcdmokdcmoaaTrack2
import Derived.Deep.DeepCutAuto
import Derived.Deep.RegionHeld3
import Derived.RegionTactic
import Derived.Deep.QuietTactic
import Derived.BigQuiet
namespace Go.Proofs.Ytcbbcdmokdcmoaa
open Go.RowKit Plain
set_option linter.unusedVariables false
set_option maxRecDepth 100000
set_option linter.unusedSimpArgs false

/-- a Segment in memory -/
structure SgS (w0 : World) (g : Nat) (o : Bool) (f : Int) (W : World) : Prop where
  b1 : Blk W g 23 #[.bool o, .int .i64 f]
  bel : Below w0.heap.size w0 W
theorem SgS.drew {w0 : World} {g : Nat} {o : Bool} {f : Int} {W : World} (s : SgS w0 g o f W) : SgS w0 g o f W.drew := ⟨s.b1, s.bel.drew⟩
theorem SgS.new (w : World) (o : Bool) (f : Int) : SgS w w.heap.size o f (w.alloc (.cells #[.bool o, .int .i64 f] 23)) := ⟨Blk.new w _ _, ball w _⟩

set_option maxHeartbeats 8000000 in
theorem trackNext_walk (p s : Int) (o : Bool) (f : Int) (w : World) : Calls Try.prog 3 #[.int .i64 p, .int .i64 s, .agg #[.bool o, .int .i64 f]] w fun e w' => e = .returned (.bool true) ∧ Below w.heap.size w w' := by
  have H1 := Lib.hid (next_any p s o f)
  have H2 := Lib.hid (next_any 6 s o f)
  have H3 := Lib.hid (rnext_any p s o f)
  have H4 := Lib.hid (rnext_any 6 s o f)
  generalize nxt p s o f = x at *
  generalize nxt 6 s o f = y at *
  have hx : (x == x) = true := by simp
  have hy : (y == y) = true := by simp
  have S0 := SgS.new w o f
  have HS0 := Lib.hid S0
  clear S0
  go_enter Try.func3, Try.ntmps3
  go_upto_region 1 with fail
  have S0 := HS0.out
  clear HS0
  generalize w.alloc (.cells #[.bool o, .int .i64 f] 23) = w1 at *
  generalize w.heap.size = g at *
  have r0 : ∀ W, SgS w g o f W → W.cell? ⟨g, 0, none⟩ = some (.bool o) := fun W s => s.b1.cell 0
  have r1 : ∀ W, SgS w g o f W → W.cell? ⟨g, 1, none⟩ = some (.int .i64 f) := fun W s => s.b1.cell 1
  go_region_held3 (fun W => SgS w g o f W)
    (first | (with_reducible exact S0.drew) | assumption)
    (first
      | (go_at_call 7; refine (opens_any _).mono ?_; rintro e w' ⟨rfl, rfl⟩)
      | (go_at_call 8; (with_reducible refine (H1.out _).mono ?_); rintro e w' ⟨rfl, rfl⟩)
      | (go_at_call 8; (with_reducible refine (H2.out _).mono ?_); rintro e w' ⟨rfl, rfl⟩)
      | (go_at_call 9; (with_reducible refine (H3.out _).mono ?_); rintro e w' ⟨rfl, rfl⟩)
      | (go_at_call 9; (with_reducible refine (H4.out _).mono ?_); rintro e w' ⟨rfl, rfl⟩))
  all_goals
    go_wp2
    go_ret
    exact ⟨rfl, SgS.bel (by assumption)⟩
end Go.Proofs.Ytcbbcdmokdcmoaa
