/-
  TrackTells: its walk.
-/
import Derived.Test.YtcbbcdmokdcmoaaTrackNext
namespace Go.Proofs.Ytcbbcdmokdcmoaa
open Go.RowKit Plain
set_option linter.unusedVariables false
set_option maxRecDepth 100000
set_option linter.unusedSimpArgs false

theorem SgS.below {w0 : World} {g : Nat} {o : Bool} {f : Int} {W W' : World} (s : SgS w0 g o f W) (hb : Below W.heap.size W W') : SgS w0 g o f W' := ⟨s.b1.below hb, bthen s.bel hb⟩

def pick4 (p : Int) (k : Nat) : Int := if k = 0 then p else if k = 1 then 1 else if k = 2 then 6 else 17

set_option maxHeartbeats 8000000 in
theorem trackTells_walk (p s : Int) (o : Bool) (f : Int) (w : World) : Calls Try.prog 4 #[.int .i64 p, .int .i64 s, .agg #[.bool o, .int .i64 f]] w fun e w' => e = .returned (.bool true) ∧ Below w.heap.size w w' := by
  have HT := Lib.hid (text_any s)
  have HV := Lib.hid (rtext_any s)
  generalize txt s = tx at *
  have S0 := SgS.new w o f
  have HS0 := Lib.hid S0
  clear S0
  go_enter Try.func4, Try.ntmps4
  go_upto_region 1 with fail
  have S0 := HS0.out
  clear HS0
  generalize w.alloc (.cells #[.bool o, .int .i64 f] 23) = w1 at *
  generalize w.heap.size = g at *
  have HS0 := Lib.hid S0
  clear S0
  go_wp2_with fail
  go_loopw [7] (fun s7 wr => ∃ (k : Nat), s7 = .int .i64 k ∧ k ≤ 4 ∧ SgS w g o f wr) (fun i _ => 4 - (intOf i).toNat)
  case atStart => exact ⟨0, rfl, by omega, HS0.out⟩
  case round =>
    obtain ⟨k, rfl, hk, hS⟩ := hrel
    have HS := Lib.hid hS
    clear hS HS0
    by_cases hlt : k < 4
    · obtain rfl | rfl | rfl | rfl : k = 0 ∨ k = 1 ∨ k = 2 ∨ k = 3 := by omega
      · have H1 := Lib.hid (life_any (p) s)
        have H2 := Lib.hid (rlife_any (p) s)
        have H3 := Lib.hid (renews_any (p) o)
        have H4 := Lib.hid (rrenews_any (p) o)
        have H5 := Lib.hid (begins_any (p) s f)
        have H6 := Lib.hid (rbegins_any (p) s f)
        generalize lifeOf (p) s = x at *
        generalize rnw (p) o = y at *
        generalize bgn (p) s f = z at *
        have hx : (x != x) = false := by simp
        have hy : (y != y) = false := by simp
        have hz : (z != z) = false := by simp
        go_upto_region 5 with fail
        have S1 := HS.out.below (ball wr (.cells #[.int .i64 p, .int .i64 1, .int .i64 6, .int .i64 17] 3))
        clear HS
        generalize wr.alloc (.cells #[.int .i64 p, .int .i64 1, .int .i64 6, .int .i64 17] 3) = w2 at *
        have r0 : ∀ W, SgS w g o f W → W.cell? ⟨g, 0, none⟩ = some (.bool o) := fun W s => s.b1.cell 0
        have r1 : ∀ W, SgS w g o f W → W.cell? ⟨g, 1, none⟩ = some (.int .i64 f) := fun W s => s.b1.cell 1
        go_region_held3 (fun W => SgS w g o f W)
          (first | (with_reducible exact S1.drew) | assumption)
          (first
            | (go_at_call 10; (with_reducible refine (H1.out _).mono ?_); rintro e w' ⟨rfl, rfl⟩)
            | (go_at_call 11; (with_reducible refine (H2.out _).mono ?_); rintro e w' ⟨rfl, rfl⟩)
            | (go_at_call 12; (with_reducible refine (H3.out _).mono ?_); rintro e w' ⟨rfl, rfl⟩)
            | (go_at_call 13; (with_reducible refine (H4.out _).mono ?_); rintro e w' ⟨rfl, rfl⟩)
            | (go_at_call 14; (with_reducible refine (H5.out _).mono ?_); rintro e w' ⟨rfl, rfl⟩)
            | (go_at_call 15; (with_reducible refine (H6.out _).mono ?_); rintro e w' ⟨rfl, rfl⟩))
        all_goals
          go_wp2
          go_roundw
          case rel => exact ⟨1, by go_num, by omega, by assumption⟩
          case measure => simp [intOf]
      · have H1 := Lib.hid (life_any (1) s)
        have H2 := Lib.hid (rlife_any (1) s)
        have H3 := Lib.hid (renews_any (1) o)
        have H4 := Lib.hid (rrenews_any (1) o)
        have H5 := Lib.hid (begins_any (1) s f)
        have H6 := Lib.hid (rbegins_any (1) s f)
        generalize lifeOf (1) s = x at *
        generalize rnw (1) o = y at *
        generalize bgn (1) s f = z at *
        have hx : (x != x) = false := by simp
        have hy : (y != y) = false := by simp
        have hz : (z != z) = false := by simp
        go_upto_region 5 with fail
        have S1 := HS.out.below (ball wr (.cells #[.int .i64 p, .int .i64 1, .int .i64 6, .int .i64 17] 3))
        clear HS
        generalize wr.alloc (.cells #[.int .i64 p, .int .i64 1, .int .i64 6, .int .i64 17] 3) = w2 at *
        have r0 : ∀ W, SgS w g o f W → W.cell? ⟨g, 0, none⟩ = some (.bool o) := fun W s => s.b1.cell 0
        have r1 : ∀ W, SgS w g o f W → W.cell? ⟨g, 1, none⟩ = some (.int .i64 f) := fun W s => s.b1.cell 1
        go_region_held3 (fun W => SgS w g o f W)
          (first | (with_reducible exact S1.drew) | assumption)
          (first
            | (go_at_call 10; (with_reducible refine (H1.out _).mono ?_); rintro e w' ⟨rfl, rfl⟩)
            | (go_at_call 11; (with_reducible refine (H2.out _).mono ?_); rintro e w' ⟨rfl, rfl⟩)
            | (go_at_call 12; (with_reducible refine (H3.out _).mono ?_); rintro e w' ⟨rfl, rfl⟩)
            | (go_at_call 13; (with_reducible refine (H4.out _).mono ?_); rintro e w' ⟨rfl, rfl⟩)
            | (go_at_call 14; (with_reducible refine (H5.out _).mono ?_); rintro e w' ⟨rfl, rfl⟩)
            | (go_at_call 15; (with_reducible refine (H6.out _).mono ?_); rintro e w' ⟨rfl, rfl⟩))
        all_goals
          go_wp2
          go_roundw
          case rel => exact ⟨2, by go_num, by omega, by assumption⟩
          case measure => simp [intOf]
      · have H1 := Lib.hid (life_any (6) s)
        have H2 := Lib.hid (rlife_any (6) s)
        have H3 := Lib.hid (renews_any (6) o)
        have H4 := Lib.hid (rrenews_any (6) o)
        have H5 := Lib.hid (begins_any (6) s f)
        have H6 := Lib.hid (rbegins_any (6) s f)
        generalize lifeOf (6) s = x at *
        generalize rnw (6) o = y at *
        generalize bgn (6) s f = z at *
        have hx : (x != x) = false := by simp
        have hy : (y != y) = false := by simp
        have hz : (z != z) = false := by simp
        go_upto_region 5 with fail
        have S1 := HS.out.below (ball wr (.cells #[.int .i64 p, .int .i64 1, .int .i64 6, .int .i64 17] 3))
        clear HS
        generalize wr.alloc (.cells #[.int .i64 p, .int .i64 1, .int .i64 6, .int .i64 17] 3) = w2 at *
        have r0 : ∀ W, SgS w g o f W → W.cell? ⟨g, 0, none⟩ = some (.bool o) := fun W s => s.b1.cell 0
        have r1 : ∀ W, SgS w g o f W → W.cell? ⟨g, 1, none⟩ = some (.int .i64 f) := fun W s => s.b1.cell 1
        go_region_held3 (fun W => SgS w g o f W)
          (first | (with_reducible exact S1.drew) | assumption)
          (first
            | (go_at_call 10; (with_reducible refine (H1.out _).mono ?_); rintro e w' ⟨rfl, rfl⟩)
            | (go_at_call 11; (with_reducible refine (H2.out _).mono ?_); rintro e w' ⟨rfl, rfl⟩)
            | (go_at_call 12; (with_reducible refine (H3.out _).mono ?_); rintro e w' ⟨rfl, rfl⟩)
            | (go_at_call 13; (with_reducible refine (H4.out _).mono ?_); rintro e w' ⟨rfl, rfl⟩)
            | (go_at_call 14; (with_reducible refine (H5.out _).mono ?_); rintro e w' ⟨rfl, rfl⟩)
            | (go_at_call 15; (with_reducible refine (H6.out _).mono ?_); rintro e w' ⟨rfl, rfl⟩))
        all_goals
          go_wp2
          go_roundw
          case rel => exact ⟨3, by go_num, by omega, by assumption⟩
          case measure => simp [intOf]
      · have H1 := Lib.hid (life_any (17) s)
        have H2 := Lib.hid (rlife_any (17) s)
        have H3 := Lib.hid (renews_any (17) o)
        have H4 := Lib.hid (rrenews_any (17) o)
        have H5 := Lib.hid (begins_any (17) s f)
        have H6 := Lib.hid (rbegins_any (17) s f)
        generalize lifeOf (17) s = x at *
        generalize rnw (17) o = y at *
        generalize bgn (17) s f = z at *
        have hx : (x != x) = false := by simp
        have hy : (y != y) = false := by simp
        have hz : (z != z) = false := by simp
        go_upto_region 5 with fail
        have S1 := HS.out.below (ball wr (.cells #[.int .i64 p, .int .i64 1, .int .i64 6, .int .i64 17] 3))
        clear HS
        generalize wr.alloc (.cells #[.int .i64 p, .int .i64 1, .int .i64 6, .int .i64 17] 3) = w2 at *
        have r0 : ∀ W, SgS w g o f W → W.cell? ⟨g, 0, none⟩ = some (.bool o) := fun W s => s.b1.cell 0
        have r1 : ∀ W, SgS w g o f W → W.cell? ⟨g, 1, none⟩ = some (.int .i64 f) := fun W s => s.b1.cell 1
        go_region_held3 (fun W => SgS w g o f W)
          (first | (with_reducible exact S1.drew) | assumption)
          (first
            | (go_at_call 10; (with_reducible refine (H1.out _).mono ?_); rintro e w' ⟨rfl, rfl⟩)
            | (go_at_call 11; (with_reducible refine (H2.out _).mono ?_); rintro e w' ⟨rfl, rfl⟩)
            | (go_at_call 12; (with_reducible refine (H3.out _).mono ?_); rintro e w' ⟨rfl, rfl⟩)
            | (go_at_call 13; (with_reducible refine (H4.out _).mono ?_); rintro e w' ⟨rfl, rfl⟩)
            | (go_at_call 14; (with_reducible refine (H5.out _).mono ?_); rintro e w' ⟨rfl, rfl⟩)
            | (go_at_call 15; (with_reducible refine (H6.out _).mono ?_); rintro e w' ⟨rfl, rfl⟩))
        all_goals
          go_wp2
          go_roundw
          case rel => exact ⟨4, by go_num, by omega, by assumption⟩
          case measure => simp [intOf]
    · obtain rfl : k = 4 := by omega
      go_wp2_with (first
        | (go_at_call 7; refine (opens_any _).mono ?_; rintro e w' ⟨rfl, rfl⟩)
        | (go_at_call 16; (with_reducible refine (HT.out _).mono ?_); rintro e w' ⟨rfl, rfl⟩)
        | (go_at_call 17; (with_reducible refine (HV.out _).mono ?_); rintro e w' ⟨rfl, rfl⟩))
      go_ret
      exact ⟨by simp, HS.out.bel⟩
end Go.Proofs.Ytcbbcdmokdcmoaa
