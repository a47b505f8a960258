/-
  PlacePacks: its walk.
-/
import Derived.Test.YtgengboaoniogaaPlV
import Derived.Test.YtgengboaoniogaaPlR
namespace Go.Proofs.Ytgengboaoniogaa
open Go.RowKit Plain
set_option linter.unusedVariables false
set_option maxRecDepth 100000
set_option linter.unusedSimpArgs false

/-- a Word of the reference stays -/
structure S1 (w0 : World) (g : Nat) (a b c d : Int) (W : World) : Prop where
  b3 : Blk W g 48 #[.int .i64 a, .int .i64 b, .int .i64 c, .int .i64 d]
  bel : Below w0.heap.size w0 W
theorem S1.below {w0 : World} {g : Nat} {a b c d : Int} {W W' : World} (h : S1 w0 g a b c d W) (hb : Below W.heap.size W W') : S1 w0 g a b c d W' := ⟨h.b3.below hb, bthen h.bel hb⟩
theorem S1.drew {w0 : World} {g : Nat} {a b c d : Int} {W : World} (h : S1 w0 g a b c d W) : S1 w0 g a b c d W.drew := ⟨h.b3, h.bel.drew⟩
theorem S1.new (w : World) (a b c d : Int) : S1 w w.heap.size a b c d (w.alloc (.cells #[.int .i64 a, .int .i64 b, .int .i64 c, .int .i64 d] 48)) := ⟨Blk.new w _ _, ball w _⟩

set_option maxHeartbeats 4000000 in
theorem placePacks_walk (x : Wd) (w : World) : Calls Try.prog 5 #[x.val] w fun e w' => e = .returned (.bool true) ∧ Below w.heap.size w w' := by
  have HT := Lib.hid (to_any x)
  have HP := Lib.hid (pack_any x)
  have HR := Lib.hid (rpack_any x)
  have HF := Lib.hid (wfrom_any x)
  by_cases hc : x.can = true
  · have rn := num_range x hc
    have HU := Lib.hid (unpack_any x.num rn.1 rn.2)
    rw [wdOf_num x hc] at HU
    simp only [hc, if_true] at HP HR
    generalize x.num = m at *
    obtain ⟨a, b, c, d⟩ := x
    simp only [Wd.v4] at HT HP HR HF HU ⊢
    clear hc
    go_enter Try.func5, Try.ntmps5
    go_wp2_with fail
    refine (HT.out _).mono ?_
    rintro e w1 ⟨rfl, hb⟩
    have S1' := Lib.hid ((S1.new w a b c d).below hb)
    clear hb HT
    go_wp2_with fail
    refine (HP.out _).mono ?_
    rintro e w2 ⟨rfl, hb⟩
    have S2' := Lib.hid (S1'.out.below hb)
    obtain ⟨k0, k1, k2, k3⟩ := S2'.out.b3.c4
    clear hb HP S1'
    go_wp2_with fail
    refine (HR.out _).mono ?_
    rintro e w3 ⟨rfl, hb⟩
    have S3' := Lib.hid (S2'.out.below hb)
    clear hb HR S2' k0 k1 k2 k3
    go_wp2_with fail
    refine (moves_any _).mono ?_
    rintro e w4 ⟨rfl, hb⟩
    have S4' := Lib.hid (S3'.out.below hb)
    clear hb S3'
    go_upto_region 5 with fail
    have S0 := S4'.out
    generalize w.heap.size = g at *
    clear S4'
    have r0 : ∀ W, S1 w g a b c d W → W.cell? ⟨g, 0, none⟩ = some (.int .i64 a) := fun W h => h.b3.cell 0
    have r1 : ∀ W, S1 w g a b c d W → W.cell? ⟨g, 1, none⟩ = some (.int .i64 b) := fun W h => h.b3.cell 1
    have r2 : ∀ W, S1 w g a b c d W → W.cell? ⟨g, 2, none⟩ = some (.int .i64 c) := fun W h => h.b3.cell 2
    have r3 : ∀ W, S1 w g a b c d W → W.cell? ⟨g, 3, none⟩ = some (.int .i64 d) := fun W h => h.b3.cell 3
    go_region_held3 (fun W => S1 w g a b c d W)
      (first | (with_reducible exact S0.drew) | (with_reducible exact S1.below (by assumption) (by assumption)))
      (first
        | (go_at_call 24; refine (HU.out _).mono ?_; rintro e w' ⟨rfl, hb5⟩)
        | (go_at_call 23; refine (HF.out _).mono ?_; rintro e w' ⟨rfl, hb6⟩))
    go_wp2
    go_ret
    exact ⟨rfl, S1.bel (by assumption)⟩
  · have hc' : x.can = false := by simpa using hc
    simp only [hc', Bool.false_eq_true, if_false] at HP HR
    obtain ⟨a, b, c, d⟩ := x
    simp only [Wd.v4] at HT HP HR HF ⊢
    clear hc hc'
    go_enter Try.func5, Try.ntmps5
    go_wp2_with fail
    refine (HT.out _).mono ?_
    rintro e w1 ⟨rfl, hb⟩
    have S1' := Lib.hid ((S1.new w a b c d).below hb)
    clear hb HT
    go_wp2_with fail
    refine (HP.out _).mono ?_
    rintro e w2 ⟨rfl, hb⟩
    have S2' := Lib.hid (S1'.out.below hb)
    obtain ⟨k0, k1, k2, k3⟩ := S2'.out.b3.c4
    clear hb HP S1'
    go_wp2_with fail
    refine (HR.out _).mono ?_
    rintro e w3 ⟨rfl, hb⟩
    have S3' := Lib.hid (S2'.out.below hb)
    clear hb HR S2' k0 k1 k2 k3
    go_wp2_with fail
    refine (moves_any _).mono ?_
    rintro e w4 ⟨rfl, hb⟩
    have S4' := Lib.hid (S3'.out.below hb)
    clear hb S3'
    go_upto_region 5 with fail
    go_quiet (fail)
    go_wp2
    go_ret
    exact ⟨rfl, below_drewN S4'.out.bel _⟩
end Go.Proofs.Ytgengboaoniogaa
