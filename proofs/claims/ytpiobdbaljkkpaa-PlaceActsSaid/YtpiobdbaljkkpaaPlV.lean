/-
  A place goes its way once (fanlightlaw10.moves). No condition.
-/
import Derived.Test.YtpiobdbaljkkpaaPlC
namespace Go.Proofs.Ytpiobdbaljkkpaa
open Go.RowKit Plain
set_option linter.unusedVariables false
set_option maxRecDepth 100000
set_option linter.unusedSimpArgs false

/-- what stays while moves goes on: two Words of its own -/
structure SM (w0 : World) (gn g3 g4 : Nat) (W : World) : Prop where
  b3 : Blk W g3 62 #[.int .i64 1, .int .i64 1, .int .i64 0, .int .i64 5]
  b4 : Blk W g4 62 #[.int .i64 2, .int .i64 1, .int .i64 0, .int .i64 5]
  n3 : g3 ≠ gn
  n4 : g4 ≠ gn
  ng : w0.heap.size ≤ gn
  bel : Below w0.heap.size w0 W
theorem SM.keep {w0 : World} {gn g3 g4 : Nat} {W W' : World} (h : SM w0 gn g3 g4 W) (hk : Keep [gn] W W') : SM w0 gn g3 g4 W' :=
  ⟨hk.blk h.b3 (by simpa using h.n3), hk.blk h.b4 (by simpa using h.n4), h.n3, h.n4, h.ng, hk.below h.bel (Nat.le_refl _) (by simpa using h.ng)⟩
theorem SM.below {w0 : World} {gn g3 g4 : Nat} {W W' : World} (h : SM w0 gn g3 g4 W) (hb : Below W.heap.size W W') : SM w0 gn g3 g4 W' := h.keep (Keep.of_below hb)
theorem SM.drew {w0 : World} {gn g3 g4 : Nat} {W : World} (h : SM w0 gn g3 g4 W) : SM w0 gn g3 g4 W.drew := h.keep ((Keep.refl _ _).drew)

def wa : Wd := ⟨1, 1, 0, 5⟩
def wb : Wd := ⟨2, 1, 0, 5⟩
def wc5 : Wd := ⟨2, 5, 1, 120⟩
theorem pcas_at {w : World} {gp gc gn n : Nat} {l : List Int} (h : PlB w gp gc gn n l) (i : Nat) (ii : Int) (hii : ii = i) (hi : i < n) (o x : Wd) (ov xv : Value) (hov : ov = o.val) (hxv : xv = x.val) (hm : o.may x = true) (bb : Bool) (hbb : bb = decide (l.getD (2 * i) 0 = o.num)) (l' : List Int) (hl : l' = if bb then l.set (2 * i) x.num else l) :
    Calls Try.prog 24 #[.pointer (some ⟨gp, 0, none⟩), .int .i64 ii, ov, xv] w fun e w' => e = .returned (.bool bb) ∧ PlB w' gp gc gn n l' ∧ Keep [gn] w w' := by
  subst hii hov hxv hl; exact pcas_may h i hi o x hm bb hbb
theorem pload_at {w : World} {gp gc gn n : Nat} {l : List Int} (h : PlB w gp gc gn n l) (i : Nat) (ii : Int) (hii : ii = i) (hi : i < n) (y : Wd) (hy : wdOf (l.getD (2 * i) 0) = y) (v : Value) (hv : v = y.val) :
    Calls Try.prog 23 #[.pointer (some ⟨gp, 0, none⟩), .int .i64 ii] w fun e w' => e = .returned v ∧ PlB w' gp gc gn n l ∧ Below w.heap.size w w' := by
  subst hii hv hy; exact (pload_any h i hi).mono fun e w' ⟨he, hb⟩ => ⟨he, h.below hb, hb⟩

set_option maxHeartbeats 4000000 in
theorem moves_any (w : World) : Calls Try.prog 21 #[] w fun e w' => e = .returned (.bool true) ∧ Below w.heap.size w w' := by
  have HN := Lib.hid (pnew_any 2 (by omega) (by omega) w)
  have HP : ∀ w, Calls Try.prog 59 #[.agg #[.int .i64 2, .int .i64 5, .int .i64 1, .int .i64 120]] w fun e w' => e = .returned (.tuple #[.int .u64 515396403458, .int .i64 0]) ∧ Below w.heap.size w w' := fun w => pack_any wc5 w
  have HP' := Lib.hid HP
  clear HP
  go_enter Try.func21, Try.ntmps21
  go_wp2_with fail
  refine HN.out.mono ?_
  rintro e w1 ⟨rfl, hp, hb, hs⟩
  have H1 := Lib.hid hp
  have HB1 := Lib.hid hb
  clear hp hb HN
  go_wp2_with fail
  refine (HP'.out _).mono ?_
  rintro e w2 ⟨rfl, hb⟩
  have b3 := (((Blk.new w1 62 #[.int .i64 1, .int .i64 1, .int .i64 0, .int .i64 5]).alloc (.cells #[.int .i64 2, .int .i64 1, .int .i64 0, .int .i64 5] 62)).below hb)
  have b4 := ((Blk.new (w1.alloc (.cells #[.int .i64 1, .int .i64 1, .int .i64 0, .int .i64 5] 62)) 62 #[.int .i64 2, .int .i64 1, .int .i64 0, .int .i64 5]).below hb)
  rw [World.size_alloc] at b4
  rw [hs] at b3 b4
  have HS := Lib.hid (show SM w w.heap.size (w.heap.size + 3) (w.heap.size + 3 + 1) w2 from ⟨b3, b4, by omega, by omega, Nat.le_refl _, bthen HB1.out (bthen (b2all w1 _ _) hb)⟩)
  have H2 := Lib.hid (((H1.out.alloc _).alloc _).below hb)
  clear b3 b4 hb H1 HB1 HP'
  clear hs
  go_upto_region 6 with fail
  generalize w.heap.size + 3 + 1 = g4 at *
  generalize w.heap.size + 3 = g3 at *
  generalize w.heap.size + 2 = gp at *
  have H20 := H2.out.drew
  have S0 := HS.out
  clear HS H2
  have r30 : ∀ W, SM w w.heap.size g3 g4 W → W.cell? ⟨g3, 0, none⟩ = some (.int .i64 1) := fun W h => h.b3.cell 0
  have r31 : ∀ W, SM w w.heap.size g3 g4 W → W.cell? ⟨g3, 1, none⟩ = some (.int .i64 1) := fun W h => h.b3.cell 1
  have r32 : ∀ W, SM w w.heap.size g3 g4 W → W.cell? ⟨g3, 2, none⟩ = some (.int .i64 0) := fun W h => h.b3.cell 2
  have r33 : ∀ W, SM w w.heap.size g3 g4 W → W.cell? ⟨g3, 3, none⟩ = some (.int .i64 5) := fun W h => h.b3.cell 3
  have r40 : ∀ W, SM w w.heap.size g3 g4 W → W.cell? ⟨g4, 0, none⟩ = some (.int .i64 2) := fun W h => h.b4.cell 0
  have r41 : ∀ W, SM w w.heap.size g3 g4 W → W.cell? ⟨g4, 1, none⟩ = some (.int .i64 1) := fun W h => h.b4.cell 1
  have r42 : ∀ W, SM w w.heap.size g3 g4 W → W.cell? ⟨g4, 2, none⟩ = some (.int .i64 0) := fun W h => h.b4.cell 2
  have r43 : ∀ W, SM w w.heap.size g3 g4 W → W.cell? ⟨g4, 3, none⟩ = some (.int .i64 5) := fun W h => h.b4.cell 3
  go_region_held3 (fun W => SM w w.heap.size g3 g4 W)
    (first | (with_reducible exact S0.drew) | (with_reducible exact SM.keep (by assumption) (by assumption)) | (with_reducible exact SM.below (by assumption) (by assumption)))
    (first
      | (go_at_call 23; refine (pload_at h4 0 _ rfl (by omega) wz (by decide +kernel) (.agg #[.int .i64 0, .int .i64 0, .int .i64 0, .int .i64 0]) rfl).mono ?_; rintro e w' ⟨rfl, h5, hb5⟩)
      | (go_at_call 23; refine (pload_at h3 1 _ rfl (by omega) wb (by decide +kernel) (.agg #[.int .i64 2, .int .i64 1, .int .i64 0, .int .i64 5]) rfl).mono ?_; rintro e w' ⟨rfl, h4, hb4⟩)
      | (go_at_call 24; refine (pcas_at h2 1 _ rfl (by omega) wa wb _ _ rfl rfl (by decide +kernel) true (by decide +kernel) _ rfl).mono ?_; rintro e w' ⟨rfl, h3, hk3⟩)
      | (go_at_call 24; refine (pcas_at h1 1 _ rfl (by omega) wz wa _ _ rfl rfl (by decide +kernel) false (by decide +kernel) _ rfl).mono ?_; rintro e w' ⟨rfl, h2, hk2⟩)
      | (go_at_call 24; refine (pcas_at H20 1 _ rfl (by omega) wz wa _ _ rfl rfl (by decide +kernel) true (by decide +kernel) _ rfl).mono ?_; rintro e w' ⟨rfl, h1, hk1⟩))
  go_wp2
  go_ret
  exact ⟨rfl, SM.bel (by assumption)⟩
end Go.Proofs.Ytpiobdbaljkkpaa
