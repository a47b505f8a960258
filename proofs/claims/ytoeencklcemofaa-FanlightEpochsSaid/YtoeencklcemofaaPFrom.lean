/-
  Contract of fanlightlaw03.From: a part told as the reference's. No condition.
-/
import Derived.Test.YtoeencklcemofaaPGet
import Derived.Test.YtoeencklcemofaaHeads
import Derived.Deep.RegionHeld3
namespace Go.Proofs.Ytoeencklcemofaa
open Go.RowKit Plain
set_option linter.unusedVariables false
set_option linter.unusedSimpArgs false
set_option maxRecDepth 100000

set_option maxHeartbeats 8000000 in
theorem pfrom_any (p0 p1 p2 p3 p4 p5 : Int) (p6 : Bool) (d0 d1 d2 d3 d4 d5 p7 : Int) (p8 : Bool) (w : World) :
    Calls Try.prog 46 #[.agg #[.int .i64 p0, .int .u16 p1, .int .u16 p2, .int .i64 p3, .int .i64 p4, .int .i64 p5, .bool p6, .int .i64 d0, .int .i64 d1, .int .i64 d2, .int .i64 d3, .int .u32 d4, .int .u32 d5, .int .i64 p7, .bool p8]] w fun e w' => e = .returned (.agg #[.int .i64 p0, .int .u16 p1, .int .u16 p2, .int .i64 p3, .int .i64 p4, .int .i64 p5, .bool p6, .int .i64 d0, .int .i64 d1, .int .i64 d2, .int .i64 d3, .int .u32 d4, .int .u32 d5, .int .i64 p7, .bool p8]) ∧ Below w.heap.size w w' := by
  have Hcall := Lib.hid (fun W => show Calls Try.prog 33 #[.agg #[.int .i64 d0, .int .i64 d1, .int .i64 d2, .int .i64 d3, .int .u32 d4, .int .u32 d5]] W fun e w' => e = .returned (.agg #[.int .i64 d0, .int .i64 d1, .int .i64 d2, .int .i64 d3, .int .u32 d4, .int .u32 d5]) ∧ Below W.heap.size W w' from from_any ⟨d0, d1, d2, d3, d4, d5⟩ W)
  go_enter Try.func46, Try.ntmps46
  go_upto_region 1 with fail
  have HP := Lib.hid ((Blk.new w 64 #[.int .i64 p0, .int .u16 p1, .int .u16 p2, .int .i64 p3, .int .i64 p4, .int .i64 p5, .bool p6, .int .i64 d0, .int .i64 d1, .int .i64 d2, .int .i64 d3, .int .u32 d4, .int .u32 d5, .int .i64 p7, .bool p8]).alloc (.cells #[.int .i64 0, .int .u16 0, .int .u16 0, .int .i64 0, .int .i64 0, .int .i64 0, .bool false, .int .i64 0, .int .i64 0, .int .i64 0, .int .i64 0, .int .u32 0, .int .u32 0, .int .i64 0, .bool false] 68))
  have hr := Blk.new (w.alloc (.cells #[.int .i64 p0, .int .u16 p1, .int .u16 p2, .int .i64 p3, .int .i64 p4, .int .i64 p5, .bool p6, .int .i64 d0, .int .i64 d1, .int .i64 d2, .int .i64 d3, .int .u32 d4, .int .u32 d5, .int .i64 p7, .bool p8] 64)) 68 #[.int .i64 0, .int .u16 0, .int .u16 0, .int .i64 0, .int .i64 0, .int .i64 0, .bool false, .int .i64 0, .int .i64 0, .int .i64 0, .int .i64 0, .int .u32 0, .int .u32 0, .int .i64 0, .bool false]
  rw [World.size_alloc] at hr
  have HR := Lib.hid hr
  have HB := Lib.hid (bthen (ball w (.cells #[.int .i64 p0, .int .u16 p1, .int .u16 p2, .int .i64 p3, .int .i64 p4, .int .i64 p5, .bool p6, .int .i64 d0, .int .i64 d1, .int .i64 d2, .int .i64 d3, .int .u32 d4, .int .u32 d5, .int .i64 p7, .bool p8] 64)) (ball _ (.cells #[.int .i64 0, .int .u16 0, .int .u16 0, .int .i64 0, .int .i64 0, .int .i64 0, .bool false, .int .i64 0, .int .i64 0, .int .i64 0, .int .i64 0, .int .u32 0, .int .u32 0, .int .i64 0, .bool false] 68)))
  clear hr
  generalize (w.alloc (.cells #[.int .i64 p0, .int .u16 p1, .int .u16 p2, .int .i64 p3, .int .i64 p4, .int .i64 p5, .bool p6, .int .i64 d0, .int .i64 d1, .int .i64 d2, .int .i64 d3, .int .u32 d4, .int .u32 d5, .int .i64 p7, .bool p8] 64)).alloc (.cells #[.int .i64 0, .int .u16 0, .int .u16 0, .int .i64 0, .int .i64 0, .int .i64 0, .bool false, .int .i64 0, .int .i64 0, .int .i64 0, .int .i64 0, .int .u32 0, .int .u32 0, .int .i64 0, .bool false] 68) = w1 at *
  obtain ⟨p, hp⟩ : ∃ p, p = w.heap.size := ⟨_, rfl⟩
  rw [← hp] at HP HR
  rw [← hp]
  have hpl : w.heap.size ≤ p + 1 := by omega
  have np1 : p + 1 ≠ p := by omega
  clear hp
  have kr0 : ∀ W, Blk W p 64 #[.int .i64 p0, .int .u16 p1, .int .u16 p2, .int .i64 p3, .int .i64 p4, .int .i64 p5, .bool p6, .int .i64 d0, .int .i64 d1, .int .i64 d2, .int .i64 d3, .int .u32 d4, .int .u32 d5, .int .i64 p7, .bool p8] → W.cell? ⟨p, 0, none⟩ = some (.int .i64 p0) := fun W h => h.cell 0
  have kr1 : ∀ W, Blk W p 64 #[.int .i64 p0, .int .u16 p1, .int .u16 p2, .int .i64 p3, .int .i64 p4, .int .i64 p5, .bool p6, .int .i64 d0, .int .i64 d1, .int .i64 d2, .int .i64 d3, .int .u32 d4, .int .u32 d5, .int .i64 p7, .bool p8] → W.cell? ⟨p, 1, none⟩ = some (.int .u16 p1) := fun W h => h.cell 1
  have kr2 : ∀ W, Blk W p 64 #[.int .i64 p0, .int .u16 p1, .int .u16 p2, .int .i64 p3, .int .i64 p4, .int .i64 p5, .bool p6, .int .i64 d0, .int .i64 d1, .int .i64 d2, .int .i64 d3, .int .u32 d4, .int .u32 d5, .int .i64 p7, .bool p8] → W.cell? ⟨p, 2, none⟩ = some (.int .u16 p2) := fun W h => h.cell 2
  have kr3 : ∀ W, Blk W p 64 #[.int .i64 p0, .int .u16 p1, .int .u16 p2, .int .i64 p3, .int .i64 p4, .int .i64 p5, .bool p6, .int .i64 d0, .int .i64 d1, .int .i64 d2, .int .i64 d3, .int .u32 d4, .int .u32 d5, .int .i64 p7, .bool p8] → W.cell? ⟨p, 3, none⟩ = some (.int .i64 p3) := fun W h => h.cell 3
  have kr4 : ∀ W, Blk W p 64 #[.int .i64 p0, .int .u16 p1, .int .u16 p2, .int .i64 p3, .int .i64 p4, .int .i64 p5, .bool p6, .int .i64 d0, .int .i64 d1, .int .i64 d2, .int .i64 d3, .int .u32 d4, .int .u32 d5, .int .i64 p7, .bool p8] → W.cell? ⟨p, 4, none⟩ = some (.int .i64 p4) := fun W h => h.cell 4
  have kr5 : ∀ W, Blk W p 64 #[.int .i64 p0, .int .u16 p1, .int .u16 p2, .int .i64 p3, .int .i64 p4, .int .i64 p5, .bool p6, .int .i64 d0, .int .i64 d1, .int .i64 d2, .int .i64 d3, .int .u32 d4, .int .u32 d5, .int .i64 p7, .bool p8] → W.cell? ⟨p, 5, none⟩ = some (.int .i64 p5) := fun W h => h.cell 5
  have kr6 : ∀ W, Blk W p 64 #[.int .i64 p0, .int .u16 p1, .int .u16 p2, .int .i64 p3, .int .i64 p4, .int .i64 p5, .bool p6, .int .i64 d0, .int .i64 d1, .int .i64 d2, .int .i64 d3, .int .u32 d4, .int .u32 d5, .int .i64 p7, .bool p8] → W.cell? ⟨p, 6, none⟩ = some (.bool p6) := fun W h => h.cell 6
  have kr7 : ∀ W, Blk W p 64 #[.int .i64 p0, .int .u16 p1, .int .u16 p2, .int .i64 p3, .int .i64 p4, .int .i64 p5, .bool p6, .int .i64 d0, .int .i64 d1, .int .i64 d2, .int .i64 d3, .int .u32 d4, .int .u32 d5, .int .i64 p7, .bool p8] → W.cell? ⟨p, 7, none⟩ = some (.int .i64 d0) := fun W h => h.cell 7
  have kr8 : ∀ W, Blk W p 64 #[.int .i64 p0, .int .u16 p1, .int .u16 p2, .int .i64 p3, .int .i64 p4, .int .i64 p5, .bool p6, .int .i64 d0, .int .i64 d1, .int .i64 d2, .int .i64 d3, .int .u32 d4, .int .u32 d5, .int .i64 p7, .bool p8] → W.cell? ⟨p, 8, none⟩ = some (.int .i64 d1) := fun W h => h.cell 8
  have kr9 : ∀ W, Blk W p 64 #[.int .i64 p0, .int .u16 p1, .int .u16 p2, .int .i64 p3, .int .i64 p4, .int .i64 p5, .bool p6, .int .i64 d0, .int .i64 d1, .int .i64 d2, .int .i64 d3, .int .u32 d4, .int .u32 d5, .int .i64 p7, .bool p8] → W.cell? ⟨p, 9, none⟩ = some (.int .i64 d2) := fun W h => h.cell 9
  have kr10 : ∀ W, Blk W p 64 #[.int .i64 p0, .int .u16 p1, .int .u16 p2, .int .i64 p3, .int .i64 p4, .int .i64 p5, .bool p6, .int .i64 d0, .int .i64 d1, .int .i64 d2, .int .i64 d3, .int .u32 d4, .int .u32 d5, .int .i64 p7, .bool p8] → W.cell? ⟨p, 10, none⟩ = some (.int .i64 d3) := fun W h => h.cell 10
  have kr11 : ∀ W, Blk W p 64 #[.int .i64 p0, .int .u16 p1, .int .u16 p2, .int .i64 p3, .int .i64 p4, .int .i64 p5, .bool p6, .int .i64 d0, .int .i64 d1, .int .i64 d2, .int .i64 d3, .int .u32 d4, .int .u32 d5, .int .i64 p7, .bool p8] → W.cell? ⟨p, 11, none⟩ = some (.int .u32 d4) := fun W h => h.cell 11
  have kr12 : ∀ W, Blk W p 64 #[.int .i64 p0, .int .u16 p1, .int .u16 p2, .int .i64 p3, .int .i64 p4, .int .i64 p5, .bool p6, .int .i64 d0, .int .i64 d1, .int .i64 d2, .int .i64 d3, .int .u32 d4, .int .u32 d5, .int .i64 p7, .bool p8] → W.cell? ⟨p, 12, none⟩ = some (.int .u32 d5) := fun W h => h.cell 12
  have kr13 : ∀ W, Blk W p 64 #[.int .i64 p0, .int .u16 p1, .int .u16 p2, .int .i64 p3, .int .i64 p4, .int .i64 p5, .bool p6, .int .i64 d0, .int .i64 d1, .int .i64 d2, .int .i64 d3, .int .u32 d4, .int .u32 d5, .int .i64 p7, .bool p8] → W.cell? ⟨p, 13, none⟩ = some (.int .i64 p7) := fun W h => h.cell 13
  have kr14 : ∀ W, Blk W p 64 #[.int .i64 p0, .int .u16 p1, .int .u16 p2, .int .i64 p3, .int .i64 p4, .int .i64 p5, .bool p6, .int .i64 d0, .int .i64 d1, .int .i64 d2, .int .i64 d3, .int .u32 d4, .int .u32 d5, .int .i64 p7, .bool p8] → W.cell? ⟨p, 14, none⟩ = some (.bool p8) := fun W h => h.cell 14
  go_region_held3 (fun W => Blk W p 64 #[.int .i64 p0, .int .u16 p1, .int .u16 p2, .int .i64 p3, .int .i64 p4, .int .i64 p5, .bool p6, .int .i64 d0, .int .i64 d1, .int .i64 d2, .int .i64 d3, .int .u32 d4, .int .u32 d5, .int .i64 p7, .bool p8])
    (first | (with_reducible exact HP.out.drew) | (with_reducible exact Blk.below (by assumption) (by assumption)) | (with_reducible exact Blk.ne15 (by assumption) np1 _ _ _ _ _ _ _ _ _ _ _ _ _ _ _))
    (first | (go_at_call 33; refine (Hcall.out _).mono ?_; rintro e w6 ⟨rfl, hb6⟩; have hz6 := (HR.out.drew).below hb6; have z0 := hz6.cell 0; have z1 := hz6.cell 1; have z2 := hz6.cell 2; have z3 := hz6.cell 3; have z4 := hz6.cell 4; have z5 := hz6.cell 5; have z6 := hz6.cell 6; have z7 := hz6.cell 7; have z8 := hz6.cell 8; have z9 := hz6.cell 9; have z10 := hz6.cell 10; have z11 := hz6.cell 11; have z12 := hz6.cell 12; have z13 := hz6.cell 13; have z14 := hz6.cell 14; simp only [List.getElem?_toArray, List.getElem?_cons_zero, List.getElem?_cons_succ] at z0 z1 z2 z3 z4 z5 z6 z7 z8 z9 z10 z11 z12 z13 z14; have zf0 := hz6.frozen 0; have zf1 := hz6.frozen 1; have zf2 := hz6.frozen 2; have zf3 := hz6.frozen 3; have zf4 := hz6.frozen 4; have zf5 := hz6.frozen 5; have zf6 := hz6.frozen 6; have zf7 := hz6.frozen 7; have zf8 := hz6.frozen 8; have zf9 := hz6.frozen 9; have zf10 := hz6.frozen 10; have zf11 := hz6.frozen 11; have zf12 := hz6.frozen 12; have zf13 := hz6.frozen 13; have zf14 := hz6.frozen 14; clear hz6; have HB6 := Lib.hid (bthen HB.out.drew hb6)))
  go_wp2
  refine bodyPost_ret (v := .agg #[.int .i64 p0, .int .u16 p1, .int .u16 p2, .int .i64 p3, .int .i64 p4, .int .i64 p5, .bool p6, .int .i64 d0, .int .i64 d1, .int .i64 d2, .int .i64 d3, .int .u32 d4, .int .u32 d5, .int .i64 p7, .bool p8]) (by simp [results, Try.results46, go_sem, z0, z1, z2, z3, z4, z5, z6, z7, z8, z9, z10, z11, z12, z13, z14]) rfl ⟨rfl, ?_⟩
  exact below_sets hpl [(0, .int .i64 p0), (1, .int .u16 p1), (2, .int .u16 p2), (3, .int .i64 p3), (4, .int .i64 p4), (5, .int .i64 p5), (6, .bool p6), (7, .int .i64 d0), (8, .int .i64 d1), (9, .int .i64 d2), (10, .int .i64 d3), (11, .int .u32 d4), (12, .int .u32 d5), (13, .int .i64 p7), (14, .bool p8)] _ HB6.out
end Go.Proofs.Ytoeencklcemofaa
