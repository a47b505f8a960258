/-
  spread: tells. Conditions stand in each theorem.
-/
import Derived.Test.YtbnlpidhbilenaaSp8
import Derived.BigQuiet
namespace Go.Proofs.Ytbnlpidhbilenaa
open Go.RowKit Plain
set_option linter.unusedVariables false
set_option maxRecDepth 100000
theorem sSn : Sty 80 7 := ⟨⟨_, Try.underlying80, rfl⟩, by unfold Siz; kernel_rfl⟩
def sn0 : Sn := ⟨0, 167772161, 134744065, 5, 53, 0, none, 0, 0, []⟩
set_option maxHeartbeats 4000000 in
theorem first_any (w : World) :
    Calls Try.prog 17 #[.agg #[.bool true, .int .i64 0, .int .i64 0, .int .i64 0, .int .i64 0, .slice none 0 0, .int .i64 0, .int .u8 0, .int .i64 0]] w (FrameOk sn0 0 w) := by
  go_enter Try.func17, Try.ntmps17
  go_upto_region 1 with fail
  go_quiet (fail)
  go_upto_region 2 with fail
  have hs1 : Blk ((w.alloc (.cells #[.bool true, .int .i64 0, .int .i64 0, .int .i64 0, .int .i64 0, .slice none 0 0, .int .i64 0, .int .u8 0, .int .i64 0] 40)).drewN nq) w.heap.size 40 #[.bool true, .int .i64 0, .int .i64 0, .int .i64 0, .int .i64 0, .slice none 0 0, .int .i64 0, .int .u8 0, .int .i64 0] := Blk.new w _ _
  have hb1 := bthen (ball w (.cells #[.bool true, .int .i64 0, .int .i64 0, .int .i64 0, .int .i64 0, .slice none 0 0, .int .i64 0, .int .u8 0, .int .i64 0] 40)) (bdrewN (w.alloc (.cells #[.bool true, .int .i64 0, .int .i64 0, .int .i64 0, .int .i64 0, .slice none 0 0, .int .i64 0, .int .u8 0, .int .i64 0] 40)) nq)
  generalize (w.alloc (.cells #[.bool true, .int .i64 0, .int .i64 0, .int .i64 0, .int .i64 0, .slice none 0 0, .int .i64 0, .int .u8 0, .int .i64 0] 40)).drewN nq = w1 at *
  have hz := hs1.lt
  have q0 : w1.cell? ⟨w.heap.size, 0, none⟩ = some (.bool true) := hs1.cell 0
  have q1 : w1.cell? ⟨w.heap.size, 1, none⟩ = some (.int .i64 0) := hs1.cell 1
  have q3 : w1.cell? ⟨w.heap.size, 3, none⟩ = some (.int .i64 0) := hs1.cell 3
  have q4 : w1.cell? ⟨w.heap.size, 4, none⟩ = some (.int .i64 0) := hs1.cell 4
  have q5 : w1.cell? ⟨w.heap.size, 5, none⟩ = some (.slice none 0 0) := hs1.cell 5
  have q7 : w1.cell? ⟨w.heap.size, 7, none⟩ = some (.int .u8 0) := hs1.cell 7
  have HS := Lib.hid hs1
  have HB := Lib.hid hb1
  clear hs1 hb1
  have hn0 := World.new_ne w1 ⟨w.heap.size, 0, none⟩ q0
  have hn1 := World.new_ne w1 ⟨w.heap.size, 1, none⟩ q1
  have hn7 := World.new_ne w1 ⟨w.heap.size, 7, none⟩ q7
  go_region
  have hx : Blk (w1.alloc (.cells #[.int .i64 0, .int .u32 167772161, .int .u32 134744065, .int .u16 5, .int .u16 53, .int .i64 0, .slice none 0 0] 80)).drew w1.heap.size 80 #[.int .i64 0, .int .u32 167772161, .int .u32 134744065, .int .u16 5, .int .u16 53, .int .i64 0, .slice none 0 0] := Blk.new w1 _ _
  have hs2 : Blk (w1.alloc (.cells #[.int .i64 0, .int .u32 167772161, .int .u32 134744065, .int .u16 5, .int .u16 53, .int .i64 0, .slice none 0 0] 80)).drew w.heap.size 40 #[.bool true, .int .i64 0, .int .i64 0, .int .i64 0, .int .i64 0, .slice none 0 0, .int .i64 0, .int .u8 0, .int .i64 0] := HS.out.alloc _
  have hb2 := bthen HB.out (bthen (ball w1 (.cells #[.int .i64 0, .int .u32 167772161, .int .u32 134744065, .int .u16 5, .int .u16 53, .int .i64 0, .slice none 0 0] 80)) (bdrew (w1.alloc (.cells #[.int .i64 0, .int .u32 167772161, .int .u32 134744065, .int .u16 5, .int .u16 53, .int .i64 0, .slice none 0 0] 80))))
  clear q0 q1 q3 q4 q5 q7 hn0 hn1 hn7 HS HB
  generalize (w1.alloc (.cells #[.int .i64 0, .int .u32 167772161, .int .u32 134744065, .int .u16 5, .int .u16 53, .int .i64 0, .slice none 0 0] 80)).drew = w2 at *
  generalize w1.heap.size = gx at *
  have q0 : w2.cell? ⟨w.heap.size, 0, none⟩ = some (.bool true) := hs2.cell 0
  have q1 : w2.cell? ⟨w.heap.size, 1, none⟩ = some (.int .i64 0) := hs2.cell 1
  have HX := Lib.hid hx
  have HS := Lib.hid hs2
  have HB := Lib.hid hb2
  have HF := Lib.hid (frame_any sn0 0 (by omega) w2 ⟨by decide, by decide, by decide, by decide, by decide, by decide, by decide, by decide, rfl, by decide, by decide, ⟨(fun x hx => by cases hx), (fun h => absurd h (by decide))⟩⟩ (by show wrap64 ((IntKind.u64.wrap 0).tmod 7) = 0; rw [IntKind.wrap_u64]; unfold wrap64; decide))
  have HLE := Lib.hid (show w.heap.size ≤ w2.heap.size from hb2.size)
  clear hx hs2 hb2
  go_upto_region 12 with (first | ((with_reducible refine gd_ld 80 5 ?_); refine wpList_ld rfl 80 (.tmp 5) rfl _ rfl (HX.out) sSn ?_) | (go_at_call 36; refine (HF.out).mono ?_; rintro e w3 ⟨g, m, cc, rfl, hm, hm100, ho, hb3⟩; have HM := Lib.hid hm; clear hm))
  have hs3 := HS.out.below hb3
  have q7 : w3.cell? ⟨w.heap.size, 7, none⟩ = some (.int .u8 0) := hs3.cell 7
  have HO := Lib.hid ho
  have HB3 := Lib.hid (bthen HB.out hb3)
  clear ho hs3 hb3 q0 q1
  go_wp2
  go_ret
  refine ⟨g, m, cc, rfl, HM.out, hm100, HO.out.mono HLE.out, HB3.out⟩
end Go.Proofs.Ytbnlpidhbilenaa
