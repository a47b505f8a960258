/-
  A head is got (fanlightlaw02.heads tells true), and a head told as the reference's (From). No condition.
-/
import Derived.Test.YtoeencklcemofaaPutY
import Derived.Test.YtoeencklcemofaaPkB
namespace Go.Proofs.Ytoeencklcemofaa
open Go.RowKit Plain
set_option linter.unusedVariables false
set_option maxRecDepth 100000

set_option maxHeartbeats 1000000 in
theorem from_any (h : Hd) (w : World) :
    Calls Try.prog 33 #[h.val] w fun e w' => e = .returned h.val ∧ Below w.heap.size w w' := by
  obtain ⟨d0, d1, d2, d3, d4, d5⟩ := h
  rw [show (Hd.mk d0 d1 d2 d3 d4 d5).val = .agg #[.int .i64 d0, .int .i64 d1, .int .i64 d2, .int .i64 d3, .int .u32 d4, .int .u32 d5] from rfl]
  go_enter Try.func33, Try.ntmps33
  go_wp2
  refine bodyPost_ret (v := .agg #[.int .i64 d0, .int .i64 d1, .int .i64 d2, .int .i64 d3, .int .u32 d4, .int .u32 d5]) (by simp [results, Try.results33, go_sem]) rfl ⟨rfl, ?_⟩
  exact ((Below.refl _ _).alloc (Nat.le_refl _) _).alloc (by simp) _

def hL : List Int := frm 64 17 167772161 167772162 []
theorem hL_e : gtE hL = 0 := by decide
theorem hL_h : gtH hL = ⟨20, 20, 64, 17, 167772161, 167772162⟩ := by unfold gtH; rw [hL_e, if_pos rfl]; rfl

set_option maxHeartbeats 1000000 in
theorem heads_any (w : World) : Calls Try.prog 28 #[] w fun e w' => e = .returned (.bool true) ∧ Below w.heap.size w w' := by
  go_enter Try.func28, Try.ntmps28
  go_wp2_with fail
  refine (put_yes 0 0 64 17 167772161 167772162 none 0 0 [] _ (by omega) rfl (Rd.nil _ _) (by omega) (by omega) (by omega) (by omega) (by omega) (by omega) (by omega) (by omega)).mono ?_
  rintro e w1 ⟨g, rfl, ho, hb⟩
  have ho' : Own w1 w.heap.size (some ⟨g, 0, none⟩) 20 20 hL := ho
  have c0 : w1.cell? ⟨g, 0, none⟩ = some (.int .u8 69) := ho'.at (k := 0) (by omega)
  have c3 : w1.cell? ⟨g, 3, none⟩ = some (.int .u8 20) := ho'.at (k := 3) (by omega)
  have hgl : g < w1.heap.size := block_lt_of_cell c0
  have Ho := Lib.hid ho'
  have Hb := Lib.hid hb
  have Hc := Lib.hid (And.intro c0 c3)
  clear ho ho' hb c0 c3
  go_wp2_with fail
  refine (get_any _ 20 20 hL _ Ho.out.len (by omega) (by omega) Ho.out.rd).mono ?_
  rintro e w2 ⟨rfl, hb2⟩
  rw [hL_e, hL_h, show (Hd.mk 20 20 64 17 167772161 167772162).val = .agg #[.int .i64 20, .int .i64 20, .int .i64 64, .int .i64 17, .int .u32 167772161, .int .u32 167772162] from rfl]
  have hs2 := hb2.size
  have e0 := (hb2.cell (p := ⟨g, 0, none⟩) hgl).trans Hc.out.1
  have e3 := (hb2.cell (p := ⟨g, 3, none⟩) hgl).trans Hc.out.2
  have x0 := (World.cell?_alloc_lt w2 (.cells #[.int .i64 20, .int .i64 20, .int .i64 64, .int .i64 17, .int .u32 167772161, .int .u32 167772162] 43) ⟨g, 0, none⟩ (by show g < _; omega)).trans e0
  have x3 := (World.cell?_alloc_lt w2 (.cells #[.int .i64 20, .int .i64 20, .int .i64 64, .int .i64 17, .int .u32 167772161, .int .u32 167772162] 43) ⟨g, 3, none⟩ (by show g < _; omega)).trans e3
  have Hb2 := Lib.hid (Hb.out.trans (hb2.mono Hb.out.size))
  clear hb2 e0 e3
  go_wp2
  go_ret
  exact ⟨rfl, Hb2.out.alloc (by have := Hb2.out.size; exact this) _⟩
end Go.Proofs.Ytoeencklcemofaa
