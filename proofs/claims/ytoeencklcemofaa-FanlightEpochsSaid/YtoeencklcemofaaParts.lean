/-
  An echo is laid, and got (fanlightlaw03.parts tells true). No condition.
-/
import Derived.Test.YtoeencklcemofaaBehind
import Derived.Test.YtoeencklcemofaaCut
namespace Go.Proofs.Ytoeencklcemofaa
open Go.RowKit Plain
set_option linter.unusedVariables false
set_option linter.unusedSimpArgs false
set_option maxRecDepth 100000

def eL : List Int := [8, 0, 247, 250, 0, 5, 0, 0]
theorem eL_eq : ecL 8 5 [] = eL := by decide +kernel
def fL : List Int := List.replicate 20 0 ++ eL
theorem fL_e : pgE ⟨20, 28, 0, 1, 0, 0⟩ fL = 0 := by decide +kernel
theorem fL_p : (pgP ⟨20, 28, 0, 1, 0, 0⟩ fL).val = .agg #[.int .i64 1, .int .u16 5, .int .u16 5, .int .i64 0, .int .i64 8, .int .i64 0, .bool false, .int .i64 0, .int .i64 0, .int .i64 0, .int .i64 0, .int .u32 0, .int .u32 0, .int .i64 0, .bool false] := by
  have h : icE (bodyOf ⟨20, 28, 0, 1, 0, 0⟩ fL) = 0 := by decide +kernel
  have e : pgP ⟨20, 28, 0, 1, 0, 0⟩ fL = icP 20 (bodyOf ⟨20, 28, 0, 1, 0, 0⟩ fL) := by unfold pgP; rw [if_neg (by decide +kernel), if_neg (by decide), if_neg (by decide), if_pos rfl]
  rw [e]
  unfold icP
  rw [if_pos h, if_pos (by decide +kernel)]
  rfl
theorem eL_by : By eL := by unfold By eL; decide

set_option maxHeartbeats 4000000 in
theorem parts_any (w : World) : Calls Try.prog 45 #[] w fun e w' => e = .returned (.bool true) ∧ Below w.heap.size w w' := by
  go_enter Try.func45, Try.ntmps45
  go_wp2_with fail
  refine (echo_any false 8 rfl 5 (by omega) (by omega) none 0 0 [] w rfl (by omega) (by omega) (Rd.nil _ _)).mono ?_
  rintro e w1 ⟨g, u, rfl, hu, ho, hb⟩
  obtain rfl : u = 0 := by simpa using hu
  rw [eL_eq] at ho
  have HO := Lib.hid ho
  have HB := Lib.hid hb
  clear ho hb hu
  have hwg : w.heap.size ≤ w1.heap.size := HB.out.size
  go_upto_region 2 with fail
  go_wp2_with (first
    | (refine wpList_mk rfl (.const (.int .i64 20)) (.const (.int .i64 20)) rfl w.heap.size 20 20 20 rfl rfl rfl rfl (by omega) hwg ?_; intro w2 ho2 hg2; have hb2 := (Below.refl w1.heap.size w1).grown hg2 (Nat.le_refl _) (fun k hk => by cases hk); have HR2 := Lib.hid ((HO.out.below hb2).rd); have HO2 := Lib.hid ho2; have HB2 := Lib.hid (bthen HB.out hb2); have hw2 := HB2.out.size; have HE2 := Lib.hid (HO.out.below hb2); clear ho2 hg2 hb2)
    | (at_builtin; refine wpList_app rfl (.tmp 7) (.tmp 8) rfl rfl HO2.out eL rfl HR2.out rfl (by omega) hw2 ?_; intro A3 c3 w3 ho3 hg3 hA3))
  have hgne : ∀ b, (Value.slice (some ⟨w1.heap.size, 0, none⟩) 20 20).ownBlock = some b → b ≠ g := by
    intro b hb
    simp [Value.ownBlock] at hb
    have hlt : g < w1.heap.size := by rcases HO.out.form with ⟨h, _⟩ | ⟨g2, h, _, hg⟩; cases h; injection h with h; injection h with h; omega
    omega
  have HE3 := Lib.hid (show Own w3 w.heap.size (some ⟨g, 0, none⟩) 8 8 eL from ⟨HE2.out.len, HE2.out.byt, HE2.out.row.kept hg3 (.inr (fun e => by simp only [Value.ownBlock] at e; exact hgne _ rfl (by injection e with e; exact e.symm)))⟩)
  have HB3 := Lib.hid (below_app HB2.out hg3 HO2.out (Nat.le_refl _) hw2)
  have HO3 := Lib.hid (show Own w3 w.heap.size A3 28 c3 fL from ho3)
  have hcap := ho3.cap
  clear hgne ho3 hg3 hA3 HO HB HR2 HO2 HB2 HE2
  refine (pget_any 20 28 0 1 0 0 A3 28 c3 fL w3 rfl hcap (by omega) HO3.out.rd (by omega) (by omega) (by omega) (by omega)).mono ?_
  rintro e w4 ⟨rfl, hb4⟩
  rw [fL_e, fL_p]
  have HE4 := Lib.hid (HE3.out.below hb4)
  have HB4 := Lib.hid (bthen HB3.out hb4)
  have hl4 : g < w4.heap.size := by rcases HE4.out.form with ⟨h, _⟩ | ⟨g2, h, _, hg⟩; cases h; injection h with h; injection h with h; omega
  clear hb4 HE3 HB3
  go_upto_region 3 with fail
  have HE5 := Lib.hid (HE4.out.alloc (.cells #[.int .i64 1, .int .u16 5, .int .u16 5, .int .i64 0, .int .i64 8, .int .i64 0, .bool false, .int .i64 0, .int .i64 0, .int .i64 0, .int .i64 0, .int .u32 0, .int .u32 0, .int .i64 0, .bool false] 64))
  have HB5 := Lib.hid (bthen HB4.out (ball w4 (.cells #[.int .i64 1, .int .u16 5, .int .u16 5, .int .i64 0, .int .i64 8, .int .i64 0, .bool false, .int .i64 0, .int .i64 0, .int .i64 0, .int .i64 0, .int .u32 0, .int .u32 0, .int .i64 0, .bool false] 64)))
  have H5 := Lib.hid (Blk.new w4 64 #[.int .i64 1, .int .u16 5, .int .u16 5, .int .i64 0, .int .i64 8, .int .i64 0, .bool false, .int .i64 0, .int .i64 0, .int .i64 0, .int .i64 0, .int .u32 0, .int .u32 0, .int .i64 0, .bool false])
  generalize w4.alloc (.cells #[.int .i64 1, .int .u16 5, .int .u16 5, .int .i64 0, .int .i64 8, .int .i64 0, .bool false, .int .i64 0, .int .i64 0, .int .i64 0, .int .i64 0, .int .u32 0, .int .u32 0, .int .i64 0, .bool false] 64) = w5 at *
  generalize w4.heap.size = g5 at *
  have k1 : w5.cell? ⟨g5, 1, none⟩ = some (.int .u16 5) := H5.out.cell 1
  have k4 : w5.cell? ⟨g5, 4, none⟩ = some (.int .i64 8) := H5.out.cell 4
  have hcv := run_str w5 (some ⟨g, 0, none⟩) 8 8 eL rfl HE5.out.rd
  have hse : strOfNums eL = ⟨#[8, 0, 247, 250, 0, 5, 0, 0]⟩ := rfl
  rw [hse] at hcv
  clear hse
  go_wp2
  go_ret
  exact ⟨rfl, HB5.out⟩
end Go.Proofs.Ytoeencklcemofaa
