/-
  fanlightlaw21: tells. No condition.
-/
import Derived.Test.YtbnlpidhbilenaaSp7
import Derived.Test.YtbnlpidhbilenaaLdc
namespace Go.Proofs.Ytbnlpidhbilenaa
open Go.RowKit Plain
set_option linter.unusedVariables false
set_option maxRecDepth 100000
theorem sn0_ok (w : World) : sn0.ok w := ⟨by decide, by decide, by decide, by decide, by decide, by decide, by decide, by decide, rfl, by decide, by decide, ⟨(fun x hx => by cases hx), (fun h => absurd h (by decide))⟩⟩
set_option maxHeartbeats 4000000 in
theorem tells_any (w : World) : Calls Try.prog 32 #[] w fun e w' => e = .returned (.bool true) ∧ Below w.heap.size w w' := by
  have h1 := far_low sn0 0 (by omega) w (sn0_ok w) true
  have HE := Lib.hid h1.1
  have HO := Lib.hid (show farF true (frL sn0 0) = ⟨17, 134744065, 53⟩ from h1.2)
  clear h1
  have HL := Lib.hid (show (frL sn0 0).length = 28 by unfold frL; rw [frm_len]; show 20 + (udL _ _ _ _ _).length = 28; rw [udL_len]; rfl)
  have HH := Lib.hid (fun W => hash_any 17 134744065 53 (by omega) (by omega) (by omega) (by omega) W)
  have HR := Lib.hid (fun W => rhash_any 17 134744065 53 (by omega) (by omega) (by omega) (by omega) W)
  have H0 := Lib.hid (fun W => hash_any 0 0 0 (by omega) (by omega) (by omega) (by omega) W)
  have e0 : hF 0 0 0 = 0 := by decide
  rw [e0] at H0
  clear e0
  generalize hF 17 134744065 53 = hv at *
  have hq : ∀ W, (binOp .eql 67 (.agg #[.int .i64 17, .int .u32 134744065, .int .u16 53]) (.agg #[.int .i64 17, .int .u32 134744065, .int .u16 53])).run Try.prog W = .ok (.bool true) W := fun W => by kernel_rfl
  go_enter Try.func32, Try.ntmps32
  go_upto_region 2 with (first
    | (go_at_call 17; refine (first_any _).mono ?_; rintro e w1 ⟨g, m, cc, rfl, hm, hm1, ho, hb1⟩; have HM := Lib.hid hm; have HOw := Lib.hid ho; have HB1 := Lib.hid hb1; have HC := Lib.hid (far_any true (some ⟨g, 0, none⟩) (20 + m) cc (frL sn0 0) w1 ho.len ho.cap (by omega) ho.rd); clear hm ho hb1)
    | (go_at_call 27; refine (HC.out).mono ?_; rintro e w2 ⟨rfl, hb2⟩; rw [HE.out, HO.out, show (Fo.mk 17 134744065 53).val = .agg #[.int .i64 17, .int .u32 134744065, .int .u16 53] from rfl]; have HB2 := Lib.hid (bthen HB1.out hb2); clear hb2))
  have HX := Lib.hid (Blk.new w2 67 #[.int .i64 17, .int .u32 134744065, .int .u16 53])
  have hBc := bthen HB2.out (ball w2 (.cells #[.int .i64 17, .int .u32 134744065, .int .u16 53] 67))
  generalize w2.alloc (.cells #[.int .i64 17, .int .u32 134744065, .int .u16 53] 67) = w3 at *
  generalize w2.heap.size = gx at *
  have c0 : Below w3.heap.size w3 w3 := Below.refl _ _
  go_wp2_with (first
    | ((with_reducible refine gd_ldt 67 1 ?_); refine wpList_ldw (by rfl) 67 (.tmp 1) rfl _ rfl _ (Blk.at (HX.out.below c0)) sFlow ?_)
    | (go_at_call 33; first | ((with_reducible refine (H0.out _).mono ?_); rintro e w4 ⟨rfl, hx⟩; have c0 := bthen c0 hx; clear hx) | ((with_reducible refine (HH.out _).mono ?_); rintro e w4 ⟨rfl, hx⟩; have c0 := bthen c0 hx; clear hx))
    | (go_at_call 35; refine (HR.out _).mono ?_; rintro e w4 ⟨rfl, hx⟩; have c0 := bthen c0 hx; clear hx))
  go_ret
  exact ⟨rfl, bthen hBc c0⟩
end Go.Proofs.Ytbnlpidhbilenaa
