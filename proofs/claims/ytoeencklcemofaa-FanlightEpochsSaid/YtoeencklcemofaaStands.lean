/-
  Package fanlighttop: stands. Conditions stand in each theorem.
-/
import Derived.Test.YtoeencklcemofaaNestM
import Derived.Test.YtoeencklcemofaaPLay
import Derived.Test.YtoeencklcemofaaPartBare
import Derived.Test.YtoeencklcemofaaPkB
namespace Go.Proofs.Ytoeencklcemofaa
open Go.RowKit Plain
set_option linter.unusedVariables false
set_option linter.unusedSimpArgs false
set_option maxRecDepth 100000

theorem udP_ok (s d f t : Int) (L : List Int) (hl : L.length ≤ 1400) (f0 : 0 ≤ f) (f1 : f ≤ 65535) (t0 : 0 ≤ t) (t1 : t ≤ 65535) (h : udE s d (udL s d f t L) = 0) :
    (udP s d (udL s d f t L)).sp = f ∧ (udP s d (udL s d f t L)).dp = t := by
  obtain ⟨g0, g2, _, _⟩ := ud0_g f t L f0 f1 t0 t1 hl
  unfold udP
  rw [if_pos h]
  unfold udL
  refine ⟨?_, ?_⟩
  · show G16 _ 0 = f
    rw [P16_g16_ne _ _ _ _ (by decide) (by decide) (by decide)]; exact g0
  · show G16 _ 2 = t
    rw [P16_g16_ne _ _ _ _ (by decide) (by decide) (by decide)]; exact g2

set_option maxHeartbeats 4000000 in
theorem stands_any (w : World) : Calls Try.prog 54 #[] w fun e w' => e = .returned (.bool true) ∧ Below w.heap.size w w' := by
  have hby : By [104, 105] := By.mk (by omega) (by omega) (By.mk (by omega) (by omega) By.nil)
  obtain ⟨U, hU⟩ : ∃ U, U = udL 1 2 5 53 [104, 105] := ⟨_, rfl⟩
  have hUl : U.length = 10 := by rw [hU, udL_len]; rfl
  have hUb : By U := by rw [hU]; exact udL_by 1 2 5 53 hby (by omega) (by omega)
  have hE : udE 1 2 U = 0 := by rw [hU]; exact low_ok 0 (by omega) 1 2 5 53 0 [104, 105] (by decide) hby (by omega) (by omega) (by omega) (by omega) (by omega) (by omega)
  have hF : (udP 1 2 U).sp = 5 ∧ (udP 1 2 U).dp = 53 := by
    rw [hU]
    rw [hU] at hE
    exact udP_ok 1 2 5 53 [104, 105] (by decide) (by omega) (by omega) (by omega) (by omega) hE
  have hgot := frm_got 9 17 1 2 U [] (by omega) hUb (by omega) (by omega) (by omega) (by omega) (by omega) (by omega) (by omega) (by omega)
  rw [List.append_nil, hUl] at hgot
  have hpg : pgE ⟨20, 20 + ((10 : Nat) : Int), 9, 17, 1, 2⟩ (frm 9 17 1 2 U) = udE 1 2 U ∧ pgP ⟨20, 20 + ((10 : Nat) : Int), 9, 17, 1, 2⟩ (frm 9 17 1 2 U) = udP 1 2 U := frm_pg 9 17 1 2 U 10 hUl 9 1 2 17
  rw [hE] at hpg
  have hgot' : gtE (frm 9 17 1 2 U) = 0 ∧ gtH (frm 9 17 1 2 U) = ⟨20, 30, 9, 17, 1, 2⟩ := hgot
  have hpg' : pgE ⟨20, 30, 9, 17, 1, 2⟩ (frm 9 17 1 2 U) = 0 ∧ pgP ⟨20, 30, 9, 17, 1, 2⟩ (frm 9 17 1 2 U) = udP 1 2 U := hpg
  have HGot := Lib.hid hgot'
  have HPG := Lib.hid hpg'
  obtain ⟨e0, e1, e2, e3, e4, e5, e6, e7, e8, e9, e10, e11, e12, e13, e14, hev⟩ := Pt.mk_val (udP 1 2 U)
  have hfl := pt_fields hev
  rw [hF.1, hF.2] at hfl
  obtain ⟨hx0, rfl, rfl, hx3⟩ := hfl
  have Hev := Lib.hid hev
  have HU := Lib.hid hU
  have HUl := Lib.hid hUl
  clear hx0 hx3 hev hgot hpg hgot' hpg' hE hF hUb hUl hU
  have kc := fun (w : World) (C : Array Value) (n c : Nat) => Lib.run_convert_bytes_const (P := Try.prog) w 22 5 C n c Try.underlying22 Try.underlying5
  go_enter Try.func54, Try.ntmps54
  go_wp2_with fail
  clear kc
  refine (pudp_any 1 2 5 53 _ 2 2 [104, 105] _ rfl (by omega) (by omega) (Rd.newM w _ _ [104, 105] hby _ rfl) (by omega) (by omega) (by omega) (by omega) (by omega) (by omega) (by omega) (by omega)).mono ?_
  rintro e w2 ⟨g2, u2, rfl, hu2, ho2, hb2⟩
  obtain rfl : u2 = 2 := by omega
  have HO2 := Lib.hid (show Own w2 w.heap.size (some ⟨g2, 0, none⟩) 10 10 U by rw [HU.out]; exact ho2.mono (ball w _).size)
  have HB2 := Lib.hid (bthen (ball w _) hb2)
  clear hu2 ho2 hb2
  go_wp2_with fail
  refine (put_yes 0 0 9 17 1 2 (some ⟨g2, 0, none⟩) 10 10 U _ (by omega) HUl.out HO2.out.rd (by omega) (by omega) (by omega) (by omega) (by omega) (by omega) (by omega) (by omega)).mono ?_
  rintro e w3 ⟨g3, rfl, ho3, hb3⟩
  have HO3 := Lib.hid (ho3.mono HB2.out.size)
  have HB3 := Lib.hid (bthen HB2.out hb3)
  clear ho3 hb3 HO2 HB2
  go_wp2_with fail
  refine (get_any (some ⟨g3, 0, none⟩) 30 30 (frm 9 17 1 2 U) _ HO3.out.len (by omega) (by omega) HO3.out.rd).mono ?_
  rintro e w4 ⟨rfl, hb4⟩
  rw [HGot.out.1, HGot.out.2, show (Hd.mk 20 30 9 17 1 2).val = .agg #[.int .i64 20, .int .i64 30, .int .i64 9, .int .i64 17, .int .u32 1, .int .u32 2] from rfl]
  have HO4 := Lib.hid (HO3.out.below hb4)
  have HB4 := Lib.hid (bthen HB3.out hb4)
  clear hb4 HO3 HB3
  go_upto_region 3 with fail
  have HH5 := Lib.hid (Blk.new w4 43 #[.int .i64 20, .int .i64 30, .int .i64 9, .int .i64 17, .int .u32 1, .int .u32 2])
  have HO5 := Lib.hid (HO4.out.alloc (.cells #[.int .i64 20, .int .i64 30, .int .i64 9, .int .i64 17, .int .u32 1, .int .u32 2] 43))
  have HB5 := Lib.hid (bthen HB4.out (ball w4 (.cells #[.int .i64 20, .int .i64 30, .int .i64 9, .int .i64 17, .int .u32 1, .int .u32 2] 43)))
  generalize w4.alloc (.cells #[.int .i64 20, .int .i64 30, .int .i64 9, .int .i64 17, .int .u32 1, .int .u32 2] 43) = w5 at *
  generalize w4.heap.size = gh at *
  clear HO4 HB4
  go_wp2_with (first | ((with_reducible refine gd_ld 43 3 ?_); refine wpList_ld rfl 43 (.tmp 3) rfl _ rfl (HH5.out) sHead ?_) | fail)
  refine (pget_any 20 30 9 17 1 2 (some ⟨g3, 0, none⟩) 30 30 (frm 9 17 1 2 U) _ HO5.out.len (by omega) (by omega) HO5.out.rd (by omega) (by omega) (by omega) (by omega)).mono ?_
  rintro e w6 ⟨rfl, hb6⟩
  rw [HPG.out.1, HPG.out.2, Hev.out]
  have HB6 := Lib.hid (bthen HB5.out hb6)
  have HH6 := Lib.hid (HH5.out.below hb6)
  clear hb6 HO5 HB5 HH5
  go_upto_region 4 with fail
  have HP7 := Lib.hid (Blk.new w6 64 #[.int .i64 e0, .int .u16 5, .int .u16 53, .int .i64 e3, .int .i64 e4, .int .i64 e5, .bool e6, .int .i64 e7, .int .i64 e8, .int .i64 e9, .int .i64 e10, .int .u32 e11, .int .u32 e12, .int .i64 e13, .bool e14])
  have HB7 := Lib.hid (bthen HB6.out (ball w6 (.cells #[.int .i64 e0, .int .u16 5, .int .u16 53, .int .i64 e3, .int .i64 e4, .int .i64 e5, .bool e6, .int .i64 e7, .int .i64 e8, .int .i64 e9, .int .i64 e10, .int .u32 e11, .int .u32 e12, .int .i64 e13, .bool e14] 64)))
  have HH7 := Lib.hid (HH6.out.alloc (.cells #[.int .i64 e0, .int .u16 5, .int .u16 53, .int .i64 e3, .int .i64 e4, .int .i64 e5, .bool e6, .int .i64 e7, .int .i64 e8, .int .i64 e9, .int .i64 e10, .int .u32 e11, .int .u32 e12, .int .i64 e13, .bool e14] 64))
  generalize w6.alloc (.cells #[.int .i64 e0, .int .u16 5, .int .u16 53, .int .i64 e3, .int .i64 e4, .int .i64 e5, .bool e6, .int .i64 e7, .int .i64 e8, .int .i64 e9, .int .i64 e10, .int .u32 e11, .int .u32 e12, .int .i64 e13, .bool e14] 64) = w7 at *
  generalize w6.heap.size = gp at *
  have q1 : w7.cell? ⟨gp, 1, none⟩ = some (.int .u16 5) := HP7.out.cell 1
  have q2 : w7.cell? ⟨gp, 2, none⟩ = some (.int .u16 53) := HP7.out.cell 2
  have q3 : w7.cell? ⟨gh, 1, none⟩ = some (.int .i64 30) := HH7.out.cell 1
  go_wp2
  go_ret
  exact ⟨rfl, HB7.out⟩
end Go.Proofs.Ytoeencklcemofaa
