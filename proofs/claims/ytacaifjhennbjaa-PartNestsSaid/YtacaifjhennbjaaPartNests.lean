/-
  PartNests: its walk.
-/
import Derived.Test.YtacaifjhennbjaaNestM
import Derived.Test.YtacaifjhennbjaaSentH
import Derived.Test.YtacaifjhennbjaaPLay
import Derived.Test.YtacaifjhennbjaaPartBits
import Derived.Test.YtacaifjhennbjaaRGet
namespace Go.Proofs.Ytacaifjhennbjaa
open Go.RowKit Plain
set_option linter.unusedVariables false
set_option linter.unusedSimpArgs false
set_option maxRecDepth 100000

set_option maxHeartbeats 1000000 in
theorem must_any (A : Option Addr) (n c : Nat) (zs : List Int) (w : World) (a0 a1 a2 a3 a4 a5 : Int) (hh : gtH zs = ⟨a0, a1, a2, a3, a4, a5⟩) (hn : zs.length = n) (hnc : n ≤ c) (hl : n ≤ 1000000) (hR : Rd w A zs) :
    Calls Try.prog 31 #[.slice A n c] w fun e w' => e = .returned (.agg #[.int .i64 a0, .int .i64 a1, .int .i64 a2, .int .i64 a3, .int .u32 a4, .int .u32 a5]) ∧ Below w.heap.size w w' := by
  have HR := Lib.hid hR
  have Hn := Lib.hid hn
  have Hh := Lib.hid hh
  clear hR hn hh
  go_enter Try.func31, Try.ntmps31
  go_upto_region 1 with fail
  have HZ := Lib.hid (Blk.new w 33 #[.int .i64 0, .int .i64 0, .int .i64 0, .int .i64 0, .int .u32 0, .int .u32 0])
  have HB := Lib.hid (ball w (.cells #[.int .i64 0, .int .i64 0, .int .i64 0, .int .i64 0, .int .u32 0, .int .u32 0] 33))
  generalize w.alloc (.cells #[.int .i64 0, .int .i64 0, .int .i64 0, .int .i64 0, .int .u32 0, .int .u32 0] 33) = w1 at *
  obtain ⟨g, hg⟩ : ∃ g, g = w.heap.size := ⟨_, rfl⟩
  have hgb : w.heap.size ≤ g := by omega
  rw [← hg] at HZ
  rw [← hg]
  clear hg
  go_wp2_with fail
  refine (get_any A n c zs _ Hn.out hnc hl (HR.out.below HB.out)).mono ?_
  rintro e w2 ⟨rfl, hb2⟩
  rw [Hh.out, show (Hd.mk a0 a1 a2 a3 a4 a5).val = .agg #[.int .i64 a0, .int .i64 a1, .int .i64 a2, .int .i64 a3, .int .u32 a4, .int .u32 a5] from rfl]
  have HZ2 := Lib.hid (HZ.out.below hb2)
  have HB2 := Lib.hid (bthen HB.out hb2)
  clear hb2 HZ HB
  go_upto_region 2 with fail
  have HZ3 := Lib.hid (HZ2.out.alloc (.cells #[.int .i64 a0, .int .i64 a1, .int .i64 a2, .int .i64 a3, .int .u32 a4, .int .u32 a5] 33))
  have HN3 := Lib.hid (Blk.new w2 33 #[.int .i64 a0, .int .i64 a1, .int .i64 a2, .int .i64 a3, .int .u32 a4, .int .u32 a5])
  have HB3 := Lib.hid (bthen HB2.out (ball w2 (.cells #[.int .i64 a0, .int .i64 a1, .int .i64 a2, .int .i64 a3, .int .u32 a4, .int .u32 a5] 33)))
  generalize w2.alloc (.cells #[.int .i64 a0, .int .i64 a1, .int .i64 a2, .int .i64 a3, .int .u32 a4, .int .u32 a5] 33) = w3 at *
  generalize w2.heap.size = g2 at *
  clear HZ2 HB2
  have y0 : w3.cell? ⟨g2, 0, none⟩ = some (.int .i64 a0) := HN3.out.cell 0
  have z0 : w3.cell? ⟨g, 0, none⟩ = some (.int .i64 0) := HZ3.out.cell 0
  have v0 := HZ3.out.frozen 0
  have y1 : w3.cell? ⟨g2, 1, none⟩ = some (.int .i64 a1) := HN3.out.cell 1
  have z1 : w3.cell? ⟨g, 1, none⟩ = some (.int .i64 0) := HZ3.out.cell 1
  have v1 := HZ3.out.frozen 1
  have y2 : w3.cell? ⟨g2, 2, none⟩ = some (.int .i64 a2) := HN3.out.cell 2
  have z2 : w3.cell? ⟨g, 2, none⟩ = some (.int .i64 0) := HZ3.out.cell 2
  have v2 := HZ3.out.frozen 2
  have y3 : w3.cell? ⟨g2, 3, none⟩ = some (.int .i64 a3) := HN3.out.cell 3
  have z3 : w3.cell? ⟨g, 3, none⟩ = some (.int .i64 0) := HZ3.out.cell 3
  have v3 := HZ3.out.frozen 3
  have y4 : w3.cell? ⟨g2, 4, none⟩ = some (.int .u32 a4) := HN3.out.cell 4
  have z4 : w3.cell? ⟨g, 4, none⟩ = some (.int .u32 0) := HZ3.out.cell 4
  have v4 := HZ3.out.frozen 4
  have y5 : w3.cell? ⟨g2, 5, none⟩ = some (.int .u32 a5) := HN3.out.cell 5
  have z5 : w3.cell? ⟨g, 5, none⟩ = some (.int .u32 0) := HZ3.out.cell 5
  have v5 := HZ3.out.frozen 5
  go_wp2
  exact bodyPost_ret (res_cell1 Try.results31 _ _ rfl (HZ3.out.set6 _ _ _ _ _ _) sHead) rfl ⟨rfl, below_set6 HB3.out hgb _ _ _ _ _ _⟩

theorem pt_all {p : Pt} {e0 e1 e2 e3 e4 e5 : Int} {e6 : Bool} {e7 e8 e9 e10 e11 e12 e13 : Int} {e14 : Bool} (h : p.val = .agg #[.int .i64 e0, .int .u16 e1, .int .u16 e2, .int .i64 e3, .int .i64 e4, .int .i64 e5, .bool e6, .int .i64 e7, .int .i64 e8, .int .i64 e9, .int .i64 e10, .int .u32 e11, .int .u32 e12, .int .i64 e13, .bool e14]) :
    e0 = p.proto ∧ e1 = p.sp ∧ e2 = p.dp ∧ e6 = p.er ∧ e10 = p.inn.proto ∧ e13 = p.pos := by
  simp only [Pt.val, Value.agg.injEq, Array.mk.injEq, List.cons.injEq, Value.int.injEq, Value.bool.injEq, true_and] at h
  exact ⟨h.1.symm, h.2.1.symm, h.2.2.1.symm, h.2.2.2.2.2.2.1.symm, h.2.2.2.2.2.2.2.2.2.2.1.symm, h.2.2.2.2.2.2.2.2.2.2.2.2.2.1.symm⟩

set_option maxHeartbeats 8000000 in
theorem partNests_true (x : Sn) (w : World) (ok : x.ok w) :
    Calls Try.prog 6 #[x.val, .bool true] w fun e w' => e = .returned (.bool true) ∧ Below w.heap.size w w' := by
  obtain ⟨what, s, d, f, t, fl, A, n, c, ys⟩ := x
  obtain ⟨K4, hK4e, hK4l⟩ := pickN what 4 (by omega) (by omega)
  obtain ⟨K3, hK3e, hK3l⟩ := pickN what 3 (by omega) (by omega)
  obtain ⟨K, hKK⟩ : ∃ K : Nat, (K : Int) = 4 + (K3 : Int) := ⟨4 + K3, by omega⟩
  have hK4 : 4 ≤ K := by omega
  have hK7 : K < 7 := by omega
  have HK4 := Lib.hid hK4e
  have HK3 := Lib.hid hK3e
  have HKK := Lib.hid hKK
  clear hK4e hK3e hKK
  have HOk := Lib.hid (show (Sn.mk (K : Int) s d f t fl A n c ys).ok w from ⟨ok.s0, ok.s1, ok.d0, ok.d1, ok.f0, ok.f1, ok.t0, ok.t1, ok.len, ok.cap, ok.max, ok.rd⟩)
  clear ok
  rw [show (Sn.mk what s d f t fl A n c ys).val = .agg #[.int .i64 what, .int .u32 s, .int .u32 d, .int .u16 f, .int .u16 t, .int .i64 fl, .slice A n c] from rfl]
  go_enter Try.func6, Try.ntmps6
  go_upto_region 2 with fail
  have HB1 := Lib.hid (bthen (ball w (.cells #[.int .i64 what, .int .u32 s, .int .u32 d, .int .u16 f, .int .u16 t, .int .i64 fl, .slice A n c] 26)) (ball _ (.cells #[.int .i64 what, .int .u32 s, .int .u32 d, .int .u16 f, .int .u16 t, .int .i64 fl, .slice A n c] 26)))
  have HK1 := Lib.hid ((Blk.new w 26 #[.int .i64 what, .int .u32 s, .int .u32 d, .int .u16 f, .int .u16 t, .int .i64 fl, .slice A n c]).alloc (.cells #[.int .i64 what, .int .u32 s, .int .u32 d, .int .u16 f, .int .u16 t, .int .i64 fl, .slice A n c] 26))
  have HI1 := Lib.hid (Blk.new (w.alloc (.cells #[.int .i64 what, .int .u32 s, .int .u32 d, .int .u16 f, .int .u16 t, .int .i64 fl, .slice A n c] 26)) 26 #[.int .i64 what, .int .u32 s, .int .u32 d, .int .u16 f, .int .u16 t, .int .i64 fl, .slice A n c])
  rw [World.size_alloc] at HI1
  generalize (w.alloc (.cells #[.int .i64 what, .int .u32 s, .int .u32 d, .int .u16 f, .int .u16 t, .int .i64 fl, .slice A n c] 26)).alloc (.cells #[.int .i64 what, .int .u32 s, .int .u32 d, .int .u16 f, .int .u16 t, .int .i64 fl, .slice A n c] 26) = w1 at *
  obtain ⟨gi, hgi⟩ : ∃ g, g = w.heap.size + 1 := ⟨_, rfl⟩
  obtain ⟨g, hg⟩ : ∃ g, g = w.heap.size := ⟨_, rfl⟩
  have hgb : w.heap.size ≤ gi := by omega
  have hgne : gi ≠ g := by omega
  rw [← hgi] at HI1
  rw [← hgi]
  rw [← hg] at HK1
  rw [← hg]
  clear hg hgi
  have k0 : w1.cell? ⟨g, 0, none⟩ = some (.int .i64 what) := HK1.out.cell 0
  have j0 : w1.cell? ⟨gi, 0, none⟩ = some (.int .i64 what) := HI1.out.cell 0
  have z0 := HI1.out.frozen 0
  have hk4 := HK4.out
  have hk3 := HK3.out
  have hgne' : g ≠ gi := Ne.symm hgne
  go_upto_region 5 with fail
  clear hk4 hk3
  have hKK := HKK.out
  rw [← hKK]
  clear hKK
  have HB2 := Lib.hid ((HB1.out.setCell (p := ⟨gi, 0, none⟩) hgb (.int .i64 (K4 : Int))).setCell (p := ⟨gi, 0, none⟩) hgb (.int .i64 (K : Int)))
  have HI2 := Lib.hid (show Blk ((w1.setCell ⟨gi, 0, none⟩ (.int .i64 (K4 : Int))).setCell ⟨gi, 0, none⟩ (.int .i64 (K : Int))) gi 26 #[.int .i64 (K : Int), .int .u32 s, .int .u32 d, .int .u16 f, .int .u16 t, .int .i64 fl, .slice A n c] from (HI1.out.set 0 (.int .i64 (K4 : Int))).set 0 (.int .i64 (K : Int)))
  clear k0 j0 z0 HB1 HK1 HI1
  generalize (w1.setCell ⟨gi, 0, none⟩ (.int .i64 (K4 : Int))).setCell ⟨gi, 0, none⟩ (.int .i64 (K : Int)) = w2 at *
  have hs2 := HB2.out.size
  have k0 : w2.cell? ⟨gi, 0, none⟩ = some (.int .i64 (K : Int)) := HI2.out.cell 0
  have k1 : w2.cell? ⟨gi, 1, none⟩ = some (.int .u32 s) := HI2.out.cell 1
  have k2 : w2.cell? ⟨gi, 2, none⟩ = some (.int .u32 d) := HI2.out.cell 2
  have k3 : w2.cell? ⟨gi, 3, none⟩ = some (.int .u16 f) := HI2.out.cell 3
  have k4 : w2.cell? ⟨gi, 4, none⟩ = some (.int .u16 t) := HI2.out.cell 4
  have k5 : w2.cell? ⟨gi, 5, none⟩ = some (.int .i64 fl) := HI2.out.cell 5
  have k6 : w2.cell? ⟨gi, 6, none⟩ = some (.slice A n c) := HI2.out.cell 6
  go_wp2_with fail
  refine (frame_any ⟨(K : Int), s, d, f, t, fl, A, n, c, ys⟩ K hK7 _ (HOk.out.below HB2.out) (pick7 K hK7)).mono ?_
  rintro e w3 ⟨g3, m, cc, rfl, hm, hm100, ho, hb⟩
  obtain ⟨L, hL⟩ : ∃ L, L = ys.take 40 := ⟨_, rfl⟩
  have hLl : L.length ≤ 40 := by rw [hL, List.length_take]; omega
  have hLb : By L := by rw [hL]; exact HOk.out.rd.1.take 40
  obtain ⟨U, hU⟩ : ∃ U, U = carL K s d f t fl L := ⟨_, rfl⟩
  obtain ⟨pr, hpr⟩ : ∃ p, p = carP K := ⟨_, rfl⟩
  have hprr := carP_range K
  rw [← hpr] at hprr
  have hUm : U.length = m := by rw [hU, hL]; exact hm.symm
  obtain ⟨X, hX⟩ : ∃ X, X = frm 64 pr s d U := ⟨_, rfl⟩
  have HO3 := Lib.hid (show Own w3 w.heap.size (some ⟨g3, 0, none⟩) (20 + m) cc X by rw [hX, hU, hL, hpr]; exact ho.mono hs2)
  have HB3 := Lib.hid (bthen HB2.out hb)
  have okk := HOk.out
  have hUb : By U := by rw [hU]; exact carL_by K s d f t fl hLl hLb okk.s0 okk.s1 okk.d0 okk.d1
  have hU8 : 8 ≤ m := by
    rw [← hUm, hU]
    obtain rfl | rfl | rfl | rfl | rfl | rfl | rfl : K = 0 ∨ K = 1 ∨ K = 2 ∨ K = 3 ∨ K = 4 ∨ K = 5 ∨ K = 6 := by omega
    · show 8 ≤ (udL s d f t L).length
      rw [udL_len]; omega
    · show 8 ≤ (tcL s d f t (fl % 256) L).length
      rw [tcL_len]; omega
    · show 8 ≤ (icL 8 0 f L).length
      rw [icL_len]; omega
    · show 8 ≤ (icL 0 0 f L).length
      rw [icL_len]; omega
    · show 8 ≤ (icL 3 (fl.tmod 16 % 256) 0 (frm 9 17 d s (udL d s t f L))).length
      rw [icL_len]; omega
    · show 8 ≤ (icL 11 0 0 ((frm 9 6 d s (tcL d s t f 2 L)).take (28 + L.length / 2))).length
      rw [icL_len]; omega
    · show 8 ≤ (icL 3 1 0 (frm 9 1 d s (icL 8 0 t L))).length
      rw [icL_len]; omega
  have hXl : X.length = 20 + m := by rw [hX, frm_len, hUm]
  have hXb : By X := by rw [hX]; exact frm_all 64 pr s d U hUb (by omega) (by omega) (by omega) hprr.1 hprr.2 okk.s0 okk.s1 okk.d0 okk.d1
  have hXt : X.take (20 + m) = X := List.take_of_length_le (by omega)
  have her := er_any 64 pr s d U (20 + m) (by omega) (by omega) (by omega) (by omega) (by omega) hprr.1 hprr.2 okk.s0 okk.s1 okk.d0 okk.d1
  rw [← hX, hXt] at her
  have hic := ic_er 3 1 (Or.inl rfl) (by omega) (by omega) X hXb
  have HXl := Lib.hid hXl
  have HXb := Lib.hid hXb
  have HUm := Lib.hid hUm
  have hbad : icE (icL 3 1 0 X) ≠ 0 := by
    rw [hic.1, her.1]
    have hp1 : pr = 1 := by
      rw [hpr]
      obtain rfl | rfl | rfl : K = 4 ∨ K = 5 ∨ K = 6 := by omega
      all_goals rfl
    have hu0 : U.getD 0 0 = 3 ∨ U.getD 0 0 = 11 := by
      rw [hU]
      obtain rfl | rfl | rfl : K = 4 ∨ K = 5 ∨ K = 6 := by omega
      · exact Or.inl (icL_0 3 (fl.tmod 16 % 256) 0 _).1
      · exact Or.inr (icL_0 11 0 0 _).1
      · exact Or.inl (icL_0 3 1 0 _).1
    rw [if_neg (by omega), if_neg (by omega)]
    decide
  have HBad := Lib.hid hbad
  clear hbad hX hpr hU
  clear k0 k1 k2 k3 k4 k5 k6 hm ho hb hL hLl hLb hUb hUm hXl hXb hXt her hic HB2 HI2
  have hcap := HO3.out.cap
  go_wp2_with fail
  refine (pfault_any 3 1 (some ⟨g3, 0, none⟩) (20 + m) cc X _ HO3.out.len hcap (by omega) HO3.out.rd).mono ?_
  rintro e w4 ⟨g4, u4, rfl, hu4, ho4, hb4⟩
  have hu4' : u4 = 20 + m := by omega
  subst hu4'
  obtain ⟨I, hI⟩ : ∃ I, I = icL 3 1 0 X := ⟨_, rfl⟩
  obtain ⟨M, hM⟩ : ∃ M, M = 8 + (20 + m) := ⟨_, rfl⟩
  have HM := Lib.hid hM
  have hMl : M ≤ 128 := by omega
  have HO4 := Lib.hid (show Own w4 w.heap.size (some ⟨g4, 0, none⟩) M M I by
    have := ho4.mono HB3.out.size
    rw [List.take_of_length_le (by rw [HXl.out]; omega)] at this
    rw [hI, hM]; exact this)
  rw [← hM]
  have HB4 := Lib.hid (bthen HB3.out hb4)
  have HX4 := Lib.hid (HO3.out.below hb4)
  have HI := Lib.hid hI
  clear hu4 ho4 hb4 HO3 HB3 hM hI
  go_wp2_with fail
  refine (rput_yes 0 0 5 1 1 2 (some ⟨g4, 0, none⟩) M M I _ (by omega) HO4.out.len HO4.out.rd (by omega) (by omega) (by omega) (by omega) (by omega) (by omega) (by omega) (by omega)).mono ?_
  rintro e w5 ⟨g5, c5, rfl, ho5, hb5⟩
  have hgot := frm_got 5 1 1 2 I [] (by rw [HO4.out.len]; omega) HO4.out.byt (by omega) (by omega) (by omega) (by omega) (by omega) (by omega) (by omega) (by omega)
  rw [List.append_nil, HO4.out.len] at hgot
  have hpg : pgE ⟨20, 20 + (M : Int), 5, 1, 1, 2⟩ (frm 5 1 1 2 I) = icE I ∧ pgP ⟨20, 20 + (M : Int), 5, 1, 1, 2⟩ (frm 5 1 1 2 I) = icP 20 I := frm_pg 5 1 1 2 I M HO4.out.len 5 1 2 1
  have HGot := Lib.hid hgot
  have HPG := Lib.hid hpg
  have HO5 := Lib.hid (ho5.mono HB4.out.size)
  have HB5 := Lib.hid (bthen HB4.out hb5)
  have HX5 := Lib.hid (HX4.out.below hb5)
  have hcap5 := HO5.out.cap
  clear hgot hpg ho5 hb5 HO4 HB4 HX4
  go_wp2_with fail
  refine (get_any (some ⟨g5, 0, none⟩) (20 + M) c5 (frm 5 1 1 2 I) _ HO5.out.len hcap5 (by omega) HO5.out.rd).mono ?_
  rintro e w6 ⟨rfl, hb6⟩
  rw [HGot.out.1, HGot.out.2, show (Hd.mk 20 (20 + (M : Int)) 5 1 1 2).val = .agg #[.int .i64 20, .int .i64 (20 + (M : Int)), .int .i64 5, .int .i64 1, .int .u32 1, .int .u32 2] from rfl]
  have HO6 := Lib.hid (HO5.out.below hb6)
  have HB6 := Lib.hid (bthen HB5.out hb6)
  have HX6 := Lib.hid (HX5.out.below hb6)
  clear hb6 HO5 HB5 HX5
  go_upto_region 9 with fail
  have HH7 := Lib.hid (Blk.new w6 33 #[.int .i64 20, .int .i64 (20 + (M : Int)), .int .i64 5, .int .i64 1, .int .u32 1, .int .u32 2])
  have HO7 := Lib.hid (HO6.out.alloc (.cells #[.int .i64 20, .int .i64 (20 + (M : Int)), .int .i64 5, .int .i64 1, .int .u32 1, .int .u32 2] 33))
  have HX7 := Lib.hid (HX6.out.alloc (.cells #[.int .i64 20, .int .i64 (20 + (M : Int)), .int .i64 5, .int .i64 1, .int .u32 1, .int .u32 2] 33))
  have HB7 := Lib.hid (bthen HB6.out (ball w6 (.cells #[.int .i64 20, .int .i64 (20 + (M : Int)), .int .i64 5, .int .i64 1, .int .u32 1, .int .u32 2] 33)))
  generalize w6.alloc (.cells #[.int .i64 20, .int .i64 (20 + (M : Int)), .int .i64 5, .int .i64 1, .int .u32 1, .int .u32 2] 33) = w7 at *
  generalize w6.heap.size = gh at *
  clear HO6 HB6 HX6
  go_wp2_with (first | ((with_reducible refine gd_ld 33 10 ?_); refine wpList_ld rfl 33 (.tmp 10) rfl _ rfl (HH7.out) sHead ?_) | fail)
  refine (pget_any 20 (20 + (M : Int)) 5 1 1 2 (some ⟨g5, 0, none⟩) (20 + M) c5 (frm 5 1 1 2 I) _ HO7.out.len hcap5 (by omega) HO7.out.rd (by omega) (by omega) (by omega) (by omega)).mono ?_
  rintro e w8 ⟨rfl, hb8⟩
  rw [HPG.out.1, HPG.out.2, HI.out]
  have HB8 := Lib.hid (bthen HB7.out hb8)
  have HX8 := Lib.hid (HX7.out.below hb8)
  clear hb8 HB7 HX7 HO7 HH7
  obtain ⟨e0, e1, e2, e3, e4, e5, e6, e7, e8, e9, e10, e11, e12, e13, e14, hev⟩ := Pt.mk_val (icP 20 (icL 3 1 0 X))
  rw [hev]
  clear hev
  have tb : (icE (icL 3 1 0 X) != 0) = true := by rw [bne_iff_ne]; exact HBad.out
  generalize icE (icL 3 1 0 X) = ec at *
  go_upto_region 10 with fail
  have HB9 := Lib.hid (bthen HB8.out (ball w8 (.cells #[.int .i64 e0, .int .u16 e1, .int .u16 e2, .int .i64 e3, .int .i64 e4, .int .i64 e5, .bool e6, .int .i64 e7, .int .i64 e8, .int .i64 e9, .int .i64 e10, .int .u32 e11, .int .u32 e12, .int .i64 e13, .bool e14] 38)))
  generalize w8.alloc (.cells #[.int .i64 e0, .int .u16 e1, .int .u16 e2, .int .i64 e3, .int .i64 e4, .int .i64 e5, .bool e6, .int .i64 e7, .int .i64 e8, .int .i64 e9, .int .i64 e10, .int .u32 e11, .int .u32 e12, .int .i64 e13, .bool e14] 38) = w9 at *
  clear HB8 HX8
  go_wp2_with fail
  refine (parts_any _).mono ?_
  rintro e w10 ⟨rfl, hb10⟩
  have HB10 := Lib.hid (bthen HB9.out hb10)
  clear hb10 HB9
  go_wp2
  go_ret
  exact ⟨rfl, HB10.out⟩

set_option maxHeartbeats 8000000 in
theorem partNests_false (x : Sn) (w : World) (ok : x.ok w) :
    Calls Try.prog 6 #[x.val, .bool false] w fun e w' => e = .returned (.bool true) ∧ Below w.heap.size w w' := by
  obtain ⟨what, s, d, f, t, fl, A, n, c, ys⟩ := x
  obtain ⟨K, hKe, hKl⟩ := pickN what 4 (by omega) (by omega)
  have hK4 : K < 4 := by omega
  have hK7 : K < 7 := by omega
  have HK4 := Lib.hid hKe
  clear hKe
  have HOk := Lib.hid (show (Sn.mk (K : Int) s d f t fl A n c ys).ok w from ⟨ok.s0, ok.s1, ok.d0, ok.d1, ok.f0, ok.f1, ok.t0, ok.t1, ok.len, ok.cap, ok.max, ok.rd⟩)
  clear ok
  rw [show (Sn.mk what s d f t fl A n c ys).val = .agg #[.int .i64 what, .int .u32 s, .int .u32 d, .int .u16 f, .int .u16 t, .int .i64 fl, .slice A n c] from rfl]
  go_enter Try.func6, Try.ntmps6
  go_upto_region 2 with fail
  have HB1 := Lib.hid (bthen (ball w (.cells #[.int .i64 what, .int .u32 s, .int .u32 d, .int .u16 f, .int .u16 t, .int .i64 fl, .slice A n c] 26)) (ball _ (.cells #[.int .i64 what, .int .u32 s, .int .u32 d, .int .u16 f, .int .u16 t, .int .i64 fl, .slice A n c] 26)))
  have HK1 := Lib.hid ((Blk.new w 26 #[.int .i64 what, .int .u32 s, .int .u32 d, .int .u16 f, .int .u16 t, .int .i64 fl, .slice A n c]).alloc (.cells #[.int .i64 what, .int .u32 s, .int .u32 d, .int .u16 f, .int .u16 t, .int .i64 fl, .slice A n c] 26))
  have HI1 := Lib.hid (Blk.new (w.alloc (.cells #[.int .i64 what, .int .u32 s, .int .u32 d, .int .u16 f, .int .u16 t, .int .i64 fl, .slice A n c] 26)) 26 #[.int .i64 what, .int .u32 s, .int .u32 d, .int .u16 f, .int .u16 t, .int .i64 fl, .slice A n c])
  rw [World.size_alloc] at HI1
  generalize (w.alloc (.cells #[.int .i64 what, .int .u32 s, .int .u32 d, .int .u16 f, .int .u16 t, .int .i64 fl, .slice A n c] 26)).alloc (.cells #[.int .i64 what, .int .u32 s, .int .u32 d, .int .u16 f, .int .u16 t, .int .i64 fl, .slice A n c] 26) = w1 at *
  obtain ⟨gi, hgi⟩ : ∃ g, g = w.heap.size + 1 := ⟨_, rfl⟩
  obtain ⟨g, hg⟩ : ∃ g, g = w.heap.size := ⟨_, rfl⟩
  have hgb : w.heap.size ≤ gi := by omega
  have hgne : gi ≠ g := by omega
  rw [← hgi] at HI1
  rw [← hgi]
  rw [← hg] at HK1
  rw [← hg]
  clear hg hgi
  have k0 : w1.cell? ⟨g, 0, none⟩ = some (.int .i64 what) := HK1.out.cell 0
  have j0 : w1.cell? ⟨gi, 0, none⟩ = some (.int .i64 what) := HI1.out.cell 0
  have z0 := HI1.out.frozen 0
  have hk4 := HK4.out
  go_upto_region 5 with fail
  clear hk4
  have HB2 := Lib.hid (HB1.out.setCell (p := ⟨gi, 0, none⟩) hgb (.int .i64 (K : Int)))
  have HI2 := Lib.hid (show Blk (w1.setCell ⟨gi, 0, none⟩ (.int .i64 (K : Int))) gi 26 #[.int .i64 (K : Int), .int .u32 s, .int .u32 d, .int .u16 f, .int .u16 t, .int .i64 fl, .slice A n c] from HI1.out.set 0 (.int .i64 (K : Int)))
  clear k0 j0 z0 HB1 HK1 HI1
  generalize w1.setCell ⟨gi, 0, none⟩ (.int .i64 (K : Int)) = w2 at *
  have hs2 := HB2.out.size
  have k0 : w2.cell? ⟨gi, 0, none⟩ = some (.int .i64 (K : Int)) := HI2.out.cell 0
  have k1 : w2.cell? ⟨gi, 1, none⟩ = some (.int .u32 s) := HI2.out.cell 1
  have k2 : w2.cell? ⟨gi, 2, none⟩ = some (.int .u32 d) := HI2.out.cell 2
  have k3 : w2.cell? ⟨gi, 3, none⟩ = some (.int .u16 f) := HI2.out.cell 3
  have k4 : w2.cell? ⟨gi, 4, none⟩ = some (.int .u16 t) := HI2.out.cell 4
  have k5 : w2.cell? ⟨gi, 5, none⟩ = some (.int .i64 fl) := HI2.out.cell 5
  have k6 : w2.cell? ⟨gi, 6, none⟩ = some (.slice A n c) := HI2.out.cell 6
  go_wp2_with fail
  refine (frame_any ⟨(K : Int), s, d, f, t, fl, A, n, c, ys⟩ K hK7 _ (HOk.out.below HB2.out) (pick7 K hK7)).mono ?_
  rintro e w3 ⟨g3, m, cc, rfl, hm, hm100, ho, hb⟩
  obtain ⟨L, hL⟩ : ∃ L, L = ys.take 40 := ⟨_, rfl⟩
  have hLl : L.length ≤ 40 := by rw [hL, List.length_take]; omega
  have hLb : By L := by rw [hL]; exact HOk.out.rd.1.take 40
  obtain ⟨U, hU⟩ : ∃ U, U = carL K s d f t fl L := ⟨_, rfl⟩
  obtain ⟨pr, hpr⟩ : ∃ p, p = carP K := ⟨_, rfl⟩
  have hprr := carP_range K
  rw [← hpr] at hprr
  have hUm : U.length = m := by rw [hU, hL]; exact hm.symm
  obtain ⟨X, hX⟩ : ∃ X, X = frm 64 pr s d U := ⟨_, rfl⟩
  have HO3 := Lib.hid (show Own w3 w.heap.size (some ⟨g3, 0, none⟩) (20 + m) cc X by rw [hX, hU, hL, hpr]; exact ho.mono hs2)
  have HB3 := Lib.hid (bthen HB2.out hb)
  have okk := HOk.out
  have hUb : By U := by rw [hU]; exact carL_by K s d f t fl hLl hLb okk.s0 okk.s1 okk.d0 okk.d1
  have hU8 : 8 ≤ m := by
    rw [← hUm, hU]
    obtain rfl | rfl | rfl | rfl | rfl | rfl | rfl : K = 0 ∨ K = 1 ∨ K = 2 ∨ K = 3 ∨ K = 4 ∨ K = 5 ∨ K = 6 := by omega
    · show 8 ≤ (udL s d f t L).length
      rw [udL_len]; omega
    · show 8 ≤ (tcL s d f t (fl % 256) L).length
      rw [tcL_len]; omega
    · show 8 ≤ (icL 8 0 f L).length
      rw [icL_len]; omega
    · show 8 ≤ (icL 0 0 f L).length
      rw [icL_len]; omega
    · show 8 ≤ (icL 3 (fl.tmod 16 % 256) 0 (frm 9 17 d s (udL d s t f L))).length
      rw [icL_len]; omega
    · show 8 ≤ (icL 11 0 0 ((frm 9 6 d s (tcL d s t f 2 L)).take (28 + L.length / 2))).length
      rw [icL_len]; omega
    · show 8 ≤ (icL 3 1 0 (frm 9 1 d s (icL 8 0 t L))).length
      rw [icL_len]; omega
  have hXl : X.length = 20 + m := by rw [hX, frm_len, hUm]
  have hXb : By X := by rw [hX]; exact frm_all 64 pr s d U hUb (by omega) (by omega) (by omega) hprr.1 hprr.2 okk.s0 okk.s1 okk.d0 okk.d1
  have hXt : X.take (20 + m) = X := List.take_of_length_le (by omega)
  have her := er_any 64 pr s d U (20 + m) (by omega) (by omega) (by omega) (by omega) (by omega) hprr.1 hprr.2 okk.s0 okk.s1 okk.d0 okk.d1
  rw [← hX, hXt] at her
  have hic := ic_er 3 1 (Or.inl rfl) (by omega) (by omega) X hXb
  have HXl := Lib.hid hXl
  have HXb := Lib.hid hXb
  have HUm := Lib.hid hUm
  have hE : erE X = 0 := by
    rw [her.1]
    obtain rfl | rfl | rfl | rfl : K = 0 ∨ K = 1 ∨ K = 2 ∨ K = 3 := by omega
    · rw [hpr]; rfl
    · rw [hpr]; rfl
    · have hu0 : U.getD 0 0 = 8 := by rw [hU]; exact (icL_0 8 0 f L).1
      rw [hpr, hu0]; rfl
    · have hu0 : U.getD 0 0 = 0 := by rw [hU]; exact (icL_0 0 0 f L).1
      rw [hpr, hu0]; rfl
  have hB : byE pr s d U = 0 := by
    rw [hpr, hU]
    exact low_ok K hK4 s d f t fl L (by omega) hLb okk.s0 okk.d0 okk.f0 okk.f1 okk.t0 okk.t1
  have hP : ∀ q : Pt, (erP q X).er = true ∧ (erP q X).pos = q.pos ∧ (erP q X).sp = (byP pr s d U).sp ∧ (erP q X).dp = (byP pr s d U).dp ∧ (erP q X).inn.proto = (byP pr s d U).proto := fun q => by
    rw [her.2 hE q]
    unfold byE at hB
    unfold byP
    obtain rfl | rfl | rfl | rfl : K = 0 ∨ K = 1 ∨ K = 2 ∨ K = 3 := by omega
    · obtain rfl : pr = 17 := hpr
      rw [if_pos rfl] at hB
      rw [if_neg (by decide), if_pos rfl]
      unfold udP
      rw [if_pos hB]
      exact ⟨rfl, rfl, rfl, rfl, rfl⟩
    · obtain rfl : pr = 6 := hpr
      rw [if_neg (by decide), if_pos rfl] at hB
      rw [if_neg (by decide), if_neg (by decide), if_pos rfl]
      unfold tcP
      rw [if_pos hB]
      exact ⟨rfl, rfl, rfl, rfl, rfl⟩
    · obtain rfl : pr = 1 := hpr
      rw [if_neg (by decide), if_neg (by decide), if_pos rfl] at hB
      rw [if_pos rfl, if_neg (by decide), if_neg (by decide), if_pos rfl]
      have hu0 : U.getD 0 0 = 8 := by rw [hU]; exact (icL_0 8 0 f L).1
      unfold icP
      rw [if_pos hB, if_pos (Or.inr hu0)]
      exact ⟨rfl, rfl, rfl, rfl, rfl⟩
    · obtain rfl : pr = 1 := hpr
      rw [if_neg (by decide), if_neg (by decide), if_pos rfl] at hB
      rw [if_pos rfl, if_neg (by decide), if_neg (by decide), if_pos rfl]
      have hu0 : U.getD 0 0 = 0 := by rw [hU]; exact (icL_0 0 0 f L).1
      unfold icP
      rw [if_pos hB, if_pos (Or.inl hu0)]
      exact ⟨rfl, rfl, rfl, rfl, rfl⟩
  have HIE := Lib.hid (hic.1.trans hE)
  have HIP := Lib.hid (hic.2 hE)
  have HP := Lib.hid (hP ⟨1, 0, 0, 0, 3, 1, false, hd0, 28, false⟩)
  have hgx := frm_got 64 pr s d U [] (by omega) hUb (by omega) (by omega) hprr.1 hprr.2 okk.s0 okk.s1 okk.d0 okk.d1
  rw [List.append_nil, hUm, ← hX] at hgx
  have hpx : pgE ⟨20, 20 + (m : Int), 64, pr, s, d⟩ X = byE pr s d U ∧ pgP ⟨20, 20 + (m : Int), 64, pr, s, d⟩ X = byP pr s d U := by
    rw [hX]; exact frm_pg 64 pr s d U m hUm 64 s d pr
  rw [hB] at hpx
  have HGx := Lib.hid hgx
  have HPx := Lib.hid hpx
  have s0 := okk.s0
  have s1 := okk.s1
  have d0 := okk.d0
  have d1 := okk.d1
  simp only at s0 s1 d0 d1
  clear hE hB hP hgx hpx hX hpr hU okk
  clear k0 k1 k2 k3 k4 k5 k6 hm ho hb hL hLl hLb hUb hUm hXl hXb hXt her hic HB2 HI2
  have hcap := HO3.out.cap
  go_wp2_with fail
  refine (pfault_any 3 1 (some ⟨g3, 0, none⟩) (20 + m) cc X _ HO3.out.len hcap (by omega) HO3.out.rd).mono ?_
  rintro e w4 ⟨g4, u4, rfl, hu4, ho4, hb4⟩
  have hu4' : u4 = 20 + m := by omega
  subst hu4'
  obtain ⟨I, hI⟩ : ∃ I, I = icL 3 1 0 X := ⟨_, rfl⟩
  obtain ⟨M, hM⟩ : ∃ M, M = 8 + (20 + m) := ⟨_, rfl⟩
  have HM := Lib.hid hM
  have hMl : M ≤ 128 := by omega
  have HO4 := Lib.hid (show Own w4 w.heap.size (some ⟨g4, 0, none⟩) M M I by
    have := ho4.mono HB3.out.size
    rw [List.take_of_length_le (by rw [HXl.out]; omega)] at this
    rw [hI, hM]; exact this)
  rw [← hM]
  have HB4 := Lib.hid (bthen HB3.out hb4)
  have HX4 := Lib.hid (HO3.out.below hb4)
  have HI := Lib.hid hI
  clear hu4 ho4 hb4 HO3 HB3 hM hI
  go_wp2_with fail
  refine (rput_yes 0 0 5 1 1 2 (some ⟨g4, 0, none⟩) M M I _ (by omega) HO4.out.len HO4.out.rd (by omega) (by omega) (by omega) (by omega) (by omega) (by omega) (by omega) (by omega)).mono ?_
  rintro e w5 ⟨g5, c5, rfl, ho5, hb5⟩
  have hgot := frm_got 5 1 1 2 I [] (by rw [HO4.out.len]; omega) HO4.out.byt (by omega) (by omega) (by omega) (by omega) (by omega) (by omega) (by omega) (by omega)
  rw [List.append_nil, HO4.out.len] at hgot
  have hpg : pgE ⟨20, 20 + (M : Int), 5, 1, 1, 2⟩ (frm 5 1 1 2 I) = icE I ∧ pgP ⟨20, 20 + (M : Int), 5, 1, 1, 2⟩ (frm 5 1 1 2 I) = icP 20 I := frm_pg 5 1 1 2 I M HO4.out.len 5 1 2 1
  have HGot := Lib.hid hgot
  have HPG := Lib.hid hpg
  have HO5 := Lib.hid (ho5.mono HB4.out.size)
  have HB5 := Lib.hid (bthen HB4.out hb5)
  have HX5 := Lib.hid (HX4.out.below hb5)
  have hcap5 := HO5.out.cap
  clear hgot hpg ho5 hb5 HO4 HB4 HX4
  go_wp2_with fail
  refine (get_any (some ⟨g5, 0, none⟩) (20 + M) c5 (frm 5 1 1 2 I) _ HO5.out.len hcap5 (by omega) HO5.out.rd).mono ?_
  rintro e w6 ⟨rfl, hb6⟩
  rw [HGot.out.1, HGot.out.2, show (Hd.mk 20 (20 + (M : Int)) 5 1 1 2).val = .agg #[.int .i64 20, .int .i64 (20 + (M : Int)), .int .i64 5, .int .i64 1, .int .u32 1, .int .u32 2] from rfl]
  have HO6 := Lib.hid (HO5.out.below hb6)
  have HB6 := Lib.hid (bthen HB5.out hb6)
  have HX6 := Lib.hid (HX5.out.below hb6)
  clear hb6 HO5 HB5 HX5
  go_upto_region 9 with fail
  have HH7 := Lib.hid (Blk.new w6 33 #[.int .i64 20, .int .i64 (20 + (M : Int)), .int .i64 5, .int .i64 1, .int .u32 1, .int .u32 2])
  have HO7 := Lib.hid (HO6.out.alloc (.cells #[.int .i64 20, .int .i64 (20 + (M : Int)), .int .i64 5, .int .i64 1, .int .u32 1, .int .u32 2] 33))
  have HX7 := Lib.hid (HX6.out.alloc (.cells #[.int .i64 20, .int .i64 (20 + (M : Int)), .int .i64 5, .int .i64 1, .int .u32 1, .int .u32 2] 33))
  have HB7 := Lib.hid (bthen HB6.out (ball w6 (.cells #[.int .i64 20, .int .i64 (20 + (M : Int)), .int .i64 5, .int .i64 1, .int .u32 1, .int .u32 2] 33)))
  generalize w6.alloc (.cells #[.int .i64 20, .int .i64 (20 + (M : Int)), .int .i64 5, .int .i64 1, .int .u32 1, .int .u32 2] 33) = w7 at *
  generalize w6.heap.size = gh at *
  clear HO6 HB6 HX6
  go_wp2_with (first | ((with_reducible refine gd_ld 33 10 ?_); refine wpList_ld rfl 33 (.tmp 10) rfl _ rfl (HH7.out) sHead ?_) | fail)
  refine (pget_any 20 (20 + (M : Int)) 5 1 1 2 (some ⟨g5, 0, none⟩) (20 + M) c5 (frm 5 1 1 2 I) _ HO7.out.len hcap5 (by omega) HO7.out.rd (by omega) (by omega) (by omega) (by omega)).mono ?_
  rintro e w8 ⟨rfl, hb8⟩
  rw [HPG.out.1, HPG.out.2, HI.out]
  have HB8 := Lib.hid (bthen HB7.out hb8)
  have HX8 := Lib.hid (HX7.out.below hb8)
  clear hb8 HB7 HX7 HO7 HH7
  rw [HIE.out, HIP.out]
  obtain ⟨e0, e1, e2, e3, e4, e5, e6, e7, e8, e9, e10, e11, e12, e13, e14, hev⟩ := Pt.mk_val (erP ⟨1, 0, 0, 0, 3, 1, false, hd0, 28, false⟩ X)
  rw [hev]
  obtain ⟨r0, r1, r2, r3, r4, r5, r6, r7, r8, r9, r10, r11, r12, r13, r14, hrv⟩ := Pt.mk_val (byP pr s d U)
  have hfe := pt_all hev
  have hfr := pt_all hrv
  have hp := HP.out
  have hq : e6 = true ∧ e13 = 28 ∧ e1 = r1 ∧ e2 = r2 ∧ e10 = r0 := by
    obtain ⟨p1, p2, p3, p4, p5⟩ := hp
    obtain ⟨a0, a1, a2, a3, a4, a5⟩ := hfe
    obtain ⟨b0, b1, b2, b3, b4, b5⟩ := hfr
    exact ⟨a3.trans p1, a5.trans p2, a1.trans (p3.trans b1.symm), a2.trans (p4.trans b2.symm), a4.trans (p5.trans b0.symm)⟩
  obtain ⟨rfl, rfl, rfl, rfl, rfl⟩ := hq
  have Hrv := Lib.hid hrv
  clear hev hrv hfe hfr hp
  go_upto_region 10 with fail
  have HP9 := Lib.hid (Blk.new w8 38 #[.int .i64 e0, .int .u16 e1, .int .u16 e2, .int .i64 e3, .int .i64 e4, .int .i64 e5, .bool true, .int .i64 e7, .int .i64 e8, .int .i64 e9, .int .i64 e10, .int .u32 e11, .int .u32 e12, .int .i64 28, .bool e14])
  have HB9 := Lib.hid (bthen HB8.out (ball w8 (.cells #[.int .i64 e0, .int .u16 e1, .int .u16 e2, .int .i64 e3, .int .i64 e4, .int .i64 e5, .bool true, .int .i64 e7, .int .i64 e8, .int .i64 e9, .int .i64 e10, .int .u32 e11, .int .u32 e12, .int .i64 28, .bool e14] 38)))
  have HX9 := Lib.hid (HX8.out.alloc (.cells #[.int .i64 e0, .int .u16 e1, .int .u16 e2, .int .i64 e3, .int .i64 e4, .int .i64 e5, .bool true, .int .i64 e7, .int .i64 e8, .int .i64 e9, .int .i64 e10, .int .u32 e11, .int .u32 e12, .int .i64 28, .bool e14] 38))
  generalize w8.alloc (.cells #[.int .i64 e0, .int .u16 e1, .int .u16 e2, .int .i64 e3, .int .i64 e4, .int .i64 e5, .bool true, .int .i64 e7, .int .i64 e8, .int .i64 e9, .int .i64 e10, .int .u32 e11, .int .u32 e12, .int .i64 28, .bool e14] 38) = w9 at *
  generalize w8.heap.size = gp at *
  clear HB8 HX8
  go_wp2_with fail
  refine (parts_any _).mono ?_
  rintro e w10 ⟨rfl, hb10⟩
  have HB10 := Lib.hid (bthen HB9.out hb10)
  have HP10 := Lib.hid (HP9.out.below hb10)
  have HX10 := Lib.hid (HX9.out.below hb10)
  clear hb10 HB9 HP9 HX9
  go_wp2_with fail
  refine (must_any (some ⟨g3, 0, none⟩) (20 + m) cc X _ 20 (20 + (m : Int)) 64 pr s d HGx.out.2 HX10.out.len hcap (by omega) HX10.out.rd).mono ?_
  rintro e w11 ⟨rfl, hb11⟩
  have HB11 := Lib.hid (bthen HB10.out hb11)
  have HP11 := Lib.hid (HP10.out.below hb11)
  have HX11 := Lib.hid (HX10.out.below hb11)
  clear hb11 HB10 HP10 HX10
  go_wp2_with fail
  refine (from_any ⟨20, 20 + (m : Int), 64, pr, s, d⟩ _).mono ?_
  rintro e w12 ⟨rfl, hb12⟩
  rw [show (Hd.mk 20 (20 + (m : Int)) 64 pr s d).val = .agg #[.int .i64 20, .int .i64 (20 + (m : Int)), .int .i64 64, .int .i64 pr, .int .u32 s, .int .u32 d] from rfl]
  have HB12 := Lib.hid (bthen HB11.out hb12)
  have HP12 := Lib.hid (HP11.out.below hb12)
  have HX12 := Lib.hid (HX11.out.below hb12)
  clear hb12 HB11 HP11 HX11
  go_wp2_with fail
  refine (rget_any 20 (20 + (m : Int)) 64 pr s d (some ⟨g3, 0, none⟩) (20 + m) cc X _ HX12.out.len hcap (by omega) HX12.out.rd s0 s1 d0 d1).mono ?_
  rintro e w13 ⟨rfl, hb13⟩
  rw [HPx.out.1, HPx.out.2, Hrv.out]
  have HB13 := Lib.hid (bthen HB12.out hb13)
  have HP13 := Lib.hid (HP12.out.below hb13)
  clear hb13 HB12 HP12 HX12
  go_upto_region 15 with fail
  have HQ14 := Lib.hid (Blk.new w13 43 #[.int .i64 e10, .int .u16 e1, .int .u16 e2, .int .i64 r3, .int .i64 r4, .int .i64 r5, .bool r6, .int .i64 r7, .int .i64 r8, .int .i64 r9, .int .i64 r10, .int .u32 r11, .int .u32 r12, .int .i64 r13, .bool r14])
  have HB14 := Lib.hid (bthen HB13.out (ball w13 (.cells #[.int .i64 e10, .int .u16 e1, .int .u16 e2, .int .i64 r3, .int .i64 r4, .int .i64 r5, .bool r6, .int .i64 r7, .int .i64 r8, .int .i64 r9, .int .i64 r10, .int .u32 r11, .int .u32 r12, .int .i64 r13, .bool r14] 43)))
  have HP14 := Lib.hid (HP13.out.alloc (.cells #[.int .i64 e10, .int .u16 e1, .int .u16 e2, .int .i64 r3, .int .i64 r4, .int .i64 r5, .bool r6, .int .i64 r7, .int .i64 r8, .int .i64 r9, .int .i64 r10, .int .u32 r11, .int .u32 r12, .int .i64 r13, .bool r14] 43))
  generalize w13.alloc (.cells #[.int .i64 e10, .int .u16 e1, .int .u16 e2, .int .i64 r3, .int .i64 r4, .int .i64 r5, .bool r6, .int .i64 r7, .int .i64 r8, .int .i64 r9, .int .i64 r10, .int .u32 r11, .int .u32 r12, .int .i64 r13, .bool r14] 43) = w14 at *
  generalize w13.heap.size = gq at *
  clear HB13 HP13
  have y0 : w14.cell? ⟨gq, 0, none⟩ = some (.int .i64 e10) := HQ14.out.cell 0
  have y1 : w14.cell? ⟨gq, 1, none⟩ = some (.int .u16 e1) := HQ14.out.cell 1
  have y2 : w14.cell? ⟨gq, 2, none⟩ = some (.int .u16 e2) := HQ14.out.cell 2
  have x1 : w14.cell? ⟨gp, 1, none⟩ = some (.int .u16 e1) := HP14.out.cell 1
  have x2 : w14.cell? ⟨gp, 2, none⟩ = some (.int .u16 e2) := HP14.out.cell 2
  have x6 : w14.cell? ⟨gp, 6, none⟩ = some (.bool true) := HP14.out.cell 6
  have x10 : w14.cell? ⟨gp, 10, none⟩ = some (.int .i64 e10) := HP14.out.cell 10
  have x13 : w14.cell? ⟨gp, 13, none⟩ = some (.int .i64 28) := HP14.out.cell 13
  have t0 : (e10 == e10) = true := by simp
  have t1 : (e1 == e1) = true := by simp
  have t2 : (e2 == e2) = true := by simp
  go_wp2
  go_ret
  exact ⟨rfl, HB14.out⟩

theorem partNests_walk (x : Sn) (deep : Bool) (w : World) (ok : x.ok w) :
    Calls Try.prog 6 #[x.val, .bool deep] w fun e w' => e = .returned (.bool true) ∧ Below w.heap.size w w' := by
  cases deep
  · exact partNests_false x w ok
  · exact partNests_true x w ok
end Go.Proofs.Ytacaifjhennbjaa
