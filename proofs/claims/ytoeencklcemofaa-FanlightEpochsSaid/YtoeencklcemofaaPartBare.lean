/-
  PartBare: its walk.
-/
import Derived.Test.YtoeencklcemofaaFrame
import Derived.Test.YtoeencklcemofaaParts
import Derived.Test.YtoeencklcemofaaPFrom
namespace Go.Proofs.Ytoeencklcemofaa
open Go.RowKit Plain
set_option linter.unusedVariables false
set_option linter.unusedSimpArgs false
set_option maxRecDepth 100000

/-- what getUdp tells of a datagram whose sum is another one -/
theorem bare_ud (s d f t v : Int) (L : List Int) (hl : L.length ≤ 1400) (hby : By L) (s0 : 0 ≤ s) (d0 : 0 ≤ d) (f0 : 0 ≤ f) (f1 : f ≤ 65535) (t0 : 0 ≤ t) (t1 : t ≤ 65535) (v0 : 0 ≤ v) (v1 : v ≤ 65535) :
    udE s d (P16 (udL s d f t L) 6 v) = (if v = 0 ∨ v = G16 (udL s d f t L) 6 then 0 else 4) ∧
    ((v = 0 ∨ v = G16 (udL s d f t L) 6) → udP s d (P16 (udL s d f t L) 6 v) = ⟨17, f, t, 0, 0, 0, false, hd0, 0, v == 0⟩) := by
  have e : P16 (udL s d f t L) 6 v = P16 (ud0 f t L) 6 v := by unfold udL; rw [P16_P16]
  have hlen := ud0_len f t L
  obtain ⟨g0, g2, g4, g6⟩ := ud0_g f t L f0 f1 t0 t1 hl
  have eg : G16 (udL s d f t L) 6 = no0 (65535 - F (Px s d 17 (ud0 f t L).length + tot (ud0 f t L))) := by
    unfold udL; rw [P16_g16 _ _ _ (by omega), Ps_px]
  have hX := Px_pos s d 17 (ud0 f t L).length s0 d0 (by decide)
  have hT := tot_nonneg _ (ud0_by f t hby)
  have hPs := Ps_P16 s d 17 (ud0 f t L) 6 v (by decide) (by omega) g6
  have hE : udE s d (P16 (ud0 f t L) 6 v) = (if v = 0 ∨ v = G16 (udL s d f t L) 6 then 0 else 4) := by
    unfold udE
    rw [P16_len, hlen, if_neg (by omega), P16_g16_ne _ 6 4 v (by decide) (by decide) (by decide), g4, if_neg (by omega), P16_g16 _ _ _ (by omega), hPs, eg]
    by_cases hv : v = 0
    · rw [if_neg (by rw [hv]; simp), if_pos (Or.inl hv)]
    · have ri := right_iff (Px s d 17 (ud0 f t L).length + tot (ud0 f t L)) v (by omega) (by omega) v1
      by_cases hw : v = no0 (65535 - F (Px s d 17 (ud0 f t L).length + tot (ud0 f t L)))
      · have := ri.2 hw
        rw [if_neg (by rw [this]; simp), if_pos (Or.inr hw)]
      · have hne : F (Px s d 17 (ud0 f t L).length + tot (ud0 f t L) + v) ≠ 65535 := fun h => hw (ri.1 h)
        rw [if_pos ⟨hv, by omega⟩, if_neg (by rintro (h | h); exact hv h; exact hw h)]
  rw [e]
  refine ⟨hE, fun h => ?_⟩
  unfold udP
  rw [hE, if_pos h, if_pos rfl, P16_g16 _ _ _ (by omega), P16_g16_ne _ 6 0 v (by decide) (by decide) (by decide), P16_g16_ne _ 6 2 v (by decide) (by decide) (by decide), g0, g2]

theorem pt_fields {p : Pt} {e0 e1 e2 e3 e4 e5 : Int} {e6 : Bool} {e7 e8 e9 e10 e11 e12 e13 : Int} {e14 : Bool} (h : p.val = .agg #[.int .i64 e0, .int .u16 e1, .int .u16 e2, .int .i64 e3, .int .i64 e4, .int .i64 e5, .bool e6, .int .i64 e7, .int .i64 e8, .int .i64 e9, .int .i64 e10, .int .u32 e11, .int .u32 e12, .int .i64 e13, .bool e14]) :
    e0 = p.proto ∧ e1 = p.sp ∧ e2 = p.dp ∧ e14 = p.bare := by
  simp only [Pt.val, Value.agg.injEq, Array.mk.injEq, List.cons.injEq, Value.int.injEq, Value.bool.injEq, true_and] at h
  exact ⟨h.1.symm, h.2.1.symm, h.2.2.1.symm, h.2.2.2.2.2.2.2.2.2.2.2.2.2.2.1.symm⟩

set_option maxHeartbeats 8000000 in
theorem partBare_walk (x : Sn) (v : Int) (w : World) (ok : x.ok w) (v0 : 0 ≤ v) (v1 : v ≤ 65535) :
    Calls Try.prog 11 #[x.val, .int .u16 v] w fun e w' => e = .returned (.bool true) ∧ Below w.heap.size w w' := by
  obtain ⟨what, s, d, f, t, fl, A, n, c, ys⟩ := x
  have HOk := Lib.hid (show (Sn.mk 0 s d f t fl A n c ys).ok w from ⟨ok.s0, ok.s1, ok.d0, ok.d1, ok.f0, ok.f1, ok.t0, ok.t1, ok.len, ok.cap, ok.max, ok.rd⟩)
  clear ok
  rw [show (Sn.mk what s d f t fl A n c ys).val = .agg #[.int .i64 what, .int .u32 s, .int .u32 d, .int .u16 f, .int .u16 t, .int .i64 fl, .slice A n c] from rfl]
  go_enter Try.func11, Try.ntmps11
  go_upto_region 1 with fail
  have HB1 := Lib.hid (ball w (.cells #[.int .i64 what, .int .u32 s, .int .u32 d, .int .u16 f, .int .u16 t, .int .i64 fl, .slice A n c] 57))
  have HK1 := Lib.hid (Blk.new w 57 #[.int .i64 what, .int .u32 s, .int .u32 d, .int .u16 f, .int .u16 t, .int .i64 fl, .slice A n c])
  generalize w.alloc (.cells #[.int .i64 what, .int .u32 s, .int .u32 d, .int .u16 f, .int .u16 t, .int .i64 fl, .slice A n c] 57) = w1 at *
  obtain ⟨g, hg⟩ : ∃ g, g = w.heap.size := ⟨_, rfl⟩
  have hgb : w.heap.size ≤ g := by omega
  rw [← hg] at HK1
  rw [← hg]
  clear hg
  have k0 := HK1.out.cell 0
  simp only [List.getElem?_toArray, List.getElem?_cons_zero] at k0
  have z0 := HK1.out.frozen 0
  go_upto_region 2 with fail
  have HB2 := Lib.hid (HB1.out.setCell (p := ⟨g, 0, none⟩) hgb (.int .i64 0))
  have HK2 := Lib.hid (show Blk (w1.setCell ⟨g, 0, none⟩ (.int .i64 0)) g 57 #[.int .i64 0, .int .u32 s, .int .u32 d, .int .u16 f, .int .u16 t, .int .i64 fl, .slice A n c] from HK1.out.set 0 (.int .i64 0))
  clear k0 z0 HB1 HK1
  generalize w1.setCell ⟨g, 0, none⟩ (.int .i64 0) = w2 at *
  have hs2 := HB2.out.size
  have k0 : w2.cell? ⟨g, 0, none⟩ = some (.int .i64 0) := HK2.out.cell 0
  have k1 : w2.cell? ⟨g, 1, none⟩ = some (.int .u32 s) := HK2.out.cell 1
  have k2 : w2.cell? ⟨g, 2, none⟩ = some (.int .u32 d) := HK2.out.cell 2
  have k3 : w2.cell? ⟨g, 3, none⟩ = some (.int .u16 f) := HK2.out.cell 3
  have k4 : w2.cell? ⟨g, 4, none⟩ = some (.int .u16 t) := HK2.out.cell 4
  have k5 : w2.cell? ⟨g, 5, none⟩ = some (.int .i64 fl) := HK2.out.cell 5
  have k6 : w2.cell? ⟨g, 6, none⟩ = some (.slice A n c) := HK2.out.cell 6
  go_wp2_with fail
  refine (frame_low ⟨0, s, d, f, t, fl, A, n, c, ys⟩ 0 (by omega) _ (HOk.out.below HB2.out) (show wrap64 ((IntKind.u64.wrap 0).tmod 7) = ((0 : Nat) : Int) by decide +kernel)).mono ?_
  rintro e w3 ⟨g3, m, cc, rfl, hm, hm100, ho, hb⟩
  obtain ⟨L, hL⟩ : ∃ L, L = ys.take 40 := ⟨_, rfl⟩
  have hLl : L.length ≤ 40 := by rw [hL, List.length_take]; omega
  have hLb : By L := by rw [hL]; exact HOk.out.rd.1.take 40
  obtain ⟨U, hU⟩ : ∃ U, U = udL s d f t L := ⟨_, rfl⟩
  have hUm : U.length = m := by rw [hU, hL]; exact hm.symm
  have HO3 := Lib.hid (show Own w3 w.heap.size (some ⟨g3, 0, none⟩) (20 + m) cc (frm 64 17 s d U) by rw [hU, hL]; exact ho.mono hs2)
  have HB3 := Lib.hid (bthen HB2.out hb)
  have HK3 := Lib.hid (HK2.out.below hb)
  have hU8 : 8 ≤ m := by rw [← hUm, hU, udL_len]; omega
  have okk := HOk.out
  have hbu := bare_ud s d f t v L (by omega) hLb okk.s0 okk.d0 okk.f0 okk.f1 okk.t0 okk.t1 v0 v1
  rw [← hU] at hbu
  have hUb : By U := by rw [hU]; exact udL_by s d f t hLb okk.s0 okk.d0
  have hgot := frm_got 64 17 s d U [] (by omega) hUb (by omega) (by omega) (by omega) (by omega) okk.s0 okk.s1 okk.d0 okk.d1
  rw [List.append_nil, hUm] at hgot
  have hgne : g ≠ g3 := by
    obtain ⟨q, hq, hq2⟩ := own_some ho (by omega)
    injection hq with hq
    injection hq with hq
    have := HK2.out.lt
    omega
  have hg3 : w.heap.size ≤ g3 := by
    obtain ⟨q, hq, hq2⟩ := own_some HO3.out (by omega)
    injection hq with hq
    injection hq with hq
    omega
  have HBU := Lib.hid hbu
  have HGot := Lib.hid hgot
  have HUm := Lib.hid hUm
  have HUb := Lib.hid hUb
  have HLl := Lib.hid hLl
  clear k0 k1 k2 k3 k4 k5 k6 hm ho hb hL hU hUm hbu hgot hLl hLb hUb HB2 HK2
  have hcap := HO3.out.cap
  go_wp2_with fail
  refine (get_any (some ⟨g3, 0, none⟩) (20 + m) cc (frm 64 17 s d U) _ HO3.out.len hcap (by omega) HO3.out.rd).mono ?_
  rintro e w4 ⟨rfl, hb4⟩
  rw [HGot.out.1, HGot.out.2, show (Hd.mk 20 (20 + (m : Int)) 64 17 s d).val = .agg #[.int .i64 20, .int .i64 (20 + (m : Int)), .int .i64 64, .int .i64 17, .int .u32 s, .int .u32 d] from rfl]
  have HO4 := Lib.hid (HO3.out.below hb4)
  have HB4 := Lib.hid (bthen HB3.out hb4)
  have HK4 := Lib.hid (HK3.out.below hb4)
  clear hb4 HO3 HB3 HK3
  go_upto_region 4 with fail
  have HH5 := Lib.hid (Blk.new w4 43 #[.int .i64 20, .int .i64 (20 + (m : Int)), .int .i64 64, .int .i64 17, .int .u32 s, .int .u32 d])
  have HO5 := Lib.hid (HO4.out.alloc (.cells #[.int .i64 20, .int .i64 (20 + (m : Int)), .int .i64 64, .int .i64 17, .int .u32 s, .int .u32 d] 43))
  have HB5 := Lib.hid (bthen HB4.out (ball w4 (.cells #[.int .i64 20, .int .i64 (20 + (m : Int)), .int .i64 64, .int .i64 17, .int .u32 s, .int .u32 d] 43)))
  have HK5 := Lib.hid (HK4.out.alloc (.cells #[.int .i64 20, .int .i64 (20 + (m : Int)), .int .i64 64, .int .i64 17, .int .u32 s, .int .u32 d] 43))
  have hghe : g3 < w4.heap.size := by
    rcases HO4.out.form with ⟨h, _⟩ | ⟨q, h, _, hq⟩
    · cases h
    · injection h with h; injection h with h; omega
  generalize w4.alloc (.cells #[.int .i64 20, .int .i64 (20 + (m : Int)), .int .i64 64, .int .i64 17, .int .u32 s, .int .u32 d] 43) = w5 at *
  generalize w4.heap.size = gh at *
  clear HO4 HB4 HK4
  have c26 := HO5.out.at (k := 26) (by omega)
  have c27 := HO5.out.at (k := 27) (by omega)
  have b26 := HO5.out.byt.getD 26
  have b27 := HO5.out.byt.getD 27
  have HW := Lib.hid (show (frm 64 17 s d U).getD 26 0 * 256 + (frm 64 17 s d U).getD 27 0 = G16 U 6 by
    unfold G16
    rw [show (26 : Nat) = 20 + 6 from rfl, frm_getD, show (27 : Nat) = 20 + 7 from rfl, frm_getD])
  generalize (frm 64 17 s d U).getD 26 0 = x26 at *
  generalize (frm 64 17 s d U).getD 27 0 = x27 at *
  have i26 : (26 : Int) < 20 + (m : Int) := by omega
  have i27 : (27 : Int) < 20 + (m : Int) := by omega
  have ow := or_w16 x26 x27 b26.1 b26.2 b27.1 b27.2
  have z26 := HO5.out.free 26
  have z27 := HO5.out.free 27
  go_region
  go_upto_region 6 with fail
  clear c26 c27 z26 z27 ow
  obtain ⟨w6, hw6⟩ : ∃ w6, w6 = ((w5.setCell ⟨g3, 26, none⟩ (.int .u8 (v / 256))).setCell ⟨g3, 27, none⟩ (.int .u8 (v % 256))).drew := ⟨_, rfl⟩
  rw [← hw6]
  have HO6 := Lib.hid (show Own w6 w.heap.size (some ⟨g3, 0, none⟩) (20 + m) cc (frm 64 17 s d (P16 U 6 v)) by
    rw [hw6, ← frm_P16]
    exact ((HO5.out.set 26 (v / 256) (by omega) (by omega)).set 27 (v % 256) (by omega) (by omega)).drewN 1)
  have HB6 := Lib.hid (show Below w.heap.size w w6 by rw [hw6]; exact ((HB5.out.setCell (p := ⟨g3, 26, none⟩) hg3 _).setCell (p := ⟨g3, 27, none⟩) hg3 _).drew)
  have HK6 := Lib.hid (show Blk w6 g 57 #[.int .i64 0, .int .u32 s, .int .u32 d, .int .u16 f, .int .u16 t, .int .i64 fl, .slice A n c] by
    rw [hw6]; exact ((HK5.out.ne (p := ⟨g3, 26, none⟩) (Ne.symm hgne) _).ne (p := ⟨g3, 27, none⟩) (Ne.symm hgne) _).drew)
  have HH6 := Lib.hid (show Blk w6 gh 43 #[.int .i64 20, .int .i64 (20 + (m : Int)), .int .i64 64, .int .i64 17, .int .u32 s, .int .u32 d] by
    have hn : g3 ≠ gh := by omega
    rw [hw6]; exact ((HH5.out.ne (p := ⟨g3, 26, none⟩) hn _).ne (p := ⟨g3, 27, none⟩) hn _).drew)
  clear HO5 HB5 HK5 HH5 hw6
  have hUv : (P16 U 6 v).length = m := by rw [P16_len]; exact HUm.out
  have hpg := frm_pg 64 17 s d (P16 U 6 v) m hUv 64 s d 17
  rw [if_pos rfl, if_pos rfl] at hpg
  have HPG := Lib.hid hpg
  clear hpg hUv
  have q0 : w6.cell? ⟨gh, 0, none⟩ = some (.int .i64 20) := HH6.out.cell 0
  have q1 : w6.cell? ⟨gh, 1, none⟩ = some (.int .i64 (20 + (m : Int))) := HH6.out.cell 1
  have q2 : w6.cell? ⟨gh, 2, none⟩ = some (.int .i64 64) := HH6.out.cell 2
  have q3 : w6.cell? ⟨gh, 3, none⟩ = some (.int .i64 17) := HH6.out.cell 3
  have q4 : w6.cell? ⟨gh, 4, none⟩ = some (.int .u32 s) := HH6.out.cell 4
  have q5 : w6.cell? ⟨gh, 5, none⟩ = some (.int .u32 d) := HH6.out.cell 5
  have okk2 := okk
  have s0 := okk2.s0
  have s1 := okk2.s1
  have d0 := okk2.d0
  have d1 := okk2.d1
  simp only at s0 s1 d0 d1
  clear okk2 okk
  go_wp2_with fail
  refine (pget_any 20 (20 + (m : Int)) 64 17 s d (some ⟨g3, 0, none⟩) (20 + m) cc (frm 64 17 s d (P16 U 6 v)) _ HO6.out.len hcap (by omega) HO6.out.rd s0 s1 d0 d1).mono ?_
  rintro e w7 ⟨rfl, hb7⟩
  rw [HPG.out.1, HPG.out.2]
  obtain ⟨e0, e1, e2, e3, e4, e5, e6, e7, e8, e9, e10, e11, e12, e13, e14, hev⟩ := Pt.mk_val (udP s d (P16 U 6 v))
  rw [hev]
  have Hev := Lib.hid hev
  have HB7 := Lib.hid (bthen HB6.out hb7)
  have HK7 := Lib.hid (HK6.out.below hb7)
  clear hev hb7 HB6 HK6 HH6 q0 q1 q2 q3 q4 q5 HO6
  go_upto_region 7 with fail
  have HP8 := Lib.hid (Blk.new w7 64 #[.int .i64 e0, .int .u16 e1, .int .u16 e2, .int .i64 e3, .int .i64 e4, .int .i64 e5, .bool e6, .int .i64 e7, .int .i64 e8, .int .i64 e9, .int .i64 e10, .int .u32 e11, .int .u32 e12, .int .i64 e13, .bool e14])
  have HB8 := Lib.hid (bthen HB7.out (ball w7 (.cells #[.int .i64 e0, .int .u16 e1, .int .u16 e2, .int .i64 e3, .int .i64 e4, .int .i64 e5, .bool e6, .int .i64 e7, .int .i64 e8, .int .i64 e9, .int .i64 e10, .int .u32 e11, .int .u32 e12, .int .i64 e13, .bool e14] 64)))
  have HK8 := Lib.hid (HK7.out.alloc (.cells #[.int .i64 e0, .int .u16 e1, .int .u16 e2, .int .i64 e3, .int .i64 e4, .int .i64 e5, .bool e6, .int .i64 e7, .int .i64 e8, .int .i64 e9, .int .i64 e10, .int .u32 e11, .int .u32 e12, .int .i64 e13, .bool e14] 64))
  generalize w7.alloc (.cells #[.int .i64 e0, .int .u16 e1, .int .u16 e2, .int .i64 e3, .int .i64 e4, .int .i64 e5, .bool e6, .int .i64 e7, .int .i64 e8, .int .i64 e9, .int .i64 e10, .int .u32 e11, .int .u32 e12, .int .i64 e13, .bool e14] 64) = w8 at *
  generalize w7.heap.size = gp at *
  clear HB7 HK7
  go_wp2_with fail
  refine (parts_any _).mono ?_
  rintro e w9 ⟨rfl, hb9⟩
  have HP9 := Lib.hid (HP8.out.below hb9)
  have HB9 := Lib.hid (bthen HB8.out hb9)
  have HK9 := Lib.hid (HK8.out.below hb9)
  clear hb9 HP8 HB8 HK8
  have y3 : w9.cell? ⟨g, 3, none⟩ = some (.int .u16 f) := HK9.out.cell 3
  have y4 : w9.cell? ⟨g, 4, none⟩ = some (.int .u16 t) := HK9.out.cell 4
  have p1 : w9.cell? ⟨gp, 1, none⟩ = some (.int .u16 e1) := HP9.out.cell 1
  have p2 : w9.cell? ⟨gp, 2, none⟩ = some (.int .u16 e2) := HP9.out.cell 2
  have p14 : w9.cell? ⟨gp, 14, none⟩ = some (.bool e14) := HP9.out.cell 14
  by_cases hc : v = 0 ∨ v = G16 U 6
  · have hE := HBU.out.1
    have hP := HBU.out.2 hc
    rw [if_pos hc] at hE
    rw [hE]
    have h1 : e1 = f ∧ e2 = t ∧ e14 = (v == 0) := by
      have h := pt_fields Hev.out
      rw [hP] at h
      exact ⟨h.2.1, h.2.2.1, h.2.2.2⟩
    obtain ⟨rfl, rfl, h14⟩ := h1
    have t1 : (e1 == e1) = true := by simp
    have t2 : (e2 == e2) = true := by simp
    by_cases hz : v = 0
    · subst hz
      have h14' : e14 = true := by rw [h14]; rfl
      subst h14'
      clear h14 hE hP hc
      go_wp2
      go_ret
      exact ⟨rfl, HB9.out⟩
    · have hz' : (v == 0) = false := by simpa using hz
      have hw : (v == x26 * 256 + x27) = true := by
        rcases hc with h | h
        · exact absurd h hz
        · rw [HW.out]; simpa using h
      have h14' : e14 = false := by rw [h14, hz']
      subst h14'
      clear h14 hE hP hc
      go_wp2
      go_ret
      exact ⟨rfl, HB9.out⟩
  · have hE := HBU.out.1
    rw [if_neg hc] at hE
    rw [hE]
    have hz' : (v == 0) = false := by simp; exact fun h => hc (Or.inl h)
    have hw : (v == x26 * 256 + x27) = false := by
      rw [HW.out]; simp; exact fun h => hc (Or.inr h)
    clear hE hc
    go_wp2
    go_ret
    exact ⟨rfl, HB9.out⟩
end Go.Proofs.Ytoeencklcemofaa
