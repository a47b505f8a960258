/-
  PartBits: its walk.
-/
import Derived.Test.YtgoenjoojejghaaTurned
import Derived.Test.YtgoenjoojejghaaPartBare
import Derived.Test.YtgoenjoojejghaaCut
namespace Go.Proofs.Ytgoenjoojejghaa
open Go.RowKit Plain
set_option linter.unusedVariables false
set_option linter.unusedSimpArgs false
set_option maxRecDepth 100000

theorem pick7 (K : Nat) (h : K < 7) : wrap64 ((IntKind.u64.wrap (K : Int)).tmod 7) = (K : Int) := by
  obtain rfl | rfl | rfl | rfl | rfl | rfl | rfl : K = 0 ∨ K = 1 ∨ K = 2 ∨ K = 3 ∨ K = 4 ∨ K = 5 ∨ K = 6 := by omega
  all_goals decide +kernel

set_option maxHeartbeats 8000000 in
theorem partBits_walk (x : Sn) (bit : Int) (w : World) (ok : x.ok w) (v0 : -9223372036854775808 ≤ bit) (v1 : bit ≤ 9223372036854775807) :
    Calls Try.prog 5 #[x.val, .int .i64 bit] w fun e w' => e = .returned (.bool true) ∧ Below w.heap.size w w' := by
  obtain ⟨what, s, d, f, t, fl, A, n, c, ys⟩ := x
  obtain ⟨K, hK, hK4⟩ := pickN what 4 (by omega) (by omega)
  have hK4' : K < 4 := by omega
  have HOk := Lib.hid (show (Sn.mk (K : Int) s d f t fl A n c ys).ok w from ⟨ok.s0, ok.s1, ok.d0, ok.d1, ok.f0, ok.f1, ok.t0, ok.t1, ok.len, ok.cap, ok.max, ok.rd⟩)
  clear ok
  rw [show (Sn.mk what s d f t fl A n c ys).val = .agg #[.int .i64 what, .int .u32 s, .int .u32 d, .int .u16 f, .int .u16 t, .int .i64 fl, .slice A n c] from rfl]
  have HKe := Lib.hid hK
  clear hK
  go_enter Try.func5, Try.ntmps5
  go_upto_region 1 with fail
  have HB1 := Lib.hid (ball w (.cells #[.int .i64 what, .int .u32 s, .int .u32 d, .int .u16 f, .int .u16 t, .int .i64 fl, .slice A n c] 26))
  have HK1 := Lib.hid (Blk.new w 26 #[.int .i64 what, .int .u32 s, .int .u32 d, .int .u16 f, .int .u16 t, .int .i64 fl, .slice A n c])
  generalize w.alloc (.cells #[.int .i64 what, .int .u32 s, .int .u32 d, .int .u16 f, .int .u16 t, .int .i64 fl, .slice A n c] 26) = w1 at *
  obtain ⟨g, hg⟩ : ∃ g, g = w.heap.size := ⟨_, rfl⟩
  have hgb : w.heap.size ≤ g := by omega
  rw [← hg] at HK1
  rw [← hg]
  clear hg
  have k0 := HK1.out.cell 0
  simp only [List.getElem?_toArray, List.getElem?_cons_zero] at k0
  have z0 := HK1.out.frozen 0
  have hK := HKe.out
  go_upto_region 2 with fail
  clear hK
  have HB2 := Lib.hid (HB1.out.setCell (p := ⟨g, 0, none⟩) hgb (.int .i64 (K : Int)))
  have HK2 := Lib.hid (show Blk (w1.setCell ⟨g, 0, none⟩ (.int .i64 (K : Int))) g 26 #[.int .i64 (K : Int), .int .u32 s, .int .u32 d, .int .u16 f, .int .u16 t, .int .i64 fl, .slice A n c] from HK1.out.set 0 (.int .i64 (K : Int)))
  clear k0 z0 HB1 HK1
  generalize w1.setCell ⟨g, 0, none⟩ (.int .i64 (K : Int)) = w2 at *
  have hs2 := HB2.out.size
  have k0 : w2.cell? ⟨g, 0, none⟩ = some (.int .i64 (K : Int)) := HK2.out.cell 0
  have k1 : w2.cell? ⟨g, 1, none⟩ = some (.int .u32 s) := HK2.out.cell 1
  have k2 : w2.cell? ⟨g, 2, none⟩ = some (.int .u32 d) := HK2.out.cell 2
  have k3 : w2.cell? ⟨g, 3, none⟩ = some (.int .u16 f) := HK2.out.cell 3
  have k4 : w2.cell? ⟨g, 4, none⟩ = some (.int .u16 t) := HK2.out.cell 4
  have k5 : w2.cell? ⟨g, 5, none⟩ = some (.int .i64 fl) := HK2.out.cell 5
  have k6 : w2.cell? ⟨g, 6, none⟩ = some (.slice A n c) := HK2.out.cell 6
  go_wp2_with fail
  refine (frame_low ⟨(K : Int), s, d, f, t, fl, A, n, c, ys⟩ K hK4' _ (HOk.out.below HB2.out) (pick7 K (by omega))).mono ?_
  rintro e w3 ⟨g3, m, cc, rfl, hm, hm100, ho, hb⟩
  obtain ⟨L, hL⟩ : ∃ L, L = ys.take 40 := ⟨_, rfl⟩
  have hLl : L.length ≤ 40 := by rw [hL, List.length_take]; omega
  have hLb : By L := by rw [hL]; exact HOk.out.rd.1.take 40
  obtain ⟨U, hU⟩ : ∃ U, U = carL K s d f t fl L := ⟨_, rfl⟩
  obtain ⟨pr, hpr⟩ : ∃ p, p = carP K := ⟨_, rfl⟩
  have hprr := carP_range K
  rw [← hpr] at hprr
  have hUm : U.length = m := by rw [hU, hL]; exact hm.symm
  have HO3 := Lib.hid (show Own w3 w.heap.size (some ⟨g3, 0, none⟩) (20 + m) cc (frm 64 pr s d U) by rw [hU, hL, hpr]; exact ho.mono hs2)
  have HB3 := Lib.hid (bthen HB2.out hb)
  have hU8 : 8 ≤ m := by
    rw [← hUm, hU]
    obtain rfl | rfl | rfl | rfl : K = 0 ∨ K = 1 ∨ K = 2 ∨ K = 3 := by omega
    · show 8 ≤ (udL s d f t L).length
      rw [udL_len]; omega
    · show 8 ≤ (tcL s d f t (fl % 256) L).length
      rw [tcL_len]; omega
    · show 8 ≤ (icL 8 0 f L).length
      rw [icL_len]; omega
    · show 8 ≤ (icL 0 0 f L).length
      rw [icL_len]; omega
  have okk := HOk.out
  have hUb : By U := by rw [hU]; exact carL_by K s d f t fl hLl hLb okk.s0 okk.s1 okk.d0 okk.d1
  have hgot := frm_got 64 pr s d U [] (by omega) hUb (by omega) (by omega) hprr.1 hprr.2 okk.s0 okk.s1 okk.d0 okk.d1
  rw [List.append_nil, hUm] at hgot
  have HT := Lib.hid (show ∀ (j : Nat) (y : Int), j < m → Turned (U.getD j 0) y → byE pr s d (U.set j y) ≠ 0 ∨ byE pr s d (U.set j y) = 0 ∧ (byP pr s d (U.set j y)).proto = 17 ∧ (byP pr s d (U.set j y)).bare = true from fun j y hj ht => by
    rw [hU, hpr]
    rw [hU] at ht
    exact low_turned K hK4' s d f t fl L (by omega) hLb okk.s0 okk.d0 okk.f0 okk.f1 okk.t0 okk.t1 j y (by rw [← hU, hUm]; exact hj) ht)
  have hg3 : w.heap.size ≤ g3 := by
    obtain ⟨q, hq, hq2⟩ := own_some HO3.out (by omega)
    injection hq with hq
    injection hq with hq
    omega
  have HGot := Lib.hid hgot
  have HUm := Lib.hid hUm
  have HUb := Lib.hid hUb
  clear k0 k1 k2 k3 k4 k5 k6 hm ho hb hL hU hUm hgot hLl hLb hUb HB2 HK2 hpr
  have hcap := HO3.out.cap
  go_wp2_with fail
  refine (get_any (some ⟨g3, 0, none⟩) (20 + m) cc (frm 64 pr s d U) _ HO3.out.len hcap (by omega) HO3.out.rd).mono ?_
  rintro e w4 ⟨rfl, hb4⟩
  rw [HGot.out.1, HGot.out.2, show (Hd.mk 20 (20 + (m : Int)) 64 pr s d).val = .agg #[.int .i64 20, .int .i64 (20 + (m : Int)), .int .i64 64, .int .i64 pr, .int .u32 s, .int .u32 d] from rfl]
  have HO4 := Lib.hid (HO3.out.below hb4)
  have HB4 := Lib.hid (bthen HB3.out hb4)
  clear hb4 HO3 HB3
  go_upto_region 4 with fail
  have HH5 := Lib.hid (Blk.new w4 33 #[.int .i64 20, .int .i64 (20 + (m : Int)), .int .i64 64, .int .i64 pr, .int .u32 s, .int .u32 d])
  have HO5 := Lib.hid (HO4.out.alloc (.cells #[.int .i64 20, .int .i64 (20 + (m : Int)), .int .i64 64, .int .i64 pr, .int .u32 s, .int .u32 d] 33))
  have HB5 := Lib.hid (bthen HB4.out (ball w4 (.cells #[.int .i64 20, .int .i64 (20 + (m : Int)), .int .i64 64, .int .i64 pr, .int .u32 s, .int .u32 d] 33)))
  have hghe : g3 < w4.heap.size := by
    rcases HO4.out.form with ⟨h, _⟩ | ⟨q, h, _, hq⟩
    · cases h
    · injection h with h; injection h with h; omega
  generalize w4.alloc (.cells #[.int .i64 20, .int .i64 (20 + (m : Int)), .int .i64 64, .int .i64 pr, .int .u32 s, .int .u32 d] 33) = w5 at *
  generalize w4.heap.size = gh at *
  clear HO4 HB4
  obtain ⟨J0, hJ, hJl⟩ := pickN bit (8 * (20 + (m : Int)) - 160) (by omega) (by omega)
  have hnz : ¬ (8 * (20 + (m : Int)) - 160 = 0) := by omega
  go_upto_region 5 with fail
  clear hJ hnz
  obtain ⟨J, hJJ⟩ : ∃ J : Nat, (J : Int) = 160 + (J0 : Int) := ⟨160 + J0, by omega⟩
  rw [← hJJ]
  have hJ8 : 160 ≤ J ∧ J < 160 + 8 * m := by omega
  clear hJJ hJl
  have hc := HO5.out.at (k := J / 8) (by omega)
  have hf := HO5.out.free (J / 8)
  have bx := HO5.out.byt.getD (J / 8)
  have Hx : Hid ((frm 64 pr s d U).getD (J / 8) 0 = U.getD (J / 8 - 20) 0) := Lib.hid (by
    have := frm_getD 64 pr s d U (J / 8 - 20)
    rw [show 20 + (J / 8 - 20) = J / 8 by omega] at this
    exact this)
  generalize (frm 64 pr s d U).getD (J / 8) 0 = x at *
  have i0 : (J : Int) / 8 < 20 + (m : Int) := by omega
  have i1 : 0 ≤ (J : Int) / 8 := by omega
  have i2 : ((J : Int) / 8).toNat = J / 8 := by omega
  have i3 : 0 ≤ (J : Int) % 8 := by omega
  go_region
  have ht := turned_bits x J bx.1 bx.2
  obtain ⟨y, hy⟩ : ∃ y, y = bits .xor .u8 x (2 ^ (J % 8) % 256) := ⟨_, rfl⟩
  rw [← hy] at ht
  rw [← hy]
  clear hy hc hf i2
  obtain ⟨w6, hw6⟩ : ∃ w6, w6 = (w5.setCell ⟨g3, J / 8, none⟩ (.int .u8 y)).drew := ⟨_, rfl⟩
  rw [← hw6]
  obtain ⟨U2, hU2⟩ : ∃ U2, U2 = U.set (J / 8 - 20) y := ⟨_, rfl⟩
  have HO6 := Lib.hid (show Own w6 w.heap.size (some ⟨g3, 0, none⟩) (20 + m) cc (frm 64 pr s d U2) by
    rw [hw6, hU2, ← frm_set, show 20 + (J / 8 - 20) = J / 8 by omega]
    exact (HO5.out.set (J / 8) y ht.1 ht.2.1).drewN 1)
  have HB6 := Lib.hid (show Below w.heap.size w w6 by rw [hw6]; exact (HB5.out.setCell (p := ⟨g3, J / 8, none⟩) hg3 _).drew)
  have HH6 := Lib.hid (show Blk w6 gh 33 #[.int .i64 20, .int .i64 (20 + (m : Int)), .int .i64 64, .int .i64 pr, .int .u32 s, .int .u32 d] by
    have hn : g3 ≠ gh := by omega
    rw [hw6]; exact (HH5.out.ne (p := ⟨g3, J / 8, none⟩) hn _).drew)
  clear HO5 HB5 HH5 hw6
  have hUv : U2.length = m := by rw [hU2, List.length_set]; exact HUm.out
  have hpg : pgE ⟨20, 20 + (m : Int), 64, pr, s, d⟩ (frm 64 pr s d U2) = byE pr s d U2 ∧ pgP ⟨20, 20 + (m : Int), 64, pr, s, d⟩ (frm 64 pr s d U2) = byP pr s d U2 := frm_pg 64 pr s d U2 m hUv 64 s d pr
  have HPG := Lib.hid hpg
  have hres := HT.out (J / 8 - 20) y (by omega) (by rw [← Hx.out]; exact ht)
  rw [← hU2] at hres
  have HRes := Lib.hid hres
  clear hpg hUv hres ht hU2
  have q0 : w6.cell? ⟨gh, 0, none⟩ = some (.int .i64 20) := HH6.out.cell 0
  have q1 : w6.cell? ⟨gh, 1, none⟩ = some (.int .i64 (20 + (m : Int))) := HH6.out.cell 1
  have q2 : w6.cell? ⟨gh, 2, none⟩ = some (.int .i64 64) := HH6.out.cell 2
  have q3 : w6.cell? ⟨gh, 3, none⟩ = some (.int .i64 pr) := HH6.out.cell 3
  have q4 : w6.cell? ⟨gh, 4, none⟩ = some (.int .u32 s) := HH6.out.cell 4
  have q5 : w6.cell? ⟨gh, 5, none⟩ = some (.int .u32 d) := HH6.out.cell 5
  have s0 := okk.s0
  have s1 := okk.s1
  have d0 := okk.d0
  have d1 := okk.d1
  simp only at s0 s1 d0 d1
  clear okk
  go_wp2_with fail
  refine (pget_any 20 (20 + (m : Int)) 64 pr s d (some ⟨g3, 0, none⟩) (20 + m) cc (frm 64 pr s d U2) _ HO6.out.len hcap (by omega) HO6.out.rd s0 s1 d0 d1).mono ?_
  rintro e w7 ⟨rfl, hb7⟩
  rw [HPG.out.1, HPG.out.2]
  have HB7 := Lib.hid (bthen HB6.out hb7)
  clear hb7 HB6 HH6 q0 q1 q2 q3 q4 q5 HO6
  rcases HRes.out with hbad | ⟨hE, hp17, hbare⟩
  · rw [byP_bad _ _ _ _ hbad, show pt0.val = .agg #[.int .i64 0, .int .u16 0, .int .u16 0, .int .i64 0, .int .i64 0, .int .i64 0, .bool false, .int .i64 0, .int .i64 0, .int .i64 0, .int .i64 0, .int .u32 0, .int .u32 0, .int .i64 0, .bool false] from rfl]
    obtain ⟨ec, hec⟩ : ∃ ec, ec = byE pr s d U2 := ⟨_, rfl⟩
    rw [← hec] at hbad
    rw [← hec]
    have tb : (ec != 0) = true := by rw [bne_iff_ne]; exact hbad
    clear hec hbad
    go_upto_region 7 with fail
    have HP8 := Lib.hid (Blk.new w7 38 #[.int .i64 0, .int .u16 0, .int .u16 0, .int .i64 0, .int .i64 0, .int .i64 0, .bool false, .int .i64 0, .int .i64 0, .int .i64 0, .int .i64 0, .int .u32 0, .int .u32 0, .int .i64 0, .bool false])
    have HB8 := Lib.hid (bthen HB7.out (ball w7 (.cells #[.int .i64 0, .int .u16 0, .int .u16 0, .int .i64 0, .int .i64 0, .int .i64 0, .bool false, .int .i64 0, .int .i64 0, .int .i64 0, .int .i64 0, .int .u32 0, .int .u32 0, .int .i64 0, .bool false] 38)))
    generalize w7.alloc (.cells #[.int .i64 0, .int .u16 0, .int .u16 0, .int .i64 0, .int .i64 0, .int .i64 0, .bool false, .int .i64 0, .int .i64 0, .int .i64 0, .int .i64 0, .int .u32 0, .int .u32 0, .int .i64 0, .bool false] 38) = w8 at *
    generalize w7.heap.size = gp at *
    clear HB7
    go_wp2_with fail
    refine (parts_any _).mono ?_
    rintro e w9 ⟨rfl, hb9⟩
    have HP9 := Lib.hid (HP8.out.below hb9)
    have HB9 := Lib.hid (bthen HB8.out hb9)
    clear hb9 HP8 HB8
    have p0 : w9.cell? ⟨gp, 0, none⟩ = some (.int .i64 0) := HP9.out.cell 0
    have p1 : w9.cell? ⟨gp, 1, none⟩ = some (.int .u16 0) := HP9.out.cell 1
    have p2 : w9.cell? ⟨gp, 2, none⟩ = some (.int .u16 0) := HP9.out.cell 2
    have p3 : w9.cell? ⟨gp, 3, none⟩ = some (.int .i64 0) := HP9.out.cell 3
    have p4 : w9.cell? ⟨gp, 4, none⟩ = some (.int .i64 0) := HP9.out.cell 4
    have p5 : w9.cell? ⟨gp, 5, none⟩ = some (.int .i64 0) := HP9.out.cell 5
    have p6 : w9.cell? ⟨gp, 6, none⟩ = some (.bool false) := HP9.out.cell 6
    have p7 : w9.cell? ⟨gp, 7, none⟩ = some (.int .i64 0) := HP9.out.cell 7
    have p8 : w9.cell? ⟨gp, 8, none⟩ = some (.int .i64 0) := HP9.out.cell 8
    have p9 : w9.cell? ⟨gp, 9, none⟩ = some (.int .i64 0) := HP9.out.cell 9
    have p10 : w9.cell? ⟨gp, 10, none⟩ = some (.int .i64 0) := HP9.out.cell 10
    have p11 : w9.cell? ⟨gp, 11, none⟩ = some (.int .u32 0) := HP9.out.cell 11
    have p12 : w9.cell? ⟨gp, 12, none⟩ = some (.int .u32 0) := HP9.out.cell 12
    have p13 : w9.cell? ⟨gp, 13, none⟩ = some (.int .i64 0) := HP9.out.cell 13
    have p14 : w9.cell? ⟨gp, 14, none⟩ = some (.bool false) := HP9.out.cell 14
    go_wp2
    go_ret
    exact ⟨rfl, HB9.out⟩
  · rw [hE]
    obtain ⟨e0, e1, e2, e3, e4, e5, e6, e7, e8, e9, e10, e11, e12, e13, e14, hev⟩ := Pt.mk_val (byP pr s d U2)
    rw [hev]
    have hfl := pt_fields hev
    rw [hp17, hbare] at hfl
    obtain ⟨rfl, hx1, hx2, rfl⟩ := hfl
    clear hx1 hx2
    clear hev hE hp17 hbare
    go_upto_region 7 with fail
    have HP8 := Lib.hid (Blk.new w7 38 #[.int .i64 17, .int .u16 e1, .int .u16 e2, .int .i64 e3, .int .i64 e4, .int .i64 e5, .bool e6, .int .i64 e7, .int .i64 e8, .int .i64 e9, .int .i64 e10, .int .u32 e11, .int .u32 e12, .int .i64 e13, .bool true])
    have HB8 := Lib.hid (bthen HB7.out (ball w7 (.cells #[.int .i64 17, .int .u16 e1, .int .u16 e2, .int .i64 e3, .int .i64 e4, .int .i64 e5, .bool e6, .int .i64 e7, .int .i64 e8, .int .i64 e9, .int .i64 e10, .int .u32 e11, .int .u32 e12, .int .i64 e13, .bool true] 38)))
    generalize w7.alloc (.cells #[.int .i64 17, .int .u16 e1, .int .u16 e2, .int .i64 e3, .int .i64 e4, .int .i64 e5, .bool e6, .int .i64 e7, .int .i64 e8, .int .i64 e9, .int .i64 e10, .int .u32 e11, .int .u32 e12, .int .i64 e13, .bool true] 38) = w8 at *
    generalize w7.heap.size = gp at *
    clear HB7
    go_wp2_with fail
    refine (parts_any _).mono ?_
    rintro e w9 ⟨rfl, hb9⟩
    have HP9 := Lib.hid (HP8.out.below hb9)
    have HB9 := Lib.hid (bthen HB8.out hb9)
    clear hb9 HP8 HB8
    have p0 : w9.cell? ⟨gp, 0, none⟩ = some (.int .i64 17) := HP9.out.cell 0
    have p14 : w9.cell? ⟨gp, 14, none⟩ = some (.bool true) := HP9.out.cell 14
    go_wp2
    go_ret
    exact ⟨rfl, HB9.out⟩
end Go.Proofs.Ytgoenjoojejghaa
