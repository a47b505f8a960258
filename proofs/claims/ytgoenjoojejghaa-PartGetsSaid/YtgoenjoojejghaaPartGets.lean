/-
  PartGets: its walk.
-/
import Derived.Test.YtgoenjoojejghaaSentH
import Derived.Test.YtgoenjoojejghaaPartBits
import Derived.Test.YtgoenjoojejghaaRGet
import Derived.Test.YtgoenjoojejghaaPFrom
import Derived.Test.YtgoenjoojejghaaParts
import Derived.Test.YtgoenjoojejghaaPartRaw
import Derived.Test.YtgoenjoojejghaaRRight
import Derived.Test.YtgoenjoojejghaaOpenS
import Derived.Test.YtgoenjoojejghaaSteps
namespace Go.Proofs.Ytgoenjoojejghaa
open Go.RowKit Plain
set_option linter.unusedVariables false
set_option linter.unusedSimpArgs false
set_option maxRecDepth 100000

theorem xor_b (x y : Int) (h0 : 0 ≤ x) (h1 : x ≤ 255) (g0 : 0 ≤ y) (g1 : y ≤ 255) : 0 ≤ bits .xor .u8 x y ∧ bits .xor .u8 x y ≤ 255 := by
  obtain ⟨a, rfl⟩ := Int.eq_ofNat_of_zero_le h0
  obtain ⟨b, rfl⟩ := Int.eq_ofNat_of_zero_le g0
  rw [u8_xor_nat a b (by omega) (by omega)]
  have := Nat.xor_lt_two_pow (x := a) (y := b) (n := 8) (by omega) (by omega)
  omega
theorem right_any (pr : Int) (hpr : pr = 17 ∨ pr = 6 ∨ pr = 1) (q : Nat) (t s d : Int) (A : Option Addr) (n c : Nat) (zs : List Int) (w : World) (hn : zs.length = n) (hl : n ≤ 1000) (l1 : 20 + q ≤ n) (hR : Rd w A zs) (s0 : 0 ≤ s) (s1 : s ≤ 4294967295) (d0 : 0 ≤ d) (d1 : d ≤ 4294967295) :
    Calls Try.prog 25 #[.agg #[.int .i64 20, .int .i64 (20 + (q : Int)), .int .i64 t, .int .i64 pr, .int .u32 s, .int .u32 d], .slice A n c] w (RightOk n w) := by
  rcases hpr with rfl | rfl | rfl
  · exact right_17 q t s d A n c zs w hn hl l1 hR s0 s1 d0 d1
  · exact right_6 q t s d A n c zs w hn hl l1 hR s0 s1 d0 d1
  · exact right_1 q t s d A n c zs w hn hl l1 hR s0 s1 d0 d1

set_option maxHeartbeats 8000000 in
theorem partGets_walk (x : Sn) (b0 b1 b2 : Int) (fix : Bool) (w : World) (ok : x.ok w) :
    Calls Try.prog 4 #[x.val, .agg #[.int .i64 b0, .int .i64 b1, .int .i64 b2], .bool fix] w fun e w' => e = .returned (.bool true) ∧ Below w.heap.size w w' := by
  obtain ⟨what, s, d, f, t, fl, A, n, c, ys⟩ := x
  obtain ⟨K, hK, hKl⟩ := pickN what 7 (by omega) (by omega)
  have hK7 : K < 7 := by omega
  have HKe := Lib.hid hK
  have HOk := Lib.hid ok
  have s0 := ok.s0
  have s1 := ok.s1
  have d0 := ok.d0
  have d1 := ok.d1
  simp only at s0 s1 d0 d1
  clear hK hKl ok
  rw [show (Sn.mk what s d f t fl A n c ys).val = .agg #[.int .i64 what, .int .u32 s, .int .u32 d, .int .u16 f, .int .u16 t, .int .i64 fl, .slice A n c] from rfl]
  go_enter Try.func4, Try.ntmps4
  go_upto_region 1 with fail
  have HB2 := Lib.hid (bthen (ball w (.cells #[.int .i64 what, .int .u32 s, .int .u32 d, .int .u16 f, .int .u16 t, .int .i64 fl, .slice A n c] 26)) (ball _ (.cells #[.int .i64 b0, .int .i64 b1, .int .i64 b2] 50)))
  have HK2 := Lib.hid ((Blk.new w 26 #[.int .i64 what, .int .u32 s, .int .u32 d, .int .u16 f, .int .u16 t, .int .i64 fl, .slice A n c]).alloc (.cells #[.int .i64 b0, .int .i64 b1, .int .i64 b2] 50))
  have HA2 := Lib.hid (Blk.new (w.alloc (.cells #[.int .i64 what, .int .u32 s, .int .u32 d, .int .u16 f, .int .u16 t, .int .i64 fl, .slice A n c] 26)) 50 #[.int .i64 b0, .int .i64 b1, .int .i64 b2])
  rw [World.size_alloc] at HA2
  generalize (w.alloc (.cells #[.int .i64 what, .int .u32 s, .int .u32 d, .int .u16 f, .int .u16 t, .int .i64 fl, .slice A n c] 26)).alloc (.cells #[.int .i64 b0, .int .i64 b1, .int .i64 b2] 50) = w2 at *
  obtain ⟨ga, hga⟩ : ∃ g, g = w.heap.size + 1 := ⟨_, rfl⟩
  obtain ⟨g, hg⟩ : ∃ g, g = w.heap.size := ⟨_, rfl⟩
  rw [← hga] at HA2
  rw [← hga]
  rw [← hg] at HK2
  rw [← hg]
  clear hg hga
  have hs2 := HB2.out.size
  have k0 : w2.cell? ⟨g, 0, none⟩ = some (.int .i64 what) := HK2.out.cell 0
  have k1 : w2.cell? ⟨g, 1, none⟩ = some (.int .u32 s) := HK2.out.cell 1
  have k2 : w2.cell? ⟨g, 2, none⟩ = some (.int .u32 d) := HK2.out.cell 2
  have k3 : w2.cell? ⟨g, 3, none⟩ = some (.int .u16 f) := HK2.out.cell 3
  have k4 : w2.cell? ⟨g, 4, none⟩ = some (.int .u16 t) := HK2.out.cell 4
  have k5 : w2.cell? ⟨g, 5, none⟩ = some (.int .i64 fl) := HK2.out.cell 5
  have k6 : w2.cell? ⟨g, 6, none⟩ = some (.slice A n c) := HK2.out.cell 6
  go_wp2_with fail
  refine (frame_any ⟨what, s, d, f, t, fl, A, n, c, ys⟩ K hK7 _ (HOk.out.below HB2.out) HKe.out).mono ?_
  rintro e w3 ⟨g3, m, cc, rfl, hm, hm100, ho, hb⟩
  obtain ⟨M, hM⟩ : ∃ L, L = ys.take 40 := ⟨_, rfl⟩
  have hMl : M.length ≤ 40 := by rw [hM, List.length_take]; omega
  have hMb : By M := by rw [hM]; exact HOk.out.rd.1.take 40
  obtain ⟨U, hU⟩ : ∃ U, U = carL K s d f t fl M := ⟨_, rfl⟩
  obtain ⟨pr, hpr⟩ : ∃ p, p = carP K := ⟨_, rfl⟩
  have hprr := carP_range K
  rw [← hpr] at hprr
  have hpr3 : pr = 17 ∨ pr = 6 ∨ pr = 1 := by
    rw [hpr]
    obtain rfl | rfl | rfl | rfl | rfl | rfl | rfl : K = 0 ∨ K = 1 ∨ K = 2 ∨ K = 3 ∨ K = 4 ∨ K = 5 ∨ K = 6 := by omega
    all_goals decide
  have HPr := Lib.hid hpr3
  have hUm : U.length = m := by rw [hU, hM]; exact hm.symm
  have HO3 := Lib.hid (show Own w3 w.heap.size (some ⟨g3, 0, none⟩) (20 + m) cc (frm 64 pr s d U) by rw [hU, hM, hpr]; exact ho.mono hs2)
  have HB3 := Lib.hid (bthen HB2.out hb)
  have HA3 := Lib.hid (HA2.out.below hb)
  have okk := HOk.out
  have hUb : By U := by rw [hU]; exact carL_by K s d f t fl hMl hMb okk.s0 okk.s1 okk.d0 okk.d1
  have hU8 : 8 ≤ m := by
    rw [← hUm, hU]
    obtain rfl | rfl | rfl | rfl | rfl | rfl | rfl : K = 0 ∨ K = 1 ∨ K = 2 ∨ K = 3 ∨ K = 4 ∨ K = 5 ∨ K = 6 := by omega
    · show 8 ≤ (udL s d f t M).length
      rw [udL_len]; omega
    · show 8 ≤ (tcL s d f t (fl % 256) M).length
      rw [tcL_len]; omega
    · show 8 ≤ (icL 8 0 f M).length
      rw [icL_len]; omega
    · show 8 ≤ (icL 0 0 f M).length
      rw [icL_len]; omega
    · show 8 ≤ (icL 3 (fl.tmod 16 % 256) 0 (frm 9 17 d s (udL d s t f M))).length
      rw [icL_len]; omega
    · show 8 ≤ (icL 11 0 0 ((frm 9 6 d s (tcL d s t f 2 M)).take (28 + M.length / 2))).length
      rw [icL_len]; omega
    · show 8 ≤ (icL 3 1 0 (frm 9 1 d s (icL 8 0 t M))).length
      rw [icL_len]; omega
  have hg3 : w.heap.size ≤ g3 := by
    obtain ⟨q, hq, hq2⟩ := own_some HO3.out (by omega)
    injection hq with hq
    injection hq with hq
    omega
  have hne : g3 ≠ ga := by
    have h1 : w2.heap.size ≤ g3 := by
      obtain ⟨q, hq, hq2⟩ := own_some ho (by omega)
      injection hq with hq
      injection hq with hq
      omega
    have := HA2.out.lt
    omega
  have HUm := Lib.hid hUm
  have HUb := Lib.hid hUb
  have hcap := HO3.out.cap
  clear k0 k1 k2 k3 k4 k5 k6 hm ho hb hM hU hUm hMl hMb hUb HB2 hpr okk HKe HK2 HA2 hpr3 HOk hs2
  have j0 : w3.cell? ⟨ga, 0, none⟩ = some (.int .i64 b0) := HA3.out.cell 0
  have j1 : w3.cell? ⟨ga, 1, none⟩ = some (.int .i64 b1) := HA3.out.cell 1
  obtain ⟨J0, hJ, hJl⟩ := pickN b0 (20 + (m : Int) - 20) (by omega) (by omega)
  have hnz : ¬ (20 + (m : Int) - 20 = 0) := by omega
  go_upto_region 3 with fail
  clear hJ hnz j0
  obtain ⟨J, hJJ⟩ : ∃ J : Nat, (J : Int) = 20 + (J0 : Int) := ⟨20 + J0, by omega⟩
  rw [← hJJ]
  have hJ8 : 20 ≤ J ∧ J < 20 + m := by omega
  clear hJJ hJl
  have hc := HO3.out.at (k := J) (by omega)
  have hf := HO3.out.free J
  have bx := HO3.out.byt.getD J
  generalize (frm 64 pr s d U).getD J 0 = x at *
  have i0 : (J : Int) < 20 + (m : Int) := by omega
  go_region
  have ht := xor_b x (b1 % 256) bx.1 bx.2 (by omega) (by omega)
  obtain ⟨y, hy⟩ : ∃ y, y = bits .xor .u8 x (b1 % 256) := ⟨_, rfl⟩
  rw [← hy] at ht
  rw [← hy]
  clear hy hc hf j1
  obtain ⟨w4, hw4⟩ : ∃ w4, w4 = (w3.setCell ⟨g3, J, none⟩ (.int .u8 y)).drew := ⟨_, rfl⟩
  rw [← hw4]
  obtain ⟨U2, hU2⟩ : ∃ U2, U2 = U.set (J - 20) y := ⟨_, rfl⟩
  have HO4 := Lib.hid (show Own w4 w.heap.size (some ⟨g3, 0, none⟩) (20 + m) cc (frm 64 pr s d U2) by
    rw [hw4, hU2, ← frm_set, show 20 + (J - 20) = J by omega]
    exact (HO3.out.set J y ht.1 ht.2).drewN 1)
  have HB4 := Lib.hid (show Below w.heap.size w w4 by rw [hw4]; exact (HB3.out.setCell (p := ⟨g3, J, none⟩) hg3 _).drew)
  have HA4 := Lib.hid (show Blk w4 ga 50 #[.int .i64 b0, .int .i64 b1, .int .i64 b2] by rw [hw4]; exact (HA3.out.ne (p := ⟨g3, J, none⟩) hne _).drew)
  have hU2l : U2.length = m := by rw [hU2, List.length_set]; exact HUm.out
  have hU2b : By U2 := by rw [hU2]; exact HUb.out.set _ _ ht.1 ht.2
  have hgot := frm_got 64 pr s d U2 [] (by omega) hU2b (by omega) (by omega) hprr.1 hprr.2 s0 s1 d0 d1
  rw [List.append_nil, hU2l] at hgot
  have HGot := Lib.hid hgot
  clear HO3 HB3 HA3 hw4 hU2 hU2l hU2b hgot ht HUm HUb bx i0 hJ8
  go_wp2_with fail
  refine (refGet_any (some ⟨g3, 0, none⟩) (20 + m) cc (frm 64 pr s d U2) _ HO4.out.len hcap (by omega) HO4.out.rd).mono ?_
  rintro e w5 ⟨rfl, hb5⟩
  rw [HGot.out.1, HGot.out.2, show (Hd.mk 20 (20 + (m : Int)) 64 pr s d).val = .agg #[.int .i64 20, .int .i64 (20 + (m : Int)), .int .i64 64, .int .i64 pr, .int .u32 s, .int .u32 d] from rfl]
  have HO5 := Lib.hid (HO4.out.below hb5)
  have HB5 := Lib.hid (bthen HB4.out hb5)
  have HA5 := Lib.hid (HA4.out.below hb5)
  clear hb5 HO4 HB4 HA4
  go_upto_region 7 with fail
  have HH6 := Lib.hid (Blk.new w5 41 #[.int .i64 20, .int .i64 (20 + (m : Int)), .int .i64 64, .int .i64 pr, .int .u32 s, .int .u32 d])
  have HO6 := Lib.hid (HO5.out.alloc (.cells #[.int .i64 20, .int .i64 (20 + (m : Int)), .int .i64 64, .int .i64 pr, .int .u32 s, .int .u32 d] 41))
  have HA6 := Lib.hid (HA5.out.alloc (.cells #[.int .i64 20, .int .i64 (20 + (m : Int)), .int .i64 64, .int .i64 pr, .int .u32 s, .int .u32 d] 41))
  have HB6 := Lib.hid (bthen HB5.out (ball w5 (.cells #[.int .i64 20, .int .i64 (20 + (m : Int)), .int .i64 64, .int .i64 pr, .int .u32 s, .int .u32 d] 41)))
  have hgh : w.heap.size ≤ w5.heap.size := HB5.out.size
  have hghe : w5.heap.size ≠ g3 := by
    rcases HO5.out.form with ⟨h, _⟩ | ⟨q, h, _, hq⟩
    · cases h
    · injection h with h; injection h with h; omega
  generalize w5.alloc (.cells #[.int .i64 20, .int .i64 (20 + (m : Int)), .int .i64 64, .int .i64 pr, .int .u32 s, .int .u32 d] 41) = w6 at *
  generalize w5.heap.size = gh at *
  clear HO5 HB5 HA5 HGot
  have j2 : w6.cell? ⟨ga, 2, none⟩ = some (.int .i64 b2) := HA6.out.cell 2
  go_upto_if 47 with fail
  go_cut [47] (fun s47 wx => ∃ (tb : Bool) (q : Nat), s47 = .bool tb ∧ q ≤ m ∧ Rd wx (some ⟨g3, 0, none⟩) (frm 64 pr s d U2) ∧ Blk wx gh 41 #[.int .i64 20, .int .i64 (20 + (q : Int)), .int .i64 64, .int .i64 pr, .int .u32 s, .int .u32 d] ∧ Below w.heap.size w wx)
  case first => as_aux_lemma =>
    by_cases h6 : b2.tmod 6 = 0
    · have t6 : (b2.tmod 6 == 0) = true := by simp [h6]
      clear h6
      have y1 : w6.cell? ⟨gh, 1, none⟩ = some (.int .i64 (20 + (m : Int))) := HH6.out.cell 1
      have y2 := HH6.out.frozen 1
      obtain ⟨q, hq, hql⟩ := pickN ((IntKind.u64.wrap b2).tdiv 6) (20 + (m : Int) - 19) (by omega) (by omega)
      have hqm : q ≤ m := by omega
      have hnz : ¬ (20 + (m : Int) - 19 = 0) := by omega
      go_wp2
      go_meet
      exact ⟨_, q, rfl, hqm, HO6.out.rd.ne (p := ⟨gh, 1, none⟩) hghe _, HH6.out.set 1 (.int .i64 (20 + (q : Int))), HB6.out.setCell (p := ⟨gh, 1, none⟩) hgh _⟩
    · have t6 : (b2.tmod 6 == 0) = false := by simp [h6]
      clear h6
      go_wp2
      go_meet
      refine ⟨_, m, rfl, Nat.le_refl _, HO6.out.rd, HH6.out, HB6.out⟩
  case rest =>
  obtain ⟨tb, q, rfl, hqm, hR7, hH7, hB7⟩ := hcut
  have HL := Lib.hid HO6.out.len
  have HR7 := Lib.hid hR7
  have HH7 := Lib.hid hH7
  have HB7 := Lib.hid hB7
  clear hR7 hH7 hB7 HO6 HA6 HB6 HH6 j2 hghe hgh
  go_upto_if 60 with fail
  go_cut [7] (fun s7 wx => ∃ (g5 c5 : Nat) (zs : List Int), s7 = .slice (some ⟨g5, 0, none⟩) (20 + m) c5 ∧ zs.length = 20 + m ∧ 20 + m ≤ c5 ∧ Rd wx (some ⟨g5, 0, none⟩) zs ∧ Blk wx gh 41 #[.int .i64 20, .int .i64 (20 + (q : Int)), .int .i64 64, .int .i64 pr, .int .u32 s, .int .u32 d] ∧ Below w.heap.size w wx)
  case first => as_aux_lemma =>
    cases fix
    · go_wp2
      go_meet
      exact ⟨g3, cc, _, rfl, HL.out, hcap, HR7.out, HH7.out, HB7.out⟩
    · go_wp2_with (first | ((with_reducible refine gd_ld 41 9 ?_); refine wpList_ld rfl 41 (.tmp 9) rfl _ rfl (HH7.out) sRHead ?_) | fail)
      refine (right_any pr HPr.out q 64 s d (some ⟨g3, 0, none⟩) (20 + m) cc (frm 64 pr s d U2) _ HL.out (by omega) (by omega) HR7.out s0 s1 d0 d1).mono ?_
      rintro e w8 ⟨g8, c8, z8, rfl, ho8, hb8⟩
      have HO8 := Lib.hid ho8
      have HB8 := Lib.hid hb8
      clear ho8 hb8
      go_wp2
      go_meet
      exact ⟨g8, c8, z8, rfl, HO8.out.len, HO8.out.cap, HO8.out.rd, HH7.out.below HB8.out, bthen HB7.out HB8.out⟩
  case rest =>
    obtain ⟨g5, c5, zs, rfl, hzl, hzc, hzR, hH, hB⟩ := hcut
    have HZ := Lib.hid hzl
    have HRz := Lib.hid hzR
    have HHz := Lib.hid hH
    have HBz := Lib.hid hB
    have m0 : wc.cell? ⟨gh, 0, none⟩ = some (.int .i64 20) := hH.cell 0
    have m1 : wc.cell? ⟨gh, 1, none⟩ = some (.int .i64 (20 + (q : Int))) := hH.cell 1
    have m2 : wc.cell? ⟨gh, 2, none⟩ = some (.int .i64 64) := hH.cell 2
    have m3 : wc.cell? ⟨gh, 3, none⟩ = some (.int .i64 pr) := hH.cell 3
    have m4 : wc.cell? ⟨gh, 4, none⟩ = some (.int .u32 s) := hH.cell 4
    have m5 : wc.cell? ⟨gh, 5, none⟩ = some (.int .u32 d) := hH.cell 5
    obtain ⟨e0, e1, e2, e3, e4, e5, e6, e7, e8, e9, e10, e11, e12, e13, e14, hev⟩ := Pt.mk_val (pgP ⟨20, 20 + (q : Int), 64, pr, s, d⟩ zs)
    have Hev := Lib.hid hev
    clear hzl hzR hH hB HR7 HH7 HB7 HL hev
    go_upto_region 12 with fail
    have HX9 := Lib.hid (Blk.new wc 33 #[.int .i64 20, .int .i64 (20 + (q : Int)), .int .i64 64, .int .i64 pr, .int .u32 s, .int .u32 d])
    have HR9 := Lib.hid (HRz.out.alloc (.cells #[.int .i64 20, .int .i64 (20 + (q : Int)), .int .i64 64, .int .i64 pr, .int .u32 s, .int .u32 d] 33))
    have HH9 := Lib.hid (HHz.out.alloc (.cells #[.int .i64 20, .int .i64 (20 + (q : Int)), .int .i64 64, .int .i64 pr, .int .u32 s, .int .u32 d] 33))
    have HB9 := Lib.hid (bthen HBz.out (ball wc (.cells #[.int .i64 20, .int .i64 (20 + (q : Int)), .int .i64 64, .int .i64 pr, .int .u32 s, .int .u32 d] 33)))
    generalize wc.alloc (.cells #[.int .i64 20, .int .i64 (20 + (q : Int)), .int .i64 64, .int .i64 pr, .int .u32 s, .int .u32 d] 33) = w9 at *
    generalize wc.heap.size = gx at *
    clear HRz HHz HBz m0 m1 m2 m3 m4 m5
    go_wp2_with (first | ((with_reducible refine gd_ld 33 11 ?_); refine wpList_ld rfl 33 (.tmp 11) rfl _ rfl (HX9.out) sHead ?_) | fail)
    refine (pget_any 20 (20 + (q : Int)) 64 pr s d (some ⟨g5, 0, none⟩) (20 + m) c5 zs _ HZ.out hzc (by omega) HR9.out s0 s1 d0 d1).mono ?_
    rintro e w10 ⟨rfl, hb10⟩
    rw [Hev.out]
    have HR10 := Lib.hid (HR9.out.below hb10)
    have HH10 := Lib.hid (HH9.out.below hb10)
    have HB10 := Lib.hid (bthen HB9.out hb10)
    clear hb10 HR9 HH9 HB9 HX9
    go_upto_region 13 with fail
    have HP11 := Lib.hid (Blk.new w10 38 #[.int .i64 e0, .int .u16 e1, .int .u16 e2, .int .i64 e3, .int .i64 e4, .int .i64 e5, .bool e6, .int .i64 e7, .int .i64 e8, .int .i64 e9, .int .i64 e10, .int .u32 e11, .int .u32 e12, .int .i64 e13, .bool e14])
    have HR11 := Lib.hid (HR10.out.alloc (.cells #[.int .i64 e0, .int .u16 e1, .int .u16 e2, .int .i64 e3, .int .i64 e4, .int .i64 e5, .bool e6, .int .i64 e7, .int .i64 e8, .int .i64 e9, .int .i64 e10, .int .u32 e11, .int .u32 e12, .int .i64 e13, .bool e14] 38))
    have HH11 := Lib.hid (HH10.out.alloc (.cells #[.int .i64 e0, .int .u16 e1, .int .u16 e2, .int .i64 e3, .int .i64 e4, .int .i64 e5, .bool e6, .int .i64 e7, .int .i64 e8, .int .i64 e9, .int .i64 e10, .int .u32 e11, .int .u32 e12, .int .i64 e13, .bool e14] 38))
    have HB11 := Lib.hid (bthen HB10.out (ball w10 (.cells #[.int .i64 e0, .int .u16 e1, .int .u16 e2, .int .i64 e3, .int .i64 e4, .int .i64 e5, .bool e6, .int .i64 e7, .int .i64 e8, .int .i64 e9, .int .i64 e10, .int .u32 e11, .int .u32 e12, .int .i64 e13, .bool e14] 38)))
    generalize w10.alloc (.cells #[.int .i64 e0, .int .u16 e1, .int .u16 e2, .int .i64 e3, .int .i64 e4, .int .i64 e5, .bool e6, .int .i64 e7, .int .i64 e8, .int .i64 e9, .int .i64 e10, .int .u32 e11, .int .u32 e12, .int .i64 e13, .bool e14] 38) = w11 at *
    generalize w10.heap.size = p5 at *
    clear HR10 HH10 HB10
    go_wp2_with (first | ((with_reducible refine gd_ld 41 9 ?_); refine wpList_ld rfl 41 (.tmp 9) rfl _ rfl (HH11.out) sRHead ?_) | fail)
    refine (rget_any 20 (20 + (q : Int)) 64 pr s d (some ⟨g5, 0, none⟩) (20 + m) c5 zs _ HZ.out hzc (by omega) HR11.out s0 s1 d0 d1).mono ?_
    rintro e w12 ⟨rfl, hb12⟩
    rw [Hev.out]
    have HB12 := Lib.hid (bthen HB11.out hb12)
    have HP12 := Lib.hid (HP11.out.below hb12)
    clear hb12 HR11 HB11 HP11 HH11
    go_upto_region 14 with fail
    have HS : SP w p5 w12.heap.size #[.int .i64 e0, .int .u16 e1, .int .u16 e2, .int .i64 e3, .int .i64 e4, .int .i64 e5, .bool e6, .int .i64 e7, .int .i64 e8, .int .i64 e9, .int .i64 e10, .int .u32 e11, .int .u32 e12, .int .i64 e13, .bool e14] (w12.alloc (.cells #[.int .i64 e0, .int .u16 e1, .int .u16 e2, .int .i64 e3, .int .i64 e4, .int .i64 e5, .bool e6, .int .i64 e7, .int .i64 e8, .int .i64 e9, .int .i64 e10, .int .u32 e11, .int .u32 e12, .int .i64 e13, .bool e14] 43)) := ⟨HP12.out.alloc _, Blk.new w12 _ _, bthen HB12.out (ball w12 _)⟩
    generalize w12.alloc (.cells #[.int .i64 e0, .int .u16 e1, .int .u16 e2, .int .i64 e3, .int .i64 e4, .int .i64 e5, .bool e6, .int .i64 e7, .int .i64 e8, .int .i64 e9, .int .i64 e10, .int .u32 e11, .int .u32 e12, .int .i64 e13, .bool e14] 43) = w13 at *
    generalize w12.heap.size = p7 at *
    generalize pgE ⟨20, 20 + (q : Int), 64, pr, s, d⟩ zs = pe at *
    clear HP12 HB12
    have t1 : (pe == pe) = true := by simp
    have rx0 : ∀ W, SP w p5 p7 #[.int .i64 e0, .int .u16 e1, .int .u16 e2, .int .i64 e3, .int .i64 e4, .int .i64 e5, .bool e6, .int .i64 e7, .int .i64 e8, .int .i64 e9, .int .i64 e10, .int .u32 e11, .int .u32 e12, .int .i64 e13, .bool e14] W → W.cell? ⟨p5, 0, none⟩ = some (.int .i64 e0) := fun W h => h.b5.cell 0
    have rx1 : ∀ W, SP w p5 p7 #[.int .i64 e0, .int .u16 e1, .int .u16 e2, .int .i64 e3, .int .i64 e4, .int .i64 e5, .bool e6, .int .i64 e7, .int .i64 e8, .int .i64 e9, .int .i64 e10, .int .u32 e11, .int .u32 e12, .int .i64 e13, .bool e14] W → W.cell? ⟨p5, 1, none⟩ = some (.int .u16 e1) := fun W h => h.b5.cell 1
    have rx2 : ∀ W, SP w p5 p7 #[.int .i64 e0, .int .u16 e1, .int .u16 e2, .int .i64 e3, .int .i64 e4, .int .i64 e5, .bool e6, .int .i64 e7, .int .i64 e8, .int .i64 e9, .int .i64 e10, .int .u32 e11, .int .u32 e12, .int .i64 e13, .bool e14] W → W.cell? ⟨p5, 2, none⟩ = some (.int .u16 e2) := fun W h => h.b5.cell 2
    have rx3 : ∀ W, SP w p5 p7 #[.int .i64 e0, .int .u16 e1, .int .u16 e2, .int .i64 e3, .int .i64 e4, .int .i64 e5, .bool e6, .int .i64 e7, .int .i64 e8, .int .i64 e9, .int .i64 e10, .int .u32 e11, .int .u32 e12, .int .i64 e13, .bool e14] W → W.cell? ⟨p5, 3, none⟩ = some (.int .i64 e3) := fun W h => h.b5.cell 3
    have rx4 : ∀ W, SP w p5 p7 #[.int .i64 e0, .int .u16 e1, .int .u16 e2, .int .i64 e3, .int .i64 e4, .int .i64 e5, .bool e6, .int .i64 e7, .int .i64 e8, .int .i64 e9, .int .i64 e10, .int .u32 e11, .int .u32 e12, .int .i64 e13, .bool e14] W → W.cell? ⟨p5, 4, none⟩ = some (.int .i64 e4) := fun W h => h.b5.cell 4
    have rx5 : ∀ W, SP w p5 p7 #[.int .i64 e0, .int .u16 e1, .int .u16 e2, .int .i64 e3, .int .i64 e4, .int .i64 e5, .bool e6, .int .i64 e7, .int .i64 e8, .int .i64 e9, .int .i64 e10, .int .u32 e11, .int .u32 e12, .int .i64 e13, .bool e14] W → W.cell? ⟨p5, 5, none⟩ = some (.int .i64 e5) := fun W h => h.b5.cell 5
    have rx6 : ∀ W, SP w p5 p7 #[.int .i64 e0, .int .u16 e1, .int .u16 e2, .int .i64 e3, .int .i64 e4, .int .i64 e5, .bool e6, .int .i64 e7, .int .i64 e8, .int .i64 e9, .int .i64 e10, .int .u32 e11, .int .u32 e12, .int .i64 e13, .bool e14] W → W.cell? ⟨p5, 6, none⟩ = some (.bool e6) := fun W h => h.b5.cell 6
    have rx7 : ∀ W, SP w p5 p7 #[.int .i64 e0, .int .u16 e1, .int .u16 e2, .int .i64 e3, .int .i64 e4, .int .i64 e5, .bool e6, .int .i64 e7, .int .i64 e8, .int .i64 e9, .int .i64 e10, .int .u32 e11, .int .u32 e12, .int .i64 e13, .bool e14] W → W.cell? ⟨p5, 7, none⟩ = some (.int .i64 e7) := fun W h => h.b5.cell 7
    have rx8 : ∀ W, SP w p5 p7 #[.int .i64 e0, .int .u16 e1, .int .u16 e2, .int .i64 e3, .int .i64 e4, .int .i64 e5, .bool e6, .int .i64 e7, .int .i64 e8, .int .i64 e9, .int .i64 e10, .int .u32 e11, .int .u32 e12, .int .i64 e13, .bool e14] W → W.cell? ⟨p5, 8, none⟩ = some (.int .i64 e8) := fun W h => h.b5.cell 8
    have rx9 : ∀ W, SP w p5 p7 #[.int .i64 e0, .int .u16 e1, .int .u16 e2, .int .i64 e3, .int .i64 e4, .int .i64 e5, .bool e6, .int .i64 e7, .int .i64 e8, .int .i64 e9, .int .i64 e10, .int .u32 e11, .int .u32 e12, .int .i64 e13, .bool e14] W → W.cell? ⟨p5, 9, none⟩ = some (.int .i64 e9) := fun W h => h.b5.cell 9
    have rx10 : ∀ W, SP w p5 p7 #[.int .i64 e0, .int .u16 e1, .int .u16 e2, .int .i64 e3, .int .i64 e4, .int .i64 e5, .bool e6, .int .i64 e7, .int .i64 e8, .int .i64 e9, .int .i64 e10, .int .u32 e11, .int .u32 e12, .int .i64 e13, .bool e14] W → W.cell? ⟨p5, 10, none⟩ = some (.int .i64 e10) := fun W h => h.b5.cell 10
    have rx11 : ∀ W, SP w p5 p7 #[.int .i64 e0, .int .u16 e1, .int .u16 e2, .int .i64 e3, .int .i64 e4, .int .i64 e5, .bool e6, .int .i64 e7, .int .i64 e8, .int .i64 e9, .int .i64 e10, .int .u32 e11, .int .u32 e12, .int .i64 e13, .bool e14] W → W.cell? ⟨p5, 11, none⟩ = some (.int .u32 e11) := fun W h => h.b5.cell 11
    have rx12 : ∀ W, SP w p5 p7 #[.int .i64 e0, .int .u16 e1, .int .u16 e2, .int .i64 e3, .int .i64 e4, .int .i64 e5, .bool e6, .int .i64 e7, .int .i64 e8, .int .i64 e9, .int .i64 e10, .int .u32 e11, .int .u32 e12, .int .i64 e13, .bool e14] W → W.cell? ⟨p5, 12, none⟩ = some (.int .u32 e12) := fun W h => h.b5.cell 12
    have rx13 : ∀ W, SP w p5 p7 #[.int .i64 e0, .int .u16 e1, .int .u16 e2, .int .i64 e3, .int .i64 e4, .int .i64 e5, .bool e6, .int .i64 e7, .int .i64 e8, .int .i64 e9, .int .i64 e10, .int .u32 e11, .int .u32 e12, .int .i64 e13, .bool e14] W → W.cell? ⟨p5, 13, none⟩ = some (.int .i64 e13) := fun W h => h.b5.cell 13
    have rx14 : ∀ W, SP w p5 p7 #[.int .i64 e0, .int .u16 e1, .int .u16 e2, .int .i64 e3, .int .i64 e4, .int .i64 e5, .bool e6, .int .i64 e7, .int .i64 e8, .int .i64 e9, .int .i64 e10, .int .u32 e11, .int .u32 e12, .int .i64 e13, .bool e14] W → W.cell? ⟨p5, 14, none⟩ = some (.bool e14) := fun W h => h.b5.cell 14
    have sx0 : ∀ W, SP w p5 p7 #[.int .i64 e0, .int .u16 e1, .int .u16 e2, .int .i64 e3, .int .i64 e4, .int .i64 e5, .bool e6, .int .i64 e7, .int .i64 e8, .int .i64 e9, .int .i64 e10, .int .u32 e11, .int .u32 e12, .int .i64 e13, .bool e14] W → W.cell? ⟨p7, 0, none⟩ = some (.int .i64 e0) := fun W h => h.b7.cell 0
    have sx1 : ∀ W, SP w p5 p7 #[.int .i64 e0, .int .u16 e1, .int .u16 e2, .int .i64 e3, .int .i64 e4, .int .i64 e5, .bool e6, .int .i64 e7, .int .i64 e8, .int .i64 e9, .int .i64 e10, .int .u32 e11, .int .u32 e12, .int .i64 e13, .bool e14] W → W.cell? ⟨p7, 1, none⟩ = some (.int .u16 e1) := fun W h => h.b7.cell 1
    have sx2 : ∀ W, SP w p5 p7 #[.int .i64 e0, .int .u16 e1, .int .u16 e2, .int .i64 e3, .int .i64 e4, .int .i64 e5, .bool e6, .int .i64 e7, .int .i64 e8, .int .i64 e9, .int .i64 e10, .int .u32 e11, .int .u32 e12, .int .i64 e13, .bool e14] W → W.cell? ⟨p7, 2, none⟩ = some (.int .u16 e2) := fun W h => h.b7.cell 2
    have sx3 : ∀ W, SP w p5 p7 #[.int .i64 e0, .int .u16 e1, .int .u16 e2, .int .i64 e3, .int .i64 e4, .int .i64 e5, .bool e6, .int .i64 e7, .int .i64 e8, .int .i64 e9, .int .i64 e10, .int .u32 e11, .int .u32 e12, .int .i64 e13, .bool e14] W → W.cell? ⟨p7, 3, none⟩ = some (.int .i64 e3) := fun W h => h.b7.cell 3
    have sx4 : ∀ W, SP w p5 p7 #[.int .i64 e0, .int .u16 e1, .int .u16 e2, .int .i64 e3, .int .i64 e4, .int .i64 e5, .bool e6, .int .i64 e7, .int .i64 e8, .int .i64 e9, .int .i64 e10, .int .u32 e11, .int .u32 e12, .int .i64 e13, .bool e14] W → W.cell? ⟨p7, 4, none⟩ = some (.int .i64 e4) := fun W h => h.b7.cell 4
    have sx5 : ∀ W, SP w p5 p7 #[.int .i64 e0, .int .u16 e1, .int .u16 e2, .int .i64 e3, .int .i64 e4, .int .i64 e5, .bool e6, .int .i64 e7, .int .i64 e8, .int .i64 e9, .int .i64 e10, .int .u32 e11, .int .u32 e12, .int .i64 e13, .bool e14] W → W.cell? ⟨p7, 5, none⟩ = some (.int .i64 e5) := fun W h => h.b7.cell 5
    have sx6 : ∀ W, SP w p5 p7 #[.int .i64 e0, .int .u16 e1, .int .u16 e2, .int .i64 e3, .int .i64 e4, .int .i64 e5, .bool e6, .int .i64 e7, .int .i64 e8, .int .i64 e9, .int .i64 e10, .int .u32 e11, .int .u32 e12, .int .i64 e13, .bool e14] W → W.cell? ⟨p7, 6, none⟩ = some (.bool e6) := fun W h => h.b7.cell 6
    have sx7 : ∀ W, SP w p5 p7 #[.int .i64 e0, .int .u16 e1, .int .u16 e2, .int .i64 e3, .int .i64 e4, .int .i64 e5, .bool e6, .int .i64 e7, .int .i64 e8, .int .i64 e9, .int .i64 e10, .int .u32 e11, .int .u32 e12, .int .i64 e13, .bool e14] W → W.cell? ⟨p7, 7, none⟩ = some (.int .i64 e7) := fun W h => h.b7.cell 7
    have sx8 : ∀ W, SP w p5 p7 #[.int .i64 e0, .int .u16 e1, .int .u16 e2, .int .i64 e3, .int .i64 e4, .int .i64 e5, .bool e6, .int .i64 e7, .int .i64 e8, .int .i64 e9, .int .i64 e10, .int .u32 e11, .int .u32 e12, .int .i64 e13, .bool e14] W → W.cell? ⟨p7, 8, none⟩ = some (.int .i64 e8) := fun W h => h.b7.cell 8
    have sx9 : ∀ W, SP w p5 p7 #[.int .i64 e0, .int .u16 e1, .int .u16 e2, .int .i64 e3, .int .i64 e4, .int .i64 e5, .bool e6, .int .i64 e7, .int .i64 e8, .int .i64 e9, .int .i64 e10, .int .u32 e11, .int .u32 e12, .int .i64 e13, .bool e14] W → W.cell? ⟨p7, 9, none⟩ = some (.int .i64 e9) := fun W h => h.b7.cell 9
    have sx10 : ∀ W, SP w p5 p7 #[.int .i64 e0, .int .u16 e1, .int .u16 e2, .int .i64 e3, .int .i64 e4, .int .i64 e5, .bool e6, .int .i64 e7, .int .i64 e8, .int .i64 e9, .int .i64 e10, .int .u32 e11, .int .u32 e12, .int .i64 e13, .bool e14] W → W.cell? ⟨p7, 10, none⟩ = some (.int .i64 e10) := fun W h => h.b7.cell 10
    have sx11 : ∀ W, SP w p5 p7 #[.int .i64 e0, .int .u16 e1, .int .u16 e2, .int .i64 e3, .int .i64 e4, .int .i64 e5, .bool e6, .int .i64 e7, .int .i64 e8, .int .i64 e9, .int .i64 e10, .int .u32 e11, .int .u32 e12, .int .i64 e13, .bool e14] W → W.cell? ⟨p7, 11, none⟩ = some (.int .u32 e11) := fun W h => h.b7.cell 11
    have sx12 : ∀ W, SP w p5 p7 #[.int .i64 e0, .int .u16 e1, .int .u16 e2, .int .i64 e3, .int .i64 e4, .int .i64 e5, .bool e6, .int .i64 e7, .int .i64 e8, .int .i64 e9, .int .i64 e10, .int .u32 e11, .int .u32 e12, .int .i64 e13, .bool e14] W → W.cell? ⟨p7, 12, none⟩ = some (.int .u32 e12) := fun W h => h.b7.cell 12
    have sx13 : ∀ W, SP w p5 p7 #[.int .i64 e0, .int .u16 e1, .int .u16 e2, .int .i64 e3, .int .i64 e4, .int .i64 e5, .bool e6, .int .i64 e7, .int .i64 e8, .int .i64 e9, .int .i64 e10, .int .u32 e11, .int .u32 e12, .int .i64 e13, .bool e14] W → W.cell? ⟨p7, 13, none⟩ = some (.int .i64 e13) := fun W h => h.b7.cell 13
    have sx14 : ∀ W, SP w p5 p7 #[.int .i64 e0, .int .u16 e1, .int .u16 e2, .int .i64 e3, .int .i64 e4, .int .i64 e5, .bool e6, .int .i64 e7, .int .i64 e8, .int .i64 e9, .int .i64 e10, .int .u32 e11, .int .u32 e12, .int .i64 e13, .bool e14] W → W.cell? ⟨p7, 14, none⟩ = some (.bool e14) := fun W h => h.b7.cell 14
    go_region_held3 (fun W => SP w p5 p7 #[.int .i64 e0, .int .u16 e1, .int .u16 e2, .int .i64 e3, .int .i64 e4, .int .i64 e5, .bool e6, .int .i64 e7, .int .i64 e8, .int .i64 e9, .int .i64 e10, .int .u32 e11, .int .u32 e12, .int .i64 e13, .bool e14] W)
      (first | (with_reducible exact HS.drew) | (with_reducible exact SP.below (by assumption) (by assumption)) | (with_reducible exact SP.redrewN (by assumption) _) | (with_reducible assumption))
      (first
        | (go_at_call 22; refine (parts_any _).mono ?_; rintro e w' ⟨rfl, hb⟩)
        | (go_at_call 23; refine (pfrom_any e0 e1 e2 e3 e4 e5 e6 e7 e8 e9 e10 e11 e12 e13 e14 _).mono ?_; rintro e w' ⟨rfl, hb⟩))
    go_wp2
    go_ret
    exact ⟨rfl, SP.bel (by assumption)⟩
end Go.Proofs.Ytgoenjoojejghaa
