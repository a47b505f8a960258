/-
  RewriteRaw: of all bytes whatever what can't be got is told so, and what can is got again. Conditions stand in each theorem.
-/
import Derived.Test.YtdkjipfemnfckaaRwX
import Derived.Test.YtdkjipfemnfckaaRwT
import Derived.Test.YtdkjipfemnfckaaGN
namespace Go.Proofs.Ytdkjipfemnfckaa
open Go.RowKit Plain
set_option linter.unusedVariables false
set_option maxRecDepth 100000
theorem xor_b (x y : Int) (h0 : 0 ≤ x) (h1 : x ≤ 255) (g0 : 0 ≤ y) (g1 : y ≤ 255) : 0 ≤ bits .xor .u8 x y ∧ bits .xor .u8 x y ≤ 255 := by
  obtain ⟨a, rfl⟩ := Int.eq_ofNat_of_zero_le h0
  obtain ⟨b, rfl⟩ := Int.eq_ofNat_of_zero_le g0
  rw [u8_xor_nat a b (by omega) (by omega)]
  have := Nat.xor_lt_two_pow (x := a) (y := b) (n := 8) (by omega) (by omega)
  omega
set_option maxHeartbeats 16000000 in
theorem rewriteRaw_walk (x : Sn) (b0 b1 : Int) (RA : Option Addr) (rn rc : Nat) (rs : List Int) (w : World) (ok : x.ok w) (hrl : rs.length = rn) (hrc : rn ≤ rc) (hrm : rc ≤ maxLen) (hRR : Rd w RA rs) :
    Calls Try.prog 5 #[x.val, .agg #[.int .i64 b0, .int .i64 b1], .slice RA rn rc] w fun e w' => e = .returned (.bool true) ∧ Below w.heap.size w w' := by
  obtain ⟨K, hK, hK7⟩ := pickN x.what 7 (by omega) (by omega)
  obtain ⟨m, sf⟩ := sent_facts x K (by omega) w ok
  have hfa : ∀ W, x.ok W → Calls Try.prog 10 #[x.val] W (FrameOk x K W) := fun W h => frame_any x K (by omega) W h hK
  have hm1 := sf.m1
  have hlen := sf.len
  have hml := sf.ml
  obtain ⟨what, s, d, f, t, fl, B, n, c, ys⟩ := x
  rw [show (Sn.mk what s d f t fl B n c ys).val = .agg #[.int .i64 what, .int .u32 s, .int .u32 d, .int .u16 f, .int .u16 t, .int .i64 fl, .slice B n c] from rfl] at *
  simp only at hml
  generalize hz : frL ⟨what, s, d, f, t, fl, B, n, c, ys⟩ K = zs at *
  have HFA := Lib.hid hfa
  have HOK := Lib.hid ok
  have HLN := Lib.hid hlen
  have HML := Lib.hid hml
  have HZ := Lib.hid hz
  have HRL := Lib.hid hrl
  have HRR := Lib.hid hRR
  unfold maxLen at hrm
  clear hfa ok hlen hml hz sf hK hK7 hrl hRR
  go_enter Try.func5, Try.ntmps5
  go_upto_region 1 with fail
  have HB1 := Lib.hid (bthen (ball w (.cells #[.int .i64 what, .int .u32 s, .int .u32 d, .int .u16 f, .int .u16 t, .int .i64 fl, .slice B n c] 26)) (ball _ (.cells #[.int .i64 b0, .int .i64 b1] 44)))
  have HK1 := Lib.hid ((Blk.new w 26 #[.int .i64 what, .int .u32 s, .int .u32 d, .int .u16 f, .int .u16 t, .int .i64 fl, .slice B n c]).alloc (.cells #[.int .i64 b0, .int .i64 b1] 44))
  have HA1 := Lib.hid (Blk.new (w.alloc (.cells #[.int .i64 what, .int .u32 s, .int .u32 d, .int .u16 f, .int .u16 t, .int .i64 fl, .slice B n c] 26)) 44 #[.int .i64 b0, .int .i64 b1])
  rw [World.size_alloc] at HA1
  generalize (w.alloc (.cells #[.int .i64 what, .int .u32 s, .int .u32 d, .int .u16 f, .int .u16 t, .int .i64 fl, .slice B n c] 26)).alloc (.cells #[.int .i64 b0, .int .i64 b1] 44) = w1 at *
  obtain ⟨ga, hga⟩ : ∃ g, g = w.heap.size + 1 := ⟨_, rfl⟩
  obtain ⟨g, hg⟩ : ∃ g, g = w.heap.size := ⟨_, rfl⟩
  rw [← hga] at HA1
  rw [← hga]
  rw [← hg] at HK1
  rw [← hg]
  clear hg hga
  have hs1 := HB1.out.size
  have k0 : w1.cell? ⟨g, 0, none⟩ = some (.int .i64 what) := HK1.out.cell 0
  have k1 : w1.cell? ⟨g, 1, none⟩ = some (.int .u32 s) := HK1.out.cell 1
  have k2 : w1.cell? ⟨g, 2, none⟩ = some (.int .u32 d) := HK1.out.cell 2
  have k3 : w1.cell? ⟨g, 3, none⟩ = some (.int .u16 f) := HK1.out.cell 3
  have k4 : w1.cell? ⟨g, 4, none⟩ = some (.int .u16 t) := HK1.out.cell 4
  have k5 : w1.cell? ⟨g, 5, none⟩ = some (.int .i64 fl) := HK1.out.cell 5
  have k6 : w1.cell? ⟨g, 6, none⟩ = some (.slice B n c) := HK1.out.cell 6
  go_wp2_with fail
  clear k0 k1 k2 k3 k4 k5 k6
  refine (HFA.out _ (HOK.out.below HB1.out)).mono ?_
  rintro e w2 ⟨g2, m2, cc, rfl, hm2, _, ho2, hb2⟩
  obtain rfl : m2 = m := by rw [hm2]; exact HML.out
  rw [HZ.out] at ho2
  have HB2 := Lib.hid (bthen HB1.out hb2)
  have HO2 := Lib.hid (ho2.mono hs1)
  have HA2 := Lib.hid (HA1.out.below hb2)
  have hs2 := HB2.out.size
  have hcc := ho2.cap
  have HCM := Lib.hid (own_max ho2)
  have hg2 : w.heap.size ≤ g2 := by
    obtain ⟨q, hq, hq2⟩ := own_some HO2.out (by omega)
    injection hq with hq
    injection hq with hq
    omega
  have hne : g2 ≠ ga := by
    have h1 : w1.heap.size ≤ g2 := by
      obtain ⟨q, hq, hq2⟩ := own_some ho2 (by omega)
      injection hq with hq
      injection hq with hq
      omega
    have := HA1.out.lt
    omega
  clear hm2 ho2 hb2 HB1 HK1 HA1 hs1 HFA HML HZ HOK
  have j0 : w2.cell? ⟨ga, 0, none⟩ = some (.int .i64 b0) := HA2.out.cell 0
  have j1 : w2.cell? ⟨ga, 1, none⟩ = some (.int .i64 b1) := HA2.out.cell 1
  obtain ⟨J, hJ, hJl⟩ := pickN b0 (20 + (m2 : Int)) (by omega) (by omega)
  have hJ2 : J < 20 + m2 := by omega
  have hc := HO2.out.at (k := J) hJ2
  have hf := HO2.out.free J
  have bx := HO2.out.byt.getD J
  generalize zs.getD J 0 = x0 at *
  have hJ' : IntKind.i64.wrap ((IntKind.u64.wrap b0).tmod (20 + (m2 : Int))) = (J : Int) := by rw [← hJ]; exact (fun y : Int => (show IntKind.i64.wrap y = wrap64 y by rw [IntKind.wrap_i64]; unfold wrap64; omega)) _
  have i0 : (0 : Int) ≤ (J : Int) := by omega
  go_upto_region 2 with fail
  go_region
  have ht := xor_b x0 (b1 % 256) bx.1 bx.2 (by omega) (by omega)
  obtain ⟨y0, hy⟩ : ∃ y, y = bits .xor .u8 x0 (b1 % 256) := ⟨_, rfl⟩
  rw [← hy] at ht
  rw [← hy]
  clear hy hc hf j0 j1
  obtain ⟨w3, hw3⟩ : ∃ w3, w3 = (w2.setCell ⟨g2, J, none⟩ (.int .u8 y0)).drew := ⟨_, rfl⟩
  rw [← hw3]
  obtain ⟨us, hus⟩ : ∃ us, us = zs.set J y0 := ⟨_, rfl⟩
  have HQ3 := Lib.hid (show Rd w3 (some ⟨g2, 0, none⟩) us by rw [hw3, hus]; exact ((HO2.out.set J y0 ht.1 ht.2).drewN 1).rd)
  have HB3 := Lib.hid (show Below w.heap.size w w3 by rw [hw3]; exact (HB2.out.setCell (p := ⟨g2, J, none⟩) hg2 _).drew)
  have HUL := Lib.hid (show us.length = 20 + m2 by rw [hus, List.length_set]; exact HLN.out)
  clear hw3 hus HO2 HB2 HA2 hs2 ht bx hJ hJ' hJl hJ2 i0 hg2 hne HLN
  go_wp2
  go_loopw [8] (fun s8 wt => ∃ i : Nat, s8 = .int .i64 i ∧ i ≤ 2 ∧ Below w.heap.size w wt ∧ Rd wt (some ⟨g2, 0, none⟩) us) (fun i _ => 2 - (intOf i).toNat)
  case atStart => exact ⟨0, rfl, by omega, HB3.out, HQ3.out⟩
  case round =>
    obtain ⟨i, rfl, hi, hb, hq⟩ := hrel
    have HB4 := Lib.hid hb
    have HQ4 := Lib.hid hq
    clear hb hq HB3 HQ3
    by_cases hlt : i < 2
    · have di1 : decide ((i : Int) < 2) = true := decide_eq_true (by omega)
      obtain ⟨bi, hbi⟩ : ∃ b, ((i : Int) == 1) = b := ⟨_, rfl⟩
      go_upto_if 40 with fail
      clear di1
      go_cut [9] (fun s9 wx => ∃ (X : Option Addr) (nx cx : Nat) (xs : List Int), s9 = .slice X nx cx ∧ xs.length = nx ∧ nx ≤ cx ∧ nx ≤ 120 ∧ cx ≤ 9223372036854775807 ∧ Rd wx X xs ∧ wx = wr)
      case first =>
        cases bi with
        | false =>
          go_wp2
          go_meet
          exact ⟨_, _, _, us, rfl, HUL.out, hcc, by omega, HCM.out, HQ4.out, rfl⟩
        | true =>
          have hRw := Lib.hid (HRR.out.keep fun b o hl => HB4.out.cell (p := ⟨b, o, none⟩) hl)
          by_cases h100 : rn ≤ 100
          · have i1 : (rn : Int) ≤ 100 := by omega
            have i2 : (rn : Int) ≤ (rc : Int) := by omega
            go_wp2
            go_meet
            exact ⟨_, _, _, rs, rfl, HRL.out, hrc, by omega, by omega, hRw.out, rfl⟩
          · have i1 : (100 : Int) < (rn : Int) := by omega
            have i2 : (100 : Int) ≤ (rc : Int) := by omega
            have i3 : 100 ≤ rc := by omega
            go_wp2
            go_meet
            exact ⟨_, _, _, rs.take 100, rfl, by rw [List.length_take, HRL.out]; omega, i3, by omega, by omega, hRw.out.take 100, rfl⟩
      case rest =>
        obtain ⟨X, nx, cx, xs, rfl, hxl, hcx, hnx, hcm, hR, rfl⟩ := hcut
        have HXL := Lib.hid hxl
        have HR4 := Lib.hid hR
        have hxb := hR.1
        clear hxl hR hbi
        have hG := refGet_any X nx cx xs _ HXL.out hcx (by omega) HR4.out
        obtain ⟨e0, he0⟩ : ∃ e, gtE xs = e := ⟨_, rfl⟩
        obtain ⟨h, hh⟩ : ∃ h, gtH xs = h := ⟨_, rfl⟩
        rw [he0, hh] at hG
        obtain ⟨h0, h1, h2, h3, h4, h5⟩ := h
        rw [show (Hd.mk h0 h1 h2 h3 h4 h5).val = .agg #[.int .i64 h0, .int .i64 h1, .int .i64 h2, .int .i64 h3, .int .u32 h4, .int .u32 h5] from rfl] at hG
        have HG := Lib.hid hG
        have HE0 := Lib.hid he0
        have HH := Lib.hid hh
        have HXB := Lib.hid hxb
        clear hG he0 hh hxb
        go_wp2_with fail
        refine (HG.out).mono ?_
        rintro e w5 ⟨rfl, hb5⟩
        have HB5 := Lib.hid (bthen HB4.out hb5)
        have HQ5 := Lib.hid (HQ4.out.below hb5)
        have HR5 := Lib.hid (HR4.out.below hb5)
        clear hb5 HB4 HQ4 HR4 HG
        go_upto_region 10 with fail
        have KA := Lib.hid (Blk.new w5 35 #[.int .i64 h0, .int .i64 h1, .int .i64 h2, .int .i64 h3, .int .u32 h4, .int .u32 h5])
        have HB6 := Lib.hid (bthen HB5.out (ball w5 (.cells #[.int .i64 h0, .int .i64 h1, .int .i64 h2, .int .i64 h3, .int .u32 h4, .int .u32 h5] 35)))
        have HQ6 := Lib.hid (HQ5.out.alloc (.cells #[.int .i64 h0, .int .i64 h1, .int .i64 h2, .int .i64 h3, .int .u32 h4, .int .u32 h5] 35))
        have HR6 := Lib.hid (HR5.out.alloc (.cells #[.int .i64 h0, .int .i64 h1, .int .i64 h2, .int .i64 h3, .int .u32 h4, .int .u32 h5] 35))
        clear HB5 HQ5 HR5
        generalize w5.alloc (.cells #[.int .i64 h0, .int .i64 h1, .int .i64 h2, .int .i64 h3, .int .u32 h4, .int .u32 h5] 35) = w6 at *
        generalize w5.heap.size = g5 at *
        by_cases hz0 : e0 = 0
        · subst hz0
          have hgot := got_of xs HXB.out HE0.out
          have hfh : fld xs = ⟨h0, h1, h2, h3, h4, h5⟩ := by rw [← hgot.hd]; exact HH.out
          have hrg := fld_range HXB.out
          rw [hfh] at hrg
          have hPG := rget_any h0 h1 h2 h3 h4 h5 X nx cx xs w6 HXL.out hcx (by omega) HR6.out hrg.2.2.1.1 hrg.2.2.1.2 hrg.2.2.2.1.1 hrg.2.2.2.1.2
          obtain ⟨e1, he1⟩ : ∃ e, pgE ⟨h0, h1, h2, h3, h4, h5⟩ xs = e := ⟨_, rfl⟩
          rw [he1] at hPG
          obtain ⟨p0, p1, p2, p3, p4, p5, p6, p7, p8, p9, p10, p11, p12, p13, p14, hev⟩ := Pt.mk_val (pgP ⟨h0, h1, h2, h3, h4, h5⟩ xs)
          rw [hev] at hPG
          have hrw : rwE xs = e1 := by unfold rwE; rw [if_neg (by rw [HE0.out]; simp), hfh]; exact he1
          have HPG := Lib.hid hPG
          have HRW := Lib.hid hrw
          have HGOT := Lib.hid hgot
          have HFH := Lib.hid hfh
          have HE1 := Lib.hid he1
          clear hPG hrw hgot hfh he1 hev hrg
          go_wp2_with (first | ((with_reducible refine gd_ld 35 10 ?_); refine wpList_ld rfl 35 (.tmp 10) rfl _ rfl (KA.out) sRHead ?_) | fail)
          refine (HPG.out).mono ?_
          rintro e w7 ⟨rfl, hb7⟩
          have HB7 := Lib.hid (bthen HB6.out hb7)
          have HQ7 := Lib.hid (HQ6.out.below hb7)
          have HR7 := Lib.hid (HR6.out.below hb7)
          clear hb7 HB6 HQ6 HR6 HPG KA
          by_cases hz1 : e1 = 0
          · subst hz1
            obtain ⟨N, hN⟩ : ∃ N, (fld xs).len.toNat = N := ⟨_, rfl⟩
            have hNx : N ≤ nx := by have := HGOT.out.ln; have := HXL.out; omega
            have HN := Lib.hid hN
            clear hN
            have HS0 := Lib.hid (same_rw xs HXB.out HGOT.out (by rw [HFH.out]; exact HE1.out) 0 (by omega) 3221225985 7 (by omega) (by omega) (by omega) (by omega))
            have HS1 := Lib.hid (same_rw xs HXB.out HGOT.out (by rw [HFH.out]; exact HE1.out) 1 (by omega) 167772169 8 (by omega) (by omega) (by omega) (by omega))
            go_wp2_with fail
            refine (out_ok 3221225985 7 X nx cx N xs w7 HXL.out hcx (by omega) HR7.out (by omega) (by omega) (by omega) (by omega) HRW.out HN.out).mono ?_
            rintro e w8 ⟨g8, rfl, ho8, hb8⟩
            have HB8 := Lib.hid (bthen HB7.out hb8)
            have HQ8 := Lib.hid (HQ7.out.below hb8)
            have HR8 := Lib.hid (HR7.out.below hb8)
            have HO8 := Lib.hid ho8
            clear hb8 ho8 HB7 HQ7 HR7
            go_wp2_with fail
            refine (in_ok 167772169 8 X nx cx N xs w8 HXL.out hcx (by omega) HR8.out (by omega) (by omega) (by omega) (by omega) HRW.out HN.out).mono ?_
            rintro e w9 ⟨g9, rfl, ho9, hb9⟩
            have HB9 := Lib.hid (bthen HB8.out hb9)
            have HQ9 := Lib.hid (HQ8.out.below hb9)
            have HR9 := Lib.hid (HR8.out.below hb9)
            have HY9 := Lib.hid (HO8.out.rd.below hb9)
            have HYL := Lib.hid HO8.out.len
            have HX9 := Lib.hid ho9.rd
            have HZL := Lib.hid ho9.len
            clear hb9 ho9 HB8 HQ8 HR8 HO8
            go_wp2_with fail
            refine (sameOut_any 3221225985 7 _ _ nx cx N N xs _ w9 HXL.out HYL.out hcx (Nat.le_refl _) (by omega) hcm (by omega) HR9.out HY9.out (by omega) (by omega) HS0.out).mono ?_
            rintro e w10 ⟨rfl, hb10⟩
            have HB10 := Lib.hid (bthen HB9.out hb10)
            have HQ10 := Lib.hid (HQ9.out.below hb10)
            have HR10 := Lib.hid (HR9.out.below hb10)
            have HX10 := Lib.hid (HX9.out.below hb10)
            clear hb10 HB9 HQ9 HR9 HY9 HX9
            go_wp2_with fail
            refine (sameIn_any 167772169 8 _ _ nx cx N N xs _ w10 HXL.out HZL.out hcx (Nat.le_refl _) (by omega) hcm (by omega) HR10.out HX10.out (by omega) (by omega) HS1.out).mono ?_
            rintro e w11 ⟨rfl, hb11⟩
            have HB11 := Lib.hid (bthen HB10.out hb11)
            have HQ11 := Lib.hid (HQ10.out.below hb11)
            clear hb11 HB10 HQ10 HR10 HX10
            go_wp2
            go_roundw
            case rel => exact ⟨i + 1, by go_num, by omega, HB11.out, HQ11.out⟩
            case measure => simp [intOf]; omega
          · have H0 := Lib.hid hz1
            clear hz1
            go_wp2_with fail
            refine (out_bad 3221225985 7 X nx cx xs w7 HXL.out hcx (by omega) HR7.out (by omega) (by omega) (by omega) (by omega) e1 (HRW.out) H0.out).mono ?_
            rintro e q1 ⟨rfl, hbq⟩
            have HBa := Lib.hid (bthen HB7.out hbq)
            have HRa := Lib.hid (HR7.out.below hbq)
            have HQa := Lib.hid (HQ7.out.below hbq)
            clear hbq HB7 HR7 HQ7
            go_wp2_with fail
            refine (in_bad 167772169 8 X nx cx xs q1 HXL.out hcx (by omega) HRa.out (by omega) (by omega) (by omega) (by omega) e1 (HRW.out) H0.out).mono ?_
            rintro e q2 ⟨rfl, hbq⟩
            have HBb := Lib.hid (bthen HBa.out hbq)
            have HQb := Lib.hid (HQa.out.below hbq)
            clear hbq HBa HRa HQa
            have hne : (e1 != 0) = true := by simpa using H0.out
            have hnn : (e1 != e1) = false := by simp
            go_wp2
            go_roundw
            case rel => exact ⟨i + 1, by go_num, by omega, HBb.out, HQb.out⟩
            case measure => simp [intOf]; omega
        · have H0 := Lib.hid hz0
          have hrw : rwE xs = e0 := by unfold rwE; rw [if_pos (by rw [HE0.out]; exact hz0)]; exact HE0.out
          have HRW := Lib.hid hrw
          have bz : (e0 == 0) = false := by simpa using hz0
          clear hz0 hrw
          go_wp2_with fail
          refine (out_bad 3221225985 7 X nx cx xs w6 HXL.out hcx (by omega) HR6.out (by omega) (by omega) (by omega) (by omega) e0 (HRW.out) H0.out).mono ?_
          rintro e q1 ⟨rfl, hbq⟩
          have HBa := Lib.hid (bthen HB6.out hbq)
          have HRa := Lib.hid (HR6.out.below hbq)
          have HQa := Lib.hid (HQ6.out.below hbq)
          clear hbq HB6 HR6 HQ6
          go_wp2_with fail
          refine (in_bad 167772169 8 X nx cx xs q1 HXL.out hcx (by omega) HRa.out (by omega) (by omega) (by omega) (by omega) e0 (HRW.out) H0.out).mono ?_
          rintro e q2 ⟨rfl, hbq⟩
          have HBb := Lib.hid (bthen HBa.out hbq)
          have HQb := Lib.hid (HQa.out.below hbq)
          clear hbq HBa HRa HQa
          have hne : (e0 != 0) = true := by simpa using H0.out
          have hnn : (e0 != e0) = false := by simp
          go_wp2
          go_roundw
          case rel => exact ⟨i + 1, by go_num, by omega, HBb.out, HQb.out⟩
          case measure => simp [intOf]; omega
    · obtain rfl : i = 2 := by omega
      go_wp2_with (go_at_call 13; refine (writes_any _).mono ?_; rintro e w5 ⟨rfl, hb5⟩)
      go_ret
      exact ⟨rfl, bthen HB4.out hb5⟩
end Go.Proofs.Ytdkjipfemnfckaa
