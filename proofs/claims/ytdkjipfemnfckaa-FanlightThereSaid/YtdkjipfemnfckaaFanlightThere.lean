/-
  FanlightThere: a frame that goes out by another address and port, and the answer to it, which comes in. Conditions stand in each theorem.
-/
import Derived.Test.YtdkjipfemnfckaaThe
namespace Go.Proofs.Ytdkjipfemnfckaa
open Go.RowKit Plain
set_option linter.unusedVariables false
set_option linter.unusedSimpArgs false
set_option maxRecDepth 100000
theorem pick7k (K : Nat) (hK : K < 7) : wrap64 ((IntKind.u64.wrap (K : Int)).tmod 7) = (K : Int) := by
  have h1 : IntKind.u64.wrap (K : Int) = (K : Int) := by rw [IntKind.wrap_u64]; omega
  rw [h1, Int.tmod_eq_emod_of_nonneg (by omega)]
  unfold wrap64; omega
set_option maxHeartbeats 16000000 in
theorem there_low (what s d f t fl A P : Int) (B : Option Addr) (n c K : Nat) (ys0 : List Int) (w : World) (hK2 : K < 2) (ok : (Sn.mk what s d f t fl B n c ys0).ok w) (n0 : 0 ≤ A) (n1 : A ≤ 4294967295) (q0 : 0 ≤ P) (q1 : P ≤ 65535) (hK : wrap64 ((IntKind.u64.wrap what).tmod 3) = (K : Int)) :
    Calls Try.prog 9 #[.agg #[.int .i64 what, .int .u32 s, .int .u32 d, .int .u16 f, .int .u16 t, .int .i64 fl, .slice B n c], .int .u32 A, .int .u16 P] w fun e w' => e = .returned (.bool true) ∧ Below w.heap.size w w' := by
  have ok1 : ∀ W, (Sn.mk what s d f t fl B n c ys0).ok W → (Sn.mk (K : Int) s d f t fl B n c ys0).ok W := fun W h => ⟨h.s0, h.s1, h.d0, h.d1, h.f0, h.f1, h.t0, h.t1, h.len, h.cap, h.max, h.rd⟩
  have ok2 : ∀ W, (Sn.mk what s d f t fl B n c ys0).ok W → (Sn.mk (K : Int) d A t P 18 B n c ys0).ok W := fun W h => ⟨h.d0, h.d1, n0, n1, h.t0, h.t1, q0, q1, h.len, h.cap, h.max, h.rd⟩
  obtain ⟨m, hm, t1⟩ := thB ⟨(K : Int), s, d, f, t, fl, B, n, c, ys0⟩ K (by omega) w (ok1 w ok) 0 (by omega) A P n0 n1 q0 q1 A d P t rfl rfl rfl (by rw [if_pos rfl, if_pos hK2])
  obtain ⟨mb, hmb, t2⟩ := thB ⟨(K : Int), d, A, t, P, 18, B, n, c, ys0⟩ K (by omega) w (ok2 w ok) 1 (by omega) s f ok.s0 ok.s1 ok.f0 ok.f1 d s t f rfl rfl (by rw [if_neg (by omega), if_pos hK2]) rfl
  have hfa : ∀ W, (Sn.mk (K : Int) s d f t fl B n c ys0).ok W → Calls Try.prog 10 #[.agg #[.int .i64 (K : Int), .int .u32 s, .int .u32 d, .int .u16 f, .int .u16 t, .int .i64 fl, .slice B n c]] W (FrameOk ⟨(K : Int), s, d, f, t, fl, B, n, c, ys0⟩ K W) := fun W h => frame_any ⟨(K : Int), s, d, f, t, fl, B, n, c, ys0⟩ K (by omega) W h (pick7k K (by omega))
  have hfb : ∀ W, (Sn.mk (K : Int) d A t P 18 B n c ys0).ok W → Calls Try.prog 10 #[.agg #[.int .i64 (K : Int), .int .u32 d, .int .u32 A, .int .u16 t, .int .u16 P, .int .i64 18, .slice B n c]] W (FrameOk ⟨(K : Int), d, A, t, P, 18, B, n, c, ys0⟩ K W) := fun W h => frame_any ⟨(K : Int), d, A, t, P, 18, B, n, c, ys0⟩ K (by omega) W h (pick7k K (by omega))
  have hs0 := ok.s0
  have hs1 := ok.s1
  have hd0 := ok.d0
  have hd1 := ok.d1
  have hf0 := ok.f0
  have hf1 := ok.f1
  simp only at hs0 hs1 hd0 hd1 hf0 hf1 hm hmb
  have hm1 := t1.m1
  have hm2 := t2.m1
  generalize hz : frL ⟨(K : Int), s, d, f, t, fl, B, n, c, ys0⟩ K = zs at *
  generalize hzb : frL ⟨(K : Int), d, A, t, P, 18, B, n, c, ys0⟩ K = bs at *
  have HFA := Lib.hid hfa
  have HFB := Lib.hid hfb
  have HOK := Lib.hid ok
  have HO1 := Lib.hid ok1
  have HO2 := Lib.hid ok2
  have T1 := Lib.hid t1
  have T2 := Lib.hid t2
  have HZ := Lib.hid hz
  have HZB := Lib.hid hzb
  have HM := Lib.hid hm
  have HMB := Lib.hid hmb
  have HS0 := Lib.hid hs0
  have HS1 := Lib.hid hs1
  have HD0 := Lib.hid hd0
  have HD1 := Lib.hid hd1
  have HF0 := Lib.hid hf0
  have HF1 := Lib.hid hf1
  clear hfa hfb ok ok1 ok2 t1 t2 hz hzb hm hmb hs0 hs1 hd0 hd1 hf0 hf1
  go_enter Try.func9, Try.ntmps9
  go_upto_region 1 with fail
  have HB1 := Lib.hid (ball w (.cells #[.int .i64 what, .int .u32 s, .int .u32 d, .int .u16 f, .int .u16 t, .int .i64 fl, .slice B n c] 26))
  have HK1 := Lib.hid (Blk.new w 26 #[.int .i64 what, .int .u32 s, .int .u32 d, .int .u16 f, .int .u16 t, .int .i64 fl, .slice B n c])
  generalize w.alloc (.cells #[.int .i64 what, .int .u32 s, .int .u32 d, .int .u16 f, .int .u16 t, .int .i64 fl, .slice B n c] 26) = w1 at *
  obtain ⟨g, hg⟩ : ∃ g, g = w.heap.size := ⟨_, rfl⟩
  have hgb : w.heap.size ≤ g := by omega
  rw [← hg] at HK1
  rw [← hg]
  clear hg
  have k0 : w1.cell? ⟨g, 0, none⟩ = some (.int .i64 what) := HK1.out.cell 0
  have z0 := HK1.out.frozen 0
  go_upto_region 2 with fail
  rw [hK]
  clear hK k0 z0
  have HB2 := Lib.hid (HB1.out.setCell (p := ⟨g, 0, none⟩) hgb (.int .i64 (K : Int)))
  have HK2 := Lib.hid (show Blk (w1.setCell ⟨g, 0, none⟩ (.int .i64 (K : Int))) g 26 #[.int .i64 (K : Int), .int .u32 s, .int .u32 d, .int .u16 f, .int .u16 t, .int .i64 fl, .slice B n c] from HK1.out.set 0 (.int .i64 (K : Int)))
  clear HB1 HK1
  generalize w1.setCell ⟨g, 0, none⟩ (.int .i64 (K : Int)) = w2 at *
  have hz2 := HB2.out.size
  have k0 : w2.cell? ⟨g, 0, none⟩ = some (.int .i64 (K : Int)) := HK2.out.cell 0
  have k1 : w2.cell? ⟨g, 1, none⟩ = some (.int .u32 s) := HK2.out.cell 1
  have k2 : w2.cell? ⟨g, 2, none⟩ = some (.int .u32 d) := HK2.out.cell 2
  have k3 : w2.cell? ⟨g, 3, none⟩ = some (.int .u16 f) := HK2.out.cell 3
  have k4 : w2.cell? ⟨g, 4, none⟩ = some (.int .u16 t) := HK2.out.cell 4
  have k5 : w2.cell? ⟨g, 5, none⟩ = some (.int .i64 fl) := HK2.out.cell 5
  have k6 : w2.cell? ⟨g, 6, none⟩ = some (.slice B n c) := HK2.out.cell 6
  go_wp2_with fail
  clear k0 k1 k2 k3 k4 k5 k6
  refine (HFA.out _ (HO1.out _ (HOK.out.below HB2.out))).mono ?_
  rintro e w3 ⟨g3, m2, cc, rfl, hm3, _, ho3, hb3⟩
  obtain rfl : m2 = m := by rw [hm3]; exact HM.out.symm
  rw [HZ.out] at ho3
  have HB3 := Lib.hid (bthen HB2.out hb3)
  have HR3 := Lib.hid ho3.rd
  have HK3 := Lib.hid (HK2.out.below hb3)
  have hcc := ho3.cap
  have HCM := Lib.hid (own_max ho3)
  clear hm3 ho3 hb3 HB2 HK2 hz2 HFA HM HZ
  go_wp2_with fail
  refine (out_ok A P (some ⟨g3, 0, none⟩) (20 + m2) cc (20 + m2) zs w3 T1.out.zl hcc (by omega) HR3.out n0 n1 q0 q1 T1.out.rE T1.out.N).mono ?_
  rintro e w4 ⟨g4, rfl, ho4, hb4⟩
  have HB4 := Lib.hid (bthen HB3.out hb4)
  have HR4 := Lib.hid (HR3.out.below hb4)
  have HK4 := Lib.hid (HK3.out.below hb4)
  have HY4 := Lib.hid ho4.rd
  clear ho4 hb4 HB3 HR3 HK3
  go_wp2_with fail
  refine (stands_any w4).mono ?_
  rintro e w5 ⟨rfl, hb5⟩
  have HB5 := Lib.hid (bthen HB4.out hb5)
  have HR5 := Lib.hid (HR4.out.below hb5)
  have HK5 := Lib.hid (HK4.out.below hb5)
  have HY5 := Lib.hid (HY4.out.below hb5)
  clear hb5 HB4 HR4 HK4 HY4
  go_wp2_with fail
  refine (unlikeOut_any A P _ _ (20 + m2) cc (20 + m2) (20 + m2) zs _ w5 T1.out.zl T1.out.yl hcc (Nat.le_refl _) (by omega) HCM.out (by omega) HR5.out HY5.out n0 n1 T1.out.same).mono ?_
  rintro e w6 ⟨rfl, hb6⟩
  have HB6 := Lib.hid (bthen HB5.out hb6)
  have HK6 := Lib.hid (HK5.out.below hb6)
  have HY6 := Lib.hid (HY5.out.below hb6)
  clear hb6 HB5 HR5 HK5 HY5
  have hG := get_any (some ⟨g4, 0, none⟩) (20 + m2) (20 + m2) (rwL zs 0 A P) w6 T1.out.yl (Nat.le_refl _) (by omega) HY6.out
  rw [T1.out.gE, T1.out.gH, show (Hd.mk 20 (20 + (m2 : Int)) 64 (carP K) A d).val = .agg #[.int .i64 20, .int .i64 (20 + (m2 : Int)), .int .i64 64, .int .i64 (carP K), .int .u32 A, .int .u32 d] from rfl] at hG
  have HG := Lib.hid hG
  clear hG
  go_wp2_with fail
  refine (HG.out).mono ?_
  rintro e w7 ⟨rfl, hb7⟩
  have HB7 := Lib.hid (bthen HB6.out hb7)
  have HK7 := Lib.hid (HK6.out.below hb7)
  have HY7 := Lib.hid (HY6.out.below hb7)
  clear hb7 HB6 HK6 HY6 HG
  go_upto_region 7 with fail
  have KH := Lib.hid (Blk.new w7 67 #[.int .i64 20, .int .i64 (20 + (m2 : Int)), .int .i64 64, .int .i64 (carP K), .int .u32 A, .int .u32 d])
  have HB8 := Lib.hid (bthen HB7.out (ball w7 (.cells #[.int .i64 20, .int .i64 (20 + (m2 : Int)), .int .i64 64, .int .i64 (carP K), .int .u32 A, .int .u32 d] 67)))
  have HK8 := Lib.hid (HK7.out.alloc (.cells #[.int .i64 20, .int .i64 (20 + (m2 : Int)), .int .i64 64, .int .i64 (carP K), .int .u32 A, .int .u32 d] 67))
  have HY8 := Lib.hid (HY7.out.alloc (.cells #[.int .i64 20, .int .i64 (20 + (m2 : Int)), .int .i64 64, .int .i64 (carP K), .int .u32 A, .int .u32 d] 67))
  clear HB7 HK7 HY7
  generalize w7.alloc (.cells #[.int .i64 20, .int .i64 (20 + (m2 : Int)), .int .i64 64, .int .i64 (carP K), .int .u32 A, .int .u32 d] 67) = w8 at *
  generalize w7.heap.size = gh at *
  obtain ⟨p0, p3, p4, p5, p6, p7, p8, p9, p10, p11, p12, p13, p14, hev⟩ := T1.out.pV
  have hPG := pget_any 20 (20 + (m2 : Int)) 64 (carP K) A d (some ⟨g4, 0, none⟩) (20 + m2) (20 + m2) (rwL zs 0 A P) w8 T1.out.yl (Nat.le_refl _) (by omega) HY8.out n0 n1 HD0.out HD1.out
  rw [T1.out.pE, hev] at hPG
  have HPG := Lib.hid hPG
  clear hPG hev
  go_wp2_with (first | ((with_reducible refine gd_ld 67 10 ?_); refine wpList_ld rfl 67 (.tmp 10) rfl _ rfl (KH.out) sHead ?_) | fail)
  refine (HPG.out).mono ?_
  rintro e w9 ⟨rfl, hb9⟩
  have HB9 := Lib.hid (bthen HB8.out hb9)
  have HK9 := Lib.hid (HK8.out.below hb9)
  have KH9 := Lib.hid (KH.out.below hb9)
  clear hb9 HB8 HK8 HY8 KH HPG
  go_upto_region 8 with fail
  have KP := Lib.hid (Blk.new w9 71 #[.int .i64 p0, .int .u16 P, .int .u16 t, .int .i64 p3, .int .i64 p4, .int .i64 p5, .bool p6, .int .i64 p7, .int .i64 p8, .int .i64 p9, .int .i64 p10, .int .u32 p11, .int .u32 p12, .int .i64 p13, .bool p14])
  have HB10 := Lib.hid (bthen HB9.out (ball w9 (.cells #[.int .i64 p0, .int .u16 P, .int .u16 t, .int .i64 p3, .int .i64 p4, .int .i64 p5, .bool p6, .int .i64 p7, .int .i64 p8, .int .i64 p9, .int .i64 p10, .int .u32 p11, .int .u32 p12, .int .i64 p13, .bool p14] 71)))
  have HK10 := Lib.hid (HK9.out.alloc (.cells #[.int .i64 p0, .int .u16 P, .int .u16 t, .int .i64 p3, .int .i64 p4, .int .i64 p5, .bool p6, .int .i64 p7, .int .i64 p8, .int .i64 p9, .int .i64 p10, .int .u32 p11, .int .u32 p12, .int .i64 p13, .bool p14] 71))
  have KH10 := Lib.hid (KH9.out.alloc (.cells #[.int .i64 p0, .int .u16 P, .int .u16 t, .int .i64 p3, .int .i64 p4, .int .i64 p5, .bool p6, .int .i64 p7, .int .i64 p8, .int .i64 p9, .int .i64 p10, .int .u32 p11, .int .u32 p12, .int .i64 p13, .bool p14] 71))
  clear HB9 HK9 KH9
  generalize w9.alloc (.cells #[.int .i64 p0, .int .u16 P, .int .u16 t, .int .i64 p3, .int .i64 p4, .int .i64 p5, .bool p6, .int .i64 p7, .int .i64 p8, .int .i64 p9, .int .i64 p10, .int .u32 p11, .int .u32 p12, .int .i64 p13, .bool p14] 71) = w10 at *
  generalize w9.heap.size = gp at *
  have x4 : w10.cell? ⟨gh, 4, none⟩ = some (.int .u32 A) := KH10.out.cell 4
  have x5 : w10.cell? ⟨gh, 5, none⟩ = some (.int .u32 d) := KH10.out.cell 5
  have y1 : w10.cell? ⟨gp, 1, none⟩ = some (.int .u16 P) := KP.out.cell 1
  have y2 : w10.cell? ⟨gp, 2, none⟩ = some (.int .u16 t) := KP.out.cell 2
  have k0 : w10.cell? ⟨g, 0, none⟩ = some (.int .i64 (K : Int)) := HK10.out.cell 0
  have k6 : w10.cell? ⟨g, 6, none⟩ = some (.slice B n c) := HK10.out.cell 6
  go_upto_region 11 with fail
  clear x4 x5 y1 y2 k0 k6
  have KA := Lib.hid (Blk.new w10 26 #[.int .i64 (K : Int), .int .u32 d, .int .u32 A, .int .u16 t, .int .u16 P, .int .i64 18, .slice B n c])
  have HB11 := Lib.hid (bthen HB10.out (ball w10 (.cells #[.int .i64 (K : Int), .int .u32 d, .int .u32 A, .int .u16 t, .int .u16 P, .int .i64 18, .slice B n c] 26)))
  have HK11 := Lib.hid (HK10.out.alloc (.cells #[.int .i64 (K : Int), .int .u32 d, .int .u32 A, .int .u16 t, .int .u16 P, .int .i64 18, .slice B n c] 26))
  have hga : w.heap.size ≤ w10.heap.size := HB10.out.size
  have hgne : w10.heap.size ≠ g := by have := HK10.out.lt; omega
  clear HB10 HK10 KH10 KP
  generalize w10.alloc (.cells #[.int .i64 (K : Int), .int .u32 d, .int .u32 A, .int .u16 t, .int .u16 P, .int .i64 18, .slice B n c] 26) = w11 at *
  generalize w10.heap.size = ga at *
  have k0 : w11.cell? ⟨g, 0, none⟩ = some (.int .i64 (K : Int)) := HK11.out.cell 0
  have bk : ((K : Int) == 2) = false := by simp; omega
  go_upto_region 13 with fail
  clear k0
  have HB12 := HB11
  have HK12 := HK11
  have KA12 := KA
  clear HB11 HK11 KA
  obtain ⟨w12, hw12⟩ : ∃ x, x = w11 := ⟨_, rfl⟩
  rw [← hw12] at HB12 HK12 KA12
  rw [← hw12]
  clear hw12
  have a0 : w12.cell? ⟨ga, 0, none⟩ = some (.int .i64 (K : Int)) := KA12.out.cell 0
  have a1 : w12.cell? ⟨ga, 1, none⟩ = some (.int .u32 d) := KA12.out.cell 1
  have a2 : w12.cell? ⟨ga, 2, none⟩ = some (.int .u32 A) := KA12.out.cell 2
  have a3 : w12.cell? ⟨ga, 3, none⟩ = some (.int .u16 t) := KA12.out.cell 3
  have a4 : w12.cell? ⟨ga, 4, none⟩ = some (.int .u16 P) := KA12.out.cell 4
  have a5 : w12.cell? ⟨ga, 5, none⟩ = some (.int .i64 18) := KA12.out.cell 5
  have a6 : w12.cell? ⟨ga, 6, none⟩ = some (.slice B n c) := KA12.out.cell 6
  go_wp2_with fail
  clear a0 a1 a2 a3 a4 a5 a6
  refine (HFB.out _ (HO2.out _ (HOK.out.below HB12.out))).mono ?_
  rintro e w13 ⟨g13, m5, cc5, rfl, hm5, _, ho5, hb13⟩
  obtain rfl : m5 = mb := by rw [hm5]; exact HMB.out.symm
  rw [HZB.out] at ho5
  have HB13 := Lib.hid (bthen HB12.out hb13)
  have HR13 := Lib.hid ho5.rd
  have HK13 := Lib.hid (HK12.out.below hb13)
  have hcc5 := ho5.cap
  have HCM5 := Lib.hid (own_max ho5)
  clear hm5 ho5 hb13 HB12 HK12 KA12 HFB HMB HZB HO1 HO2 HOK
  have k1 : w13.cell? ⟨g, 1, none⟩ = some (.int .u32 s) := HK13.out.cell 1
  have k3 : w13.cell? ⟨g, 3, none⟩ = some (.int .u16 f) := HK13.out.cell 3
  go_wp2_with fail
  clear k1 k3
  refine (in_ok s f (some ⟨g13, 0, none⟩) (20 + m5) cc5 (20 + m5) bs w13 T2.out.zl hcc5 (by omega) HR13.out HS0.out HS1.out HF0.out HF1.out T2.out.rE T2.out.N).mono ?_
  rintro e w14 ⟨g14, rfl, ho14, hb14⟩
  have HB14 := Lib.hid (bthen HB13.out hb14)
  have HR14 := Lib.hid (HR13.out.below hb14)
  have HK14 := Lib.hid (HK13.out.below hb14)
  have HY14 := Lib.hid ho14.rd
  clear ho14 hb14 HB13 HR13 HK13
  have hG := get_any (some ⟨g14, 0, none⟩) (20 + m5) (20 + m5) (rwL bs 1 s f) w14 T2.out.yl (Nat.le_refl _) (by omega) HY14.out
  rw [T2.out.gE, T2.out.gH, show (Hd.mk 20 (20 + (m5 : Int)) 64 (carP K) d s).val = .agg #[.int .i64 20, .int .i64 (20 + (m5 : Int)), .int .i64 64, .int .i64 (carP K), .int .u32 d, .int .u32 s] from rfl] at hG
  have HG := Lib.hid hG
  clear hG
  go_wp2_with fail
  refine (HG.out).mono ?_
  rintro e w15 ⟨rfl, hb15⟩
  have HB15 := Lib.hid (bthen HB14.out hb15)
  have HR15 := Lib.hid (HR14.out.below hb15)
  have HK15 := Lib.hid (HK14.out.below hb15)
  have HY15 := Lib.hid (HY14.out.below hb15)
  clear hb15 HB14 HR14 HK14 HY14 HG
  go_upto_region 16 with fail
  have KH := Lib.hid (Blk.new w15 67 #[.int .i64 20, .int .i64 (20 + (m5 : Int)), .int .i64 64, .int .i64 (carP K), .int .u32 d, .int .u32 s])
  have HB16 := Lib.hid (bthen HB15.out (ball w15 (.cells #[.int .i64 20, .int .i64 (20 + (m5 : Int)), .int .i64 64, .int .i64 (carP K), .int .u32 d, .int .u32 s] 67)))
  have HK16 := Lib.hid (HK15.out.alloc (.cells #[.int .i64 20, .int .i64 (20 + (m5 : Int)), .int .i64 64, .int .i64 (carP K), .int .u32 d, .int .u32 s] 67))
  have HY16 := Lib.hid (HY15.out.alloc (.cells #[.int .i64 20, .int .i64 (20 + (m5 : Int)), .int .i64 64, .int .i64 (carP K), .int .u32 d, .int .u32 s] 67))
  have HR16 := Lib.hid (HR15.out.alloc (.cells #[.int .i64 20, .int .i64 (20 + (m5 : Int)), .int .i64 64, .int .i64 (carP K), .int .u32 d, .int .u32 s] 67))
  clear HB15 HK15 HY15 HR15
  generalize w15.alloc (.cells #[.int .i64 20, .int .i64 (20 + (m5 : Int)), .int .i64 64, .int .i64 (carP K), .int .u32 d, .int .u32 s] 67) = w16 at *
  generalize w15.heap.size = gh2 at *
  obtain ⟨r0, r3, r4, r5, r6, r7, r8, r9, r10, r11, r12, r13, r14, hev⟩ := T2.out.pV
  have hPG := pget_any 20 (20 + (m5 : Int)) 64 (carP K) d s (some ⟨g14, 0, none⟩) (20 + m5) (20 + m5) (rwL bs 1 s f) w16 T2.out.yl (Nat.le_refl _) (by omega) HY16.out HD0.out HD1.out HS0.out HS1.out
  rw [T2.out.pE, hev] at hPG
  have HPG := Lib.hid hPG
  clear hPG hev
  go_wp2_with (first | ((with_reducible refine gd_ld 67 17 ?_); refine wpList_ld rfl 67 (.tmp 17) rfl _ rfl (KH.out) sHead ?_) | fail)
  refine (HPG.out).mono ?_
  rintro e w17 ⟨rfl, hb17⟩
  have HB17 := Lib.hid (bthen HB16.out hb17)
  have HK17 := Lib.hid (HK16.out.below hb17)
  have KH17 := Lib.hid (KH.out.below hb17)
  have HY17 := Lib.hid (HY16.out.below hb17)
  have HR17 := Lib.hid (HR16.out.below hb17)
  clear hb17 HB16 HK16 HY16 HR16 KH HPG
  go_upto_region 17 with fail
  have KP := Lib.hid (Blk.new w17 71 #[.int .i64 r0, .int .u16 t, .int .u16 f, .int .i64 r3, .int .i64 r4, .int .i64 r5, .bool r6, .int .i64 r7, .int .i64 r8, .int .i64 r9, .int .i64 r10, .int .u32 r11, .int .u32 r12, .int .i64 r13, .bool r14])
  have HB18 := Lib.hid (bthen HB17.out (ball w17 (.cells #[.int .i64 r0, .int .u16 t, .int .u16 f, .int .i64 r3, .int .i64 r4, .int .i64 r5, .bool r6, .int .i64 r7, .int .i64 r8, .int .i64 r9, .int .i64 r10, .int .u32 r11, .int .u32 r12, .int .i64 r13, .bool r14] 71)))
  have HK18 := Lib.hid (HK17.out.alloc (.cells #[.int .i64 r0, .int .u16 t, .int .u16 f, .int .i64 r3, .int .i64 r4, .int .i64 r5, .bool r6, .int .i64 r7, .int .i64 r8, .int .i64 r9, .int .i64 r10, .int .u32 r11, .int .u32 r12, .int .i64 r13, .bool r14] 71))
  have KH18 := Lib.hid (KH17.out.alloc (.cells #[.int .i64 r0, .int .u16 t, .int .u16 f, .int .i64 r3, .int .i64 r4, .int .i64 r5, .bool r6, .int .i64 r7, .int .i64 r8, .int .i64 r9, .int .i64 r10, .int .u32 r11, .int .u32 r12, .int .i64 r13, .bool r14] 71))
  have HY18 := Lib.hid (HY17.out.alloc (.cells #[.int .i64 r0, .int .u16 t, .int .u16 f, .int .i64 r3, .int .i64 r4, .int .i64 r5, .bool r6, .int .i64 r7, .int .i64 r8, .int .i64 r9, .int .i64 r10, .int .u32 r11, .int .u32 r12, .int .i64 r13, .bool r14] 71))
  have HR18 := Lib.hid (HR17.out.alloc (.cells #[.int .i64 r0, .int .u16 t, .int .u16 f, .int .i64 r3, .int .i64 r4, .int .i64 r5, .bool r6, .int .i64 r7, .int .i64 r8, .int .i64 r9, .int .i64 r10, .int .u32 r11, .int .u32 r12, .int .i64 r13, .bool r14] 71))
  clear HB17 HK17 KH17 HY17 HR17
  generalize w17.alloc (.cells #[.int .i64 r0, .int .u16 t, .int .u16 f, .int .i64 r3, .int .i64 r4, .int .i64 r5, .bool r6, .int .i64 r7, .int .i64 r8, .int .i64 r9, .int .i64 r10, .int .u32 r11, .int .u32 r12, .int .i64 r13, .bool r14] 71) = w18 at *
  generalize w17.heap.size = gp2 at *
  have x4 : w18.cell? ⟨gh2, 4, none⟩ = some (.int .u32 d) := KH18.out.cell 4
  have x5 : w18.cell? ⟨gh2, 5, none⟩ = some (.int .u32 s) := KH18.out.cell 5
  have y1 : w18.cell? ⟨gp2, 1, none⟩ = some (.int .u16 t) := KP.out.cell 1
  have y2 : w18.cell? ⟨gp2, 2, none⟩ = some (.int .u16 f) := KP.out.cell 2
  have k0 : w18.cell? ⟨g, 0, none⟩ = some (.int .i64 (K : Int)) := HK18.out.cell 0
  have k1 : w18.cell? ⟨g, 1, none⟩ = some (.int .u32 s) := HK18.out.cell 1
  have k2 : w18.cell? ⟨g, 2, none⟩ = some (.int .u32 d) := HK18.out.cell 2
  have k3 : w18.cell? ⟨g, 3, none⟩ = some (.int .u16 f) := HK18.out.cell 3
  have k4 : w18.cell? ⟨g, 4, none⟩ = some (.int .u16 t) := HK18.out.cell 4
  go_wp2_with fail
  refine (unlikeIn_any s f _ _ (20 + m5) cc5 (20 + m5) (20 + m5) bs _ w18 T2.out.zl T2.out.yl hcc5 (Nat.le_refl _) (by omega) HCM5.out (by omega) HR18.out HY18.out HS0.out HS1.out T2.out.same).mono ?_
  rintro e w19 ⟨rfl, hb19⟩
  have HB19 := Lib.hid (bthen HB18.out hb19)
  clear hb19 HB18 HK18 KH18 HY18 HR18 KP x4 x5 y1 y2 k0 k1 k2 k3 k4
  go_wp2
  go_ret
  exact ⟨rfl, HB19.out⟩
set_option maxHeartbeats 16000000 in
theorem there_two (what s d f t fl A P : Int) (B : Option Addr) (n c : Nat) (ys0 : List Int) (w : World) (ok : (Sn.mk what s d f t fl B n c ys0).ok w) (n0 : 0 ≤ A) (n1 : A ≤ 4294967295) (q0 : 0 ≤ P) (q1 : P ≤ 65535) (hK : wrap64 ((IntKind.u64.wrap what).tmod 3) = 2) :
    Calls Try.prog 9 #[.agg #[.int .i64 what, .int .u32 s, .int .u32 d, .int .u16 f, .int .u16 t, .int .i64 fl, .slice B n c], .int .u32 A, .int .u16 P] w fun e w' => e = .returned (.bool true) ∧ Below w.heap.size w w' := by
  have ok1 : ∀ W, (Sn.mk what s d f t fl B n c ys0).ok W → (Sn.mk 2 s d f t fl B n c ys0).ok W := fun W h => ⟨h.s0, h.s1, h.d0, h.d1, h.f0, h.f1, h.t0, h.t1, h.len, h.cap, h.max, h.rd⟩
  have ok2 : ∀ W, (Sn.mk what s d f t fl B n c ys0).ok W → (Sn.mk 3 d A P P 18 B n c ys0).ok W := fun W h => ⟨h.d0, h.d1, n0, n1, q0, q1, q0, q1, h.len, h.cap, h.max, h.rd⟩
  obtain ⟨m, hm, t1⟩ := thB ⟨2, s, d, f, t, fl, B, n, c, ys0⟩ 2 (by omega) w (ok1 w ok) 0 (by omega) A P n0 n1 q0 q1 A d P P rfl rfl rfl (by rw [if_pos rfl, if_neg (by omega)])
  obtain ⟨mb, hmb, t2⟩ := thB ⟨3, d, A, P, P, 18, B, n, c, ys0⟩ 3 (by omega) w (ok2 w ok) 1 (by omega) s f ok.s0 ok.s1 ok.f0 ok.f1 d s f f rfl rfl (by rw [if_neg (by omega), if_neg (by omega)]) rfl
  have hfa : ∀ W, (Sn.mk 2 s d f t fl B n c ys0).ok W → Calls Try.prog 10 #[.agg #[.int .i64 2, .int .u32 s, .int .u32 d, .int .u16 f, .int .u16 t, .int .i64 fl, .slice B n c]] W (FrameOk ⟨2, s, d, f, t, fl, B, n, c, ys0⟩ 2 W) := fun W h => frame_any ⟨2, s, d, f, t, fl, B, n, c, ys0⟩ 2 (by omega) W h (pick7k 2 (by omega))
  have hfb : ∀ W, (Sn.mk 3 d A P P 18 B n c ys0).ok W → Calls Try.prog 10 #[.agg #[.int .i64 3, .int .u32 d, .int .u32 A, .int .u16 P, .int .u16 P, .int .i64 18, .slice B n c]] W (FrameOk ⟨3, d, A, P, P, 18, B, n, c, ys0⟩ 3 W) := fun W h => frame_any ⟨3, d, A, P, P, 18, B, n, c, ys0⟩ 3 (by omega) W h (pick7k 3 (by omega))
  have hs0 := ok.s0
  have hs1 := ok.s1
  have hd0 := ok.d0
  have hd1 := ok.d1
  have hf0 := ok.f0
  have hf1 := ok.f1
  simp only at hs0 hs1 hd0 hd1 hf0 hf1 hm hmb
  have hm1 := t1.m1
  have hm2 := t2.m1
  generalize hz : frL ⟨2, s, d, f, t, fl, B, n, c, ys0⟩ 2 = zs at *
  generalize hzb : frL ⟨3, d, A, P, P, 18, B, n, c, ys0⟩ 3 = bs at *
  have HFA := Lib.hid hfa
  have HFB := Lib.hid hfb
  have HOK := Lib.hid ok
  have HO1 := Lib.hid ok1
  have HO2 := Lib.hid ok2
  have T1 := Lib.hid t1
  have T2 := Lib.hid t2
  have HZ := Lib.hid hz
  have HZB := Lib.hid hzb
  have HM := Lib.hid hm
  have HMB := Lib.hid hmb
  have HS0 := Lib.hid hs0
  have HS1 := Lib.hid hs1
  have HD0 := Lib.hid hd0
  have HD1 := Lib.hid hd1
  have HF0 := Lib.hid hf0
  have HF1 := Lib.hid hf1
  clear hfa hfb ok ok1 ok2 t1 t2 hz hzb hm hmb hs0 hs1 hd0 hd1 hf0 hf1
  go_enter Try.func9, Try.ntmps9
  go_upto_region 1 with fail
  have HB1 := Lib.hid (ball w (.cells #[.int .i64 what, .int .u32 s, .int .u32 d, .int .u16 f, .int .u16 t, .int .i64 fl, .slice B n c] 26))
  have HK1 := Lib.hid (Blk.new w 26 #[.int .i64 what, .int .u32 s, .int .u32 d, .int .u16 f, .int .u16 t, .int .i64 fl, .slice B n c])
  generalize w.alloc (.cells #[.int .i64 what, .int .u32 s, .int .u32 d, .int .u16 f, .int .u16 t, .int .i64 fl, .slice B n c] 26) = w1 at *
  obtain ⟨g, hg⟩ : ∃ g, g = w.heap.size := ⟨_, rfl⟩
  have hgb : w.heap.size ≤ g := by omega
  rw [← hg] at HK1
  rw [← hg]
  clear hg
  have k0 : w1.cell? ⟨g, 0, none⟩ = some (.int .i64 what) := HK1.out.cell 0
  have z0 := HK1.out.frozen 0
  go_upto_region 2 with fail
  rw [hK]
  clear hK k0 z0
  have HB2 := Lib.hid (HB1.out.setCell (p := ⟨g, 0, none⟩) hgb (.int .i64 2))
  have HK2 := Lib.hid (show Blk (w1.setCell ⟨g, 0, none⟩ (.int .i64 2)) g 26 #[.int .i64 2, .int .u32 s, .int .u32 d, .int .u16 f, .int .u16 t, .int .i64 fl, .slice B n c] from HK1.out.set 0 (.int .i64 2))
  clear HB1 HK1
  generalize w1.setCell ⟨g, 0, none⟩ (.int .i64 2) = w2 at *
  have hz2 := HB2.out.size
  have k0 : w2.cell? ⟨g, 0, none⟩ = some (.int .i64 2) := HK2.out.cell 0
  have k1 : w2.cell? ⟨g, 1, none⟩ = some (.int .u32 s) := HK2.out.cell 1
  have k2 : w2.cell? ⟨g, 2, none⟩ = some (.int .u32 d) := HK2.out.cell 2
  have k3 : w2.cell? ⟨g, 3, none⟩ = some (.int .u16 f) := HK2.out.cell 3
  have k4 : w2.cell? ⟨g, 4, none⟩ = some (.int .u16 t) := HK2.out.cell 4
  have k5 : w2.cell? ⟨g, 5, none⟩ = some (.int .i64 fl) := HK2.out.cell 5
  have k6 : w2.cell? ⟨g, 6, none⟩ = some (.slice B n c) := HK2.out.cell 6
  go_wp2_with fail
  clear k0 k1 k2 k3 k4 k5 k6
  refine (HFA.out _ (HO1.out _ (HOK.out.below HB2.out))).mono ?_
  rintro e w3 ⟨g3, m2, cc, rfl, hm3, _, ho3, hb3⟩
  obtain rfl : m2 = m := by rw [hm3]; exact HM.out.symm
  rw [HZ.out] at ho3
  have HB3 := Lib.hid (bthen HB2.out hb3)
  have HR3 := Lib.hid ho3.rd
  have HK3 := Lib.hid (HK2.out.below hb3)
  have hcc := ho3.cap
  have HCM := Lib.hid (own_max ho3)
  clear hm3 ho3 hb3 HB2 HK2 hz2 HFA HM HZ
  go_wp2_with fail
  refine (out_ok A P (some ⟨g3, 0, none⟩) (20 + m2) cc (20 + m2) zs w3 T1.out.zl hcc (by omega) HR3.out n0 n1 q0 q1 T1.out.rE T1.out.N).mono ?_
  rintro e w4 ⟨g4, rfl, ho4, hb4⟩
  have HB4 := Lib.hid (bthen HB3.out hb4)
  have HR4 := Lib.hid (HR3.out.below hb4)
  have HK4 := Lib.hid (HK3.out.below hb4)
  have HY4 := Lib.hid ho4.rd
  clear ho4 hb4 HB3 HR3 HK3
  go_wp2_with fail
  refine (stands_any w4).mono ?_
  rintro e w5 ⟨rfl, hb5⟩
  have HB5 := Lib.hid (bthen HB4.out hb5)
  have HR5 := Lib.hid (HR4.out.below hb5)
  have HK5 := Lib.hid (HK4.out.below hb5)
  have HY5 := Lib.hid (HY4.out.below hb5)
  clear hb5 HB4 HR4 HK4 HY4
  go_wp2_with fail
  refine (unlikeOut_any A P _ _ (20 + m2) cc (20 + m2) (20 + m2) zs _ w5 T1.out.zl T1.out.yl hcc (Nat.le_refl _) (by omega) HCM.out (by omega) HR5.out HY5.out n0 n1 T1.out.same).mono ?_
  rintro e w6 ⟨rfl, hb6⟩
  have HB6 := Lib.hid (bthen HB5.out hb6)
  have HK6 := Lib.hid (HK5.out.below hb6)
  have HY6 := Lib.hid (HY5.out.below hb6)
  clear hb6 HB5 HR5 HK5 HY5
  have hG := get_any (some ⟨g4, 0, none⟩) (20 + m2) (20 + m2) (rwL zs 0 A P) w6 T1.out.yl (Nat.le_refl _) (by omega) HY6.out
  rw [T1.out.gE, T1.out.gH, show (Hd.mk 20 (20 + (m2 : Int)) 64 (carP 2) A d).val = .agg #[.int .i64 20, .int .i64 (20 + (m2 : Int)), .int .i64 64, .int .i64 (carP 2), .int .u32 A, .int .u32 d] from rfl] at hG
  have HG := Lib.hid hG
  clear hG
  go_wp2_with fail
  refine (HG.out).mono ?_
  rintro e w7 ⟨rfl, hb7⟩
  have HB7 := Lib.hid (bthen HB6.out hb7)
  have HK7 := Lib.hid (HK6.out.below hb7)
  have HY7 := Lib.hid (HY6.out.below hb7)
  clear hb7 HB6 HK6 HY6 HG
  go_upto_region 7 with fail
  have KH := Lib.hid (Blk.new w7 67 #[.int .i64 20, .int .i64 (20 + (m2 : Int)), .int .i64 64, .int .i64 (carP 2), .int .u32 A, .int .u32 d])
  have HB8 := Lib.hid (bthen HB7.out (ball w7 (.cells #[.int .i64 20, .int .i64 (20 + (m2 : Int)), .int .i64 64, .int .i64 (carP 2), .int .u32 A, .int .u32 d] 67)))
  have HK8 := Lib.hid (HK7.out.alloc (.cells #[.int .i64 20, .int .i64 (20 + (m2 : Int)), .int .i64 64, .int .i64 (carP 2), .int .u32 A, .int .u32 d] 67))
  have HY8 := Lib.hid (HY7.out.alloc (.cells #[.int .i64 20, .int .i64 (20 + (m2 : Int)), .int .i64 64, .int .i64 (carP 2), .int .u32 A, .int .u32 d] 67))
  clear HB7 HK7 HY7
  generalize w7.alloc (.cells #[.int .i64 20, .int .i64 (20 + (m2 : Int)), .int .i64 64, .int .i64 (carP 2), .int .u32 A, .int .u32 d] 67) = w8 at *
  generalize w7.heap.size = gh at *
  obtain ⟨p0, p3, p4, p5, p6, p7, p8, p9, p10, p11, p12, p13, p14, hev⟩ := T1.out.pV
  have hPG := pget_any 20 (20 + (m2 : Int)) 64 (carP 2) A d (some ⟨g4, 0, none⟩) (20 + m2) (20 + m2) (rwL zs 0 A P) w8 T1.out.yl (Nat.le_refl _) (by omega) HY8.out n0 n1 HD0.out HD1.out
  rw [T1.out.pE, hev] at hPG
  have HPG := Lib.hid hPG
  clear hPG hev
  go_wp2_with (first | ((with_reducible refine gd_ld 67 10 ?_); refine wpList_ld rfl 67 (.tmp 10) rfl _ rfl (KH.out) sHead ?_) | fail)
  refine (HPG.out).mono ?_
  rintro e w9 ⟨rfl, hb9⟩
  have HB9 := Lib.hid (bthen HB8.out hb9)
  have HK9 := Lib.hid (HK8.out.below hb9)
  have KH9 := Lib.hid (KH.out.below hb9)
  clear hb9 HB8 HK8 HY8 KH HPG
  go_upto_region 8 with fail
  have KP := Lib.hid (Blk.new w9 71 #[.int .i64 p0, .int .u16 P, .int .u16 P, .int .i64 p3, .int .i64 p4, .int .i64 p5, .bool p6, .int .i64 p7, .int .i64 p8, .int .i64 p9, .int .i64 p10, .int .u32 p11, .int .u32 p12, .int .i64 p13, .bool p14])
  have HB10 := Lib.hid (bthen HB9.out (ball w9 (.cells #[.int .i64 p0, .int .u16 P, .int .u16 P, .int .i64 p3, .int .i64 p4, .int .i64 p5, .bool p6, .int .i64 p7, .int .i64 p8, .int .i64 p9, .int .i64 p10, .int .u32 p11, .int .u32 p12, .int .i64 p13, .bool p14] 71)))
  have HK10 := Lib.hid (HK9.out.alloc (.cells #[.int .i64 p0, .int .u16 P, .int .u16 P, .int .i64 p3, .int .i64 p4, .int .i64 p5, .bool p6, .int .i64 p7, .int .i64 p8, .int .i64 p9, .int .i64 p10, .int .u32 p11, .int .u32 p12, .int .i64 p13, .bool p14] 71))
  have KH10 := Lib.hid (KH9.out.alloc (.cells #[.int .i64 p0, .int .u16 P, .int .u16 P, .int .i64 p3, .int .i64 p4, .int .i64 p5, .bool p6, .int .i64 p7, .int .i64 p8, .int .i64 p9, .int .i64 p10, .int .u32 p11, .int .u32 p12, .int .i64 p13, .bool p14] 71))
  clear HB9 HK9 KH9
  generalize w9.alloc (.cells #[.int .i64 p0, .int .u16 P, .int .u16 P, .int .i64 p3, .int .i64 p4, .int .i64 p5, .bool p6, .int .i64 p7, .int .i64 p8, .int .i64 p9, .int .i64 p10, .int .u32 p11, .int .u32 p12, .int .i64 p13, .bool p14] 71) = w10 at *
  generalize w9.heap.size = gp at *
  have x4 : w10.cell? ⟨gh, 4, none⟩ = some (.int .u32 A) := KH10.out.cell 4
  have x5 : w10.cell? ⟨gh, 5, none⟩ = some (.int .u32 d) := KH10.out.cell 5
  have y1 : w10.cell? ⟨gp, 1, none⟩ = some (.int .u16 P) := KP.out.cell 1
  have y2 : w10.cell? ⟨gp, 2, none⟩ = some (.int .u16 P) := KP.out.cell 2
  have k0 : w10.cell? ⟨g, 0, none⟩ = some (.int .i64 2) := HK10.out.cell 0
  have k6 : w10.cell? ⟨g, 6, none⟩ = some (.slice B n c) := HK10.out.cell 6
  go_upto_region 11 with fail
  clear x4 x5 y1 y2 k0 k6
  have KA := Lib.hid (Blk.new w10 26 #[.int .i64 2, .int .u32 d, .int .u32 A, .int .u16 P, .int .u16 P, .int .i64 18, .slice B n c])
  have HB11 := Lib.hid (bthen HB10.out (ball w10 (.cells #[.int .i64 2, .int .u32 d, .int .u32 A, .int .u16 P, .int .u16 P, .int .i64 18, .slice B n c] 26)))
  have HK11 := Lib.hid (HK10.out.alloc (.cells #[.int .i64 2, .int .u32 d, .int .u32 A, .int .u16 P, .int .u16 P, .int .i64 18, .slice B n c] 26))
  have hga : w.heap.size ≤ w10.heap.size := HB10.out.size
  have hgne : w10.heap.size ≠ g := by have := HK10.out.lt; omega
  clear HB10 HK10 KH10 KP
  generalize w10.alloc (.cells #[.int .i64 2, .int .u32 d, .int .u32 A, .int .u16 P, .int .u16 P, .int .i64 18, .slice B n c] 26) = w11 at *
  generalize w10.heap.size = ga at *
  have k0 : w11.cell? ⟨g, 0, none⟩ = some (.int .i64 2) := HK11.out.cell 0
  have f0 : w11.frozen? ⟨ga, 0, none⟩ = false := KA.out.frozen 0
  have c0 : w11.cell? ⟨ga, 0, none⟩ = some (.int .i64 2) := KA.out.cell 0
  go_upto_region 13 with fail
  clear k0 f0 c0
  have HB12 := Lib.hid (HB11.out.setCell (p := ⟨ga, 0, none⟩) hga (.int .i64 3))
  have HK12 := Lib.hid (HK11.out.ne (p := ⟨ga, 0, none⟩) hgne (.int .i64 3))
  have KA12 := Lib.hid (show Blk (w11.setCell ⟨ga, 0, none⟩ (.int .i64 3)) ga 26 #[.int .i64 3, .int .u32 d, .int .u32 A, .int .u16 P, .int .u16 P, .int .i64 18, .slice B n c] from KA.out.set 0 (.int .i64 3))
  clear HB11 HK11 KA
  generalize w11.setCell ⟨ga, 0, none⟩ (.int .i64 3) = w12 at *
  have a0 : w12.cell? ⟨ga, 0, none⟩ = some (.int .i64 3) := KA12.out.cell 0
  have a1 : w12.cell? ⟨ga, 1, none⟩ = some (.int .u32 d) := KA12.out.cell 1
  have a2 : w12.cell? ⟨ga, 2, none⟩ = some (.int .u32 A) := KA12.out.cell 2
  have a3 : w12.cell? ⟨ga, 3, none⟩ = some (.int .u16 P) := KA12.out.cell 3
  have a4 : w12.cell? ⟨ga, 4, none⟩ = some (.int .u16 P) := KA12.out.cell 4
  have a5 : w12.cell? ⟨ga, 5, none⟩ = some (.int .i64 18) := KA12.out.cell 5
  have a6 : w12.cell? ⟨ga, 6, none⟩ = some (.slice B n c) := KA12.out.cell 6
  go_wp2_with fail
  clear a0 a1 a2 a3 a4 a5 a6
  refine (HFB.out _ (HO2.out _ (HOK.out.below HB12.out))).mono ?_
  rintro e w13 ⟨g13, m5, cc5, rfl, hm5, _, ho5, hb13⟩
  obtain rfl : m5 = mb := by rw [hm5]; exact HMB.out.symm
  rw [HZB.out] at ho5
  have HB13 := Lib.hid (bthen HB12.out hb13)
  have HR13 := Lib.hid ho5.rd
  have HK13 := Lib.hid (HK12.out.below hb13)
  have hcc5 := ho5.cap
  have HCM5 := Lib.hid (own_max ho5)
  clear hm5 ho5 hb13 HB12 HK12 KA12 HFB HMB HZB HO1 HO2 HOK
  have k1 : w13.cell? ⟨g, 1, none⟩ = some (.int .u32 s) := HK13.out.cell 1
  have k3 : w13.cell? ⟨g, 3, none⟩ = some (.int .u16 f) := HK13.out.cell 3
  go_wp2_with fail
  clear k1 k3
  refine (in_ok s f (some ⟨g13, 0, none⟩) (20 + m5) cc5 (20 + m5) bs w13 T2.out.zl hcc5 (by omega) HR13.out HS0.out HS1.out HF0.out HF1.out T2.out.rE T2.out.N).mono ?_
  rintro e w14 ⟨g14, rfl, ho14, hb14⟩
  have HB14 := Lib.hid (bthen HB13.out hb14)
  have HR14 := Lib.hid (HR13.out.below hb14)
  have HK14 := Lib.hid (HK13.out.below hb14)
  have HY14 := Lib.hid ho14.rd
  clear ho14 hb14 HB13 HR13 HK13
  have hG := get_any (some ⟨g14, 0, none⟩) (20 + m5) (20 + m5) (rwL bs 1 s f) w14 T2.out.yl (Nat.le_refl _) (by omega) HY14.out
  rw [T2.out.gE, T2.out.gH, show (Hd.mk 20 (20 + (m5 : Int)) 64 (carP 3) d s).val = .agg #[.int .i64 20, .int .i64 (20 + (m5 : Int)), .int .i64 64, .int .i64 (carP 3), .int .u32 d, .int .u32 s] from rfl] at hG
  have HG := Lib.hid hG
  clear hG
  go_wp2_with fail
  refine (HG.out).mono ?_
  rintro e w15 ⟨rfl, hb15⟩
  have HB15 := Lib.hid (bthen HB14.out hb15)
  have HR15 := Lib.hid (HR14.out.below hb15)
  have HK15 := Lib.hid (HK14.out.below hb15)
  have HY15 := Lib.hid (HY14.out.below hb15)
  clear hb15 HB14 HR14 HK14 HY14 HG
  go_upto_region 16 with fail
  have KH := Lib.hid (Blk.new w15 67 #[.int .i64 20, .int .i64 (20 + (m5 : Int)), .int .i64 64, .int .i64 (carP 3), .int .u32 d, .int .u32 s])
  have HB16 := Lib.hid (bthen HB15.out (ball w15 (.cells #[.int .i64 20, .int .i64 (20 + (m5 : Int)), .int .i64 64, .int .i64 (carP 3), .int .u32 d, .int .u32 s] 67)))
  have HK16 := Lib.hid (HK15.out.alloc (.cells #[.int .i64 20, .int .i64 (20 + (m5 : Int)), .int .i64 64, .int .i64 (carP 3), .int .u32 d, .int .u32 s] 67))
  have HY16 := Lib.hid (HY15.out.alloc (.cells #[.int .i64 20, .int .i64 (20 + (m5 : Int)), .int .i64 64, .int .i64 (carP 3), .int .u32 d, .int .u32 s] 67))
  have HR16 := Lib.hid (HR15.out.alloc (.cells #[.int .i64 20, .int .i64 (20 + (m5 : Int)), .int .i64 64, .int .i64 (carP 3), .int .u32 d, .int .u32 s] 67))
  clear HB15 HK15 HY15 HR15
  generalize w15.alloc (.cells #[.int .i64 20, .int .i64 (20 + (m5 : Int)), .int .i64 64, .int .i64 (carP 3), .int .u32 d, .int .u32 s] 67) = w16 at *
  generalize w15.heap.size = gh2 at *
  obtain ⟨r0, r3, r4, r5, r6, r7, r8, r9, r10, r11, r12, r13, r14, hev⟩ := T2.out.pV
  have hPG := pget_any 20 (20 + (m5 : Int)) 64 (carP 3) d s (some ⟨g14, 0, none⟩) (20 + m5) (20 + m5) (rwL bs 1 s f) w16 T2.out.yl (Nat.le_refl _) (by omega) HY16.out HD0.out HD1.out HS0.out HS1.out
  rw [T2.out.pE, hev] at hPG
  have HPG := Lib.hid hPG
  clear hPG hev
  go_wp2_with (first | ((with_reducible refine gd_ld 67 17 ?_); refine wpList_ld rfl 67 (.tmp 17) rfl _ rfl (KH.out) sHead ?_) | fail)
  refine (HPG.out).mono ?_
  rintro e w17 ⟨rfl, hb17⟩
  have HB17 := Lib.hid (bthen HB16.out hb17)
  have HK17 := Lib.hid (HK16.out.below hb17)
  have KH17 := Lib.hid (KH.out.below hb17)
  have HY17 := Lib.hid (HY16.out.below hb17)
  have HR17 := Lib.hid (HR16.out.below hb17)
  clear hb17 HB16 HK16 HY16 HR16 KH HPG
  go_upto_region 17 with fail
  have KP := Lib.hid (Blk.new w17 71 #[.int .i64 r0, .int .u16 f, .int .u16 f, .int .i64 r3, .int .i64 r4, .int .i64 r5, .bool r6, .int .i64 r7, .int .i64 r8, .int .i64 r9, .int .i64 r10, .int .u32 r11, .int .u32 r12, .int .i64 r13, .bool r14])
  have HB18 := Lib.hid (bthen HB17.out (ball w17 (.cells #[.int .i64 r0, .int .u16 f, .int .u16 f, .int .i64 r3, .int .i64 r4, .int .i64 r5, .bool r6, .int .i64 r7, .int .i64 r8, .int .i64 r9, .int .i64 r10, .int .u32 r11, .int .u32 r12, .int .i64 r13, .bool r14] 71)))
  have HK18 := Lib.hid (HK17.out.alloc (.cells #[.int .i64 r0, .int .u16 f, .int .u16 f, .int .i64 r3, .int .i64 r4, .int .i64 r5, .bool r6, .int .i64 r7, .int .i64 r8, .int .i64 r9, .int .i64 r10, .int .u32 r11, .int .u32 r12, .int .i64 r13, .bool r14] 71))
  have KH18 := Lib.hid (KH17.out.alloc (.cells #[.int .i64 r0, .int .u16 f, .int .u16 f, .int .i64 r3, .int .i64 r4, .int .i64 r5, .bool r6, .int .i64 r7, .int .i64 r8, .int .i64 r9, .int .i64 r10, .int .u32 r11, .int .u32 r12, .int .i64 r13, .bool r14] 71))
  have HY18 := Lib.hid (HY17.out.alloc (.cells #[.int .i64 r0, .int .u16 f, .int .u16 f, .int .i64 r3, .int .i64 r4, .int .i64 r5, .bool r6, .int .i64 r7, .int .i64 r8, .int .i64 r9, .int .i64 r10, .int .u32 r11, .int .u32 r12, .int .i64 r13, .bool r14] 71))
  have HR18 := Lib.hid (HR17.out.alloc (.cells #[.int .i64 r0, .int .u16 f, .int .u16 f, .int .i64 r3, .int .i64 r4, .int .i64 r5, .bool r6, .int .i64 r7, .int .i64 r8, .int .i64 r9, .int .i64 r10, .int .u32 r11, .int .u32 r12, .int .i64 r13, .bool r14] 71))
  clear HB17 HK17 KH17 HY17 HR17
  generalize w17.alloc (.cells #[.int .i64 r0, .int .u16 f, .int .u16 f, .int .i64 r3, .int .i64 r4, .int .i64 r5, .bool r6, .int .i64 r7, .int .i64 r8, .int .i64 r9, .int .i64 r10, .int .u32 r11, .int .u32 r12, .int .i64 r13, .bool r14] 71) = w18 at *
  generalize w17.heap.size = gp2 at *
  have x4 : w18.cell? ⟨gh2, 4, none⟩ = some (.int .u32 d) := KH18.out.cell 4
  have x5 : w18.cell? ⟨gh2, 5, none⟩ = some (.int .u32 s) := KH18.out.cell 5
  have y1 : w18.cell? ⟨gp2, 1, none⟩ = some (.int .u16 f) := KP.out.cell 1
  have y2 : w18.cell? ⟨gp2, 2, none⟩ = some (.int .u16 f) := KP.out.cell 2
  have k0 : w18.cell? ⟨g, 0, none⟩ = some (.int .i64 2) := HK18.out.cell 0
  have k1 : w18.cell? ⟨g, 1, none⟩ = some (.int .u32 s) := HK18.out.cell 1
  have k2 : w18.cell? ⟨g, 2, none⟩ = some (.int .u32 d) := HK18.out.cell 2
  have k3 : w18.cell? ⟨g, 3, none⟩ = some (.int .u16 f) := HK18.out.cell 3
  have k4 : w18.cell? ⟨g, 4, none⟩ = some (.int .u16 t) := HK18.out.cell 4
  go_wp2_with fail
  refine (unlikeIn_any s f _ _ (20 + m5) cc5 (20 + m5) (20 + m5) bs _ w18 T2.out.zl T2.out.yl hcc5 (Nat.le_refl _) (by omega) HCM5.out (by omega) HR18.out HY18.out HS0.out HS1.out T2.out.same).mono ?_
  rintro e w19 ⟨rfl, hb19⟩
  have HB19 := Lib.hid (bthen HB18.out hb19)
  clear hb19 HB18 HK18 KH18 HY18 HR18 KP x4 x5 y1 y2 k0 k1 k2 k3 k4
  go_wp2
  go_ret
  exact ⟨rfl, HB19.out⟩
theorem fanlightThere_walk (x : Sn) (A P : Int) (w : World) (ok : x.ok w) (n0 : 0 ≤ A) (n1 : A ≤ 4294967295) (q0 : 0 ≤ P) (q1 : P ≤ 65535) :
    Calls Try.prog 9 #[x.val, .int .u32 A, .int .u16 P] w fun e w' => e = .returned (.bool true) ∧ Below w.heap.size w w' := by
  obtain ⟨K, hK, hK3⟩ := pickN x.what 3 (by omega) (by omega)
  obtain ⟨what, s, d, f, t, fl, B, n, c, ys0⟩ := x
  by_cases h2 : K < 2
  · exact there_low what s d f t fl A P B n c K ys0 w h2 ok n0 n1 q0 q1 hK
  · obtain rfl : K = 2 := by omega
    exact there_two what s d f t fl A P B n c ys0 w ok n0 n1 q0 q1 hK
end Go.Proofs.Ytdkjipfemnfckaa
