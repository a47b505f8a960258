/-
  RewriteBack: a frame that goes out, and back to what it was, is as it was, but for sums. Conditions stand in each theorem.
-/
import Derived.Test.YtdkjipfemnfckaaRwX
import Derived.Test.YtdkjipfemnfckaaRwY
import Derived.Test.YtdkjipfemnfckaaRwT
namespace Go.Proofs.Ytdkjipfemnfckaa
open Go.RowKit Plain
set_option linter.unusedVariables false
set_option linter.unusedSimpArgs false
set_option maxRecDepth 100000
structure StB (w : World) (b : Nat) (ks : List (Int × Int)) (A1 A2 : Option Addr) (zs ys : List Int) (W : World) : Prop where
  m : MpV W b ks
  r1 : Rd W A1 zs
  r2 : Rd W A2 ys
  bel : Below w.heap.size w W
theorem StB.below {w W W' : World} {b : Nat} {ks : List (Int × Int)} {A1 A2 : Option Addr} {zs ys : List Int} (h : StB w b ks A1 A2 zs ys W) (hb : Below W.heap.size W W') : StB w b ks A1 A2 zs ys W' :=
  ⟨h.m.below hb, h.r1.below hb, h.r2.below hb, bthen h.bel hb⟩
theorem rwL_by (zs : List Int) (hz : By zs) (e : Nat) (A P : Int) (n0 : 0 ≤ A) (n1 : A ≤ 4294967295) (q0 : 0 ≤ P) (q1 : P ≤ 65535) : By (rwL zs e A P) := by
  unfold rwL
  split
  · unfold erR
    simp only
    have h1 := P16_byte (pkR_by (o := (pgP (fld zs) zs).pos.toNat) (n := (min ((pgP (fld zs) zs).pos.toNat + (pgP (fld zs) zs).inn.len.toNat) (zs.take (fld zs).len.toNat).length - (pgP (fld zs) zs).pos.toNat)) (size := (pgP (fld zs) zs).inn.size.toNat) (pr := (pgP (fld zs) zs).inn.proto) (e := 1 - e) (P := P) (adL_by (hz.take (fld zs).len.toNat) 0 (ePl e) n0 n1) n0 n1 q0 q1) ((fld zs).size.toNat + 2) (by omega : (0 : Int) ≤ 0) (by omega)
    have h2 := Cs_range _ (h1.drop (fld zs).size.toNat)
    exact P16_byte h1 _ h2.1 h2.2
  · exact pkR_by (hz.take _) n0 n1 q0 q1
theorem was_range (zs : List Int) (hby : By zs) (hg : Got zs) (h : pgE (fld zs) zs = 0) (v : Int) (hv : v = if (pgP (fld zs) zs).er = true then (pgP (fld zs) zs).dp else (pgP (fld zs) zs).sp) : 0 ≤ v ∧ v ≤ 65535 := by
  obtain ⟨S, N, pos, isz, eS, eN, eP, eI, _⟩ := pg_nat zs hby hg h
  have pb := ptB zs hby hg h S N pos isz eS eN eP eI
  subst hv
  cases he : (pgP (fld zs) zs).er with
  | true =>
    rw [if_pos rfl]
    obtain ⟨_, _, _, h3, h4, h5⟩ := pb.er he
    by_cases hi : (pgP (fld zs) zs).inn.proto = 1
    · rw [(h5 hi).2, (h5 hi).1]; exact G16_range zs hby _
    · rw [h4 hi]; exact G16_range zs hby _
  | false =>
    rw [if_neg (by simp)]
    rcases pb.pr with hp | hp | hp
    · rw [(pb.low he (Or.inl hp)).1]; exact G16_range zs hby _
    · rw [(pb.low he (Or.inr hp)).1]; exact G16_range zs hby _
    · rw [(pb.ec he hp).1]; exact G16_range zs hby _
set_option maxHeartbeats 16000000 in
theorem rewriteBack_walk (x : Sn) (A P : Int) (w : World) (ok : x.ok w) (n0 : 0 ≤ A) (n1 : A ≤ 4294967295) (q0 : 0 ≤ P) (q1 : P ≤ 65535) :
    Calls Try.prog 4 #[x.val, .int .u32 A, .int .u16 P] w fun e w' => e = .returned (.bool true) ∧ Below w.heap.size w w' := by
  obtain ⟨K, hK, hK7⟩ := pickN x.what 7 (by omega) (by omega)
  obtain ⟨m, sf⟩ := sent_facts x K (by omega) w ok
  have hs0 := ok.s0
  have hs1 := ok.s1
  have hd0 := ok.d0
  have hd1 := ok.d1
  have hrE : rwE (frL x K) = 0 := by unfold rwE; rw [if_neg (by rw [got_to _ sf.got]; simp)]; exact sf.pe
  have h1 := same_rw (frL x K) sf.by' sf.got sf.pe 0 (by omega) A P n0 n1 q0 q1
  have hfa : ∀ W, x.ok W → Calls Try.prog 10 #[x.val] W (FrameOk x K W) := fun W h => frame_any x K (by omega) W h hK
  have hm1 := sf.m1
  have hlen := sf.len
  have hml := sf.ml
  have hby := sf.by'
  have hgot := sf.got
  have hfl := sf.fl'
  have hpe := sf.pe
  obtain ⟨what, s, d, f, t, fl, B, n, c, ys0⟩ := x
  rw [show (Sn.mk what s d f t fl B n c ys0).val = .agg #[.int .i64 what, .int .u32 s, .int .u32 d, .int .u16 f, .int .u16 t, .int .i64 fl, .slice B n c] from rfl] at *
  simp only at hml hfl hs0 hs1 hd0 hd1
  generalize hz : frL ⟨what, s, d, f, t, fl, B, n, c, ys0⟩ K = zs at *
  obtain ⟨S, N, pos, isz, eS, eN, eP, eI, hS0, hS1, hN20, hNl, her⟩ := pg_nat zs hby hgot hpe
  have hfr : freeL S isz pos 12 0 16 2 (fld zs).proto (pgP (fld zs) zs).inn.proto (pgP (fld zs) zs).er (pgP (fld zs) zs).bare = frK (fld zs) (pgP (fld zs) zs) 0 := freeL_frK S isz pos 0 (by omega) (fld zs) (pgP (fld zs) zs) eS eP eI
  obtain ⟨ys, hys⟩ : ∃ ys, ys = rwL zs 0 A P := ⟨_, rfl⟩
  rw [← hys] at h1
  have hyb : By ys := by rw [hys]; exact (rwL_by zs hby 0 A P n0 n1 q0 q1)
  obtain ⟨was, hwas⟩ : ∃ v, v = if (pgP (fld zs) zs).er = true then (pgP (fld zs) zs).dp else (pgP (fld zs) zs).sp := ⟨_, rfl⟩
  have hwr := was_range zs hby hgot hpe was hwas
  have h2 := same_rw ys hyb h1.gy h1.py 0 (by omega) (fld zs).src was (by rw [hfl]; exact hs0) (by rw [hfl]; exact hs1) hwr.1 hwr.2
  obtain ⟨xs, hxs⟩ : ∃ xs, xs = rwL ys 0 (fld zs).src was := ⟨_, rfl⟩
  rw [← hxs] at h2
  have hxb : By xs := by rw [hxs]; exact (rwL_by ys hyb 0 _ _ (by rw [hfl]; exact hs0) (by rw [hfl]; exact hs1) hwr.1 hwr.2)
  have hbk := fun hd => back_list zs ys xs A P was hby hyb hxb h1 h2 hwas hd
  have hry : rwE ys = 0 := by unfold rwE; rw [if_neg (by rw [got_to _ h1.gy]; simp)]; exact h1.py
  have hylen := h1.len
  have hny : (fld ys).len.toNat = 20 + m := by
    rw [h1.hd, (hdA_size _ _ _).2.1, hfl]; show (20 + (m : Int)).toNat = _; omega
  have hgH := hgot.hd
  have hgE := got_to zs hgot
  have hN : (fld zs).len.toNat = 20 + m := by rw [hfl]; show (20 + (m : Int)).toNat = _; omega
  generalize hcp : carP K = cp at *
  rw [hfl] at hgH hbk hpe hfr eS eN eP eI hxs hwas hylen her
  generalize hZ : pgP ⟨20, 20 + (m : Int), 64, cp, s, d⟩ zs = Z at *
  obtain ⟨z0, z1, z2, z3, z4, z5, z6, ⟨z7, z8, z9, z10, z11, z12⟩, z13, z14⟩ := Z
  simp only at hbk hfr eS eN eP eI hxs hwas hylen her
  subst eP eI
  obtain rfl : S = 20 := by omega
  have HFA := Lib.hid hfa
  have HOK := Lib.hid ok
  have HRE := Lib.hid hrE
  have HLN := Lib.hid hlen
  have HML := Lib.hid hml
  have HZ := Lib.hid hz
  have HBK := Lib.hid hbk
  have HRY := Lib.hid hry
  have HNY := Lib.hid hny
  have HN := Lib.hid hN
  have HYL := Lib.hid (show ys.length = 20 + m by omega)
  have HGH := Lib.hid hgH
  have HGE := Lib.hid hgE
  have HPE := Lib.hid hpe
  have HPZ := Lib.hid hZ
  have HYS := Lib.hid hys
  have HXS := Lib.hid hxs
  have HWA := Lib.hid hwas
  have HS0 := Lib.hid hs0
  have HS1 := Lib.hid hs1
  have HD0 := Lib.hid hd0
  have HD1 := Lib.hid hd1
  have HER := Lib.hid (fun e => (⟨(her e).1, (her e).2.1, (her e).2.2.1⟩ : pos = 20 + 8 ∧ 20 ≤ isz ∧ isz ≤ 60))
  obtain ⟨FK, hFK⟩ : ∃ x, frK ⟨20, 20 + (m : Int), 64, cp, s, d⟩ ⟨z0, z1, z2, z3, z4, z5, z6, ⟨(isz : Int), z8, z9, z10, z11, z12⟩, (pos : Int), z14⟩ 0 = x := ⟨_, rfl⟩
  rw [hFK] at HBK hfr
  have HFK := Lib.hid hfr
  have HW0 := Lib.hid hwr.1
  have HW1 := Lib.hid hwr.2
  clear hfa ok hrE hlen hml hz hbk hry hny hN hgH hgE hpe hZ hys hxs hwas hs0 hs1 hd0 hd1 her hFK hfr hwr h1 h2 hyb hxb hylen sf hby hgot hfl hK hK7 hS0 hS1 hN20 hNl eS eN hcp
  go_enter Try.func4, Try.ntmps4
  go_upto_region 1 with fail
  have HB1 := Lib.hid (ball w (.cells #[.int .i64 what, .int .u32 s, .int .u32 d, .int .u16 f, .int .u16 t, .int .i64 fl, .slice B n c] 26))
  have HK1 := Lib.hid (Blk.new w 26 #[.int .i64 what, .int .u32 s, .int .u32 d, .int .u16 f, .int .u16 t, .int .i64 fl, .slice B n c])
  generalize w.alloc (.cells #[.int .i64 what, .int .u32 s, .int .u32 d, .int .u16 f, .int .u16 t, .int .i64 fl, .slice B n c] 26) = w1 at *
  have hz1 := HB1.out.size
  obtain ⟨g, hg⟩ : ∃ g, g = w.heap.size := ⟨_, rfl⟩
  rw [← hg] at HK1
  rw [← hg]
  clear hg
  have k0 : w1.cell? ⟨g, 0, none⟩ = some (.int .i64 what) := HK1.out.cell 0
  have k1 : w1.cell? ⟨g, 1, none⟩ = some (.int .u32 s) := HK1.out.cell 1
  have k2 : w1.cell? ⟨g, 2, none⟩ = some (.int .u32 d) := HK1.out.cell 2
  have k3 : w1.cell? ⟨g, 3, none⟩ = some (.int .u16 f) := HK1.out.cell 3
  have k4 : w1.cell? ⟨g, 4, none⟩ = some (.int .u16 t) := HK1.out.cell 4
  have k5 : w1.cell? ⟨g, 5, none⟩ = some (.int .i64 fl) := HK1.out.cell 5
  have k6 : w1.cell? ⟨g, 6, none⟩ = some (.slice B n c) := HK1.out.cell 6
  go_wp2_with fail
  clear k0 k1 k2 k3 k4 k5 k6
  refine (HFA.out _ (HOK.out.below HB1.out)).mono ?_
  rintro e w2 ⟨g2, m2, cc, rfl, hm2, _, ho2, hb2⟩
  obtain rfl : m2 = m := by rw [hm2]; exact HML.out
  rw [HZ.out] at ho2
  have HB2 := Lib.hid (bthen HB1.out hb2)
  have HR2 := Lib.hid ho2.rd
  have hcc := ho2.cap
  clear hm2 ho2 hb2 HB1 HK1 HFA HML HZ HOK hz1
  have hG := refGet_any (some ⟨g2, 0, none⟩) (20 + m2) cc zs w2 HLN.out hcc (by omega) HR2.out
  rw [HGE.out, HGH.out, show (Hd.mk 20 (20 + (m2 : Int)) 64 cp s d).val = .agg #[.int .i64 20, .int .i64 (20 + (m2 : Int)), .int .i64 64, .int .i64 cp, .int .u32 s, .int .u32 d] from rfl] at hG
  have HG := Lib.hid hG
  clear hG
  go_wp2_with fail
  refine (HG.out).mono ?_
  rintro e w3 ⟨rfl, hb3⟩
  have HB3 := Lib.hid (bthen HB2.out hb3)
  have HR3 := Lib.hid (HR2.out.below hb3)
  clear hb3 HB2 HR2 HG
  go_upto_region 3 with fail
  have KA := Lib.hid (Blk.new w3 35 #[.int .i64 20, .int .i64 (20 + (m2 : Int)), .int .i64 64, .int .i64 cp, .int .u32 s, .int .u32 d])
  have HB4 := Lib.hid (bthen HB3.out (ball w3 (.cells #[.int .i64 20, .int .i64 (20 + (m2 : Int)), .int .i64 64, .int .i64 cp, .int .u32 s, .int .u32 d] 35)))
  have HR4 := Lib.hid (HR3.out.alloc (.cells #[.int .i64 20, .int .i64 (20 + (m2 : Int)), .int .i64 64, .int .i64 cp, .int .u32 s, .int .u32 d] 35))
  clear HB3 HR3
  generalize w3.alloc (.cells #[.int .i64 20, .int .i64 (20 + (m2 : Int)), .int .i64 64, .int .i64 cp, .int .u32 s, .int .u32 d] 35) = w4 at *
  generalize w3.heap.size = gh at *
  have hPG := rget_any 20 (20 + (m2 : Int)) 64 cp s d (some ⟨g2, 0, none⟩) (20 + m2) cc zs w4 HLN.out hcc (by omega) HR4.out HS0.out HS1.out HD0.out HD1.out
  rw [HPE.out, HPZ.out, show (Pt.mk z0 z1 z2 z3 z4 z5 z6 ⟨(isz : Int), z8, z9, z10, z11, z12⟩ (pos : Int) z14).val = .agg #[.int .i64 z0, .int .u16 z1, .int .u16 z2, .int .i64 z3, .int .i64 z4, .int .i64 z5, .bool z6, .int .i64 isz, .int .i64 z8, .int .i64 z9, .int .i64 z10, .int .u32 z11, .int .u32 z12, .int .i64 pos, .bool z14] from rfl] at hPG
  have HPG := Lib.hid hPG
  clear hPG
  go_wp2_with (first | ((with_reducible refine gd_ld 35 8 ?_); refine wpList_ld rfl 35 (.tmp 8) rfl _ rfl (KA.out) sRHead ?_) | fail)
  refine (HPG.out).mono ?_
  rintro e w5 ⟨rfl, hb5⟩
  have HB5 := Lib.hid (bthen HB4.out hb5)
  have HR5 := Lib.hid (HR4.out.below hb5)
  have KA5 := Lib.hid (KA.out.below hb5)
  clear hb5 HB4 HR4 KA HPG
  go_upto_region 4 with fail
  have KB := Lib.hid (Blk.new w5 39 #[.int .i64 z0, .int .u16 z1, .int .u16 z2, .int .i64 z3, .int .i64 z4, .int .i64 z5, .bool z6, .int .i64 isz, .int .i64 z8, .int .i64 z9, .int .i64 z10, .int .u32 z11, .int .u32 z12, .int .i64 pos, .bool z14])
  have KA6 := Lib.hid (KA5.out.alloc (.cells #[.int .i64 z0, .int .u16 z1, .int .u16 z2, .int .i64 z3, .int .i64 z4, .int .i64 z5, .bool z6, .int .i64 isz, .int .i64 z8, .int .i64 z9, .int .i64 z10, .int .u32 z11, .int .u32 z12, .int .i64 pos, .bool z14] 39))
  have HB6 := Lib.hid (bthen HB5.out (ball w5 (.cells #[.int .i64 z0, .int .u16 z1, .int .u16 z2, .int .i64 z3, .int .i64 z4, .int .i64 z5, .bool z6, .int .i64 isz, .int .i64 z8, .int .i64 z9, .int .i64 z10, .int .u32 z11, .int .u32 z12, .int .i64 pos, .bool z14] 39)))
  have HR6 := Lib.hid (HR5.out.alloc (.cells #[.int .i64 z0, .int .u16 z1, .int .u16 z2, .int .i64 z3, .int .i64 z4, .int .i64 z5, .bool z6, .int .i64 isz, .int .i64 z8, .int .i64 z9, .int .i64 z10, .int .u32 z11, .int .u32 z12, .int .i64 pos, .bool z14] 39))
  clear HB5 HR5 KA5
  generalize w5.alloc (.cells #[.int .i64 z0, .int .u16 z1, .int .u16 z2, .int .i64 z3, .int .i64 z4, .int .i64 z5, .bool z6, .int .i64 isz, .int .i64 z8, .int .i64 z9, .int .i64 z10, .int .u32 z11, .int .u32 z12, .int .i64 pos, .bool z14] 39) = w6 at *
  generalize w5.heap.size = gp at *
  go_wp2_with fail
  refine (out_ok A P (some ⟨g2, 0, none⟩) (20 + m2) cc (20 + m2) zs w6 HLN.out hcc (by omega) HR6.out n0 n1 q0 q1 HRE.out HN.out).mono ?_
  rintro e w7 ⟨g7, rfl, ho7, hb7⟩
  rw [← HYS.out] at ho7
  have HY7 := Lib.hid ho7
  have HB7 := Lib.hid (bthen HB6.out hb7)
  have HR7 := Lib.hid (HR6.out.below hb7)
  have KA := Lib.hid (KA6.out.below hb7)
  have KB' := Lib.hid (KB.out.below hb7)
  clear ho7 hb7 HB6 HR6 KA6 KB
  have KB := KB'
  clear KB'
  cases z6 with
  | false =>
    have hw := HWA.out
    rw [if_neg (by simp)] at hw
    subst hw
    have k1 : w7.cell? ⟨gp, 1, none⟩ = some (.int .u16 was) := KB.out.cell 1
    have k2 : w7.cell? ⟨gp, 2, none⟩ = some (.int .u16 z2) := KB.out.cell 2
    have k6 : w7.cell? ⟨gp, 6, none⟩ = some (.bool false) := KB.out.cell 6
    have k4 : w7.cell? ⟨gh, 4, none⟩ = some (.int .u32 s) := KA.out.cell 4
    go_wp2_with fail
    refine (out_ok s was (some ⟨g7, 0, none⟩) (20 + m2) (20 + m2) (20 + m2) ys w7 HYL.out (Nat.le_refl _) (by omega) HY7.out.rd HS0.out HS1.out HW0.out HW1.out HRY.out HNY.out).mono ?_
    rintro e w9 ⟨g9, rfl, ho9, hb9⟩
    have hxx := HXS.out
    rw [← hxx] at ho9
    have HX9 := Lib.hid ho9
    have HB9 := Lib.hid (bthen HB7.out hb9)
    have HR9 := Lib.hid (HR7.out.below hb9)
    have KA9 := Lib.hid (KA.out.below hb9)
    have KB9 := Lib.hid (KB.out.below hb9)
    clear ho9 hb9 k1 k2 k6 k4 HB7 HR7 KA KB HY7 hxx
    go_wp2_with fail
    refine (writes_any w9).mono ?_
    rintro e w10 ⟨rfl, hb10⟩
    have HX10 := Lib.hid (HX9.out.rd.below hb10)
    have HXL := Lib.hid HX9.out.len
    have HB10 := Lib.hid (bthen HB9.out hb10)
    have HR10 := Lib.hid (HR9.out.below hb10)
    have KA10 := Lib.hid (KA9.out.below hb10)
    have KB10 := Lib.hid (KB9.out.below hb10)
    clear hb10 HB9 HR9 KA9 KB9 HX9
    have k6 : w10.cell? ⟨gp, 6, none⟩ = some (.bool false) := KB10.out.cell 6
    have k12 : w10.cell? ⟨gp, 12, none⟩ = some (.int .u32 z12) := KB10.out.cell 12
    have k4 : w10.cell? ⟨gh, 4, none⟩ = some (.int .u32 s) := KA10.out.cell 4
    have HBL := Lib.hid (HBK.out (fun h => by cases h))
    go_upto_region 13 with fail
    clear k6 k12 k4
    go_wp2_with (first | ((with_reducible refine gd_ld 35 8 ?_); refine wpList_ld rfl 35 (.tmp 8) rfl _ rfl (KA10.out) sRHead ?_) | ((with_reducible refine gd_ld 39 10 ?_); refine wpList_ld rfl 39 (.tmp 10) rfl _ rfl (KB10.out) sRPart ?_) | fail)
    refine (free_core 20 isz pos 12 0 16 2 (20 + (m2 : Int)) 64 cp s d z0 was z2 z3 z4 z5 false z8 z9 z10 z11 z12 z14 true _ (by omega) (by omega) (Or.inl ⟨rfl, rfl, rfl, rfl, rfl⟩) (fun h => by cases h)).mono ?_
    rintro r w11 ⟨b, rfl, hm, hb⟩
    rw [HFK.out] at hm
    have HS11 := Lib.hid (show StB w b FK (some ⟨g2, 0, none⟩) (some ⟨g9, 0, none⟩) zs xs w11 from ⟨hm, HR10.out.below hb, HX10.out.below hb, bthen HB10.out hb⟩)
    clear hm hb HR10 HX10 HB10 KA10 KB10
    go_wp2
    go_loopw [18] (fun s18 wt => ∃ k : Nat, s18 = .int .i64 k ∧ k ≤ 20 + m2 ∧ StB w b FK (some ⟨g2, 0, none⟩) (some ⟨g9, 0, none⟩) zs xs wt) (fun k _ => 20 + m2 - (intOf k).toNat)
    case atStart => exact ⟨0, rfl, by omega, HS11.out⟩
    case round =>
      obtain ⟨k, rfl, hk, hs⟩ := hrel
      have HS := Lib.hid hs
      clear hs HS11
      by_cases hlt : k < 20 + m2
      · have i0 : (k : Int) < 20 + (m2 : Int) := by omega
        obtain ⟨x, hx⟩ : ∃ x, lkV FK (k : Int) = x := ⟨_, rfl⟩
        have rl : ∀ W, StB w b FK (some ⟨g2, 0, none⟩) (some ⟨g9, 0, none⟩) zs xs W → (Instr.lookup 42 (.map (some b)) (.int .i64 k) false).run Try.prog W = .ok (.int .i64 x) W := fun W h => by rw [← hx]; exact h.m.lk _ (by unfold I64; omega)
        by_cases hx0 : x = 3
        · subst hx0
          clear hx
          go_upto_region 17 with fail
          refine wp_region_held_drew (S := (fun W => StB w b FK (some ⟨g2, 0, none⟩) (some ⟨g9, 0, none⟩) zs xs W)) (by kernel_rfl) (HS.out.below (bdrew _)) (fun hHeld => ?_)
          refine wpAnyH_take (i := 0) (oi := ⟨some 97, _, _, _, _, _⟩) (v := ?tvvf0) rfl (by kernel_rfl) (by kernel_rfl) (by kernel_rfl) (fun _ _ _ h => h) (Or.inl ⟨by kernel_rfl, ?tyvf0⟩) (by assumption) ?trvf0
          case tyvf0 => (intro w hSw; first | (go_simp; done) | (go_simp; with_reducible rfl))
          case' trvf0 => try simp only [Act.put, List.setIfInBounds_toArray, List.set_cons_zero, List.set_cons_succ]
          refine wpAnyH_take (i := 1) (oi := ⟨some 98, _, _, _, _, _⟩) (v := ?tvvf1) rfl (by kernel_rfl) (by kernel_rfl) (by kernel_rfl) (fun _ _ _ h => h) (Or.inl ⟨by kernel_rfl, ?tyvf1⟩) (by assumption) ?trvf1
          case tyvf1 => (intro w hSw; first | (go_simp; done) | (go_simp; with_reducible rfl))
          case' trvf1 => try simp only [Act.put, List.setIfInBounds_toArray, List.set_cons_zero, List.set_cons_succ]
          refine wpAnyH_take (i := 2) (oi := ⟨some 99, _, _, _, _, _⟩) (v := ?tvvf2) rfl (by kernel_rfl) (by kernel_rfl) (by kernel_rfl) (fun _ _ _ h => h) (Or.inl ⟨by kernel_rfl, ?tyvf2⟩) (by assumption) ?trvf2
          case tyvf2 => (intro w hSw; first | (go_simp; done) | (go_simp; with_reducible rfl))
          case' trvf2 => try simp only [Act.put, List.setIfInBounds_toArray, List.set_cons_zero, List.set_cons_succ]
          refine wpAnyH_take (i := 3) (oi := ⟨some 100, _, _, _, _, _⟩) (v := ?tvvf3) rfl (by kernel_rfl) (by kernel_rfl) (by kernel_rfl) (fun _ _ _ h => h) (Or.inl ⟨by kernel_rfl, ?tyvf3⟩) (by assumption) ?trvf3
          case tyvf3 => (intro w hSw; first | (go_simp; done) | (go_simp; with_reducible rfl))
          case' trvf3 => try simp only [Act.put, List.setIfInBounds_toArray, List.set_cons_zero, List.set_cons_succ]
          refine wpAnyH_take (i := 4) (oi := ⟨some 101, _, _, _, _, _⟩) (v := ?tvvf4) rfl (by kernel_rfl) (by kernel_rfl) (by kernel_rfl) (fun _ _ _ h => h) (Or.inl ⟨by kernel_rfl, ?tyvf4⟩) (by assumption) ?trvf4
          case tyvf4 => (intro w hSw; first | (go_simp; done) | (go_simp; with_reducible rfl))
          case' trvf4 => try simp only [Act.put, List.setIfInBounds_toArray, List.set_cons_zero, List.set_cons_succ]
          refine wpAnyH_take (i := 5) (oi := ⟨some 102, _, _, _, _, _⟩) (v := undef) rfl (by kernel_rfl) (by kernel_rfl) (by kernel_rfl) (fun _ _ _ h => h) (Or.inr ⟨by kernel_rfl, rfl⟩) (by assumption) ?_
          try simp only [Act.put, List.setIfInBounds_toArray, List.set_cons_zero, List.set_cons_succ]
          refine wpAnyH_take (i := 6) (oi := ⟨some 103, _, _, _, _, _⟩) (v := undef) rfl (by kernel_rfl) (by kernel_rfl) (by kernel_rfl) (fun _ _ _ h => h) (Or.inr ⟨by kernel_rfl, rfl⟩) (by assumption) ?_
          try simp only [Act.put, List.setIfInBounds_toArray, List.set_cons_zero, List.set_cons_succ]
          refine wpAnyH_take (i := 7) (oi := ⟨some 104, _, _, _, _, _⟩) (v := undef) rfl (by kernel_rfl) (by kernel_rfl) (by kernel_rfl) (fun _ _ _ h => h) (Or.inr ⟨by kernel_rfl, rfl⟩) (by assumption) ?_
          try simp only [Act.put, List.setIfInBounds_toArray, List.set_cons_zero, List.set_cons_succ]
          refine wpAnyH_take (i := 8) (oi := ⟨some 105, _, _, _, _, _⟩) (v := undef) rfl (by kernel_rfl) (by kernel_rfl) (by kernel_rfl) (fun _ _ _ h => h) (Or.inr ⟨by kernel_rfl, rfl⟩) (by assumption) ?_
          try simp only [Act.put, List.setIfInBounds_toArray, List.set_cons_zero, List.set_cons_succ]
          refine wpAnyH_take (i := 9) (oi := ⟨some 106, _, _, _, _, _⟩) (v := undef) rfl (by kernel_rfl) (by kernel_rfl) (by kernel_rfl) (fun _ _ _ h => h) (Or.inr ⟨by kernel_rfl, rfl⟩) (by assumption) ?_
          try simp only [Act.put, List.setIfInBounds_toArray, List.set_cons_zero, List.set_cons_succ]
          refine wpAnyH_take (i := 10) (oi := ⟨some 107, _, _, _, _, _⟩) (v := undef) rfl (by kernel_rfl) (by kernel_rfl) (by kernel_rfl) (fun _ _ _ h => h) (Or.inr ⟨by kernel_rfl, rfl⟩) (by assumption) ?_
          try simp only [Act.put, List.setIfInBounds_toArray, List.set_cons_zero, List.set_cons_succ]
          refine wpAnyH_take (i := 11) (oi := ⟨some 108, _, _, _, _, _⟩) (v := undef) rfl (by kernel_rfl) (by kernel_rfl) (by kernel_rfl) (fun _ _ _ h => h) (Or.inr ⟨by kernel_rfl, rfl⟩) (by assumption) ?_
          try simp only [Act.put, List.setIfInBounds_toArray, List.set_cons_zero, List.set_cons_succ]
          refine wpAnyH_take (i := 12) (oi := ⟨some 109, _, _, _, _, _⟩) (v := undef) rfl (by kernel_rfl) (by kernel_rfl) (by kernel_rfl) (fun _ _ _ h => h) (Or.inr ⟨by kernel_rfl, rfl⟩) (by assumption) ?_
          try simp only [Act.put, List.setIfInBounds_toArray, List.set_cons_zero, List.set_cons_succ]
          refine wpAnyH_take (i := 13) (oi := ⟨some 110, _, _, _, _, _⟩) (v := undef) rfl (by kernel_rfl) (by kernel_rfl) (by kernel_rfl) (fun _ _ _ h => h) (Or.inr ⟨by kernel_rfl, rfl⟩) (by assumption) ?_
          try simp only [Act.put, List.setIfInBounds_toArray, List.set_cons_zero, List.set_cons_succ]
          refine wpAnyH_take (i := 14) (oi := ⟨some 111, _, _, _, _, _⟩) (v := ?tvvf14) rfl (by kernel_rfl) (by kernel_rfl) (by kernel_rfl) (fun _ _ _ h => h) (Or.inl ⟨by kernel_rfl, ?tyvf14⟩) (by assumption) ?trvf14
          case tyvf14 => (intro w hSw; first | (go_simp; done) | (go_simp; with_reducible rfl))
          case' trvf14 => try simp only [Act.put, List.setIfInBounds_toArray, List.set_cons_zero, List.set_cons_succ]
          refine wpAnyH_done (by kernel_rfl) ?_ _
          have HS' := Lib.hid hHeld
          clear hHeld HS rl
          go_wp2
          go_roundw
          case rel => exact ⟨k + 1, by go_num, by omega, HS'.out⟩
          case measure => simp [intOf]; omega
        · have x1 : (x != 3) = true := by simpa using hx0
          have hno := HBL.out k (by have := HXL.out; omega) (by rw [hx]; exact hx0)
          obtain ⟨v, hv⟩ : ∃ v, zs.getD k 0 = v := ⟨_, rfl⟩
          have hl1 := HLN.out
          have hl2 := HXL.out
          have r1 : ∀ W, StB w b FK (some ⟨g2, 0, none⟩) (some ⟨g9, 0, none⟩) zs xs W → W.cell? ⟨g2, k, none⟩ = some (.int .u8 v) := fun W h => by rw [← hv]; have := h.r1.getAt k (by omega); rwa [Nat.zero_add] at this
          have r2 : ∀ W, StB w b FK (some ⟨g2, 0, none⟩) (some ⟨g9, 0, none⟩) zs xs W → W.cell? ⟨g9, k, none⟩ = some (.int .u8 v) := fun W h => by rw [← hv, ← hno]; have := h.r2.getAt k (by omega); rwa [Nat.zero_add] at this
          clear hno hv hx hl1 hl2 hx0
          go_upto_region 17 with fail
          refine wp_region_held_drew (S := (fun W => StB w b FK (some ⟨g2, 0, none⟩) (some ⟨g9, 0, none⟩) zs xs W)) (by kernel_rfl) (HS.out.below (bdrew _)) (fun hHeld => ?_)
          refine wpAnyH_take (i := 0) (oi := ⟨some 97, _, _, _, _, _⟩) (v := ?tvuf0) rfl (by kernel_rfl) (by kernel_rfl) (by kernel_rfl) (fun _ _ _ h => h) (Or.inl ⟨by kernel_rfl, ?tyuf0⟩) (by assumption) ?truf0
          case tyuf0 => (intro w hSw; first | (go_simp; done) | (go_simp; with_reducible rfl))
          case' truf0 => try simp only [Act.put, List.setIfInBounds_toArray, List.set_cons_zero, List.set_cons_succ]
          refine wpAnyH_take (i := 1) (oi := ⟨some 98, _, _, _, _, _⟩) (v := ?tvuf1) rfl (by kernel_rfl) (by kernel_rfl) (by kernel_rfl) (fun _ _ _ h => h) (Or.inl ⟨by kernel_rfl, ?tyuf1⟩) (by assumption) ?truf1
          case tyuf1 => (intro w hSw; first | (go_simp; done) | (go_simp; with_reducible rfl))
          case' truf1 => try simp only [Act.put, List.setIfInBounds_toArray, List.set_cons_zero, List.set_cons_succ]
          refine wpAnyH_take (i := 2) (oi := ⟨some 99, _, _, _, _, _⟩) (v := ?tvuf2) rfl (by kernel_rfl) (by kernel_rfl) (by kernel_rfl) (fun _ _ _ h => h) (Or.inl ⟨by kernel_rfl, ?tyuf2⟩) (by assumption) ?truf2
          case tyuf2 => (intro w hSw; first | (go_simp; done) | (go_simp; with_reducible rfl))
          case' truf2 => try simp only [Act.put, List.setIfInBounds_toArray, List.set_cons_zero, List.set_cons_succ]
          refine wpAnyH_take (i := 3) (oi := ⟨some 100, _, _, _, _, _⟩) (v := ?tvuf3) rfl (by kernel_rfl) (by kernel_rfl) (by kernel_rfl) (fun _ _ _ h => h) (Or.inl ⟨by kernel_rfl, ?tyuf3⟩) (by assumption) ?truf3
          case tyuf3 => (intro w hSw; first | (go_simp; done) | (go_simp; with_reducible rfl))
          case' truf3 => try simp only [Act.put, List.setIfInBounds_toArray, List.set_cons_zero, List.set_cons_succ]
          refine wpAnyH_take (i := 4) (oi := ⟨some 101, _, _, _, _, _⟩) (v := ?tvuf4) rfl (by kernel_rfl) (by kernel_rfl) (by kernel_rfl) (fun _ _ _ h => h) (Or.inl ⟨by kernel_rfl, ?tyuf4⟩) (by assumption) ?truf4
          case tyuf4 => (intro w hSw; first | (go_simp; done) | (go_simp; with_reducible rfl))
          case' truf4 => try simp only [Act.put, List.setIfInBounds_toArray, List.set_cons_zero, List.set_cons_succ]
          refine wpAnyH_take (i := 5) (oi := ⟨some 102, _, _, _, _, _⟩) (v := ?tvuf5) rfl (by kernel_rfl) (by kernel_rfl) (by kernel_rfl) (fun _ _ _ h => h) (Or.inl ⟨by kernel_rfl, ?tyuf5⟩) (by assumption) ?truf5
          case tyuf5 => (intro w hSw; first | (go_simp; done) | (go_simp; with_reducible rfl))
          case' truf5 => try simp only [Act.put, List.setIfInBounds_toArray, List.set_cons_zero, List.set_cons_succ]
          refine wpAnyH_take (i := 6) (oi := ⟨some 103, _, _, _, _, _⟩) (v := ?tvuf6) rfl (by kernel_rfl) (by kernel_rfl) (by kernel_rfl) (fun _ _ _ h => h) (Or.inl ⟨by kernel_rfl, ?tyuf6⟩) (by assumption) ?truf6
          case tyuf6 => (intro w hSw; first | (go_simp; done) | (go_simp; with_reducible rfl))
          case' truf6 => try simp only [Act.put, List.setIfInBounds_toArray, List.set_cons_zero, List.set_cons_succ]
          refine wpAnyH_take (i := 7) (oi := ⟨some 104, _, _, _, _, _⟩) (v := ?tvuf7) rfl (by kernel_rfl) (by kernel_rfl) (by kernel_rfl) (fun _ _ _ h => h) (Or.inl ⟨by kernel_rfl, ?tyuf7⟩) (by assumption) ?truf7
          case tyuf7 => (intro w hSw; first | (go_simp; done) | (go_simp; with_reducible rfl))
          case' truf7 => try simp only [Act.put, List.setIfInBounds_toArray, List.set_cons_zero, List.set_cons_succ]
          refine wpAnyH_take (i := 8) (oi := ⟨some 105, _, _, _, _, _⟩) (v := ?tvuf8) rfl (by kernel_rfl) (by kernel_rfl) (by kernel_rfl) (fun _ _ _ h => h) (Or.inl ⟨by kernel_rfl, ?tyuf8⟩) (by assumption) ?truf8
          case tyuf8 => (intro w hSw; first | (go_simp; done) | (go_simp; with_reducible rfl))
          case' truf8 => try simp only [Act.put, List.setIfInBounds_toArray, List.set_cons_zero, List.set_cons_succ]
          refine wpAnyH_take (i := 9) (oi := ⟨some 106, _, _, _, _, _⟩) (v := ?tvuf9) rfl (by kernel_rfl) (by kernel_rfl) (by kernel_rfl) (fun _ _ _ h => h) (Or.inl ⟨by kernel_rfl, ?tyuf9⟩) (by assumption) ?truf9
          case tyuf9 => (intro w hSw; first | (go_simp; done) | (go_simp; with_reducible rfl))
          case' truf9 => try simp only [Act.put, List.setIfInBounds_toArray, List.set_cons_zero, List.set_cons_succ]
          refine wpAnyH_take (i := 10) (oi := ⟨some 107, _, _, _, _, _⟩) (v := ?tvuf10) rfl (by kernel_rfl) (by kernel_rfl) (by kernel_rfl) (fun _ _ _ h => h) (Or.inl ⟨by kernel_rfl, ?tyuf10⟩) (by assumption) ?truf10
          case tyuf10 => (intro w hSw; first | (go_simp; done) | (go_simp; with_reducible rfl))
          case' truf10 => try simp only [Act.put, List.setIfInBounds_toArray, List.set_cons_zero, List.set_cons_succ]
          refine wpAnyH_take (i := 11) (oi := ⟨some 108, _, _, _, _, _⟩) (v := ?tvuf11) rfl (by kernel_rfl) (by kernel_rfl) (by kernel_rfl) (fun _ _ _ h => h) (Or.inl ⟨by kernel_rfl, ?tyuf11⟩) (by assumption) ?truf11
          case tyuf11 => (intro w hSw; first | (go_simp; done) | (go_simp; with_reducible rfl))
          case' truf11 => try simp only [Act.put, List.setIfInBounds_toArray, List.set_cons_zero, List.set_cons_succ]
          refine wpAnyH_take (i := 12) (oi := ⟨some 109, _, _, _, _, _⟩) (v := ?tvuf12) rfl (by kernel_rfl) (by kernel_rfl) (by kernel_rfl) (fun _ _ _ h => h) (Or.inl ⟨by kernel_rfl, ?tyuf12⟩) (by assumption) ?truf12
          case tyuf12 => (intro w hSw; first | (go_simp; done) | (go_simp; with_reducible rfl))
          case' truf12 => try simp only [Act.put, List.setIfInBounds_toArray, List.set_cons_zero, List.set_cons_succ]
          refine wpAnyH_take (i := 13) (oi := ⟨some 110, _, _, _, _, _⟩) (v := ?tvuf13) rfl (by kernel_rfl) (by kernel_rfl) (by kernel_rfl) (fun _ _ _ h => h) (Or.inl ⟨by kernel_rfl, ?tyuf13⟩) (by assumption) ?truf13
          case tyuf13 => (intro w hSw; first | (go_simp; done) | (go_simp; with_reducible rfl))
          case' truf13 => try simp only [Act.put, List.setIfInBounds_toArray, List.set_cons_zero, List.set_cons_succ]
          refine wpAnyH_take (i := 14) (oi := ⟨some 111, _, _, _, _, _⟩) (v := ?tvuf14) rfl (by kernel_rfl) (by kernel_rfl) (by kernel_rfl) (fun _ _ _ h => h) (Or.inl ⟨by kernel_rfl, ?tyuf14⟩) (by assumption) ?truf14
          case tyuf14 => (intro w hSw; first | (go_simp; done) | (go_simp; with_reducible rfl))
          case' truf14 => try simp only [Act.put, List.setIfInBounds_toArray, List.set_cons_zero, List.set_cons_succ]
          refine wpAnyH_done (by kernel_rfl) ?_ _
          have HS' := Lib.hid hHeld
          clear hHeld HS rl r1 r2 x1
          go_wp2
          go_roundw
          case rel => exact ⟨k + 1, by go_num, by omega, HS'.out⟩
          case measure => simp [intOf]; omega
      · obtain rfl : k = 20 + m2 := by omega
        go_wp2
        go_ret
        exact ⟨rfl, HS.out.bel⟩
  | true =>
    have hw := HWA.out
    rw [if_pos rfl] at hw
    subst hw
    have k1 : w7.cell? ⟨gp, 1, none⟩ = some (.int .u16 z1) := KB.out.cell 1
    have k2 : w7.cell? ⟨gp, 2, none⟩ = some (.int .u16 was) := KB.out.cell 2
    have k6 : w7.cell? ⟨gp, 6, none⟩ = some (.bool true) := KB.out.cell 6
    have k4 : w7.cell? ⟨gh, 4, none⟩ = some (.int .u32 s) := KA.out.cell 4
    go_wp2_with fail
    refine (out_ok s was (some ⟨g7, 0, none⟩) (20 + m2) (20 + m2) (20 + m2) ys w7 HYL.out (Nat.le_refl _) (by omega) HY7.out.rd HS0.out HS1.out HW0.out HW1.out HRY.out HNY.out).mono ?_
    rintro e w9 ⟨g9, rfl, ho9, hb9⟩
    have hxx := HXS.out
    rw [← hxx] at ho9
    have HX9 := Lib.hid ho9
    have HB9 := Lib.hid (bthen HB7.out hb9)
    have HR9 := Lib.hid (HR7.out.below hb9)
    have KA9 := Lib.hid (KA.out.below hb9)
    have KB9 := Lib.hid (KB.out.below hb9)
    clear ho9 hb9 k1 k2 k6 k4 HB7 HR7 KA KB HY7 hxx
    go_wp2_with fail
    refine (writes_any w9).mono ?_
    rintro e w10 ⟨rfl, hb10⟩
    have HX10 := Lib.hid (HX9.out.rd.below hb10)
    have HXL := Lib.hid HX9.out.len
    have HB10 := Lib.hid (bthen HB9.out hb10)
    have HR10 := Lib.hid (HR9.out.below hb10)
    have KA10 := Lib.hid (KA9.out.below hb10)
    have KB10 := Lib.hid (KB9.out.below hb10)
    clear hb10 HB9 HR9 KA9 KB9 HX9
    have k6 : w10.cell? ⟨gp, 6, none⟩ = some (.bool true) := KB10.out.cell 6
    have k12 : w10.cell? ⟨gp, 12, none⟩ = some (.int .u32 z12) := KB10.out.cell 12
    have k4 : w10.cell? ⟨gh, 4, none⟩ = some (.int .u32 s) := KA10.out.cell 4
    by_cases hds : z12 = s
    · subst hds
      have HBL := Lib.hid (HBK.out (fun _ => rfl))
      go_upto_region 13 with fail
      clear k6 k12 k4
      go_wp2_with (first | ((with_reducible refine gd_ld 35 8 ?_); refine wpList_ld rfl 35 (.tmp 8) rfl _ rfl (KA10.out) sRHead ?_) | ((with_reducible refine gd_ld 39 10 ?_); refine wpList_ld rfl 39 (.tmp 10) rfl _ rfl (KB10.out) sRPart ?_) | fail)
      refine (free_core 20 isz pos 12 0 16 2 (20 + (m2 : Int)) 64 cp z12 d z0 z1 was z3 z4 z5 true z8 z9 z10 z11 z12 z14 true _ (by omega) (by omega) (Or.inl ⟨rfl, rfl, rfl, rfl, rfl⟩) (fun _ => HER.out trivial)).mono ?_
      rintro r w11 ⟨b, rfl, hm, hb⟩
      rw [HFK.out] at hm
      have HS11 := Lib.hid (show StB w b FK (some ⟨g2, 0, none⟩) (some ⟨g9, 0, none⟩) zs xs w11 from ⟨hm, HR10.out.below hb, HX10.out.below hb, bthen HB10.out hb⟩)
      clear hm hb HR10 HX10 HB10 KA10 KB10
      go_wp2
      go_loopw [18] (fun s18 wt => ∃ k : Nat, s18 = .int .i64 k ∧ k ≤ 20 + m2 ∧ StB w b FK (some ⟨g2, 0, none⟩) (some ⟨g9, 0, none⟩) zs xs wt) (fun k _ => 20 + m2 - (intOf k).toNat)
      case atStart => exact ⟨0, rfl, by omega, HS11.out⟩
      case round =>
        obtain ⟨k, rfl, hk, hs⟩ := hrel
        have HS := Lib.hid hs
        clear hs HS11
        by_cases hlt : k < 20 + m2
        · have i0 : (k : Int) < 20 + (m2 : Int) := by omega
          obtain ⟨x, hx⟩ : ∃ x, lkV FK (k : Int) = x := ⟨_, rfl⟩
          have rl : ∀ W, StB w b FK (some ⟨g2, 0, none⟩) (some ⟨g9, 0, none⟩) zs xs W → (Instr.lookup 42 (.map (some b)) (.int .i64 k) false).run Try.prog W = .ok (.int .i64 x) W := fun W h => by rw [← hx]; exact h.m.lk _ (by unfold I64; omega)
          by_cases hx0 : x = 3
          · subst hx0
            clear hx
            go_upto_region 17 with fail
            refine wp_region_held_drew (S := (fun W => StB w b FK (some ⟨g2, 0, none⟩) (some ⟨g9, 0, none⟩) zs xs W)) (by kernel_rfl) (HS.out.below (bdrew _)) (fun hHeld => ?_)
            refine wpAnyH_take (i := 0) (oi := ⟨some 97, _, _, _, _, _⟩) (v := ?tvvt0) rfl (by kernel_rfl) (by kernel_rfl) (by kernel_rfl) (fun _ _ _ h => h) (Or.inl ⟨by kernel_rfl, ?tyvt0⟩) (by assumption) ?trvt0
            case tyvt0 => (intro w hSw; first | (go_simp; done) | (go_simp; with_reducible rfl))
            case' trvt0 => try simp only [Act.put, List.setIfInBounds_toArray, List.set_cons_zero, List.set_cons_succ]
            refine wpAnyH_take (i := 1) (oi := ⟨some 98, _, _, _, _, _⟩) (v := ?tvvt1) rfl (by kernel_rfl) (by kernel_rfl) (by kernel_rfl) (fun _ _ _ h => h) (Or.inl ⟨by kernel_rfl, ?tyvt1⟩) (by assumption) ?trvt1
            case tyvt1 => (intro w hSw; first | (go_simp; done) | (go_simp; with_reducible rfl))
            case' trvt1 => try simp only [Act.put, List.setIfInBounds_toArray, List.set_cons_zero, List.set_cons_succ]
            refine wpAnyH_take (i := 2) (oi := ⟨some 99, _, _, _, _, _⟩) (v := ?tvvt2) rfl (by kernel_rfl) (by kernel_rfl) (by kernel_rfl) (fun _ _ _ h => h) (Or.inl ⟨by kernel_rfl, ?tyvt2⟩) (by assumption) ?trvt2
            case tyvt2 => (intro w hSw; first | (go_simp; done) | (go_simp; with_reducible rfl))
            case' trvt2 => try simp only [Act.put, List.setIfInBounds_toArray, List.set_cons_zero, List.set_cons_succ]
            refine wpAnyH_take (i := 3) (oi := ⟨some 100, _, _, _, _, _⟩) (v := ?tvvt3) rfl (by kernel_rfl) (by kernel_rfl) (by kernel_rfl) (fun _ _ _ h => h) (Or.inl ⟨by kernel_rfl, ?tyvt3⟩) (by assumption) ?trvt3
            case tyvt3 => (intro w hSw; first | (go_simp; done) | (go_simp; with_reducible rfl))
            case' trvt3 => try simp only [Act.put, List.setIfInBounds_toArray, List.set_cons_zero, List.set_cons_succ]
            refine wpAnyH_take (i := 4) (oi := ⟨some 101, _, _, _, _, _⟩) (v := ?tvvt4) rfl (by kernel_rfl) (by kernel_rfl) (by kernel_rfl) (fun _ _ _ h => h) (Or.inl ⟨by kernel_rfl, ?tyvt4⟩) (by assumption) ?trvt4
            case tyvt4 => (intro w hSw; first | (go_simp; done) | (go_simp; with_reducible rfl))
            case' trvt4 => try simp only [Act.put, List.setIfInBounds_toArray, List.set_cons_zero, List.set_cons_succ]
            refine wpAnyH_take (i := 5) (oi := ⟨some 102, _, _, _, _, _⟩) (v := undef) rfl (by kernel_rfl) (by kernel_rfl) (by kernel_rfl) (fun _ _ _ h => h) (Or.inr ⟨by kernel_rfl, rfl⟩) (by assumption) ?_
            try simp only [Act.put, List.setIfInBounds_toArray, List.set_cons_zero, List.set_cons_succ]
            refine wpAnyH_take (i := 6) (oi := ⟨some 103, _, _, _, _, _⟩) (v := undef) rfl (by kernel_rfl) (by kernel_rfl) (by kernel_rfl) (fun _ _ _ h => h) (Or.inr ⟨by kernel_rfl, rfl⟩) (by assumption) ?_
            try simp only [Act.put, List.setIfInBounds_toArray, List.set_cons_zero, List.set_cons_succ]
            refine wpAnyH_take (i := 7) (oi := ⟨some 104, _, _, _, _, _⟩) (v := undef) rfl (by kernel_rfl) (by kernel_rfl) (by kernel_rfl) (fun _ _ _ h => h) (Or.inr ⟨by kernel_rfl, rfl⟩) (by assumption) ?_
            try simp only [Act.put, List.setIfInBounds_toArray, List.set_cons_zero, List.set_cons_succ]
            refine wpAnyH_take (i := 8) (oi := ⟨some 105, _, _, _, _, _⟩) (v := undef) rfl (by kernel_rfl) (by kernel_rfl) (by kernel_rfl) (fun _ _ _ h => h) (Or.inr ⟨by kernel_rfl, rfl⟩) (by assumption) ?_
            try simp only [Act.put, List.setIfInBounds_toArray, List.set_cons_zero, List.set_cons_succ]
            refine wpAnyH_take (i := 9) (oi := ⟨some 106, _, _, _, _, _⟩) (v := undef) rfl (by kernel_rfl) (by kernel_rfl) (by kernel_rfl) (fun _ _ _ h => h) (Or.inr ⟨by kernel_rfl, rfl⟩) (by assumption) ?_
            try simp only [Act.put, List.setIfInBounds_toArray, List.set_cons_zero, List.set_cons_succ]
            refine wpAnyH_take (i := 10) (oi := ⟨some 107, _, _, _, _, _⟩) (v := undef) rfl (by kernel_rfl) (by kernel_rfl) (by kernel_rfl) (fun _ _ _ h => h) (Or.inr ⟨by kernel_rfl, rfl⟩) (by assumption) ?_
            try simp only [Act.put, List.setIfInBounds_toArray, List.set_cons_zero, List.set_cons_succ]
            refine wpAnyH_take (i := 11) (oi := ⟨some 108, _, _, _, _, _⟩) (v := undef) rfl (by kernel_rfl) (by kernel_rfl) (by kernel_rfl) (fun _ _ _ h => h) (Or.inr ⟨by kernel_rfl, rfl⟩) (by assumption) ?_
            try simp only [Act.put, List.setIfInBounds_toArray, List.set_cons_zero, List.set_cons_succ]
            refine wpAnyH_take (i := 12) (oi := ⟨some 109, _, _, _, _, _⟩) (v := undef) rfl (by kernel_rfl) (by kernel_rfl) (by kernel_rfl) (fun _ _ _ h => h) (Or.inr ⟨by kernel_rfl, rfl⟩) (by assumption) ?_
            try simp only [Act.put, List.setIfInBounds_toArray, List.set_cons_zero, List.set_cons_succ]
            refine wpAnyH_take (i := 13) (oi := ⟨some 110, _, _, _, _, _⟩) (v := undef) rfl (by kernel_rfl) (by kernel_rfl) (by kernel_rfl) (fun _ _ _ h => h) (Or.inr ⟨by kernel_rfl, rfl⟩) (by assumption) ?_
            try simp only [Act.put, List.setIfInBounds_toArray, List.set_cons_zero, List.set_cons_succ]
            refine wpAnyH_take (i := 14) (oi := ⟨some 111, _, _, _, _, _⟩) (v := ?tvvt14) rfl (by kernel_rfl) (by kernel_rfl) (by kernel_rfl) (fun _ _ _ h => h) (Or.inl ⟨by kernel_rfl, ?tyvt14⟩) (by assumption) ?trvt14
            case tyvt14 => (intro w hSw; first | (go_simp; done) | (go_simp; with_reducible rfl))
            case' trvt14 => try simp only [Act.put, List.setIfInBounds_toArray, List.set_cons_zero, List.set_cons_succ]
            refine wpAnyH_done (by kernel_rfl) ?_ _
            have HS' := Lib.hid hHeld
            clear hHeld HS rl
            go_wp2
            go_roundw
            case rel => exact ⟨k + 1, by go_num, by omega, HS'.out⟩
            case measure => simp [intOf]; omega
          · have x1 : (x != 3) = true := by simpa using hx0
            have hno := HBL.out k (by have := HXL.out; omega) (by rw [hx]; exact hx0)
            obtain ⟨v, hv⟩ : ∃ v, zs.getD k 0 = v := ⟨_, rfl⟩
            have hl1 := HLN.out
            have hl2 := HXL.out
            have r1 : ∀ W, StB w b FK (some ⟨g2, 0, none⟩) (some ⟨g9, 0, none⟩) zs xs W → W.cell? ⟨g2, k, none⟩ = some (.int .u8 v) := fun W h => by rw [← hv]; have := h.r1.getAt k (by omega); rwa [Nat.zero_add] at this
            have r2 : ∀ W, StB w b FK (some ⟨g2, 0, none⟩) (some ⟨g9, 0, none⟩) zs xs W → W.cell? ⟨g9, k, none⟩ = some (.int .u8 v) := fun W h => by rw [← hv, ← hno]; have := h.r2.getAt k (by omega); rwa [Nat.zero_add] at this
            clear hno hv hx hl1 hl2 hx0
            go_upto_region 17 with fail
            refine wp_region_held_drew (S := (fun W => StB w b FK (some ⟨g2, 0, none⟩) (some ⟨g9, 0, none⟩) zs xs W)) (by kernel_rfl) (HS.out.below (bdrew _)) (fun hHeld => ?_)
            refine wpAnyH_take (i := 0) (oi := ⟨some 97, _, _, _, _, _⟩) (v := ?tvut0) rfl (by kernel_rfl) (by kernel_rfl) (by kernel_rfl) (fun _ _ _ h => h) (Or.inl ⟨by kernel_rfl, ?tyut0⟩) (by assumption) ?trut0
            case tyut0 => (intro w hSw; first | (go_simp; done) | (go_simp; with_reducible rfl))
            case' trut0 => try simp only [Act.put, List.setIfInBounds_toArray, List.set_cons_zero, List.set_cons_succ]
            refine wpAnyH_take (i := 1) (oi := ⟨some 98, _, _, _, _, _⟩) (v := ?tvut1) rfl (by kernel_rfl) (by kernel_rfl) (by kernel_rfl) (fun _ _ _ h => h) (Or.inl ⟨by kernel_rfl, ?tyut1⟩) (by assumption) ?trut1
            case tyut1 => (intro w hSw; first | (go_simp; done) | (go_simp; with_reducible rfl))
            case' trut1 => try simp only [Act.put, List.setIfInBounds_toArray, List.set_cons_zero, List.set_cons_succ]
            refine wpAnyH_take (i := 2) (oi := ⟨some 99, _, _, _, _, _⟩) (v := ?tvut2) rfl (by kernel_rfl) (by kernel_rfl) (by kernel_rfl) (fun _ _ _ h => h) (Or.inl ⟨by kernel_rfl, ?tyut2⟩) (by assumption) ?trut2
            case tyut2 => (intro w hSw; first | (go_simp; done) | (go_simp; with_reducible rfl))
            case' trut2 => try simp only [Act.put, List.setIfInBounds_toArray, List.set_cons_zero, List.set_cons_succ]
            refine wpAnyH_take (i := 3) (oi := ⟨some 100, _, _, _, _, _⟩) (v := ?tvut3) rfl (by kernel_rfl) (by kernel_rfl) (by kernel_rfl) (fun _ _ _ h => h) (Or.inl ⟨by kernel_rfl, ?tyut3⟩) (by assumption) ?trut3
            case tyut3 => (intro w hSw; first | (go_simp; done) | (go_simp; with_reducible rfl))
            case' trut3 => try simp only [Act.put, List.setIfInBounds_toArray, List.set_cons_zero, List.set_cons_succ]
            refine wpAnyH_take (i := 4) (oi := ⟨some 101, _, _, _, _, _⟩) (v := ?tvut4) rfl (by kernel_rfl) (by kernel_rfl) (by kernel_rfl) (fun _ _ _ h => h) (Or.inl ⟨by kernel_rfl, ?tyut4⟩) (by assumption) ?trut4
            case tyut4 => (intro w hSw; first | (go_simp; done) | (go_simp; with_reducible rfl))
            case' trut4 => try simp only [Act.put, List.setIfInBounds_toArray, List.set_cons_zero, List.set_cons_succ]
            refine wpAnyH_take (i := 5) (oi := ⟨some 102, _, _, _, _, _⟩) (v := ?tvut5) rfl (by kernel_rfl) (by kernel_rfl) (by kernel_rfl) (fun _ _ _ h => h) (Or.inl ⟨by kernel_rfl, ?tyut5⟩) (by assumption) ?trut5
            case tyut5 => (intro w hSw; first | (go_simp; done) | (go_simp; with_reducible rfl))
            case' trut5 => try simp only [Act.put, List.setIfInBounds_toArray, List.set_cons_zero, List.set_cons_succ]
            refine wpAnyH_take (i := 6) (oi := ⟨some 103, _, _, _, _, _⟩) (v := ?tvut6) rfl (by kernel_rfl) (by kernel_rfl) (by kernel_rfl) (fun _ _ _ h => h) (Or.inl ⟨by kernel_rfl, ?tyut6⟩) (by assumption) ?trut6
            case tyut6 => (intro w hSw; first | (go_simp; done) | (go_simp; with_reducible rfl))
            case' trut6 => try simp only [Act.put, List.setIfInBounds_toArray, List.set_cons_zero, List.set_cons_succ]
            refine wpAnyH_take (i := 7) (oi := ⟨some 104, _, _, _, _, _⟩) (v := ?tvut7) rfl (by kernel_rfl) (by kernel_rfl) (by kernel_rfl) (fun _ _ _ h => h) (Or.inl ⟨by kernel_rfl, ?tyut7⟩) (by assumption) ?trut7
            case tyut7 => (intro w hSw; first | (go_simp; done) | (go_simp; with_reducible rfl))
            case' trut7 => try simp only [Act.put, List.setIfInBounds_toArray, List.set_cons_zero, List.set_cons_succ]
            refine wpAnyH_take (i := 8) (oi := ⟨some 105, _, _, _, _, _⟩) (v := ?tvut8) rfl (by kernel_rfl) (by kernel_rfl) (by kernel_rfl) (fun _ _ _ h => h) (Or.inl ⟨by kernel_rfl, ?tyut8⟩) (by assumption) ?trut8
            case tyut8 => (intro w hSw; first | (go_simp; done) | (go_simp; with_reducible rfl))
            case' trut8 => try simp only [Act.put, List.setIfInBounds_toArray, List.set_cons_zero, List.set_cons_succ]
            refine wpAnyH_take (i := 9) (oi := ⟨some 106, _, _, _, _, _⟩) (v := ?tvut9) rfl (by kernel_rfl) (by kernel_rfl) (by kernel_rfl) (fun _ _ _ h => h) (Or.inl ⟨by kernel_rfl, ?tyut9⟩) (by assumption) ?trut9
            case tyut9 => (intro w hSw; first | (go_simp; done) | (go_simp; with_reducible rfl))
            case' trut9 => try simp only [Act.put, List.setIfInBounds_toArray, List.set_cons_zero, List.set_cons_succ]
            refine wpAnyH_take (i := 10) (oi := ⟨some 107, _, _, _, _, _⟩) (v := ?tvut10) rfl (by kernel_rfl) (by kernel_rfl) (by kernel_rfl) (fun _ _ _ h => h) (Or.inl ⟨by kernel_rfl, ?tyut10⟩) (by assumption) ?trut10
            case tyut10 => (intro w hSw; first | (go_simp; done) | (go_simp; with_reducible rfl))
            case' trut10 => try simp only [Act.put, List.setIfInBounds_toArray, List.set_cons_zero, List.set_cons_succ]
            refine wpAnyH_take (i := 11) (oi := ⟨some 108, _, _, _, _, _⟩) (v := ?tvut11) rfl (by kernel_rfl) (by kernel_rfl) (by kernel_rfl) (fun _ _ _ h => h) (Or.inl ⟨by kernel_rfl, ?tyut11⟩) (by assumption) ?trut11
            case tyut11 => (intro w hSw; first | (go_simp; done) | (go_simp; with_reducible rfl))
            case' trut11 => try simp only [Act.put, List.setIfInBounds_toArray, List.set_cons_zero, List.set_cons_succ]
            refine wpAnyH_take (i := 12) (oi := ⟨some 109, _, _, _, _, _⟩) (v := ?tvut12) rfl (by kernel_rfl) (by kernel_rfl) (by kernel_rfl) (fun _ _ _ h => h) (Or.inl ⟨by kernel_rfl, ?tyut12⟩) (by assumption) ?trut12
            case tyut12 => (intro w hSw; first | (go_simp; done) | (go_simp; with_reducible rfl))
            case' trut12 => try simp only [Act.put, List.setIfInBounds_toArray, List.set_cons_zero, List.set_cons_succ]
            refine wpAnyH_take (i := 13) (oi := ⟨some 110, _, _, _, _, _⟩) (v := ?tvut13) rfl (by kernel_rfl) (by kernel_rfl) (by kernel_rfl) (fun _ _ _ h => h) (Or.inl ⟨by kernel_rfl, ?tyut13⟩) (by assumption) ?trut13
            case tyut13 => (intro w hSw; first | (go_simp; done) | (go_simp; with_reducible rfl))
            case' trut13 => try simp only [Act.put, List.setIfInBounds_toArray, List.set_cons_zero, List.set_cons_succ]
            refine wpAnyH_take (i := 14) (oi := ⟨some 111, _, _, _, _, _⟩) (v := ?tvut14) rfl (by kernel_rfl) (by kernel_rfl) (by kernel_rfl) (fun _ _ _ h => h) (Or.inl ⟨by kernel_rfl, ?tyut14⟩) (by assumption) ?trut14
            case tyut14 => (intro w hSw; first | (go_simp; done) | (go_simp; with_reducible rfl))
            case' trut14 => try simp only [Act.put, List.setIfInBounds_toArray, List.set_cons_zero, List.set_cons_succ]
            refine wpAnyH_done (by kernel_rfl) ?_ _
            have HS' := Lib.hid hHeld
            clear hHeld HS rl r1 r2 x1
            go_wp2
            go_roundw
            case rel => exact ⟨k + 1, by go_num, by omega, HS'.out⟩
            case measure => simp [intOf]; omega
        · obtain rfl : k = 20 + m2 := by omega
          go_wp2
          go_ret
          exact ⟨rfl, HS.out.bel⟩
    · have b1 : (z12 != s) = true := by simpa using hds
      clear hds
      go_wp2
      go_ret
      exact ⟨rfl, HB10.out⟩
end Go.Proofs.Ytdkjipfemnfckaa
