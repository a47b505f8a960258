/-
  RewriteFrames: of all frames, addresses and ports a frame is told that is got again, with these, and all else as it was. Conditions stand in each theorem.
-/
import Derived.Test.YtdkjipfemnfckaaRwX
import Derived.Test.YtdkjipfemnfckaaRwT
import Derived.Test.YtdkjipfemnfckaaGN
namespace Go.Proofs.Ytdkjipfemnfckaa
open Go.RowKit Plain
set_option linter.unusedVariables false
set_option maxRecDepth 100000
set_option maxHeartbeats 8000000 in
theorem rewriteFrames_walk (x : Sn) (A P : Int) (w : World) (ok : x.ok w) (n0 : 0 ≤ A) (n1 : A ≤ 4294967295) (q0 : 0 ≤ P) (q1 : P ≤ 65535) :
    Calls Try.prog 3 #[x.val, .int .u32 A, .int .u16 P] w fun e w' => e = .returned (.bool true) ∧ Below w.heap.size w w' := by
  obtain ⟨K, hK, hK7⟩ := pickN x.what 7 (by omega) (by omega)
  obtain ⟨m, sf⟩ := sent_facts x K (by omega) w ok
  have hext := ext_same (frL x K) [1, 2, 3] sf.by' (By.mk (by omega) (by omega) (By.mk (by omega) (by omega) (By.mk (by omega) (by omega) By.nil))) sf.got (by rw [sf.fl', sf.len]; show (20 + (m : Int)) = ((20 + m : Nat) : Int); omega)
  have hrE := hext.rwE sf.pe
  have hrw := hext.rw'
  have hs0 := same_rw (frL x K) sf.by' sf.got sf.pe 0 (by omega) A P n0 n1 q0 q1
  have hs1 := same_rw (frL x K) sf.by' sf.got sf.pe 1 (by omega) A P n0 n1 q0 q1
  have hN : (fld (frL x K ++ [1, 2, 3])).len.toNat = 20 + m := by rw [hext.fl, sf.fl']; show (20 + (m : Int)).toNat = _; omega
  have hfa : ∀ W, x.ok W → Calls Try.prog 10 #[x.val] W (FrameOk x K W) := fun W h => frame_any x K (by omega) W h hK
  have hm1 := sf.m1
  have hlen := sf.len
  have hml := sf.ml
  obtain ⟨what, s, d, f, t, fl, B, n, c, ys⟩ := x
  rw [show (Sn.mk what s d f t fl B n c ys).val = .agg #[.int .i64 what, .int .u32 s, .int .u32 d, .int .u16 f, .int .u16 t, .int .i64 fl, .slice B n c] from rfl] at *
  simp only at hml
  generalize hz : frL ⟨what, s, d, f, t, fl, B, n, c, ys⟩ K = zs at *
  have HFA := Lib.hid hfa
  have HOK := Lib.hid ok
  have HRE := Lib.hid hrE
  have HRW := Lib.hid hrw
  have HS0 := Lib.hid hs0
  have HS1 := Lib.hid hs1
  have HN := Lib.hid hN
  have HLN := Lib.hid hlen
  have HML := Lib.hid hml
  have HZ := Lib.hid hz
  have HX := Lib.hid hext
  clear hfa ok hrE hrw hs0 hs1 hN hlen hml hz hext sf hK hK7
  go_enter Try.func3, Try.ntmps3
  go_upto_region 1 with fail
  have HB1 := Lib.hid (ball w (.cells #[.int .i64 what, .int .u32 s, .int .u32 d, .int .u16 f, .int .u16 t, .int .i64 fl, .slice B n c] 26))
  have HK1 := Lib.hid (Blk.new w 26 #[.int .i64 what, .int .u32 s, .int .u32 d, .int .u16 f, .int .u16 t, .int .i64 fl, .slice B n c])
  generalize w.alloc (.cells #[.int .i64 what, .int .u32 s, .int .u32 d, .int .u16 f, .int .u16 t, .int .i64 fl, .slice B n c] 26) = w1 at *
  have hs1 := HB1.out.size
  obtain ⟨g, hg⟩ : ∃ g, g = w.heap.size := ⟨_, rfl⟩
  rw [← hg] at HK1
  rw [← hg]
  clear hg
  have k0 : w1.cell? ⟨g, 0, none⟩ = some (.int .i64 what) := HK1.out.cell 0
  have k1 : w1.cell? ⟨g, 1, none⟩ = some (.int .u32 s) := HK1.out.cell 1
  have k2 : w1.cell? ⟨g, 2, none⟩ = some (.int .u32 d) := HK1.out.cell 2
  have k3 : w1.cell? ⟨g, 3, none⟩ = some (.int .u16 f) := HK1.out.cell 3
  have k4 : w1.cell? ⟨g, 4, none⟩ = some (.int .u16 t) := HK1.out.cell 4
  have k5 : w1.cell? ⟨g, 5, none⟩ = some (.int .i64 fl) := HK1.out.cell 5
  have k6 : w1.cell? ⟨g, 6, none⟩ = some (.slice B n c) := HK1.out.cell 6
  go_wp2_with fail
  clear k0 k1 k2 k3 k4 k5 k6
  refine (HFA.out _ (HOK.out.below HB1.out)).mono ?_
  rintro e w2 ⟨g2, m2, cc, rfl, hm2, _, ho2, hb2⟩
  obtain rfl : m2 = m := by rw [hm2]; exact HML.out
  rw [HZ.out] at ho2
  have HB2 := Lib.hid (bthen HB1.out hb2)
  have HO2 := Lib.hid (ho2.mono hs1)
  have hs2 := HB2.out.size
  have hcc := ho2.cap
  have HCM := Lib.hid (own_max ho2)
  have hst := run_str w2 (some ⟨g2, 0, none⟩) (20 + m2) cc zs HLN.out ho2.rd
  clear hm2 ho2 hb2 HB1 HK1 hs1 HFA
  go_upto_region 3 with fail
  clear hst
  have hby3 : By [1, 2, 3] := By.mk (by omega) (by omega) (By.mk (by omega) (by omega) (By.mk (by omega) (by omega) By.nil))
  have hz2 : w2.heap.size ≤ (w2.alloc (.cells #[] 5)).heap.size := by simp
  go_upto_region 4 with (first
    | (at_builtin; refine wpList_app rfl (.tmp 18) (.tmp 19) rfl rfl (Own.empty w2 (Nat.le_refl _)) zs rfl (HO2.out.rd.alloc _) HLN.out (by omega) (by simp) ?_; intro A3 c3 w3 ho3 hg3 hA3; have hb3 := below_app (ball w2 _) hg3 (Own.empty w2 (Nat.le_refl _)) (Nat.le_refl _) hz2; have hs3 := hb3.size; have HB3 := Lib.hid hb3; rw [Nat.zero_add, List.nil_append] at ho3; have HO3 := Lib.hid ho3; clear hb3 ho3 hg3 hA3)
    | (at_builtin; refine wpList_app rfl (.tmp 20) (.tmp 21) rfl rfl (HO3.out.alloc _) [1, 2, 3] rfl (Rd.newM w3 _ _ [1, 2, 3] hby3 _ rfl) rfl (by omega) (by simp; omega) ?_; intro A4 c4 w4 ho4 hg4 hA4; have hb4 := below_app (HB3.out.alloc hs3 _) hg4 (HO3.out.alloc _) (Nat.le_refl _) (by simp; omega); have HB4 := Lib.hid hb4; have HO4 := Lib.hid ho4; have hc4 := ho4.cap; clear hb4 ho4 hg4 hA4))
  have HB5 := Lib.hid (bthen HB2.out HB4.out)
  have HR5 := Lib.hid (HO2.out.rd.below HB4.out)
  have hl4 : (zs ++ [1, 2, 3]).length = 20 + m2 + 3 := by rw [List.length_append, HLN.out]; rfl
  have HL4 := Lib.hid hl4
  clear hl4 HO3 HB3 HB4 hz2 hby3 hs3
  go_wp2_with fail
  refine (out_ok A P A4 (20 + m2 + 3) c4 (20 + m2) (zs ++ [1, 2, 3]) w4 HL4.out hc4 (by omega) HO4.out.rd n0 n1 q0 q1 HRE.out HN.out).mono ?_
  rintro e w5 ⟨g5, rfl, ho5, hb5⟩
  rw [HRW.out] at ho5
  have HB6 := Lib.hid (bthen HB5.out hb5)
  have HR6 := Lib.hid (HR5.out.below hb5)
  have HO6 := Lib.hid (HO4.out.below hb5)
  have HY6 := Lib.hid ho5
  clear ho5 hb5 HB5 HR5 HO4
  go_wp2_with fail
  refine (in_ok A P A4 (20 + m2 + 3) c4 (20 + m2) (zs ++ [1, 2, 3]) w5 HL4.out hc4 (by omega) HO6.out.rd n0 n1 q0 q1 HRE.out HN.out).mono ?_
  rintro e w6 ⟨g6, rfl, ho6, hb6⟩
  rw [HRW.out] at ho6
  have HB7 := Lib.hid (bthen HB6.out hb6)
  have HR7 := Lib.hid (HR6.out.below hb6)
  have HY7 := Lib.hid (HY6.out.below hb6)
  have HX7 := Lib.hid ho6
  clear ho6 hb6 HB6 HR6 HO6 HY6
  go_wp2_with fail
  refine (writes_any w6).mono ?_
  rintro e w7 ⟨rfl, hb7⟩
  have HB8 := Lib.hid (bthen HB7.out hb7)
  have HR8 := Lib.hid (HR7.out.below hb7)
  have HY8 := Lib.hid (HY7.out.rd.below hb7)
  have HX8 := Lib.hid (HX7.out.rd.below hb7)
  have HYL := Lib.hid HY7.out.len
  have HXL := Lib.hid HX7.out.len
  clear hb7 HB7 HR7 HY7 HX7
  have hccm : cc ≤ 9223372036854775807 := HCM.out
  go_wp2_with fail
  refine (sameOut_any A P _ _ (20 + m2) cc (20 + m2) (20 + m2) zs _ w7 HLN.out HYL.out hcc (Nat.le_refl _) (by omega) hccm (by omega) HR8.out HY8.out n0 n1 HS0.out).mono ?_
  rintro e w8 ⟨rfl, hb8⟩
  have HB9 := Lib.hid (bthen HB8.out hb8)
  have HR9 := Lib.hid (HR8.out.below hb8)
  have HX9 := Lib.hid (HX8.out.below hb8)
  clear hb8 HB8 HR8 HX8 HY8 HYL
  go_wp2_with fail
  refine (sameIn_any A P _ _ (20 + m2) cc (20 + m2) (20 + m2) zs _ w8 HLN.out HXL.out hcc (Nat.le_refl _) (by omega) hccm (by omega) HR9.out HX9.out n0 n1 HS1.out).mono ?_
  rintro e w9 ⟨rfl, hb9⟩
  have HB10 := Lib.hid (bthen HB9.out hb9)
  have hst := run_str w9 (some ⟨g2, 0, none⟩) (20 + m2) cc zs HLN.out (HR9.out.below hb9)
  clear hb9 HB9 HR9 HX9 HXL
  go_wp2
  go_ret
  exact ⟨rfl, HB10.out⟩
end Go.Proofs.Ytdkjipfemnfckaa
