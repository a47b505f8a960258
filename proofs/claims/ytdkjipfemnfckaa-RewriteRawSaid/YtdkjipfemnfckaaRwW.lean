/-
  Package fanlightlaw04: the frame of a Sent is got; writes. Conditions stand in each theorem.
-/
import Derived.Test.YtdkjipfemnfckaaRwE
import Derived.Test.YtdkjipfemnfckaaRw5
import Derived.Test.YtdkjipfemnfckaaAllOk
import Derived.Test.YtdkjipfemnfckaaSentH
import Derived.Test.YtdkjipfemnfckaaGN
import Derived.Test.YtdkjipfemnfckaaRGet
import Derived.Test.YtdkjipfemnfckaaRef2
namespace Go.Proofs.Ytdkjipfemnfckaa
open Go.RowKit Plain
set_option linter.unusedVariables false
set_option linter.unusedSimpArgs false
set_option maxRecDepth 100000

structure SentF (x : Sn) (K m : Nat) : Prop where
  by' : By (frL x K)
  ml : (carL K x.s x.d x.f x.t x.fl (x.ys.take 40)).length = m
  m1 : m ≤ 100
  len : (frL x K).length = 20 + m
  got : Got (frL x K)
  fl' : fld (frL x K) = ⟨20, 20 + (m : Int), 64, carP K, x.s, x.d⟩
  pe : pgE (fld (frL x K)) (frL x K) = 0
  pp : pgP (fld (frL x K)) (frL x K) = byP (carP K) x.s x.d (carL K x.s x.d x.f x.t x.fl (x.ys.take 40))
theorem sent_facts (x : Sn) (K : Nat) (hK : K < 7) (w : World) (ok : x.ok w) : ∃ m, SentF x K m := by
  have hyb : By x.ys := ok.rd.1
  have h40 : (x.ys.take 40).length ≤ 40 := List.length_take_le _ _
  have hb := carL_by K x.s x.d x.f x.t x.fl h40 (hyb.take 40) ok.s0 ok.s1 ok.d0 ok.d1
  have hl := carL_len K x.s x.d x.f x.t x.fl (x.ys.take 40) h40
  have hpr := carP_range K
  have hok := all_ok K hK x.s x.d x.f x.t x.fl (x.ys.take 40) h40 (hyb.take 40) ok.s0 ok.s1 ok.d0 ok.d1 ok.f0 ok.f1 ok.t0 ok.t1
  obtain ⟨U, hU⟩ : ∃ U, carL K x.s x.d x.f x.t x.fl (x.ys.take 40) = U := ⟨_, rfl⟩
  have hg := frm_got 64 (carP K) x.s x.d U [] (by rw [← hU]; omega) (by rw [← hU]; exact hb) (by omega) (by omega) hpr.1 hpr.2 ok.s0 ok.s1 ok.d0 ok.d1
  have hp := frm_pg 64 (carP K) x.s x.d U U.length rfl 64 x.s x.d (carP K)
  have hfb := frm_all 64 (carP K) x.s x.d U (by rw [← hU]; exact hb) (by rw [← hU]; omega) (by omega) (by omega) hpr.1 hpr.2 ok.s0 ok.s1 ok.d0 ok.d1
  rw [List.append_nil] at hg
  have hz : frL x K = frm 64 (carP K) x.s x.d U := by unfold frL; rw [hU]
  have gt := got_of _ hfb hg.1
  have hf : fld (frm 64 (carP K) x.s x.d U) = ⟨20, 20 + (U.length : Int), 64, carP K, x.s, x.d⟩ := by rw [← gt.hd]; exact hg.2
  refine ⟨U.length, by rw [hz]; exact hfb, by rw [hU], by rw [hU] at hl; exact hl, by rw [hz, frm_len], by rw [hz]; exact gt, by rw [hz]; exact hf, ?_, ?_⟩
  · rw [hz, hf, hp.1]; rw [hU] at hok; exact hok
  · rw [hz, hf, hp.2, hU]; rfl
/-- what rewriting a frame that is got tells -/
def OutP (zs : List Int) (e : Nat) (A P : Int) (N : Nat) (w : World) (r : Ending) (w' : World) : Prop :=
  ∃ g, r = .returned (.tuple #[.slice (some ⟨g, 0, none⟩) N N, .int .i64 0]) ∧ Own w' w.heap.size (some ⟨g, 0, none⟩) N N (rwL zs e A P) ∧ Below w.heap.size w w'
theorem out_ok (A P : Int) (B : Option Addr) (n c N : Nat) (zs : List Int) (w : World) (hn : zs.length = n) (hnc : n ≤ c) (hl : n ≤ 1000000) (hR : Rd w B zs) (n0 : 0 ≤ A) (n1 : A ≤ 4294967295) (q0 : 0 ≤ P) (q1 : P ≤ 65535) (hE : rwE zs = 0) (hN : (fld zs).len.toNat = N) :
    Calls Try.prog 11 #[.slice B n c, .int .u32 A, .int .u16 P] w (OutP zs 0 A P N w) := by
  refine (rwOut_any A P B n c zs w hn hnc hl hR n0 n1 q0 q1).mono fun r w' h => ?_
  rcases h.2 with ⟨h1, _⟩ | ⟨_, g, h1, h2⟩
  · exact absurd hE h1
  · rw [hN] at h1 h2
    exact ⟨g, h1, h2, h.1⟩
theorem in_ok (A P : Int) (B : Option Addr) (n c N : Nat) (zs : List Int) (w : World) (hn : zs.length = n) (hnc : n ≤ c) (hl : n ≤ 1000000) (hR : Rd w B zs) (n0 : 0 ≤ A) (n1 : A ≤ 4294967295) (q0 : 0 ≤ P) (q1 : P ≤ 65535) (hE : rwE zs = 0) (hN : (fld zs).len.toNat = N) :
    Calls Try.prog 12 #[.slice B n c, .int .u32 A, .int .u16 P] w (OutP zs 1 A P N w) := by
  refine (rwIn_any A P B n c zs w hn hnc hl hR n0 n1 q0 q1).mono fun r w' h => ?_
  rcases h.2 with ⟨h1, _⟩ | ⟨_, g, h1, h2⟩
  · exact absurd hE h1
  · rw [hN] at h1 h2
    exact ⟨g, h1, h2, h.1⟩
theorem out_bad (A P : Int) (B : Option Addr) (n c : Nat) (zs : List Int) (w : World) (hn : zs.length = n) (hnc : n ≤ c) (hl : n ≤ 1000000) (hR : Rd w B zs) (n0 : 0 ≤ A) (n1 : A ≤ 4294967295) (q0 : 0 ≤ P) (q1 : P ≤ 65535) (x : Int) (hx : rwE zs = x) (h0 : x ≠ 0) :
    Calls Try.prog 11 #[.slice B n c, .int .u32 A, .int .u16 P] w fun r w' => r = .returned (.tuple #[.slice none 0 0, .int .i64 x]) ∧ Below w.heap.size w w' := by
  subst hx
  refine (rwOut_any A P B n c zs w hn hnc hl hR n0 n1 q0 q1).mono fun r w' h => ?_
  rcases h.2 with ⟨_, h1⟩ | ⟨h1, _⟩
  · exact ⟨h1, h.1⟩
  · exact absurd h1 h0
theorem in_bad (A P : Int) (B : Option Addr) (n c : Nat) (zs : List Int) (w : World) (hn : zs.length = n) (hnc : n ≤ c) (hl : n ≤ 1000000) (hR : Rd w B zs) (n0 : 0 ≤ A) (n1 : A ≤ 4294967295) (q0 : 0 ≤ P) (q1 : P ≤ 65535) (x : Int) (hx : rwE zs = x) (h0 : x ≠ 0) :
    Calls Try.prog 12 #[.slice B n c, .int .u32 A, .int .u16 P] w fun r w' => r = .returned (.tuple #[.slice none 0 0, .int .i64 x]) ∧ Below w.heap.size w w' := by
  subst hx
  refine (rwIn_any A P B n c zs w hn hnc hl hR n0 n1 q0 q1).mono fun r w' h => ?_
  rcases h.2 with ⟨_, h1⟩ | ⟨h1, _⟩
  · exact ⟨h1, h.1⟩
  · exact absurd h1 h0
set_option maxHeartbeats 8000000 in
theorem writes_any (w : World) : Calls Try.prog 13 #[] w fun e w' => e = .returned (.bool true) ∧ Below w.heap.size w w' := by
  have hby : By [104, 105] := By.mk (by omega) (by omega) (By.mk (by omega) (by omega) By.nil)
  have kc := fun (w : World) (C : Array Value) (n c : Nat) => Lib.run_convert_bytes_const (P := Try.prog) w 24 5 C n c Try.underlying24 Try.underlying5
  go_enter Try.func13, Try.ntmps13
  go_wp2_with fail
  clear kc
  obtain ⟨x0, hx0⟩ : ∃ x : Sn, x = ⟨0, 167772161, 134744072, 5, 53, 0, some ⟨w.heap.size, 0, none⟩, 2, 2, [104, 105]⟩ := ⟨_, rfl⟩
  have hok : x0.ok (w.alloc (.cells #[.int .u8 104, .int .u8 105] 5 (2, 3))) := by
    rw [hx0]
    exact ⟨show (0 : Int) ≤ 167772161 by omega, show (167772161 : Int) ≤ 4294967295 by omega, show (0 : Int) ≤ 134744072 by omega, show (134744072 : Int) ≤ 4294967295 by omega, show (0 : Int) ≤ 5 by omega, show (5 : Int) ≤ 65535 by omega, show (0 : Int) ≤ 53 by omega, show (53 : Int) ≤ 65535 by omega, rfl, Nat.le_refl 2, show 2 ≤ 9223372036854775807 by omega, Rd.newM w _ _ [104, 105] hby _ rfl⟩
  obtain ⟨m, sf⟩ := sent_facts x0 0 (by omega) _ hok
  have hF := frame_any x0 0 (by omega) _ hok (by rw [hx0]; show wrap64 ((IntKind.u64.wrap 0).tmod 7) = ((0 : Nat) : Int); unfold wrap64; rw [IntKind.wrap_u64]; rfl)
  rw [show x0.val = .agg #[.int .i64 0, .int .u32 167772161, .int .u32 134744072, .int .u16 5, .int .u16 53, .int .i64 0, .slice (some ⟨w.heap.size, 0, none⟩) 2 2] by rw [hx0]; rfl] at hF
  have hs := same_rw (frL x0 0) sf.by' sf.got sf.pe 0 (by omega) 3221225985 4000 (by omega) (by omega) (by omega) (by omega)
  have hrE : rwE (frL x0 0) = 0 := by unfold rwE; rw [if_neg (by rw [got_to _ sf.got]; simp)]; exact sf.pe
  have hfl := sf.fl'
  have hpp := sf.pp
  have hpe := sf.pe
  have hlen := sf.len
  have hbyz := sf.by'
  have hm1 := sf.m1
  rw [show x0.s = 167772161 by rw [hx0], show x0.d = 134744072 by rw [hx0]] at hfl hpp
  rw [show x0.f = 5 by rw [hx0], show x0.t = 53 by rw [hx0]] at hpp
  have hU : byP (carP 0) 167772161 134744072 (carL 0 167772161 134744072 5 53 x0.fl (x0.ys.take 40)) = udP 167772161 134744072 (udL 167772161 134744072 5 53 [104, 105]) := by
    have hcl : carL 0 167772161 134744072 5 53 x0.fl (x0.ys.take 40) = udL 167772161 134744072 5 53 [104, 105] := by rw [show x0.ys.take 40 = [104, 105] by rw [hx0]; rfl]; rfl
    rw [hcl]; unfold byP; rw [if_pos (show carP 0 = 17 from rfl)]
  have hE : udE 167772161 134744072 (udL 167772161 134744072 5 53 [104, 105]) = 0 := low_ok 0 (by omega) 167772161 134744072 5 53 0 [104, 105] (by decide) hby (by omega) (by omega) (by omega) (by omega) (by omega) (by omega)
  have hP := udP_ok 167772161 134744072 5 53 [104, 105] (by decide) (by omega) (by omega) (by omega) (by omega) hE
  rw [hU] at hpp
  have hdp : (pgP (fld (frL x0 0)) (frL x0 0)).dp = 53 := by rw [hpp]; exact hP.2
  have her : (pgP (fld (frL x0 0)) (frL x0 0)).er = false := by rw [hpp]; unfold udP; rw [if_pos hE]
  generalize hz : frL x0 0 = zs at *
  have hpl := hs.plain her
  have hyh := hs.hd
  rw [hfl] at hyh
  rw [show hdA ⟨20, 20 + (m : Int), 64, carP 0, 167772161, 134744072⟩ 0 3221225985 = ⟨20, 20 + (m : Int), 64, 17, 3221225985, 134744072⟩ from rfl] at hyh
  have hsp : (pgP (fld (rwL zs 0 3221225985 4000)) (rwL zs 0 3221225985 4000)).sp = 4000 := hpl.1
  have hdp2 : (pgP (fld (rwL zs 0 3221225985 4000)) (rwL zs 0 3221225985 4000)).dp = 53 := by
    rcases hpl.2 with h | h
    · rw [← hdp]; exact h
    · exfalso; rw [hfl] at h; exact absurd (show (17 : Int) = 1 from h) (by decide)
  have hgE := got_to _ hs.gy
  have hgH := hs.gy.hd
  have hpy := hs.py
  have hyl := hs.len
  rw [hfl] at hyl
  rw [hyh] at hgH hsp hdp2 hpy
  have hNl : (fld zs).len.toNat = 20 + m := by rw [hfl]; show (20 + (m : Int)).toNat = _; omega
  obtain ⟨e0, e1, e2, e3, e4, e5, e6, e7, e8, e9, e10, e11, e12, e13, e14, hev⟩ := Pt.mk_val (pgP ⟨20, 20 + (m : Int), 64, 17, 3221225985, 134744072⟩ (rwL zs 0 3221225985 4000))
  have hfs := pt_fields hev
  rw [hsp, hdp2] at hfs
  obtain ⟨hq0, rfl, rfl, hq3⟩ := hfs
  have HF := Lib.hid hF
  have HRE := Lib.hid hrE
  have HLN := Lib.hid hlen
  have HN := Lib.hid hNl
  have HGE := Lib.hid hgE
  have HGH := Lib.hid hgH
  have HPY := Lib.hid hpy
  have HYL := Lib.hid (show (rwL zs 0 3221225985 4000).length = 20 + m by
    have : ((rwL zs 0 3221225985 4000).length : Int) = 20 + (m : Int) := hyl
    omega)
  have HEV := Lib.hid hev
  have HBZ := Lib.hid hbyz
  have HZ := Lib.hid hz
  clear hF hs hrE hfl hpp hpe hlen hbyz hU hE hP hdp her hpl hyh hsp hdp2 hgE hgH hpy hyl hNl hev hq0 hq3 hz sf hok hx0
  refine (HF.out).mono ?_
  rintro e w2 ⟨g2, m2, cc, rfl, hm2, _, ho2, hb2⟩
  rw [HZ.out] at ho2
  obtain rfl : m2 = m := by have := ho2.len; have := HLN.out; omega
  have HB2 := Lib.hid (bthen (ball w _) hb2)
  have HO2 := Lib.hid (ho2.mono (ball w _).size)
  have hcc := ho2.cap
  clear hm2 ho2 hb2 HF
  go_wp2_with fail
  refine (out_ok 3221225985 4000 _ (20 + m2) cc (20 + m2) zs _ HLN.out hcc (by omega) HO2.out.rd (by omega) (by omega) (by omega) (by omega) HRE.out HN.out).mono ?_
  rintro e w3 ⟨g3, rfl, ho3, hb3⟩
  have HO3 := Lib.hid ho3
  have HB3 := Lib.hid (bthen HB2.out hb3)
  clear ho3 hb3 HO2 HB2
  have hG := refGet_any (some ⟨g3, 0, none⟩) (20 + m2) (20 + m2) (rwL zs 0 3221225985 4000) w3 HYL.out (by omega) (by omega) HO3.out.rd
  rw [HGE.out, HGH.out] at hG
  have HG := Lib.hid hG
  clear hG
  go_wp2_with fail
  refine (HG.out).mono ?_
  rintro e w4 ⟨rfl, hb4⟩
  rw [show (Hd.mk 20 (20 + (m2 : Int)) 64 17 3221225985 134744072).val = .agg #[.int .i64 20, .int .i64 (20 + (m2 : Int)), .int .i64 64, .int .i64 17, .int .u32 3221225985, .int .u32 134744072] from rfl]
  have HB4 := Lib.hid (bthen HB3.out hb4)
  have HR4 := Lib.hid (HO3.out.rd.below hb4)
  clear hb4 HO3 HB3 HG
  go_upto_region 4 with fail
  have KA := Lib.hid (Blk.new w4 35 #[.int .i64 20, .int .i64 (20 + (m2 : Int)), .int .i64 64, .int .i64 17, .int .u32 3221225985, .int .u32 134744072])
  have HB5 := Lib.hid (bthen HB4.out (ball w4 (.cells #[.int .i64 20, .int .i64 (20 + (m2 : Int)), .int .i64 64, .int .i64 17, .int .u32 3221225985, .int .u32 134744072] 35)))
  have HR5 := Lib.hid (HR4.out.alloc (.cells #[.int .i64 20, .int .i64 (20 + (m2 : Int)), .int .i64 64, .int .i64 17, .int .u32 3221225985, .int .u32 134744072] 35))
  clear HB4 HR4
  generalize w4.alloc (.cells #[.int .i64 20, .int .i64 (20 + (m2 : Int)), .int .i64 64, .int .i64 17, .int .u32 3221225985, .int .u32 134744072] 35) = w5 at *
  generalize w4.heap.size = g4 at *
  have hG := rget_any 20 (20 + (m2 : Int)) 64 17 3221225985 134744072 (some ⟨g3, 0, none⟩) (20 + m2) (20 + m2) (rwL zs 0 3221225985 4000) w5 HYL.out (by omega) (by omega) HR5.out (by omega) (by omega) (by omega) (by omega)
  rw [HPY.out, HEV.out] at hG
  have HG := Lib.hid hG
  clear hG
  go_wp2_with (first | ((with_reducible refine gd_ld 35 4 ?_); refine wpList_ld rfl 35 (.tmp 4) rfl _ rfl (KA.out) sRHead ?_) | fail)
  refine (HG.out).mono ?_
  rintro e w6 ⟨rfl, hb6⟩
  have HB6 := Lib.hid (bthen HB5.out hb6)
  have KA6 := Lib.hid (KA.out.below hb6)
  clear hb6 HB5 KA HG HR5
  go_upto_region 5 with fail
  have KB := Lib.hid (Blk.new w6 39 #[.int .i64 e0, .int .u16 4000, .int .u16 53, .int .i64 e3, .int .i64 e4, .int .i64 e5, .bool e6, .int .i64 e7, .int .i64 e8, .int .i64 e9, .int .i64 e10, .int .u32 e11, .int .u32 e12, .int .i64 e13, .bool e14])
  have KA7 := Lib.hid (KA6.out.alloc (.cells #[.int .i64 e0, .int .u16 4000, .int .u16 53, .int .i64 e3, .int .i64 e4, .int .i64 e5, .bool e6, .int .i64 e7, .int .i64 e8, .int .i64 e9, .int .i64 e10, .int .u32 e11, .int .u32 e12, .int .i64 e13, .bool e14] 39))
  have HB7 := Lib.hid (bthen HB6.out (ball w6 (.cells #[.int .i64 e0, .int .u16 4000, .int .u16 53, .int .i64 e3, .int .i64 e4, .int .i64 e5, .bool e6, .int .i64 e7, .int .i64 e8, .int .i64 e9, .int .i64 e10, .int .u32 e11, .int .u32 e12, .int .i64 e13, .bool e14] 39)))
  clear HB6 KA6
  generalize w6.alloc (.cells #[.int .i64 e0, .int .u16 4000, .int .u16 53, .int .i64 e3, .int .i64 e4, .int .i64 e5, .bool e6, .int .i64 e7, .int .i64 e8, .int .i64 e9, .int .i64 e10, .int .u32 e11, .int .u32 e12, .int .i64 e13, .bool e14] 39) = w7 at *
  generalize w6.heap.size = g6 at *
  have d4 : w7.cell? ⟨g4, 4, none⟩ = some (.int .u32 3221225985) := KA7.out.cell 4
  have d5 : w7.cell? ⟨g4, 5, none⟩ = some (.int .u32 134744072) := KA7.out.cell 5
  have p1 : w7.cell? ⟨g6, 1, none⟩ = some (.int .u16 4000) := KB.out.cell 1
  have p2 : w7.cell? ⟨g6, 2, none⟩ = some (.int .u16 53) := KB.out.cell 2
  go_wp2
  go_ret
  exact ⟨rfl, HB7.out⟩
end Go.Proofs.Ytdkjipfemnfckaa
