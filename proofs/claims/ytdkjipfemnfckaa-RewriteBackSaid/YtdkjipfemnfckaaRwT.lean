/-
  Package fanlightlaw04: same tells true of a frame and what rewriting makes of it. Conditions stand in each theorem.
-/
import Derived.Test.YtdkjipfemnfckaaRwS
import Derived.Test.YtdkjipfemnfckaaRwSI
import Derived.Test.YtdkjipfemnfckaaRwV
namespace Go.Proofs.Ytdkjipfemnfckaa
open Go.RowKit Plain
set_option linter.unusedVariables false
set_option maxRecDepth 100000

theorem freeL_frK (S isz pos e : Nat) (he : e ≤ 1) (h : Hd) (p : Pt) (hS : h.size = (S : Int)) (hp : p.pos = (pos : Int)) (hi : p.inn.size = (isz : Int)) : freeL S isz pos (ePl e) (ePt e) (ePl (1 - e)) (ePt (1 - e)) h.proto p.inn.proto p.er p.bare = frK h p e := by
  unfold freeL frK
  rw [hS, hp, hi, Int.toNat_natCast, Int.toNat_natCast, Int.toNat_natCast]
theorem sameOut_any (A P : Int) (A1 A2 : Option Addr) (n1 m1 n2 m2 : Nat) (zs ys : List Int) (w : World) (hn1 : zs.length = n1) (hn2 : ys.length = n2) (hc1 : n1 ≤ m1) (hc2 : n2 ≤ m2) (hl1 : n1 ≤ 100000) (hcm : m1 ≤ 9223372036854775807) (hcm2 : m2 ≤ 9223372036854775807)
    (hR1 : Rd w A1 zs) (hR2 : Rd w A2 ys) (n0 : 0 ≤ A) (n1' : A ≤ 4294967295) (hs : SameF zs ys 0 A P) :
    Calls Try.prog 14 #[.slice A1 n1 m1, .slice A2 n2 m2, .bool true, .int .u32 A, .int .u16 P] w fun r w' => r = .returned (.bool true) ∧ Below w.heap.size w w' := by
  obtain ⟨S, N, pos, isz, eS, eN, eP, eI, hS0, hS1, hN20, hNl, her⟩ := pg_nat zs hR1.1 hs.gz hs.pz
  have hfr := freeL_frK S isz pos 0 (by omega) (fld zs) (pgP (fld zs) zs) eS eP eI
  have hrg := fld_range hR1.1
  have hyl := hs.len
  have hg1 := hs.gz.hd
  have hg2 := hs.gy.hd
  have hgE1 := got_to zs hs.gz
  have hgE2 := got_to ys hs.gy
  have hpz := hs.pz
  have hpy := hs.py
  have hhd := hs.hd
  have hoth := hs.oth
  have hpl := hs.plain
  have herr := hs.err
  have hkd := hs.kd
  have hcd := hs.cd
  have hfl := hs.fl
  have hbr := hs.bare
  have her' := hs.er
  rw [hhd] at hg2 hpy hpl herr hkd hcd hfl hbr her'
  generalize hz : pgP (fld zs) zs = z at *
  generalize hf : fld zs = f at *
  obtain ⟨f0, f1, f2, f3, f4, f5⟩ := f
  rw [show hdA ⟨f0, f1, f2, f3, f4, f5⟩ 0 A = ⟨f0, f1, f2, f3, A, f5⟩ from rfl] at *
  generalize hy : pgP ⟨f0, f1, f2, f3, A, f5⟩ ys = y at *
  obtain ⟨z0, z1, z2, z3, z4, z5, z6, ⟨z7, z8, z9, z10, z11, z12⟩, z13, z14⟩ := z
  obtain ⟨y0, y1, y2, y3, y4, y5, y6, ⟨y7, y8, y9, y10, y11, y12⟩, y13, y14⟩ := y
  simp only at *
  subst eS eN eP eI hkd hcd hfl hbr her'
  refine same_core0 S N isz pos n1 n2 m1 m2 f2 f3 f4 f5 A P z0 z1 z2 y3 y4 y5 z8 z9 z10 z11 z12 y0 y1 y2 y7 y8 y9 y10 y11 y12 y13 y6 y14 A1 A2 zs ys w hn1 hn2 hc1 hc2 hl1 (by omega) (by omega) hN20 hcm hcm2 (fun e => (her e).2.2.2) hR1 hR2 hS0 hS1 ⟨hgE1, hg1⟩ ⟨hgE2, hg2⟩ hrg.2.2.1.1 hrg.2.2.1.2 hrg.2.2.2.1.1 hrg.2.2.2.1.2 n0 n1' ⟨hpz, hz⟩ ⟨hpy, hy⟩ (fun e => ⟨(her e).1, (her e).2.1, (her e).2.2.1⟩) (fun k hk hno => hoth k (by omega) (by rw [← hfr]; exact hno)) ?_ ?_
  · intro e
    obtain ⟨q1, q2⟩ := hpl e
    exact ⟨q1, q2⟩
  · intro e
    obtain ⟨q1, q2, q3, q4, q5, q6⟩ := herr e
    rw [show hdA ⟨(isz : Int), z8, z9, z10, z11, z12⟩ (1 - 0) A = ⟨(isz : Int), z8, z9, z10, z11, A⟩ from rfl] at q3
    injection q3 with r0 r1 r2 r3 r4 r5
    subst r0 r1 r2 r3 r4 r5
    exact ⟨q2, rfl, rfl, rfl, rfl, q4, fun h => (q5 h).1, fun h => q6 h⟩
theorem sameIn_any (A P : Int) (A1 A2 : Option Addr) (n1 m1 n2 m2 : Nat) (zs ys : List Int) (w : World) (hn1 : zs.length = n1) (hn2 : ys.length = n2) (hc1 : n1 ≤ m1) (hc2 : n2 ≤ m2) (hl1 : n1 ≤ 100000) (hcm : m1 ≤ 9223372036854775807) (hcm2 : m2 ≤ 9223372036854775807)
    (hR1 : Rd w A1 zs) (hR2 : Rd w A2 ys) (n0 : 0 ≤ A) (n1' : A ≤ 4294967295) (hs : SameF zs ys 1 A P) :
    Calls Try.prog 14 #[.slice A1 n1 m1, .slice A2 n2 m2, .bool false, .int .u32 A, .int .u16 P] w fun r w' => r = .returned (.bool true) ∧ Below w.heap.size w w' := by
  obtain ⟨S, N, pos, isz, eS, eN, eP, eI, hS0, hS1, hN20, hNl, her⟩ := pg_nat zs hR1.1 hs.gz hs.pz
  have hfr := freeL_frK S isz pos 1 (by omega) (fld zs) (pgP (fld zs) zs) eS eP eI
  have hrg := fld_range hR1.1
  have hyl := hs.len
  have hg1 := hs.gz.hd
  have hg2 := hs.gy.hd
  have hgE1 := got_to zs hs.gz
  have hgE2 := got_to ys hs.gy
  have hpz := hs.pz
  have hpy := hs.py
  have hhd := hs.hd
  have hoth := hs.oth
  have hpl := hs.plain
  have herr := hs.err
  have hkd := hs.kd
  have hcd := hs.cd
  have hfl := hs.fl
  have hbr := hs.bare
  have her' := hs.er
  rw [hhd] at hg2 hpy hpl herr hkd hcd hfl hbr her'
  generalize hz : pgP (fld zs) zs = z at *
  generalize hf : fld zs = f at *
  obtain ⟨f0, f1, f2, f3, f4, f5⟩ := f
  rw [show hdA ⟨f0, f1, f2, f3, f4, f5⟩ 1 A = ⟨f0, f1, f2, f3, f4, A⟩ from rfl] at *
  generalize hy : pgP ⟨f0, f1, f2, f3, f4, A⟩ ys = y at *
  obtain ⟨z0, z1, z2, z3, z4, z5, z6, ⟨z7, z8, z9, z10, z11, z12⟩, z13, z14⟩ := z
  obtain ⟨y0, y1, y2, y3, y4, y5, y6, ⟨y7, y8, y9, y10, y11, y12⟩, y13, y14⟩ := y
  simp only at *
  subst eS eN eP eI hkd hcd hfl hbr her'
  refine same_core1 S N isz pos n1 n2 m1 m2 f2 f3 f4 f5 A P z0 z1 z2 y3 y4 y5 z8 z9 z10 z11 z12 y0 y1 y2 y7 y8 y9 y10 y11 y12 y13 y6 y14 A1 A2 zs ys w hn1 hn2 hc1 hc2 hl1 (by omega) (by omega) hN20 hcm hcm2 (fun e => (her e).2.2.2) hR1 hR2 hS0 hS1 ⟨hgE1, hg1⟩ ⟨hgE2, hg2⟩ hrg.2.2.1.1 hrg.2.2.1.2 hrg.2.2.2.1.1 hrg.2.2.2.1.2 n0 n1' ⟨hpz, hz⟩ ⟨hpy, hy⟩ (fun e => ⟨(her e).1, (her e).2.1, (her e).2.2.1⟩) (fun k hk hno => hoth k (by omega) (by rw [← hfr]; exact hno)) ?_ ?_
  · intro e
    obtain ⟨q1, q2⟩ := hpl e
    exact ⟨q1, q2⟩
  · intro e
    obtain ⟨q1, q2, q3, q4, q5, q6⟩ := herr e
    rw [show hdA ⟨(isz : Int), z8, z9, z10, z11, z12⟩ (1 - 1) A = ⟨(isz : Int), z8, z9, z10, A, z12⟩ from rfl] at q3
    injection q3 with r0 r1 r2 r3 r4 r5
    subst r0 r1 r2 r3 r4 r5
    exact ⟨q2, rfl, rfl, rfl, rfl, q4, fun h => (q5 h).1, fun h => q6 h⟩
end Go.Proofs.Ytdkjipfemnfckaa
