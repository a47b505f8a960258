/-
  Package fanlightlaw03: what a Sent carries, and its frame. Conditions stand in each theorem.
-/
import Derived.Test.YtbnlpidhbilenaaRLay
import Derived.Test.YtbnlpidhbilenaaNums
import Derived.Test.YtbnlpidhbilenaaFrm
namespace Go.Proofs.Ytbnlpidhbilenaa
open Go.RowKit Plain
set_option linter.unusedVariables false
set_option linter.unusedSimpArgs false
set_option maxRecDepth 100000

/-- a Sent: its numbers, and its bytes -/
structure Sn where
  what : Int
  s : Int
  d : Int
  f : Int
  t : Int
  fl : Int
  A : Option Addr
  n : Nat
  c : Nat
  ys : List Int
def Sn.val (x : Sn) : Value := .agg #[.int .i64 x.what, .int .u32 x.s, .int .u32 x.d, .int .u16 x.f, .int .u16 x.t, .int .i64 x.fl, .slice x.A x.n x.c]
structure Sn.ok (x : Sn) (w : World) : Prop where
  s0 : 0 ≤ x.s
  s1 : x.s ≤ 4294967295
  d0 : 0 ≤ x.d
  d1 : x.d ≤ 4294967295
  f0 : 0 ≤ x.f
  f1 : x.f ≤ 65535
  t0 : 0 ≤ x.t
  t1 : x.t ≤ 65535
  len : x.ys.length = x.n
  cap : x.n ≤ x.c
  max : x.c ≤ 9223372036854775807
  rd : Rd w x.A x.ys

def carL (K : Nat) (s d f t fl : Int) (L : List Int) : List Int :=
  match K with
  | 0 => udL s d f t L
  | 1 => tcL s d f t (fl % 256) L
  | 2 => icL 8 0 f L
  | 3 => icL 0 0 f L
  | 4 => icL 3 (fl.tmod 16 % 256) 0 (frm 9 17 d s (udL d s t f L))
  | 5 => icL 11 0 0 ((frm 9 6 d s (tcL d s t f 2 L)).take (28 + L.length / 2))
  | _ => icL 3 1 0 (frm 9 1 d s (icL 8 0 t L))
def carP (K : Nat) : Int := match K with
  | 0 => 17
  | 1 => 6
  | _ => 1
def CarOk (x : Sn) (K : Nat) (w : World) (e : Ending) (w' : World) : Prop :=
  ∃ g m cc, e = .returned (.tuple #[.slice (some ⟨g, 0, none⟩) m cc, .int .i64 (carP K)]) ∧ Own w' w.heap.size (some ⟨g, 0, none⟩) m cc (carL K x.s x.d x.f x.t x.fl (x.ys.take 40)) ∧ Below w.heap.size w w'

theorem take_40 (ys : List Int) : (ys.take 40).take 1400 = ys.take 40 := by rw [List.take_take]; congr 1

set_option maxHeartbeats 4000000 in
theorem carried_low (x : Sn) (K : Nat) (hK4 : K < 4) (w : World) (ok : x.ok w) (hK : wrap64 ((IntKind.u64.wrap x.what).tmod 7) = (K : Int)) :
    Calls Try.prog 54 #[x.val] w (CarOk x K w) := by
  obtain ⟨what, s, d, f, t, fl, A, n, c, ys⟩ := x
  obtain ⟨s0, s1, d0, d1, f0, f1, t0, t1, hn, hnc, hcm, hR⟩ := ok
  simp only at s0 s1 d0 d1 f0 f1 t0 t1 hn hnc hcm hR hK
  rw [show (Sn.mk what s d f t fl A n c ys).val = .agg #[.int .i64 what, .int .u32 s, .int .u32 d, .int .u16 f, .int .u16 t, .int .i64 fl, .slice A n c] from rfl]
  have HR := Lib.hid hR
  have Hn := Lib.hid hn
  have HK := Lib.hid hK
  clear hR hn hK
  obtain ⟨u, hu⟩ : ∃ u, u = min n 40 := ⟨_, rfl⟩
  have hu1 : u ≤ n := by omega
  have hu2 : u ≤ 40 := by omega
  have Hl := Lib.hid (show (ys.take 40).length = u by rw [List.length_take, Hn.out, hu]; omega)
  have HU := Lib.hid hu
  clear hu
  go_enter Try.func54, Try.ntmps54
  go_upto_region 1 with fail
  have HB1 := Lib.hid (ball w (.cells #[.int .i64 what, .int .u32 s, .int .u32 d, .int .u16 f, .int .u16 t, .int .i64 fl, .slice A n c] 80))
  have HK1 := Lib.hid (Blk.new w 80 #[.int .i64 what, .int .u32 s, .int .u32 d, .int .u16 f, .int .u16 t, .int .i64 fl, .slice A n c])
  generalize w.alloc (.cells #[.int .i64 what, .int .u32 s, .int .u32 d, .int .u16 f, .int .u16 t, .int .i64 fl, .slice A n c] 80) = w1 at *
  have hs1 := HB1.out.size
  obtain ⟨g, hg⟩ : ∃ g, g = w.heap.size := ⟨_, rfl⟩
  have HG := Lib.hid hg
  rw [← hg] at HK1
  rw [← hg]
  clear hg
  have k0 : w1.cell? ⟨g, 0, none⟩ = some (.int .i64 what) := HK1.out.cell 0
  have k1 : w1.cell? ⟨g, 1, none⟩ = some (.int .u32 s) := HK1.out.cell 1
  have k2 : w1.cell? ⟨g, 2, none⟩ = some (.int .u32 d) := HK1.out.cell 2
  have k3 : w1.cell? ⟨g, 3, none⟩ = some (.int .u16 f) := HK1.out.cell 3
  have k4 : w1.cell? ⟨g, 4, none⟩ = some (.int .u16 t) := HK1.out.cell 4
  have k5 : w1.cell? ⟨g, 5, none⟩ = some (.int .i64 fl) := HK1.out.cell 5
  have k6 : w1.cell? ⟨g, 6, none⟩ = some (.slice A n c) := HK1.out.cell 6
  go_cut [4] (fun s4 wx => s4 = .slice A u c ∧ w1 = wx)
  case first =>
    by_cases h : n ≤ 40
    · have h' : (n : Int) ≤ 40 := by omega
      have i1 : (n : Int) ≤ (c : Int) := by omega
      have e : u = n := by have := HU.out; omega
      have HE := Lib.hid e
      clear e
      go_wp2
      go_meet
      exact ⟨by rw [HE.out], rfl⟩
    · have h' : (40 : Int) < (n : Int) := by omega
      have i1 : (40 : Int) ≤ (c : Int) := by omega
      have i2 : 40 ≤ c := by omega
      have e : u = 40 := by have := HU.out; omega
      have HE := Lib.hid e
      clear e
      go_wp2
      go_meet
      exact ⟨by rw [HE.out], rfl⟩
  case rest =>
  obtain ⟨rfl, rfl⟩ := hcut
  have hK := HK.out
  have HR1 := Lib.hid ((HR.out.take 40).below HB1.out)
  have huc : u ≤ c := by omega
  obtain rfl | rfl | rfl | rfl : K = 0 ∨ K = 1 ∨ K = 2 ∨ K = 3 := by omega
  · go_wp2_with fail
    refine (rudp_any s d f t A u c (ys.take 40) _ Hl.out huc (by omega) HR1.out s0 s1 d0 d1 f0 f1 t0 t1).mono ?_
    rintro e w2 ⟨g2, m, cc, rfl, hm, ho, hb⟩
    have HO := Lib.hid ho
    have HB2 := Lib.hid (bthen HB1.out hb)
    clear ho hb hm
    go_wp2
    go_ret2
    refine ⟨g2, 8 + m, cc, rfl, ?_, HB2.out⟩
    have := HO.out.mono hs1
    rw [take_40] at this
    exact this
  · go_wp2_with fail
    refine (rtcp_any s d f t fl A u c (ys.take 40) _ Hl.out huc (by omega) HR1.out s0 s1 d0 d1 f0 f1 t0 t1).mono ?_
    rintro e w2 ⟨g2, m, cc, rfl, hm, ho, hb⟩
    have HO := Lib.hid ho
    have HB2 := Lib.hid (bthen HB1.out hb)
    clear ho hb hm
    go_wp2
    go_ret2
    refine ⟨g2, 20 + m, cc, rfl, ?_, HB2.out⟩
    have := HO.out.mono hs1
    rw [take_40] at this
    exact this
  · go_wp2_with fail
    refine (recho_any false 8 rfl f f0 f1 A u c (ys.take 40) _ Hl.out huc (by omega) HR1.out).mono ?_
    rintro e w2 ⟨g2, m, cc, rfl, hm, ho, hb⟩
    have HO := Lib.hid ho
    have HB2 := Lib.hid (bthen HB1.out hb)
    clear ho hb hm
    go_wp2
    go_ret2
    refine ⟨g2, 8 + m, cc, rfl, ?_, HB2.out⟩
    have := HO.out.mono hs1
    rw [take_40] at this
    exact this
  · go_wp2_with fail
    refine (recho_any true 0 rfl f f0 f1 A u c (ys.take 40) _ Hl.out huc (by omega) HR1.out).mono ?_
    rintro e w2 ⟨g2, m, cc, rfl, hm, ho, hb⟩
    have HO := Lib.hid ho
    have HB2 := Lib.hid (bthen HB1.out hb)
    clear ho hb hm
    go_wp2
    go_ret2
    refine ⟨g2, 8 + m, cc, rfl, ?_, HB2.out⟩
    have := HO.out.mono hs1
    rw [take_40] at this
    exact this
end Go.Proofs.Ytbnlpidhbilenaa
