/-
  Several small texts in one: Sp4, Sp5, Sp6, Sp8, S15. Conditions stand in each theorem.
-/
import Derived.Test.YtbnlpidhbilenaaGO
import Derived.Laws.Bits64b
import Derived.Test.YtbnlpidhbilenaaGN
import Derived.Test.YtbnlpidhbilenaaRRight2
import Derived.Test.YtbnlpidhbilenaaRFix
import Derived.Test.YtbnlpidhbilenaaGA
import Derived.Deep.RegionHeld3
import Derived.Deep.CutBlock
import Derived.BigQuiet
import Derived.BigRegion
namespace Go.Proofs.Ytbnlpidhbilenaa
open Go.RowKit Plain
set_option linter.unusedVariables false
set_option maxRecDepth 100000
/-- a far end's number -/
def nF (a0 a1 a2 : Int) : Int := a0 % 65536 * 281474976710656 + a1 * 65536 + a2
def hF (a0 a1 a2 : Int) : Int := IntKind.u64.wrap (bits .xor .u64 (nF a0 a1 a2) (nF a0 a1 a2 / 536870912) * 14029467366897019727) / 4294967296 % 4294967296
theorem or_h1 (p a : Int) (p0 : 0 ≤ p) (p1 : p ≤ 65535) (a0 : 0 ≤ a) (a1 : a ≤ 4294967295) : bits .or .u64 (p * 281474976710656) (a * 65536) = p * 281474976710656 + a * 65536 := by go_bits2
theorem or_h2 (p a o : Int) (p0 : 0 ≤ p) (p1 : p ≤ 65535) (a0 : 0 ≤ a) (a1 : a ≤ 4294967295) (o0 : 0 ≤ o) (o1 : o ≤ 65535) : bits .or .u64 (p * 281474976710656 + a * 65536) o = p * 281474976710656 + a * 65536 + o := by go_bits2
set_option maxHeartbeats 2000000 in
theorem hash_any (a0 a1 a2 : Int) (h1 : 0 ≤ a1) (h1' : a1 ≤ 4294967295) (h2 : 0 ≤ a2) (h2' : a2 ≤ 65535) (w : World) :
    Calls Try.prog 33 #[.agg #[.int .i64 a0, .int .u32 a1, .int .u16 a2]] w fun e w' => e = .returned (.int .u32 (hF a0 a1 a2)) ∧ Below w.heap.size w w' := by
  obtain ⟨p, hp⟩ : ∃ p, p = a0 % 65536 := ⟨_, rfl⟩
  have e1 : IntKind.u64.wrap (IntKind.u64.wrap a0 * 281474976710656) = p * 281474976710656 := by rw [IntKind.wrap_u64, IntKind.wrap_u64]; omega
  have e2 := or_h1 p a1 (by omega) (by omega) h1 h1'
  have e3 := or_h2 p a1 a2 (by omega) (by omega) h1 h1' h2 h2'
  have HP := Lib.hid hp
  clear hp
  go_enter Try.func33, Try.ntmps33
  go_wp2
  go_ret
  refine ⟨?_, ball _ _⟩
  unfold hF nF
  rw [← HP.out]
  rfl
set_option maxHeartbeats 2000000 in
theorem rhash_any (a0 a1 a2 : Int) (h1 : 0 ≤ a1) (h1' : a1 ≤ 4294967295) (h2 : 0 ≤ a2) (h2' : a2 ≤ 65535) (w : World) :
    Calls Try.prog 35 #[.agg #[.int .i64 a0, .int .u32 a1, .int .u16 a2]] w fun e w' => e = .returned (.int .u32 (hF a0 a1 a2)) ∧ Below w.heap.size w w' := by
  obtain ⟨p, hp⟩ : ∃ p, p = a0 % 65536 := ⟨_, rfl⟩
  have e1 : IntKind.u64.wrap (IntKind.u64.wrap a0 * 281474976710656) = p * 281474976710656 := by rw [IntKind.wrap_u64, IntKind.wrap_u64]; omega
  have e2 : IntKind.u64.wrap (p * 281474976710656 + a1 * 65536) = p * 281474976710656 + a1 * 65536 := by rw [IntKind.wrap_u64]; omega
  obtain ⟨n, hn⟩ : ∃ n, n = p * 281474976710656 + a1 * 65536 + a2 := ⟨_, rfl⟩
  have e3 : IntKind.u64.wrap (p * 281474976710656 + a1 * 65536 + a2) = n := by rw [IntKind.wrap_u64]; omega
  have e4 : n.tdiv 536870912 = n / 536870912 := Int.tdiv_eq_ediv_of_nonneg (by omega)
  have e5 : IntKind.u64.wrap (n / 536870912) = n / 536870912 := by rw [IntKind.wrap_u64]; omega
  obtain ⟨x, hx⟩ : ∃ x, IntKind.u64.wrap (bits .xor .u64 n (n / 536870912) * 14029467366897019727) = x := ⟨_, rfl⟩
  have x0 : 0 ≤ x ∧ x < 18446744073709551616 := by rw [← hx, IntKind.wrap_u64]; omega
  have e6 : x.tdiv 4294967296 = x / 4294967296 := Int.tdiv_eq_ediv_of_nonneg x0.1
  have e7 : IntKind.u64.wrap (x / 4294967296) = x / 4294967296 := by rw [IntKind.wrap_u64]; omega
  have HX := Lib.hid (show hF a0 a1 a2 = x / 4294967296 % 4294967296 by
    unfold hF nF
    rw [← hp, ← hn, hx])
  clear hp hn
  go_enter Try.func35, Try.ntmps35
  go_wp2
  go_ret
  refine ⟨?_, ball _ _⟩
  rw [HX.out, show x / 4294967296 % 4294967296 = x / 4294967296 by omega]
  rfl
end Go.Proofs.Ytbnlpidhbilenaa

namespace Go.Proofs.Ytbnlpidhbilenaa
open Go.RowKit Plain
set_option linter.unusedVariables false
set_option maxRecDepth 100000
/-- a far end's parts can be kept -/
structure Fo.ok (f : Fo) : Prop where
  a0 : 0 ≤ f.ad
  a1 : f.ad ≤ 4294967295
  p0 : 0 ≤ f.po
  p1 : f.po ≤ 65535
def wkF (ws : Int) (out : Bool) (zs : List Int) : Int :=
  if farE zs ≠ 0 then 0 else if ws < 1 then 0 else hF (farF out zs).pr (farF out zs).ad (farF out zs).po % ws
theorem hF_range (a b c : Int) : 0 ≤ hF a b c ∧ hF a b c < 4294967296 := by unfold hF; omega
set_option maxHeartbeats 4000000 in
theorem worker_any (ws : Int) (hw0 : -9223372036854775808 ≤ ws) (hw1 : ws ≤ 9223372036854775807) (out : Bool) (A : Option Addr) (n c : Nat) (zs : List Int) (w : World) (hn : zs.length = n) (hnc : n ≤ c) (hl : n ≤ 100000) (hR : Rd w A zs) (hok : (farF out zs).ok) :
    Calls Try.prog 30 #[.int .i64 ws, .bool out, .slice A n c] w fun e w' => e = .returned (.int .i64 (wkF ws out zs)) ∧ Below w.heap.size w w' := by
  have hC := far_any out A n c zs w hn hnc hl hR
  obtain ⟨er, her⟩ : ∃ e, e = farE zs := ⟨_, rfl⟩
  obtain ⟨fo, hfo⟩ : ∃ f, f = farF out zs := ⟨_, rfl⟩
  rw [← her, ← hfo] at hC
  rw [← hfo] at hok
  have HW := Lib.hid (show wkF ws out zs = if er ≠ 0 then 0 else if ws < 1 then 0 else hF fo.pr fo.ad fo.po % ws by unfold wkF; rw [← her, ← hfo])
  have HC := Lib.hid hC
  clear hC her hfo hn hR
  obtain ⟨a0, a1, a2⟩ := fo
  have HH := fun w => hash_any a0 a1 a2 hok.a0 hok.a1 hok.p0 hok.p1 w
  have hr := hF_range a0 a1 a2
  obtain ⟨h, hh⟩ : ∃ h, h = hF a0 a1 a2 := ⟨_, rfl⟩
  simp only [← hh] at HH HW hr
  have HHH := Lib.hid HH
  clear HH hh hok
  go_enter Try.func30, Try.ntmps30
  go_upto_region 2 with (go_at_call 27; refine (HC.out).mono ?_; rintro e w1 ⟨rfl, hb1⟩; rw [show (Fo.mk a0 a1 a2).val = .agg #[.int .i64 a0, .int .u32 a1, .int .u16 a2] from rfl])
  obtain ⟨w2, hw2⟩ : ∃ w2, w2 = w1.alloc (.cells #[.int .i64 a0, .int .u32 a1, .int .u16 a2] 67) := ⟨_, rfl⟩
  rw [← hw2]
  have HF2 := Lib.hid (show Blk w2 w1.heap.size 67 #[.int .i64 a0, .int .u32 a1, .int .u16 a2] by rw [hw2]; exact Blk.new w1 _ _)
  have HB2 := Lib.hid (show Below w.heap.size w w2 by rw [hw2]; exact hb1.alloc hb1.size _)
  clear hw2 hb1 HC
  generalize w1.heap.size = g7 at *
  by_cases hz : er = 0
  · obtain rfl := hz
    by_cases hw : ws < 1
    · have b1 : decide (ws < 1) = true := by simp [hw]
      have HE := Lib.hid (show wkF ws out zs = 0 by rw [HW.out, if_neg (by decide), if_pos hw])
      clear hr
      go_wp2
      go_ret
      rw [HE.out]
      exact ⟨rfl, HB2.out⟩
    · have b1 : decide (ws < 1) = false := by simp [hw]
      have HE := Lib.hid (show wkF ws out zs = h % ws by rw [HW.out, if_neg (by decide), if_neg hw])
      have e1 : IntKind.u64.wrap ws = ws := by rw [IntKind.wrap_u64]; omega
      have e2 : h.tmod ws = h % ws := Int.tmod_eq_emod_of_nonneg hr.1
      have m0 : 0 ≤ h % ws := Int.emod_nonneg _ (by omega)
      have m1 : h % ws ≤ h := by
        have := Int.emod_add_mul_ediv h ws
        have := Int.ediv_nonneg hr.1 (show 0 ≤ ws by omega)
        have := Int.mul_nonneg (show 0 ≤ ws by omega) this
        omega
      obtain ⟨x, hx⟩ : ∃ x, h % ws = x := ⟨_, rfl⟩
      rw [hx] at e2 m0 m1 HE
      have e3 : wrap64 x = x := by unfold wrap64; omega
      have e4 : IntKind.u64.wrap x = x := by rw [IntKind.wrap_u64]; omega
      have nz : (ws == 0) = false := by simp; omega
      have nz2 : ¬ (ws = 0) := by omega
      clear hx
      go_wp2_with (first | ((with_reducible refine gd_ld 67 7 ?_); refine wpList_ld rfl 67 (.tmp 7) rfl _ rfl (HF2.out) sFlow ?_) | (go_at_call 33; refine (HHH.out _).mono ?_; rintro e w3 ⟨rfl, hb3⟩))
      go_ret
      rw [HE.out]
      exact ⟨rfl, bthen HB2.out hb3⟩
  · have b1 : (er == 0) = false := by simp [hz]
    have b2 : (er != 0) = true := by simp [hz]
    have HE := Lib.hid (show wkF ws out zs = 0 by rw [HW.out, if_pos hz])
    clear hr
    go_wp2
    go_ret
    rw [HE.out]
    exact ⟨rfl, HB2.out⟩
set_option maxHeartbeats 4000000 in
theorem rworker_any (ws : Int) (hw0 : -9223372036854775808 ≤ ws) (hw1 : ws ≤ 9223372036854775807) (out : Bool) (A : Option Addr) (n c : Nat) (zs : List Int) (w : World) (hn : zs.length = n) (hnc : n ≤ c) (hl : n ≤ 100000) (hR : Rd w A zs) (hok : (farF out zs).ok) :
    Calls Try.prog 31 #[.int .i64 ws, .bool out, .slice A n c] w fun e w' => e = .returned (.int .i64 (wkF ws out zs)) ∧ Below w.heap.size w w' := by
  have hC := rfar_any out A n c zs w hn hnc hl hR
  obtain ⟨er, her⟩ : ∃ e, e = farE zs := ⟨_, rfl⟩
  obtain ⟨fo, hfo⟩ : ∃ f, f = farF out zs := ⟨_, rfl⟩
  rw [← her, ← hfo] at hC
  rw [← hfo] at hok
  have HW := Lib.hid (show wkF ws out zs = if er ≠ 0 then 0 else if ws < 1 then 0 else hF fo.pr fo.ad fo.po % ws by unfold wkF; rw [← her, ← hfo])
  have HC := Lib.hid hC
  clear hC her hfo hn hR
  obtain ⟨a0, a1, a2⟩ := fo
  have HH := fun w => rhash_any a0 a1 a2 hok.a0 hok.a1 hok.p0 hok.p1 w
  have hr := hF_range a0 a1 a2
  obtain ⟨h, hh⟩ : ∃ h, h = hF a0 a1 a2 := ⟨_, rfl⟩
  simp only [← hh] at HH HW hr
  have HHH := Lib.hid HH
  clear HH hh hok
  go_enter Try.func31, Try.ntmps31
  go_upto_region 2 with (go_at_call 28; refine (HC.out).mono ?_; rintro e w1 ⟨rfl, hb1⟩; rw [show (Fo.mk a0 a1 a2).val = .agg #[.int .i64 a0, .int .u32 a1, .int .u16 a2] from rfl])
  obtain ⟨w2, hw2⟩ : ∃ w2, w2 = w1.alloc (.cells #[.int .i64 a0, .int .u32 a1, .int .u16 a2] 70) := ⟨_, rfl⟩
  rw [← hw2]
  have HF2 := Lib.hid (show Blk w2 w1.heap.size 70 #[.int .i64 a0, .int .u32 a1, .int .u16 a2] by rw [hw2]; exact Blk.new w1 _ _)
  have HB2 := Lib.hid (show Below w.heap.size w w2 by rw [hw2]; exact hb1.alloc hb1.size _)
  clear hw2 hb1 HC
  generalize w1.heap.size = g7 at *
  by_cases hz : er = 0
  · obtain rfl := hz
    by_cases hw : ws < 1
    · have b1 : decide (ws < 1) = true := by simp [hw]
      have HE := Lib.hid (show wkF ws out zs = 0 by rw [HW.out, if_neg (by decide), if_pos hw])
      clear hr
      go_wp2
      go_ret
      rw [HE.out]
      exact ⟨rfl, HB2.out⟩
    · have b1 : decide (ws < 1) = false := by simp [hw]
      have HE := Lib.hid (show wkF ws out zs = h % ws by rw [HW.out, if_neg (by decide), if_neg hw])
      have e1 : IntKind.u64.wrap ws = ws := by rw [IntKind.wrap_u64]; omega
      have e2 : h.tmod ws = h % ws := Int.tmod_eq_emod_of_nonneg hr.1
      have m0 : 0 ≤ h % ws := Int.emod_nonneg _ (by omega)
      have m1 : h % ws ≤ h := by
        have := Int.emod_add_mul_ediv h ws
        have := Int.ediv_nonneg hr.1 (show 0 ≤ ws by omega)
        have := Int.mul_nonneg (show 0 ≤ ws by omega) this
        omega
      obtain ⟨x, hx⟩ : ∃ x, h % ws = x := ⟨_, rfl⟩
      rw [hx] at e2 m0 m1 HE
      have e3 : wrap64 x = x := by unfold wrap64; omega
      have e4 : IntKind.u64.wrap x = x := by rw [IntKind.wrap_u64]; omega
      have nz : (ws == 0) = false := by simp; omega
      have nz2 : ¬ (ws = 0) := by omega
      clear hx
      go_wp2_with (first | ((with_reducible refine gd_ld 70 7 ?_); refine wpList_ld rfl 70 (.tmp 7) rfl _ rfl (HF2.out) rFlow ?_) | (go_at_call 35; refine (HHH.out _).mono ?_; rintro e w3 ⟨rfl, hb3⟩))
      go_ret
      rw [HE.out]
      exact ⟨rfl, bthen HB2.out hb3⟩
  · have b1 : (er == 0) = false := by simp [hz]
    have b2 : (er != 0) = true := by simp [hz]
    have HE := Lib.hid (show wkF ws out zs = 0 by rw [HW.out, if_pos hz])
    clear hr
    go_wp2
    go_ret
    rw [HE.out]
    exact ⟨rfl, HB2.out⟩
end Go.Proofs.Ytbnlpidhbilenaa

namespace Go.Proofs.Ytbnlpidhbilenaa
open Go.RowKit Plain
set_option linter.unusedVariables false
structure PtR (p : Pt) : Prop where
  s0 : 0 ≤ p.sp
  s1 : p.sp ≤ 65535
  d0 : 0 ≤ p.dp
  d1 : p.dp ≤ 65535
  i0 : 0 ≤ p.inn.src
  i1 : p.inn.src ≤ 4294967295
  j0 : 0 ≤ p.inn.dst
  j1 : p.inn.dst ≤ 4294967295
theorem pt0_R : PtR pt0 := ⟨by decide, by decide, by decide, by decide, by decide, by decide, by decide, by decide⟩
theorem mk_R {a b c d e f : Int} {g : Bool} {h : Hd} {i : Int} {j : Bool} (hb : 0 ≤ b ∧ b ≤ 65535) (hc : 0 ≤ c ∧ c ≤ 65535) (h0 : 0 ≤ h.src ∧ h.src ≤ 4294967295 ∧ 0 ≤ h.dst ∧ h.dst ≤ 4294967295) : PtR ⟨a, b, c, d, e, f, g, h, i, j⟩ :=
  ⟨hb.1, hb.2, hc.1, hc.2, h0.1, h0.2.1, h0.2.2.1, h0.2.2.2⟩
theorem hd0_R : 0 ≤ hd0.src ∧ hd0.src ≤ 4294967295 ∧ 0 ≤ hd0.dst ∧ hd0.dst ≤ 4294967295 := by decide
theorem ptH_R (zs : List Int) (h : By zs) : 0 ≤ (ptH zs).src ∧ (ptH zs).src ≤ 4294967295 ∧ 0 ≤ (ptH zs).dst ∧ (ptH zs).dst ≤ 4294967295 := by
  have r12 := G32_range zs h 12
  have r16 := G32_range zs h 16
  unfold ptH
  split
  · unfold fld; simp only; omega
  · exact hd0_R
theorem erP_R (p : Pt) (zs : List Int) (h : By zs) : PtR (erP p zs) := by
  have hc : By (erC zs) := by unfold erC; first | exact (h.drop _).take _ | exact (h.take _).drop _ | exact h.drop _
  unfold erP
  split
  · split
    · exact ⟨(G16_range _ hc _).1, (G16_range _ hc _).2, (G16_range _ hc _).1, (G16_range _ hc _).2, (ptH_R zs h).1, (ptH_R zs h).2.1, (ptH_R zs h).2.2.1, (ptH_R zs h).2.2.2⟩
    · exact ⟨(G16_range _ hc _).1, (G16_range _ hc _).2, (G16_range _ hc _).1, (G16_range _ hc _).2, (ptH_R zs h).1, (ptH_R zs h).2.1, (ptH_R zs h).2.2.1, (ptH_R zs h).2.2.2⟩
  · exact pt0_R
theorem pgP_R (h : Hd) (zs : List Int) (hb : By zs) : PtR (pgP h zs) := by
  have hc : By (bodyOf h zs) := by unfold bodyOf; exact (hb.drop _).take _
  unfold pgP
  split
  · exact pt0_R
  split
  · unfold udP
    split
    · exact mk_R (G16_range _ hc _) (G16_range _ hc _) hd0_R
    · exact pt0_R
  split
  · unfold tcP
    split
    · exact mk_R (G16_range _ hc _) (G16_range _ hc _) hd0_R
    · exact pt0_R
  split
  · unfold icP
    split
    · split
      · exact mk_R (G16_range _ hc _) (G16_range _ hc _) hd0_R
      · exact erP_R _ _ (hc.drop _)
    · exact pt0_R
  · exact pt0_R
theorem farF_ok (out : Bool) (zs : List Int) (hb : By zs) : (farF out zs).ok := by
  have hg := gtH_rng zs hb
  have hp := pgP_R (gtH zs) zs hb
  have ho : (ofF out (gtH zs) (pgP (gtH zs) zs)).ok := by
    unfold ofF
    split
    · split
      · exact ⟨hp.i0, hp.i1, hp.s0, hp.s1⟩
      · exact ⟨hp.j0, hp.j1, hp.d0, hp.d1⟩
    · split
      · exact ⟨hg.2.2.1, hg.2.2.2, hp.d0, hp.d1⟩
      · exact ⟨hg.1, hg.2.1, hp.s0, hp.s1⟩
  have hz : (Fo.mk 0 0 0).ok := ⟨by decide, by decide, by decide, by decide⟩
  unfold farF
  split
  · exact hz
  split
  · exact hz
  split
  · exact ⟨ho.a0, ho.a1, Int.le_refl 0, by show (0 : Int) ≤ 65535; decide⟩
  · exact ho
end Go.Proofs.Ytbnlpidhbilenaa

namespace Go.Proofs.Ytbnlpidhbilenaa
open Go.RowKit Plain
set_option linter.unusedVariables false
def finF (f : Fo) : Fo := if f.pr = 1 then { f with po := 0 } else f
theorem far_frm (t p s d : Int) (ys : List Int) (hy : By ys) (hl : ys.length ≤ 1480) (t0 : 0 ≤ t) (t1 : t ≤ 255) (p0 : 0 ≤ p) (p1 : p ≤ 255) (s0 : 0 ≤ s) (s1 : s ≤ 4294967295) (d0 : 0 ≤ d) (d1 : d ≤ 4294967295) (hE : byE p s d ys = 0) (out : Bool) :
    farE (frm t p s d ys) = 0 ∧ farF out (frm t p s d ys) = finF (ofF out ⟨20, 20 + (ys.length : Int), t, p, s, d⟩ (byP p s d ys)) := by
  have hg := frm_got t p s d ys [] hl hy t0 t1 p0 p1 s0 s1 d0 d1
  rw [List.append_nil] at hg
  have hp := frm_pg t p s d ys ys.length rfl t s d p
  have h1 : pgE ⟨20, 20 + (ys.length : Int), t, p, s, d⟩ (frm t p s d ys) = 0 := by rw [hp.1]; exact hE
  have h2 : pgP ⟨20, 20 + (ys.length : Int), t, p, s, d⟩ (frm t p s d ys) = byP p s d ys := by rw [hp.2]; rfl
  constructor
  · unfold farE
    rw [hg.1, if_neg (by decide), hg.2, h1]
  · unfold farF finF
    rw [hg.1, if_neg (by decide), hg.2, h1, if_neg (by decide), h2]
theorem far_low (x : Sn) (K : Nat) (hK : K < 4) (w : World) (ok : x.ok w) (out : Bool) :
    farE (frL x K) = 0 ∧ farF out (frL x K) = ⟨carP K, if out = true then x.d else x.s, if 2 ≤ K then 0 else if out = true then x.t else x.f⟩ := by
  have h40 : (x.ys.take 40).length ≤ 40 := List.length_take_le _ _
  have hby := ok.rd.1.take 40
  have hE := low_ok K hK x.s x.d x.f x.t x.fl (x.ys.take 40) (by omega) hby ok.s0 ok.d0 ok.f0 ok.f1 ok.t0 ok.t1
  have hQ := low_q K hK x.s x.d x.f x.t x.fl (x.ys.take 40) (by omega) hby ok.s0 ok.d0 ok.f0 ok.f1 ok.t0 ok.t1
  have hcb := carL_by K x.s x.d x.f x.t x.fl h40 hby ok.s0 ok.s1 ok.d0 ok.d1
  have hcl := carL_len K x.s x.d x.f x.t x.fl (x.ys.take 40) h40
  have hpr := carP_range K
  have hF := far_frm 64 (carP K) x.s x.d _ hcb (by omega) (by omega) (by omega) hpr.1 hpr.2 ok.s0 ok.s1 ok.d0 ok.d1 hE out
  refine ⟨hF.1, hF.2.trans ?_⟩
  have q1 := hQ.er
  have q2 := hQ.sp
  have q3 := hQ.dp
  generalize byP (carP K) x.s x.d (carL K x.s x.d x.f x.t x.fl (x.ys.take 40)) = p at *
  unfold finF ofF
  rw [q1]
  obtain rfl | rfl | rfl | rfl : K = 0 ∨ K = 1 ∨ K = 2 ∨ K = 3 := by omega
  · cases out
    · simp [carP, q2]
    · simp [carP, q3]
  · cases out
    · simp [carP, q2]
    · simp [carP, q3]
  · cases out <;> simp [carP]
  · cases out <;> simp [carP]
theorem far_about (x : Sn) (K : Nat) (hK : K < 3) (w : World) (ok : x.ok w) (a : Int) (a0 : 0 ≤ a) (a1 : a ≤ 4294967295) (c : Nat) (hc : 28 ≤ c) (hc2 : c ≤ 1400) :
    farE (frm 64 1 a x.s (icL 3 1 0 ((frL x K).take c))) = 0 ∧ farF false (frm 64 1 a x.s (icL 3 1 0 ((frL x K).take c))) = ⟨carP K, x.d, if 2 ≤ K then 0 else x.t⟩ := by
  have h40 : (x.ys.take 40).length ≤ 40 := List.length_take_le _ _
  have hby := ok.rd.1.take 40
  have hcb := carL_by K x.s x.d x.f x.t x.fl h40 hby ok.s0 ok.s1 ok.d0 ok.d1
  have hcl := carL_len K x.s x.d x.f x.t x.fl (x.ys.take 40) h40
  have hpr := carP_range K
  have hfb : By (frL x K) := frm_all 64 (carP K) x.s x.d _ hcb (by omega) (by omega) (by omega) hpr.1 hpr.2 ok.s0 ok.s1 ok.d0 ok.d1
  have hX : By ((frL x K).take c) := hfb.take c
  have hXl : ((frL x K).take c).length ≤ c := List.length_take_le _ _
  have hI := ic_er 3 1 (.inl rfl) (by omega) (by omega) _ hX
  have h8 : 8 ≤ (carL K x.s x.d x.f x.t x.fl (x.ys.take 40)).length := by
    obtain rfl | rfl | rfl : K = 0 ∨ K = 1 ∨ K = 2 := by omega
    · show 8 ≤ (udL _ _ _ _ _).length; rw [udL_len]; omega
    · show 8 ≤ (tcL _ _ _ _ _ _).length; rw [tcL_len]; omega
    · show 8 ≤ (icL _ _ _ _).length; rw [icL_len]; omega
  have hA := er_any 64 (carP K) x.s x.d _ c hc h8 (by omega) (by omega) (by omega) hpr.1 hpr.2 ok.s0 ok.s1 ok.d0 ok.d1
  have hz : erE ((frL x K).take c) = 0 := by
    refine hA.1.trans ?_
    obtain rfl | rfl | rfl : K = 0 ∨ K = 1 ∨ K = 2 := by omega
    · exact if_pos (.inl rfl)
    · exact if_pos (.inr rfl)
    · rw [if_neg (by decide), if_pos ⟨rfl, .inr (icL_0 8 0 _ _).1⟩]
  have hE : byE 1 a x.s (icL 3 1 0 ((frL x K).take c)) = 0 := by
    show icE (icL 3 1 0 ((frL x K).take c)) = 0
    rw [hI.1, hz]
  have hF := far_frm 64 1 a x.s (icL 3 1 0 ((frL x K).take c)) (icL_by 3 1 0 hX (by omega) (by omega) (by omega) (by omega)) (by rw [icL_len]; omega) (by omega) (by omega) (by omega) (by omega) a0 a1 ok.s0 ok.s1 hE false
  refine ⟨hF.1, hF.2.trans ?_⟩
  have hP : byP 1 a x.s (icL 3 1 0 ((frL x K).take c)) = icP 20 (icL 3 1 0 ((frL x K).take c)) := rfl
  have hP2 := hA.2 hz ⟨1, 0, 0, 0, 3, 1, false, hd0, 28, false⟩
  rw [hP, hI.2 hz]
  rw [show erP ⟨1, 0, 0, 0, 3, 1, false, hd0, 28, false⟩ ((frL x K).take c) = _ from hP2]
  obtain rfl | rfl | rfl : K = 0 ∨ K = 1 ∨ K = 2 := by omega
  · have g := ud0_g x.f x.t (x.ys.take 40) ok.f0 ok.f1 ok.t0 ok.t1 (by omega)
    have g2 : G16 (carL 0 x.s x.d x.f x.t x.fl (x.ys.take 40)) 2 = x.t := by
      show G16 (udL _ _ _ _ _) 2 = _
      unfold udL; rw [P16_g16_ne _ _ _ _ (by decide) (by decide) (by decide)]; exact g.2.1
    rw [g2]
    simp [finF, ofF, carP]
  · have g := tc0_g x.f x.t (x.fl % 256) (x.ys.take 40) ok.f0 ok.f1 ok.t0 ok.t1
    have g2 : G16 (carL 1 x.s x.d x.f x.t x.fl (x.ys.take 40)) 2 = x.t := by
      show G16 (tcL _ _ _ _ _ _) 2 = _
      unfold tcL; rw [P16_g16_ne _ _ _ _ (by decide) (by decide) (by decide)]; exact g.2.1
    rw [g2]
    simp [finF, ofF, carP]
  · simp [finF, ofF, carP]
end Go.Proofs.Ytbnlpidhbilenaa

namespace Go.Proofs.Ytbnlpidhbilenaa
open Go.RowKit Plain
set_option linter.unusedVariables false
set_option linter.unusedSimpArgs false
set_option maxRecDepth 100000
theorem rright_got (zs : List Int) (hby : By zs) (hg : gtE zs = 0) (A : Option Addr) (n c : Nat) (ys : List Int) (w : World) (hn : ys.length = n) (hl : n ≤ 1000) (hzn : zs.length = n) (hR : Rd w A ys) :
    Calls Try.prog 45 #[(gtH zs).val, .slice A n c] w (RightOk n w) := by
  have G := got_of zs hby hg
  have hr := gtH_rng zs hby
  have z1 := G.sz
  have z2 := G.ln
  rw [← G.hd] at z1 z2
  generalize gtH zs = h at *
  obtain ⟨h0, h1, h2, h3, h4, h5⟩ := h
  simp only at z1 z2 hr
  obtain ⟨sz, rfl⟩ : ∃ sz : Nat, h0 = (sz : Int) := ⟨h0.toNat, by omega⟩
  obtain ⟨q, rfl⟩ : ∃ q : Nat, h1 = (sz : Int) + (q : Int) := ⟨(h1 - sz).toNat, by omega⟩
  rw [show (Hd.mk (sz : Int) ((sz : Int) + (q : Int)) h2 h3 h4 h5).val = .agg #[.int .i64 (sz : Int), .int .i64 ((sz : Int) + (q : Int)), .int .i64 h2, .int .i64 h3, .int .u32 h4, .int .u32 h5] from rfl]
  by_cases p17 : h3 = 17
  · subst p17
    exact rightg_17 sz q (by omega) (by omega) h2 h4 h5 A n c ys w hn hl (by omega) hR hr.1 hr.2.1 hr.2.2.1 hr.2.2.2
  by_cases p6 : h3 = 6
  · subst p6
    exact rightg_6 sz q (by omega) (by omega) h2 h4 h5 A n c ys w hn hl (by omega) hR hr.1 hr.2.1 hr.2.2.1 hr.2.2.2
  by_cases p1 : h3 = 1
  · subst p1
    exact rightg_1 sz q (by omega) (by omega) h2 h4 h5 A n c ys w hn hl (by omega) hR hr.1 hr.2.1 hr.2.2.1 hr.2.2.2
  exact rightg_no sz q h3 p17 p6 p1 (by omega) (by omega) h2 h4 h5 A n c ys w hn hl (by omega) hR hr.1 hr.2.1 hr.2.2.1 hr.2.2.2
end Go.Proofs.Ytbnlpidhbilenaa
