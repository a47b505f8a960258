/-
  FanlightThere: what a frame, its answer, and what rewriting makes of both tell, as lists. Conditions stand in each theorem.
-/
import Derived.Test.YtdkjipfemnfckaaRwX
import Derived.Test.YtdkjipfemnfckaaRwT
namespace Go.Proofs.Ytdkjipfemnfckaa
open Go.RowKit Plain
set_option linter.unusedVariables false
set_option linter.unusedSimpArgs false
set_option maxRecDepth 100000
structure LowQ (K : Nat) (f t : Int) (p : Pt) : Prop where
  sp : p.sp = f
  dp : K < 2 → p.dp = t
  er : p.er = false
theorem low_q (K : Nat) (hK : K < 4) (s d f t fl : Int) (L : List Int) (hl : L.length ≤ 1400) (h : By L) (s0 : 0 ≤ s) (d0 : 0 ≤ d) (f0 : 0 ≤ f) (f1 : f ≤ 65535) (t0 : 0 ≤ t) (t1 : t ≤ 65535) :
    LowQ K f t (byP (carP K) s d (carL K s d f t fl L)) := by
  have hB := low_ok K hK s d f t fl L hl h s0 d0 f0 f1 t0 t1
  obtain rfl | rfl | rfl | rfl : K = 0 ∨ K = 1 ∨ K = 2 ∨ K = 3 := by omega
  · have hB' : udE s d (udL s d f t L) = 0 := hB
    have := udP_ok s d f t L hl f0 f1 t0 t1 hB'
    refine ⟨this.1, fun _ => this.2, ?_⟩
    show (udP s d (udL s d f t L)).er = false
    unfold udP; rw [if_pos hB']
  · have hB' : tcE s d (tcL s d f t (fl % 256) L) = 0 := hB
    obtain ⟨g0, g2, _, g13, _⟩ := tc0_g f t (fl % 256) L f0 f1 t0 t1
    have e : byP (carP 1) s d (carL 1 s d f t fl L) = ⟨6, f, t, fl % 256, 0, 0, false, hd0, 0, false⟩ := by
      show tcP s d (tcL s d f t (fl % 256) L) = _
      unfold tcP
      rw [if_pos hB']
      unfold tcL
      rw [P16_g16_ne _ _ _ _ (by decide) (by decide) (by decide), P16_g16_ne _ _ _ _ (by decide) (by decide) (by decide), P16_other _ _ _ _ (by decide) (by decide), g0, g2, g13]
    rw [e]
    exact ⟨rfl, fun _ => rfl, rfl⟩
  · have hB' : icE (icL 8 0 f L) = 0 := hB
    have e : (byP (carP 2) s d (carL 2 s d f t fl L)).sp = f ∧ (byP (carP 2) s d (carL 2 s d f t fl L)).er = false := by
      show (icP 20 (icL 8 0 f L)).sp = f ∧ (icP 20 (icL 8 0 f L)).er = false
      unfold icP
      rw [if_pos hB', if_pos (Or.inr (icL_0 8 0 f L).1)]
      exact ⟨icL_4 8 0 f L f0 f1, rfl⟩
    exact ⟨e.1, fun h => absurd h (by decide), e.2⟩
  · have hB' : icE (icL 0 0 f L) = 0 := hB
    have e : (byP (carP 3) s d (carL 3 s d f t fl L)).sp = f ∧ (byP (carP 3) s d (carL 3 s d f t fl L)).er = false := by
      show (icP 20 (icL 0 0 f L)).sp = f ∧ (icP 20 (icL 0 0 f L)).er = false
      unfold icP
      rw [if_pos hB', if_pos (Or.inl (icL_0 0 0 f L).1)]
      exact ⟨icL_4 0 0 f L f0 f1, rfl⟩
    exact ⟨e.1, fun h => absurd h (by decide), e.2⟩
theorem ec_dp (zs : List Int) (hg : Got zs) (h : pgE (fld zs) zs = 0) (h1 : (fld zs).proto = 1) (he : (pgP (fld zs) zs).er = false) : (pgP (fld zs) zs).dp = (pgP (fld zs) zs).sp := by
  rcases pg_cases zs hg h with ⟨q, _⟩ | ⟨q, _⟩ | ⟨_, _, _, q2⟩ | ⟨_, q1, _, q3, q2⟩
  · omega
  · omega
  · rw [q2]
  · exfalso
    rw [q2] at he
    unfold erP at he
    rw [if_pos q3] at he
    split at he <;> simp at he
/-- what rewriting makes of a frame of a Sent: what it tells -/
structure ThB (zs : List Int) (e m : Nat) (cp s d A P sp dp : Int) : Prop where
  rE : rwE zs = 0
  N : (fld zs).len.toNat = 20 + m
  zl : zs.length = 20 + m
  same : SameF zs (rwL zs e A P) e A P
  yl : (rwL zs e A P).length = 20 + m
  gE : gtE (rwL zs e A P) = 0
  gH : gtH (rwL zs e A P) = ⟨20, 20 + (m : Int), 64, cp, s, d⟩
  pE : pgE ⟨20, 20 + (m : Int), 64, cp, s, d⟩ (rwL zs e A P) = 0
  pV : ∃ p0 p3 p4 p5 p6 p7 p8 p9 p10 p11 p12 p13 p14, (pgP ⟨20, 20 + (m : Int), 64, cp, s, d⟩ (rwL zs e A P)).val = .agg #[.int .i64 p0, .int .u16 sp, .int .u16 dp, .int .i64 p3, .int .i64 p4, .int .i64 p5, .bool p6, .int .i64 p7, .int .i64 p8, .int .i64 p9, .int .i64 p10, .int .u32 p11, .int .u32 p12, .int .i64 p13, .bool p14]
  m1 : m ≤ 100
theorem thB (x : Sn) (K : Nat) (hK : K < 4) (w : World) (ok : x.ok w) (e : Nat) (he : e ≤ 1) (A P : Int) (n0 : 0 ≤ A) (n1 : A ≤ 4294967295) (q0 : 0 ≤ P) (q1 : P ≤ 65535) (s d sp dp : Int)
    (hs : s = if e = 0 then A else x.s) (hd : d = if e = 0 then x.d else A)
    (hsp : sp = if e = 0 then P else if K < 2 then x.f else P) (hdp : dp = if e = 0 then (if K < 2 then x.t else P) else P) : ∃ m, m = (carL K x.s x.d x.f x.t x.fl (x.ys.take 40)).length ∧ ThB (frL x K) e m (carP K) s d A P sp dp := by
  obtain ⟨m, sf⟩ := sent_facts x K (by omega) w ok
  have h1 := same_rw (frL x K) sf.by' sf.got sf.pe e he A P n0 n1 q0 q1
  have hlq := low_q K hK x.s x.d x.f x.t x.fl (x.ys.take 40) (by have := List.length_take_le 40 x.ys; omega) (ok.rd.1.take 40) ok.s0 ok.d0 ok.f0 ok.f1 ok.t0 ok.t1
  rw [← sf.pp] at hlq
  have her := hlq.er
  have hpl := h1.plain her
  have hfy : fld (rwL (frL x K) e A P) = ⟨20, 20 + (m : Int), 64, carP K, s, d⟩ := by
    rw [h1.hd, sf.fl', hs, hd]
    rcases (by omega : e = 0 ∨ e = 1) with rfl | rfl <;> rfl
  have hpr : (fld (frL x K)).proto = carP K := by rw [sf.fl']
  have hyer : (pgP (fld (rwL (frL x K) e A P)) (rwL (frL x K) e A P)).er = false := by rw [h1.er]; exact her
  have hports : (pgP (fld (rwL (frL x K) e A P)) (rwL (frL x K) e A P)).sp = sp ∧ (pgP (fld (rwL (frL x K) e A P)) (rwL (frL x K) e A P)).dp = dp := by
    by_cases hK2 : K < 2
    · have hnp : ¬ (fld (frL x K)).proto = 1 := by
        rw [hpr]
        rcases (by omega : K = 0 ∨ K = 1) with rfl | rfl <;> decide
      have hot : ptO (pgP (fld (rwL (frL x K) e A P)) (rwL (frL x K) e A P)) (1 - e) = ptO (pgP (fld (frL x K)) (frL x K)) (1 - e) := by
        rcases hpl.2 with h | h
        · exact h
        · exact absurd h hnp
      have hown := hpl.1
      rcases (by omega : e = 0 ∨ e = 1) with rfl | rfl
      · refine ⟨?_, ?_⟩
        · rw [hsp, if_pos rfl]; exact hown
        · rw [hdp, if_pos rfl, if_pos hK2, ← hlq.dp hK2]; exact hot
      · refine ⟨?_, ?_⟩
        · rw [hsp, if_neg (by omega), if_pos hK2, ← hlq.sp]; exact hot
        · rw [hdp, if_neg (by omega)]; exact hown
    · have hp1 : (fld (rwL (frL x K) e A P)).proto = 1 := by
        rw [hfy]
        show carP K = 1
        rcases (by omega : K = 2 ∨ K = 3) with rfl | rfl <;> rfl
      have hee := ec_dp _ h1.gy h1.py hp1 hyer
      have hown := hpl.1
      rcases (by omega : e = 0 ∨ e = 1) with rfl | rfl
      · have h0 : (pgP (fld (rwL (frL x K) 0 A P)) (rwL (frL x K) 0 A P)).sp = P := hown
        refine ⟨?_, ?_⟩
        · rw [hsp, if_pos rfl]; exact h0
        · rw [hdp, if_pos rfl, if_neg hK2, hee]; exact h0
      · have h0 : (pgP (fld (rwL (frL x K) 1 A P)) (rwL (frL x K) 1 A P)).dp = P := hown
        refine ⟨?_, ?_⟩
        · rw [hsp, if_neg (by omega), if_neg hK2, ← hee]; exact h0
        · rw [hdp, if_neg (by omega)]; exact h0
  have hyl := h1.len
  rw [sf.fl'] at hyl
  have hyl' : ((rwL (frL x K) e A P).length : Int) = 20 + (m : Int) := hyl
  have hgH := h1.gy.hd
  have hpy := h1.py
  rw [hfy] at hgH hpy hports
  obtain ⟨p0, p1, p2, p3, p4, p5, p6, p7, p8, p9, p10, p11, p12, p13, p14, hev⟩ := Pt.mk_val (pgP ⟨20, 20 + (m : Int), 64, carP K, s, d⟩ (rwL (frL x K) e A P))
  have hfs := pt_fields hev
  rw [hports.1, hports.2] at hfs
  obtain ⟨_, rfl, rfl, _⟩ := hfs
  refine ⟨m, sf.ml.symm, ⟨?_, ?_, sf.len, h1, by omega, got_to _ h1.gy, hgH, hpy, ⟨p0, p3, p4, p5, p6, p7, p8, p9, p10, p11, p12, p13, p14, hev⟩, sf.m1⟩⟩
  · unfold rwE; rw [if_neg (by rw [got_to _ sf.got]; simp)]; exact sf.pe
  · rw [sf.fl']; show (20 + (m : Int)).toNat = _; omega
theorem unlikeOut_any (A P : Int) (A1 A2 : Option Addr) (n1 m1 n2 m2 : Nat) (zs ys : List Int) (w : World) (hn1 : zs.length = n1) (hn2 : ys.length = n2) (hc1 : n1 ≤ m1) (hc2 : n2 ≤ m2) (hl1 : n1 ≤ 100000) (hcm : m1 ≤ 9223372036854775807) (hcm2 : m2 ≤ 9223372036854775807)
    (hR1 : Rd w A1 zs) (hR2 : Rd w A2 ys) (n0 : 0 ≤ A) (n1' : A ≤ 4294967295) (hs : SameF zs ys 0 A P) :
    Calls Try.prog 31 #[.slice A1 n1 m1, .slice A2 n2 m2, .bool true, .int .u32 A, .int .u16 P] w fun r w' => r = .returned (.int .i64 0) ∧ Below w.heap.size w w' := by
  have HC := Lib.hid (sameOut_any A P A1 A2 n1 m1 n2 m2 zs ys w hn1 hn2 hc1 hc2 hl1 hcm hcm2 hR1 hR2 n0 n1' hs)
  clear hn1 hn2 hc1 hc2 hl1 hcm hcm2 hR1 hR2 hs
  go_enter Try.func31, Try.ntmps31
  go_wp2_with fail
  refine (HC.out).mono ?_
  rintro e w1 ⟨rfl, hb⟩
  have HB := Lib.hid hb
  clear hb
  go_wp2
  go_ret
  exact ⟨rfl, HB.out⟩
theorem unlikeIn_any (A P : Int) (A1 A2 : Option Addr) (n1 m1 n2 m2 : Nat) (zs ys : List Int) (w : World) (hn1 : zs.length = n1) (hn2 : ys.length = n2) (hc1 : n1 ≤ m1) (hc2 : n2 ≤ m2) (hl1 : n1 ≤ 100000) (hcm : m1 ≤ 9223372036854775807) (hcm2 : m2 ≤ 9223372036854775807)
    (hR1 : Rd w A1 zs) (hR2 : Rd w A2 ys) (n0 : 0 ≤ A) (n1' : A ≤ 4294967295) (hs : SameF zs ys 1 A P) :
    Calls Try.prog 31 #[.slice A1 n1 m1, .slice A2 n2 m2, .bool false, .int .u32 A, .int .u16 P] w fun r w' => r = .returned (.int .i64 0) ∧ Below w.heap.size w w' := by
  have HC := Lib.hid (sameIn_any A P A1 A2 n1 m1 n2 m2 zs ys w hn1 hn2 hc1 hc2 hl1 hcm hcm2 hR1 hR2 n0 n1' hs)
  clear hn1 hn2 hc1 hc2 hl1 hcm hcm2 hR1 hR2 hs
  go_enter Try.func31, Try.ntmps31
  go_wp2_with fail
  refine (HC.out).mono ?_
  rintro e w1 ⟨rfl, hb⟩
  have HB := Lib.hid hb
  clear hb
  go_wp2
  go_ret
  exact ⟨rfl, HB.out⟩
end Go.Proofs.Ytdkjipfemnfckaa
