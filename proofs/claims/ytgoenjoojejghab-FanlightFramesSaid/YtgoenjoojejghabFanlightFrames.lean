/-
  FanlightFrames: its walk.
-/
import Derived.Test.YtgoenjoojejghabStands
import Derived.Test.YtgoenjoojejghabSentH
import Derived.Test.YtgoenjoojejghabPartBits
import Derived.Deep.CutBlock
import Derived.Test.YtgoenjoojejghabRegS
import Derived.Test.YtgoenjoojejghabOpenH
namespace Go.Proofs.Ytgoenjoojejghab
open Go.RowKit Plain
set_option linter.unusedVariables false
set_option linter.unusedSimpArgs false
set_option maxRecDepth 100000

theorem take_60 (ys : List Int) : (ys.take 60).take 1400 = ys.take 60 := by rw [List.take_take]; congr 1
theorem carL_low (K : Nat) (hK : K < 4) (s d f t fl : Int) (L : List Int) (hl : L.length ≤ 60) : 8 ≤ (carL K s d f t fl L).length ∧ (carL K s d f t fl L).length ≤ 80 := by
  obtain rfl | rfl | rfl | rfl : K = 0 ∨ K = 1 ∨ K = 2 ∨ K = 3 := by omega
  · show 8 ≤ (udL s d f t L).length ∧ (udL s d f t L).length ≤ 80
    rw [udL_len]; omega
  · show 8 ≤ (tcL s d f t (fl % 256) L).length ∧ (tcL s d f t (fl % 256) L).length ≤ 80
    rw [tcL_len]; omega
  · show 8 ≤ (icL 8 0 f L).length ∧ (icL 8 0 f L).length ≤ 80
    rw [icL_len]; omega
  · show 8 ≤ (icL 0 0 f L).length ∧ (icL 0 0 f L).length ≤ 80
    rw [icL_len]; omega
theorem carL_lowB (K : Nat) (hK : K < 4) (s d f t fl : Int) (L : List Int) (h : By L) (s0 : 0 ≤ s) (d0 : 0 ≤ d) : By (carL K s d f t fl L) := by
  obtain rfl | rfl | rfl | rfl : K = 0 ∨ K = 1 ∨ K = 2 ∨ K = 3 := by omega
  · exact udL_by s d f t h s0 d0
  · exact tcL_by s d f t _ h s0 d0 (by omega) (by omega)
  · exact icL_by _ _ _ h (by omega) (by omega) (by omega) (by omega)
  · exact icL_by _ _ _ h (by omega) (by omega) (by omega) (by omega)
/-- what is told of what was laid -/
structure LowP (K : Nat) (f t fl : Int) (p : Pt) : Prop where
  sp : p.sp = f
  dp : K < 2 → p.dp = t
  fl : K = 1 → p.fl = fl % 256
theorem low_p (K : Nat) (hK : K < 4) (s d f t fl : Int) (L : List Int) (hl : L.length ≤ 1400) (h : By L) (s0 : 0 ≤ s) (d0 : 0 ≤ d) (f0 : 0 ≤ f) (f1 : f ≤ 65535) (t0 : 0 ≤ t) (t1 : t ≤ 65535) :
    LowP K f t fl (byP (carP K) s d (carL K s d f t fl L)) := by
  have hB := low_ok K hK s d f t fl L hl h s0 d0 f0 f1 t0 t1
  obtain rfl | rfl | rfl | rfl : K = 0 ∨ K = 1 ∨ K = 2 ∨ K = 3 := by omega
  · have hB' : udE s d (udL s d f t L) = 0 := hB
    have := udP_ok s d f t L hl f0 f1 t0 t1 hB'
    exact ⟨this.1, fun _ => this.2, fun h => absurd h (by decide)⟩
  · have hB' : tcE s d (tcL s d f t (fl % 256) L) = 0 := hB
    obtain ⟨g0, g2, _, g13, _⟩ := tc0_g f t (fl % 256) L f0 f1 t0 t1
    have e : byP (carP 1) s d (carL 1 s d f t fl L) = ⟨6, f, t, fl % 256, 0, 0, false, hd0, 0, false⟩ := by
      show tcP s d (tcL s d f t (fl % 256) L) = _
      unfold tcP
      rw [if_pos hB']
      unfold tcL
      rw [P16_g16_ne _ _ _ _ (by decide) (by decide) (by decide), P16_g16_ne _ _ _ _ (by decide) (by decide) (by decide), P16_other _ _ _ _ (by decide) (by decide), g0, g2, g13]
    rw [e]
    exact ⟨rfl, fun _ => rfl, fun _ => rfl⟩
  · have hB' : icE (icL 8 0 f L) = 0 := hB
    have e : (byP (carP 2) s d (carL 2 s d f t fl L)).sp = f := by
      show (icP 20 (icL 8 0 f L)).sp = f
      unfold icP
      rw [if_pos hB', if_pos (Or.inr (icL_0 8 0 f L).1)]
      exact icL_4 8 0 f L f0 f1
    exact ⟨e, fun h => absurd h (by decide), fun h => absurd h (by decide)⟩
  · have hB' : icE (icL 0 0 f L) = 0 := hB
    have e : (byP (carP 3) s d (carL 3 s d f t fl L)).sp = f := by
      show (icP 20 (icL 0 0 f L)).sp = f
      unfold icP
      rw [if_pos hB', if_pos (Or.inl (icL_0 0 0 f L).1)]
      exact icL_4 0 0 f L f0 f1
    exact ⟨e, fun h => absurd h (by decide), fun h => absurd h (by decide)⟩
theorem pt_fl {p : Pt} {e0 e1 e2 e3 e4 e5 : Int} {e6 : Bool} {e7 e8 e9 e10 e11 e12 e13 : Int} {e14 : Bool} (h : p.val = .agg #[.int .i64 e0, .int .u16 e1, .int .u16 e2, .int .i64 e3, .int .i64 e4, .int .i64 e5, .bool e6, .int .i64 e7, .int .i64 e8, .int .i64 e9, .int .i64 e10, .int .u32 e11, .int .u32 e12, .int .i64 e13, .bool e14]) : e3 = p.fl := by
  simp only [Pt.val, Value.agg.injEq, Array.mk.injEq, List.cons.injEq, Value.int.injEq, Value.bool.injEq, true_and] at h
  exact h.2.2.2.1.symm
theorem frm_cs20 (t p s d : Int) (ys : List Int) (hl : ys.length ≤ 1480) (hy : By ys) (t0 : 0 ≤ t) (t1 : t ≤ 255) (p0 : 0 ≤ p) (p1 : p ≤ 255) (s0 : 0 ≤ s) (s1 : s ≤ 4294967295) (d0 : 0 ≤ d) (d1 : d ≤ 4294967295) : Cs ((frm t p s d ys).take 20) = 0 := by
  obtain ⟨hb, hm⟩ := frm_by t p s d ys hy hl t0 t1 p0 p1 s0 s1 d0 d1
  have htk : (frm t p s d ys).take 20 = hb1 t p s d (20 + (ys.length : Int)) := by
    unfold frm
    rw [List.take_append_of_le_length (by rw [hb1_len]; omega), List.take_of_length_le (by rw [hb1_len]; omega)]
  rw [htk]
  have h0 := tot_nonneg _ hb
  have hF := F_mod _ h0
  have hr2 := F_range _ h0
  have hz : F (tot (hb1 t p s d (20 + (ys.length : Int)))) ≠ 0 := fun e => by
    have hz := F_zero _ h0 e
    have hp : 17664 ≤ tot (hb1 t p s d (20 + (ys.length : Int))) := by
      have h2 : tot (hb1 t p s d (20 + (ys.length : Int))) = 69 * 256 + 0 + tot ((hb1 t p s d (20 + (ys.length : Int))).drop 2) := rfl
      have h3 := tot_nonneg _ (hb.drop 2)
      omega
    omega
  unfold Cs
  omega
theorem and255 (f : Int) : bits .and .i64 f 255 = f % 256 := by
  have h255 : (BitVec.ofInt 64 255).toNat = 2 ^ 8 - 1 := by decide
  have key : (BitVec.ofInt 64 f &&& BitVec.ofInt 64 255).toNat = (f % ((2 ^ 64 : Nat) : Int)).toNat % 2 ^ 8 := by
    rw [BitVec.toNat_and, BitVec.toNat_ofInt, h255, Nat.and_two_pow_sub_one_eq_mod]
  show IntKind.i64.wrap ((BitVec.ofInt 64 f &&& BitVec.ofInt 64 255).toNat : Nat) = f % 256
  rw [key, IntKind.wrap_i64]
  omega

set_option maxHeartbeats 16000000 in
theorem fanlightFrames_walk (x : Sn) (ttl bit : Int) (w : World) (ok : x.ok w) (v0 : -9223372036854775808 ≤ bit) (v1 : bit ≤ 9223372036854775807) :
    Calls Try.prog 5 #[x.val, .int .i64 ttl, .int .i64 bit] w fun e w' => e = .returned (.bool true) ∧ Below w.heap.size w w' := by
  obtain ⟨what, s, d, f, t, fl, A, n, c, ys⟩ := x
  obtain ⟨K, hKe, hKl⟩ := pickN what 4 (by omega) (by omega)
  have hK4 : K < 4 := by omega
  obtain ⟨T, hTe, hTl⟩ := pickN ttl 256 (by omega) (by omega)
  obtain ⟨s0, s1, d0, d1, f0, f1, t0, t1, hn, hnc, hcm, hR⟩ := ok
  simp only at s0 s1 d0 d1 f0 f1 t0 t1 hn hnc hcm hR
  rw [show (Sn.mk what s d f t fl A n c ys).val = .agg #[.int .i64 what, .int .u32 s, .int .u32 d, .int .u16 f, .int .u16 t, .int .i64 fl, .slice A n c] from rfl]
  have HR := Lib.hid hR
  have Hn := Lib.hid hn
  have HK := Lib.hid hKe
  have HT := Lib.hid hTe
  clear hR hn hKe hTe
  obtain ⟨u, hu⟩ : ∃ u, u = min n 60 := ⟨_, rfl⟩
  have hu1 : u ≤ n := by omega
  have hu2 : u ≤ 60 := by omega
  have Hl := Lib.hid (show (ys.take 60).length = u by rw [List.length_take, Hn.out, hu]; omega)
  have HU := Lib.hid hu
  clear hu
  go_enter Try.func5, Try.ntmps5
  go_upto_region 1 with fail
  have HB1 := Lib.hid (ball w (.cells #[.int .i64 what, .int .u32 s, .int .u32 d, .int .u16 f, .int .u16 t, .int .i64 fl, .slice A n c] 26))
  have HK1 := Lib.hid (Blk.new w 26 #[.int .i64 what, .int .u32 s, .int .u32 d, .int .u16 f, .int .u16 t, .int .i64 fl, .slice A n c])
  generalize w.alloc (.cells #[.int .i64 what, .int .u32 s, .int .u32 d, .int .u16 f, .int .u16 t, .int .i64 fl, .slice A n c] 26) = w1 at *
  obtain ⟨g, hg⟩ : ∃ g, g = w.heap.size := ⟨_, rfl⟩
  have hgb : w.heap.size ≤ g := by omega
  rw [← hg] at HK1
  rw [← hg]
  clear hg
  have HS := Lib.hid (show SnS w g what s d f t fl A n c w1 from ⟨HK1.out, HB1.out⟩)
  have k0 : w1.cell? ⟨g, 0, none⟩ = some (.int .i64 what) := HK1.out.cell 0
  have k1 : w1.cell? ⟨g, 1, none⟩ = some (.int .u32 s) := HK1.out.cell 1
  have k2 : w1.cell? ⟨g, 2, none⟩ = some (.int .u32 d) := HK1.out.cell 2
  have k3 : w1.cell? ⟨g, 3, none⟩ = some (.int .u16 f) := HK1.out.cell 3
  have k4 : w1.cell? ⟨g, 4, none⟩ = some (.int .u16 t) := HK1.out.cell 4
  have k6 : w1.cell? ⟨g, 6, none⟩ = some (.slice A n c) := HK1.out.cell 6
  have hKe := HK.out
  go_upto_region 2 with fail
  rw [hKe]
  clear hKe
  go_cut [8] (fun s8 wx => s8 = .slice A u c ∧ w1 = wx)
  case first =>
    by_cases h : n ≤ 60
    · have h' : (n : Int) ≤ 60 := by omega
      have i1 : (n : Int) ≤ (c : Int) := by omega
      have e : u = n := by have := HU.out; omega
      have HE := Lib.hid e
      clear e
      go_wp2
      go_meet
      exact ⟨by rw [HE.out], rfl⟩
    · have h' : (60 : Int) < (n : Int) := by omega
      have i1 : (60 : Int) ≤ (c : Int) := by omega
      have i2 : 60 ≤ c := by omega
      have e : u = 60 := by have := HU.out; omega
      have HE := Lib.hid e
      clear e
      go_wp2
      go_meet
      exact ⟨by rw [HE.out], rfl⟩
  case rest =>
  obtain ⟨rfl, rfl⟩ := hcut
  have HR0 := Lib.hid (HR.out.take 60)
  have huc : u ≤ c := by omega
  go_wp2_with fail
  refine (pudp_any s d f t A u c (ys.take 60) _ Hl.out huc (by omega) (HR0.out.below HB1.out) s0 s1 d0 d1 f0 f1 t0 t1).mono ?_
  rintro e w2 ⟨g2, m2, rfl, hm2, ho2, hb2⟩
  have hmu : m2 = u := by omega
  subst hmu
  have HO2 := Lib.hid (ho2.mono HB1.out.size)
  have HS2 := Lib.hid (HS.out.below hb2)
  clear hm2 ho2 hb2 k0 k1 k2 k3 k4 k6 HB1 HK1 HS
  obtain ⟨pr, hpr⟩ : ∃ p, p = carP K := ⟨_, rfl⟩
  go_upto_block 0 with fail
  go_cut [9, 10] (fun s9 s10 wx => ∃ g9 m9 : Nat, s9 = .slice (some ⟨g9, 0, none⟩) m9 m9 ∧ s10 = .int .i64 pr ∧ Own wx w.heap.size (some ⟨g9, 0, none⟩) m9 m9 (carL K s d f t fl (ys.take 60)) ∧ SnS w g what s d f t fl A n c wx)
  case first => as_aux_lemma =>
    have k1 : w2.cell? ⟨g, 1, none⟩ = some (.int .u32 s) := HS2.out.b1.cell 1
    have k2 : w2.cell? ⟨g, 2, none⟩ = some (.int .u32 d) := HS2.out.b1.cell 2
    have k3 : w2.cell? ⟨g, 3, none⟩ = some (.int .u16 f) := HS2.out.b1.cell 3
    have k4 : w2.cell? ⟨g, 4, none⟩ = some (.int .u16 t) := HS2.out.b1.cell 4
    have k5 : w2.cell? ⟨g, 5, none⟩ = some (.int .i64 fl) := HS2.out.b1.cell 5
    have HPr := Lib.hid hpr
    clear hpr
    obtain rfl | rfl | rfl | rfl : K = 0 ∨ K = 1 ∨ K = 2 ∨ K = 3 := by omega
    · go_wp2
      go_meet
      refine ⟨g2, 8 + m2, rfl, by rw [HPr.out]; rfl, ?_, HS2.out⟩
      have := HO2.out
      rw [take_60] at this
      exact this
    · go_wp2_with fail
      refine (ptcp_any s d f t fl A m2 c (ys.take 60) _ Hl.out huc (by omega) (HR0.out.below HS2.out.bel) s0 s1 d0 d1 f0 f1 t0 t1).mono ?_
      rintro e w3 ⟨g3, m3, rfl, hm3, ho3, hb3⟩
      have HO3 := Lib.hid (ho3.mono HS2.out.bel.size)
      have HS3 := Lib.hid (HS2.out.below hb3)
      clear hm3 ho3 hb3
      go_wp2
      go_meet
      refine ⟨g3, 20 + m3, rfl, by rw [HPr.out]; rfl, ?_, HS3.out⟩
      have := HO3.out
      rw [take_60] at this
      exact this
    · go_wp2_with fail
      refine (echo_any false 8 rfl f f0 f1 A m2 c (ys.take 60) _ Hl.out huc (by omega) (HR0.out.below HS2.out.bel)).mono ?_
      rintro e w3 ⟨g3, m3, rfl, hm3, ho3, hb3⟩
      have HO3 := Lib.hid (ho3.mono HS2.out.bel.size)
      have HS3 := Lib.hid (HS2.out.below hb3)
      clear hm3 ho3 hb3
      go_wp2
      go_meet
      refine ⟨g3, 8 + m3, rfl, by rw [HPr.out]; rfl, ?_, HS3.out⟩
      have := HO3.out
      rw [lay_ec 8 f _ f0 f1, take_60] at this
      exact this
    · go_wp2_with fail
      refine (echo_any true 0 rfl f f0 f1 A m2 c (ys.take 60) _ Hl.out huc (by omega) (HR0.out.below HS2.out.bel)).mono ?_
      rintro e w3 ⟨g3, m3, rfl, hm3, ho3, hb3⟩
      have HO3 := Lib.hid (ho3.mono HS2.out.bel.size)
      have HS3 := Lib.hid (HS2.out.below hb3)
      clear hm3 ho3 hb3
      go_wp2
      go_meet
      refine ⟨g3, 8 + m3, rfl, by rw [HPr.out]; rfl, ?_, HS3.out⟩
      have := HO3.out
      rw [lay_ec 0 f _ f0 f1, take_60] at this
      exact this
  case rest =>
  obtain ⟨g9, m, rfl, rfl, ho9, hs9⟩ := hcut
  clear HO2 HS2
  have hlow := carL_low K hK4 s d f t fl (ys.take 60) (by rw [Hl.out]; omega)
  have hLb : By (ys.take 60) := HR0.out.1
  obtain ⟨U, hU⟩ : ∃ U, U = carL K s d f t fl (ys.take 60) := ⟨_, rfl⟩
  rw [← hU] at ho9 hlow
  have hUm : U.length = m := ho9.len
  have hU8 : 8 ≤ m := by omega
  have hm80 : m ≤ 80 := by omega
  have hUb : By U := ho9.byt
  have hprr := carP_range K
  rw [← hpr] at hprr
  have HP := Lib.hid (show LowP K f t fl (byP pr s d U) by rw [hpr, hU]; exact low_p K hK4 s d f t fl (ys.take 60) (by rw [Hl.out]; omega) hLb s0 d0 f0 f1 t0 t1)
  have HE := Lib.hid (show byE pr s d U = 0 by rw [hpr, hU]; exact low_ok K hK4 s d f t fl (ys.take 60) (by rw [Hl.out]; omega) hLb s0 d0 f0 f1 t0 t1)
  have HTu := Lib.hid (show ∀ (j : Nat) (y : Int), j < m → Turned (U.getD j 0) y → byE pr s d (U.set j y) ≠ 0 ∨ byE pr s d (U.set j y) = 0 ∧ (byP pr s d (U.set j y)).proto = 17 ∧ (byP pr s d (U.set j y)).bare = true from fun j y hj ht => by
    rw [hU, hpr]
    rw [hU] at ht
    exact low_turned K hK4 s d f t fl (ys.take 60) (by rw [Hl.out]; omega) hLb s0 d0 f0 f1 t0 t1 j y (by rw [← hU, hUm]; exact hj) ht)
  have HUm := Lib.hid hUm
  have HUb := Lib.hid hUb
  have HO9 := Lib.hid ho9
  have HS9 := Lib.hid hs9
  clear ho9 hs9 hlow hLb hU hUm hUb hpr
  have k1 : wc.cell? ⟨g, 1, none⟩ = some (.int .u32 s) := HS9.out.b1.cell 1
  have k2 : wc.cell? ⟨g, 2, none⟩ = some (.int .u32 d) := HS9.out.b1.cell 2
  have hTe := HT.out
  go_wp2_with fail
  try rw [hTe]
  clear hTe
  refine (put_yes 0 0 (T : Int) pr s d (some ⟨g9, 0, none⟩) m m U _ (by omega) HUm.out HO9.out.rd (by omega) (by omega) hprr.1 hprr.2 s0 s1 d0 d1).mono ?_
  rintro e w10 ⟨g10, rfl, ho10, hb10⟩
  have HO10 := Lib.hid (ho10.mono HS9.out.bel.size)
  have HS10 := Lib.hid (HS9.out.below hb10)
  have hgot := frm_got (T : Int) pr s d U [] (by rw [HUm.out]; omega) HUb.out (by omega) (by omega) hprr.1 hprr.2 s0 s1 d0 d1
  rw [List.append_nil, HUm.out] at hgot
  have HGot := Lib.hid hgot
  have hpg : pgE ⟨20, 20 + (m : Int), (T : Int), pr, s, d⟩ (frm (T : Int) pr s d U) = byE pr s d U ∧ pgP ⟨20, 20 + (m : Int), (T : Int), pr, s, d⟩ (frm (T : Int) pr s d U) = byP pr s d U := frm_pg (T : Int) pr s d U m HUm.out (T : Int) s d pr
  rw [HE.out] at hpg
  have HPG := Lib.hid hpg
  clear ho10 hb10 hgot hpg HO9 HS9 k1 k2
  go_wp2_with fail
  refine (get_any (some ⟨g10, 0, none⟩) (20 + m) (20 + m) (frm (T : Int) pr s d U) _ HO10.out.len (by omega) (by omega) HO10.out.rd).mono ?_
  rintro e w11 ⟨rfl, hb11⟩
  rw [HGot.out.1, HGot.out.2, show (Hd.mk 20 (20 + (m : Int)) (T : Int) pr s d).val = .agg #[.int .i64 20, .int .i64 (20 + (m : Int)), .int .i64 (T : Int), .int .i64 pr, .int .u32 s, .int .u32 d] from rfl]
  have HO11 := Lib.hid (HO10.out.below hb11)
  have HS11 := Lib.hid (HS10.out.below hb11)
  clear hb11 HO10 HS10
  go_upto_region 12 with fail
  have HH12 := Lib.hid (Blk.new w11 51 #[.int .i64 20, .int .i64 (20 + (m : Int)), .int .i64 (T : Int), .int .i64 pr, .int .u32 s, .int .u32 d])
  have HO12 := Lib.hid (HO11.out.alloc (.cells #[.int .i64 20, .int .i64 (20 + (m : Int)), .int .i64 (T : Int), .int .i64 pr, .int .u32 s, .int .u32 d] 51))
  have HS12 := Lib.hid (HS11.out.below (ball w11 (.cells #[.int .i64 20, .int .i64 (20 + (m : Int)), .int .i64 (T : Int), .int .i64 pr, .int .u32 s, .int .u32 d] 51)))
  have hgg10 : g10 < w11.heap.size := by
    rcases HO11.out.form with ⟨h, _⟩ | ⟨q, h, _, hq⟩
    · cases h
    · injection h with h; injection h with h; omega
  have hwg10 : w.heap.size ≤ g10 := by
    obtain ⟨q, hq, hq2⟩ := own_some HO11.out (by omega)
    injection hq with hq
    injection hq with hq
    omega
  generalize w11.alloc (.cells #[.int .i64 20, .int .i64 (20 + (m : Int)), .int .i64 (T : Int), .int .i64 pr, .int .u32 s, .int .u32 d] 51) = w12 at *
  generalize w11.heap.size = gh at *
  clear HO11 HS11
  go_wp2_with (first | ((with_reducible refine gd_ld 51 13 ?_); refine wpList_ld rfl 51 (.tmp 13) rfl _ rfl (HH12.out) sHead ?_) | fail)
  refine (pget_any 20 (20 + (m : Int)) (T : Int) pr s d (some ⟨g10, 0, none⟩) (20 + m) (20 + m) (frm (T : Int) pr s d U) _ HO12.out.len (by omega) (by omega) HO12.out.rd s0 s1 d0 d1).mono ?_
  rintro e w13 ⟨rfl, hb13⟩
  rw [HPG.out.1, HPG.out.2]
  obtain ⟨e0, e1, e2, e3, e4, e5, e6, e7, e8, e9, e10, e11, e12, e13, e14, hev⟩ := Pt.mk_val (byP pr s d U)
  rw [hev]
  have Hev := Lib.hid hev
  have HO13 := Lib.hid (HO12.out.below hb13)
  have HS13 := Lib.hid (HS12.out.below hb13)
  have HH13 := Lib.hid (HH12.out.below hb13)
  clear hev hb13 HO12 HS12 HH12
  go_upto_region 13 with fail
  have HH14 := Lib.hid (HH13.out.alloc (.cells #[.int .i64 e0, .int .u16 e1, .int .u16 e2, .int .i64 e3, .int .i64 e4, .int .i64 e5, .bool e6, .int .i64 e7, .int .i64 e8, .int .i64 e9, .int .i64 e10, .int .u32 e11, .int .u32 e12, .int .i64 e13, .bool e14] 55))
  have HP14 := Lib.hid (Blk.new w13 55 #[.int .i64 e0, .int .u16 e1, .int .u16 e2, .int .i64 e3, .int .i64 e4, .int .i64 e5, .bool e6, .int .i64 e7, .int .i64 e8, .int .i64 e9, .int .i64 e10, .int .u32 e11, .int .u32 e12, .int .i64 e13, .bool e14])
  have HO14 := Lib.hid (HO13.out.alloc (.cells #[.int .i64 e0, .int .u16 e1, .int .u16 e2, .int .i64 e3, .int .i64 e4, .int .i64 e5, .bool e6, .int .i64 e7, .int .i64 e8, .int .i64 e9, .int .i64 e10, .int .u32 e11, .int .u32 e12, .int .i64 e13, .bool e14] 55))
  have HS14 := Lib.hid (HS13.out.below (ball w13 (.cells #[.int .i64 e0, .int .u16 e1, .int .u16 e2, .int .i64 e3, .int .i64 e4, .int .i64 e5, .bool e6, .int .i64 e7, .int .i64 e8, .int .i64 e9, .int .i64 e10, .int .u32 e11, .int .u32 e12, .int .i64 e13, .bool e14] 55)))
  have hghp : gh < w13.heap.size := HH13.out.lt
  generalize w13.alloc (.cells #[.int .i64 e0, .int .u16 e1, .int .u16 e2, .int .i64 e3, .int .i64 e4, .int .i64 e5, .bool e6, .int .i64 e7, .int .i64 e8, .int .i64 e9, .int .i64 e10, .int .u32 e11, .int .u32 e12, .int .i64 e13, .bool e14] 55) = w14 at *
  generalize w13.heap.size = gp at *
  clear HO13 HS13 HH13
  have HC20 := Lib.hid (frm_cs20 (T : Int) pr s d U (by rw [HUm.out]; omega) HUb.out (by omega) (by omega) hprr.1 hprr.2 s0 s1 d0 d1)
  go_cut [162] (fun s162 wx => s162 = .bool false ∧ Own wx w.heap.size (some ⟨g10, 0, none⟩) (20 + m) (20 + m) (frm (T : Int) pr s d U) ∧ Blk wx gh 51 #[.int .i64 20, .int .i64 (20 + (m : Int)), .int .i64 (T : Int), .int .i64 pr, .int .u32 s, .int .u32 d] ∧ Blk wx gp 55 #[.int .i64 e0, .int .u16 e1, .int .u16 e2, .int .i64 e3, .int .i64 e4, .int .i64 e5, .bool e6, .int .i64 e7, .int .i64 e8, .int .i64 e9, .int .i64 e10, .int .u32 e11, .int .u32 e12, .int .i64 e13, .bool e14] ∧ Below w.heap.size w wx)
  case first =>
    have hfl := pt_fields Hev.out
    have hfl3 := pt_fl Hev.out
    have hlp := HP.out
    have he1 : e1 = f := hfl.2.1.trans hlp.sp
    have he2 : K < 2 → e2 = t := fun h => hfl.2.2.1.trans (hlp.dp h)
    have he3 : K = 1 → e3 = fl % 256 := fun h => hfl3.trans (hlp.fl h)
    have HE2 := Lib.hid he2
    have HE3 := Lib.hid he3
    clear hfl hfl3 hlp he2 he3 HP Hev
    subst he1
    refine wp_region_lit ?_
    refine wpList_step fun K9 hK9 => ?_
    go_simp
    refine (stands_any _).mono ?_
    rintro e w15 ⟨rfl, hb15⟩
    refine hK9 _ _ ?_
    clear hK9 K9
    try simp only [Act.put, List.setIfInBounds_toArray, List.set_cons_zero, List.set_cons_succ]
    have HO15 := Lib.hid (HO14.out.below hb15)
    have HS15 := Lib.hid (HS14.out.below hb15)
    have HH15 := Lib.hid (HH14.out.below hb15)
    have HP15 := Lib.hid (HP14.out.below hb15)
    clear hb15 HO14 HS14 HH14 HP14
    have a1 : w15.cell? ⟨g, 1, none⟩ = some (.int .u32 s) := HS15.out.b1.cell 1
    have a2 : w15.cell? ⟨g, 2, none⟩ = some (.int .u32 d) := HS15.out.b1.cell 2
    have a3 : w15.cell? ⟨g, 3, none⟩ = some (.int .u16 e1) := HS15.out.b1.cell 3
    have a4 : w15.cell? ⟨g, 4, none⟩ = some (.int .u16 t) := HS15.out.b1.cell 4
    have a5 : w15.cell? ⟨g, 5, none⟩ = some (.int .i64 fl) := HS15.out.b1.cell 5
    have b2 : w15.cell? ⟨gh, 2, none⟩ = some (.int .i64 (T : Int)) := HH15.out.cell 2
    have b4 : w15.cell? ⟨gh, 4, none⟩ = some (.int .u32 s) := HH15.out.cell 4
    have b5 : w15.cell? ⟨gh, 5, none⟩ = some (.int .u32 d) := HH15.out.cell 5
    have p1 : w15.cell? ⟨gp, 1, none⟩ = some (.int .u16 e1) := HP15.out.cell 1
    have p2 : w15.cell? ⟨gp, 2, none⟩ = some (.int .u16 e2) := HP15.out.cell 2
    have p3 : w15.cell? ⟨gp, 3, none⟩ = some (.int .i64 e3) := HP15.out.cell 3
    have n1 : (s != s) = false := by simp
    have n2 : (d != d) = false := by simp
    have n3 : (e1 != e1) = false := by simp
    have n4 : (t != t) = false := by simp
    have n5 : ((T : Int) != (T : Int)) = false := by simp
    have n6 : (fl % 256 != fl % 256) = false := by simp
    have n7 := and255 fl
    have hTe : IntKind.i64.wrap ((IntKind.u64.wrap ttl).tmod 256) = (T : Int) := by
      have h := HT.out
      generalize (IntKind.u64.wrap ttl).tmod 256 = z at *
      rw [IntKind.wrap_i64]
      unfold wrap64 at h
      omega
    have i20 : (20 : Int) ≤ 20 + (m : Int) := by omega
    obtain rfl | rfl | rfl | rfl : K = 0 ∨ K = 1 ∨ K = 2 ∨ K = 3 := by omega
    · as_aux_lemma =>
        have h2 := HE2.out (by omega)
        subst h2
        refine wpList_val (o := ⟨some 91, _, _, _, _, _⟩) (v := ?tv1) (by kernel_rfl) ?ty1 ?tr1
        case ty1 => (first | (go_simp; done) | (go_simp; with_reducible rfl))
        case' tr1 => try simp only [Act.put, List.setIfInBounds_toArray, List.set_cons_zero, List.set_cons_succ]
        refine wpList_val (o := ⟨some 92, _, _, _, _, _⟩) (v := ?tv2) (by kernel_rfl) ?ty2 ?tr2
        case ty2 => (first | (go_simp; done) | (go_simp; with_reducible rfl))
        case' tr2 => try simp only [Act.put, List.setIfInBounds_toArray, List.set_cons_zero, List.set_cons_succ]
        refine wpList_val (o := ⟨some 93, _, _, _, _, _⟩) (v := ?tv3) (by kernel_rfl) ?ty3 ?tr3
        case ty3 => (first | (go_simp; done) | (go_simp; with_reducible rfl))
        case' tr3 => try simp only [Act.put, List.setIfInBounds_toArray, List.set_cons_zero, List.set_cons_succ]
        refine wpList_val (o := ⟨some 94, _, _, _, _, _⟩) (v := ?tv4) (by kernel_rfl) ?ty4 ?tr4
        case ty4 => (first | (go_simp; done) | (go_simp; with_reducible rfl))
        case' tr4 => try simp only [Act.put, List.setIfInBounds_toArray, List.set_cons_zero, List.set_cons_succ]
        refine wpList_val (o := ⟨some 95, _, _, _, _, _⟩) (v := ?tv5) (by kernel_rfl) ?ty5 ?tr5
        case ty5 => (first | (go_simp; done) | (go_simp; with_reducible rfl))
        case' tr5 => try simp only [Act.put, List.setIfInBounds_toArray, List.set_cons_zero, List.set_cons_succ]
        refine wpList_val (o := ⟨some 96, _, _, _, _, _⟩) (v := ?tv6) (by kernel_rfl) ?ty6 ?tr6
        case ty6 => (first | (go_simp; done) | (go_simp; with_reducible rfl))
        case' tr6 => try simp only [Act.put, List.setIfInBounds_toArray, List.set_cons_zero, List.set_cons_succ]
        refine wpList_val (o := ⟨some 97, _, _, _, _, _⟩) (v := ?tv7) (by kernel_rfl) ?ty7 ?tr7
        case ty7 => (first | (go_simp; done) | (go_simp; with_reducible rfl))
        case' tr7 => try simp only [Act.put, List.setIfInBounds_toArray, List.set_cons_zero, List.set_cons_succ]
        refine wpList_val (o := ⟨some 98, _, _, _, _, _⟩) (v := ?tv8) (by kernel_rfl) ?ty8 ?tr8
        case ty8 => (first | (go_simp; done) | (go_simp; with_reducible rfl))
        case' tr8 => try simp only [Act.put, List.setIfInBounds_toArray, List.set_cons_zero, List.set_cons_succ]
        refine wpList_val (o := ⟨some 99, _, _, _, _, _⟩) (v := ?tv9) (by kernel_rfl) ?ty9 ?tr9
        case ty9 => (first | (go_simp; done) | (go_simp; with_reducible rfl))
        case' tr9 => try simp only [Act.put, List.setIfInBounds_toArray, List.set_cons_zero, List.set_cons_succ]
        refine wpList_val (o := ⟨some 100, _, _, _, _, _⟩) (v := ?tv10) (by kernel_rfl) ?ty10 ?tr10
        case ty10 => (first | (go_simp; done) | (go_simp; with_reducible rfl))
        case' tr10 => try simp only [Act.put, List.setIfInBounds_toArray, List.set_cons_zero, List.set_cons_succ]
        refine wpList_val (o := ⟨some 101, _, _, _, _, _⟩) (v := ?tv11) (by kernel_rfl) ?ty11 ?tr11
        case ty11 => (first | (go_simp; done) | (go_simp; with_reducible rfl))
        case' tr11 => try simp only [Act.put, List.setIfInBounds_toArray, List.set_cons_zero, List.set_cons_succ]
        refine wpList_val (o := ⟨some 102, _, _, _, _, _⟩) (v := ?tv12) (by kernel_rfl) ?ty12 ?tr12
        case ty12 => (first | (go_simp; done) | (go_simp; with_reducible rfl))
        case' tr12 => try simp only [Act.put, List.setIfInBounds_toArray, List.set_cons_zero, List.set_cons_succ]
        refine wpList_val (o := ⟨some 103, _, _, _, _, _⟩) (v := ?tv13) (by kernel_rfl) ?ty13 ?tr13
        case ty13 => (first | (go_simp; done) | (go_simp; with_reducible rfl))
        case' tr13 => try simp only [Act.put, List.setIfInBounds_toArray, List.set_cons_zero, List.set_cons_succ]
        refine wpList_val (o := ⟨some 104, _, _, _, _, _⟩) (v := ?tv14) (by kernel_rfl) ?ty14 ?tr14
        case ty14 => (first | (go_simp; done) | (go_simp; with_reducible rfl))
        case' tr14 => try simp only [Act.put, List.setIfInBounds_toArray, List.set_cons_zero, List.set_cons_succ]
        refine wpList_val (o := ⟨some 105, _, _, _, _, _⟩) (v := ?tv15) (by kernel_rfl) ?ty15 ?tr15
        case ty15 => (first | (go_simp; done) | (go_simp; with_reducible rfl))
        case' tr15 => try simp only [Act.put, List.setIfInBounds_toArray, List.set_cons_zero, List.set_cons_succ]
        refine wpList_val (o := ⟨some 106, _, _, _, _, _⟩) (v := ?tv16) (by kernel_rfl) ?ty16 ?tr16
        case ty16 => (first | (go_simp; done) | (go_simp; with_reducible rfl))
        case' tr16 => try simp only [Act.put, List.setIfInBounds_toArray, List.set_cons_zero, List.set_cons_succ]
        refine wpList_val (o := ⟨some 107, _, _, _, _, _⟩) (v := ?tv17) (by kernel_rfl) ?ty17 ?tr17
        case ty17 => (first | (go_simp; done) | (go_simp; with_reducible rfl))
        case' tr17 => try simp only [Act.put, List.setIfInBounds_toArray, List.set_cons_zero, List.set_cons_succ]
        refine wpList_val (o := ⟨some 108, _, _, _, _, _⟩) (v := ?tv18) (by kernel_rfl) ?ty18 ?tr18
        case ty18 => (first | (go_simp; done) | (go_simp; with_reducible rfl))
        case' tr18 => try simp only [Act.put, List.setIfInBounds_toArray, List.set_cons_zero, List.set_cons_succ]
        refine wpList_val (o := ⟨some 109, _, _, _, _, _⟩) (v := ?tv19) (by kernel_rfl) ?ty19 ?tr19
        case ty19 => (first | (go_simp; done) | (go_simp; with_reducible rfl))
        case' tr19 => try simp only [Act.put, List.setIfInBounds_toArray, List.set_cons_zero, List.set_cons_succ]
        refine wpList_val (o := ⟨some 110, _, _, _, _, _⟩) (v := ?tv20) (by kernel_rfl) ?ty20 ?tr20
        case ty20 => (first | (go_simp; done) | (go_simp; with_reducible rfl))
        case' tr20 => try simp only [Act.put, List.setIfInBounds_toArray, List.set_cons_zero, List.set_cons_succ]
        refine wpList_val (o := ⟨some 111, _, _, _, _, _⟩) (v := ?tv21) (by kernel_rfl) ?ty21 ?tr21
        case ty21 => (first | (go_simp; done) | (go_simp; with_reducible rfl))
        case' tr21 => try simp only [Act.put, List.setIfInBounds_toArray, List.set_cons_zero, List.set_cons_succ]
        refine wpList_val (o := ⟨some 112, _, _, _, _, _⟩) (v := ?tv22) (by kernel_rfl) ?ty22 ?tr22
        case ty22 => (first | (go_simp; done) | (go_simp; with_reducible rfl))
        case' tr22 => try simp only [Act.put, List.setIfInBounds_toArray, List.set_cons_zero, List.set_cons_succ]
        refine wpList_val (o := ⟨some 113, _, _, _, _, _⟩) (v := ?tv23) (by kernel_rfl) ?ty23 ?tr23
        case ty23 => (first | (go_simp; done) | (go_simp; with_reducible rfl))
        case' tr23 => try simp only [Act.put, List.setIfInBounds_toArray, List.set_cons_zero, List.set_cons_succ]
        refine wpList_val (o := ⟨some 114, _, _, _, _, _⟩) (v := ?tv24) (by kernel_rfl) ?ty24 ?tr24
        case ty24 => (first | (go_simp; done) | (go_simp; with_reducible rfl))
        case' tr24 => try simp only [Act.put, List.setIfInBounds_toArray, List.set_cons_zero, List.set_cons_succ]
        refine wpList_val (o := ⟨some 115, _, _, _, _, _⟩) (v := ?tv25) (by kernel_rfl) ?ty25 ?tr25
        case ty25 => (first | (go_simp; done) | (go_simp; with_reducible rfl))
        case' tr25 => try simp only [Act.put, List.setIfInBounds_toArray, List.set_cons_zero, List.set_cons_succ]
        refine wpList_val (o := ⟨some 116, _, _, _, _, _⟩) (v := ?tv26) (by kernel_rfl) ?ty26 ?tr26
        case ty26 => (first | (go_simp; done) | (go_simp; with_reducible rfl))
        case' tr26 => try simp only [Act.put, List.setIfInBounds_toArray, List.set_cons_zero, List.set_cons_succ]
        refine wpList_val (o := ⟨some 117, _, _, _, _, _⟩) (v := ?tv27) (by kernel_rfl) ?ty27 ?tr27
        case ty27 => (first | (go_simp; done) | (go_simp; with_reducible rfl))
        case' tr27 => try simp only [Act.put, List.setIfInBounds_toArray, List.set_cons_zero, List.set_cons_succ]
        refine wpList_val (o := ⟨some 118, _, _, _, _, _⟩) (v := ?tv28) (by kernel_rfl) ?ty28 ?tr28
        case ty28 => (first | (go_simp; done) | (go_simp; with_reducible rfl))
        case' tr28 => try simp only [Act.put, List.setIfInBounds_toArray, List.set_cons_zero, List.set_cons_succ]
        refine wpList_val (o := ⟨some 119, _, _, _, _, _⟩) (v := ?tv29) (by kernel_rfl) ?ty29 ?tr29
        case ty29 => (first | (go_simp; done) | (go_simp; with_reducible rfl))
        case' tr29 => try simp only [Act.put, List.setIfInBounds_toArray, List.set_cons_zero, List.set_cons_succ]
        refine wpList_val (o := ⟨some 120, _, _, _, _, _⟩) (v := ?tv30) (by kernel_rfl) ?ty30 ?tr30
        case ty30 => (first | (go_simp; done) | (go_simp; with_reducible rfl))
        case' tr30 => try simp only [Act.put, List.setIfInBounds_toArray, List.set_cons_zero, List.set_cons_succ]
        refine wpList_val (o := ⟨some 121, _, _, _, _, _⟩) (v := ?tv31) (by kernel_rfl) ?ty31 ?tr31
        case ty31 => (first | (go_simp; done) | (go_simp; with_reducible rfl))
        case' tr31 => try simp only [Act.put, List.setIfInBounds_toArray, List.set_cons_zero, List.set_cons_succ]
        refine wpList_val (o := ⟨some 122, _, _, _, _, _⟩) (v := ?tv32) (by kernel_rfl) ?ty32 ?tr32
        case ty32 => (first | (go_simp; done) | (go_simp; with_reducible rfl))
        case' tr32 => try simp only [Act.put, List.setIfInBounds_toArray, List.set_cons_zero, List.set_cons_succ]
        refine wpList_val (o := ⟨some 123, _, _, _, _, _⟩) (v := ?tv33) (by kernel_rfl) ?ty33 ?tr33
        case ty33 => (first | (go_simp; done) | (go_simp; with_reducible rfl))
        case' tr33 => try simp only [Act.put, List.setIfInBounds_toArray, List.set_cons_zero, List.set_cons_succ]
        refine wpList_val (o := ⟨some 124, _, _, _, _, _⟩) (v := ?tv34) (by kernel_rfl) ?ty34 ?tr34
        case ty34 => (first | (go_simp; done) | (go_simp; with_reducible rfl))
        case' tr34 => try simp only [Act.put, List.setIfInBounds_toArray, List.set_cons_zero, List.set_cons_succ]
        refine wpList_val (o := ⟨some 125, _, _, _, _, _⟩) (v := ?tv35) (by kernel_rfl) ?ty35 ?tr35
        case ty35 => (first | (go_simp; done) | (go_simp; with_reducible rfl))
        case' tr35 => try simp only [Act.put, List.setIfInBounds_toArray, List.set_cons_zero, List.set_cons_succ]
        refine wpList_val (o := ⟨some 126, _, _, _, _, _⟩) (v := ?tv36) (by kernel_rfl) ?ty36 ?tr36
        case ty36 => (first | (go_simp; done) | (go_simp; with_reducible rfl))
        case' tr36 => try simp only [Act.put, List.setIfInBounds_toArray, List.set_cons_zero, List.set_cons_succ]
        refine wpList_val (o := ⟨some 127, _, _, _, _, _⟩) (v := ?tv37) (by kernel_rfl) ?ty37 ?tr37
        case ty37 => (first | (go_simp; done) | (go_simp; with_reducible rfl))
        case' tr37 => try simp only [Act.put, List.setIfInBounds_toArray, List.set_cons_zero, List.set_cons_succ]
        refine wpList_val (o := ⟨some 128, _, _, _, _, _⟩) (v := ?tv38) (by kernel_rfl) ?ty38 ?tr38
        case ty38 => (first | (go_simp; done) | (go_simp; with_reducible rfl))
        case' tr38 => try simp only [Act.put, List.setIfInBounds_toArray, List.set_cons_zero, List.set_cons_succ]
        refine wpList_val (o := ⟨some 129, _, _, _, _, _⟩) (v := ?tv39) (by kernel_rfl) ?ty39 ?tr39
        case ty39 => (first | (go_simp; done) | (go_simp; with_reducible rfl))
        case' tr39 => try simp only [Act.put, List.setIfInBounds_toArray, List.set_cons_zero, List.set_cons_succ]
        refine wpList_val (o := ⟨some 130, _, _, _, _, _⟩) (v := ?tv40) (by kernel_rfl) ?ty40 ?tr40
        case ty40 => (first | (go_simp; done) | (go_simp; with_reducible rfl))
        case' tr40 => try simp only [Act.put, List.setIfInBounds_toArray, List.set_cons_zero, List.set_cons_succ]
        refine wpList_val (o := ⟨some 131, _, _, _, _, _⟩) (v := ?tv41) (by kernel_rfl) ?ty41 ?tr41
        case ty41 => (first | (go_simp; done) | (go_simp; with_reducible rfl))
        case' tr41 => try simp only [Act.put, List.setIfInBounds_toArray, List.set_cons_zero, List.set_cons_succ]
        refine wpList_val (o := ⟨some 132, _, _, _, _, _⟩) (v := ?tv42) (by kernel_rfl) ?ty42 ?tr42
        case ty42 => (first | (go_simp; done) | (go_simp; with_reducible rfl))
        case' tr42 => try simp only [Act.put, List.setIfInBounds_toArray, List.set_cons_zero, List.set_cons_succ]
        refine wpList_val (o := ⟨some 133, _, _, _, _, _⟩) (v := ?tv43) (by kernel_rfl) ?ty43 ?tr43
        case ty43 => (first | (go_simp; done) | (go_simp; with_reducible rfl))
        case' tr43 => try simp only [Act.put, List.setIfInBounds_toArray, List.set_cons_zero, List.set_cons_succ]
        refine wpList_val (o := ⟨some 134, _, _, _, _, _⟩) (v := ?tv44) (by kernel_rfl) ?ty44 ?tr44
        case ty44 => (first | (go_simp; done) | (go_simp; with_reducible rfl))
        case' tr44 => try simp only [Act.put, List.setIfInBounds_toArray, List.set_cons_zero, List.set_cons_succ]
        refine wpList_val (o := ⟨some 135, _, _, _, _, _⟩) (v := ?tv45) (by kernel_rfl) ?ty45 ?tr45
        case ty45 => (first | (go_simp; done) | (go_simp; with_reducible rfl))
        case' tr45 => try simp only [Act.put, List.setIfInBounds_toArray, List.set_cons_zero, List.set_cons_succ]
        refine wpList_val (o := ⟨some 136, _, _, _, _, _⟩) (v := ?tv46) (by kernel_rfl) ?ty46 ?tr46
        case ty46 => (first | (go_simp; done) | (go_simp; with_reducible rfl))
        case' tr46 => try simp only [Act.put, List.setIfInBounds_toArray, List.set_cons_zero, List.set_cons_succ]
        refine wpList_val (o := ⟨some 137, _, _, _, _, _⟩) (v := ?tv47) (by kernel_rfl) ?ty47 ?tr47
        case ty47 => (first | (go_simp; done) | (go_simp; with_reducible rfl))
        case' tr47 => try simp only [Act.put, List.setIfInBounds_toArray, List.set_cons_zero, List.set_cons_succ]
        refine wpList_val (o := ⟨some 138, _, _, _, _, _⟩) (v := ?tv48) (by kernel_rfl) ?ty48 ?tr48
        case ty48 => (first | (go_simp; done) | (go_simp; with_reducible rfl))
        case' tr48 => try simp only [Act.put, List.setIfInBounds_toArray, List.set_cons_zero, List.set_cons_succ]
        refine wpList_val (o := ⟨some 139, _, _, _, _, _⟩) (v := ?tv49) (by kernel_rfl) ?ty49 ?tr49
        case ty49 => (first | (go_simp; done) | (go_simp; with_reducible rfl))
        case' tr49 => try simp only [Act.put, List.setIfInBounds_toArray, List.set_cons_zero, List.set_cons_succ]
        refine wpList_val (o := ⟨some 140, _, _, _, _, _⟩) (v := ?tv50) (by kernel_rfl) ?ty50 ?tr50
        case ty50 => (first | (go_simp; done) | (go_simp; with_reducible rfl))
        case' tr50 => try simp only [Act.put, List.setIfInBounds_toArray, List.set_cons_zero, List.set_cons_succ]
        refine wpList_val (o := ⟨some 141, _, _, _, _, _⟩) (v := ?tv51) (by kernel_rfl) ?ty51 ?tr51
        case ty51 => (first | (go_simp; done) | (go_simp; with_reducible rfl))
        case' tr51 => try simp only [Act.put, List.setIfInBounds_toArray, List.set_cons_zero, List.set_cons_succ]
        refine wpList_val (o := ⟨some 142, _, _, _, _, _⟩) (v := ?tv52) (by kernel_rfl) ?ty52 ?tr52
        case ty52 => (first | (go_simp; done) | (go_simp; with_reducible rfl))
        case' tr52 => try simp only [Act.put, List.setIfInBounds_toArray, List.set_cons_zero, List.set_cons_succ]
        refine wpList_val (o := ⟨some 143, _, _, _, _, _⟩) (v := ?tv53) (by kernel_rfl) ?ty53 ?tr53
        case ty53 => (first | (go_simp; done) | (go_simp; with_reducible rfl))
        case' tr53 => try simp only [Act.put, List.setIfInBounds_toArray, List.set_cons_zero, List.set_cons_succ]
        refine wpList_val (o := ⟨some 144, _, _, _, _, _⟩) (v := ?tv54) (by kernel_rfl) ?ty54 ?tr54
        case ty54 => (first | (go_simp; done) | (go_simp; with_reducible rfl))
        case' tr54 => try simp only [Act.put, List.setIfInBounds_toArray, List.set_cons_zero, List.set_cons_succ]
        refine wpList_val (o := ⟨some 145, _, _, _, _, _⟩) (v := ?tv55) (by kernel_rfl) ?ty55 ?tr55
        case ty55 => (first | (go_simp; done) | (go_simp; with_reducible rfl))
        case' tr55 => try simp only [Act.put, List.setIfInBounds_toArray, List.set_cons_zero, List.set_cons_succ]
        refine wpList_val (o := ⟨some 146, _, _, _, _, _⟩) (v := ?tv56) (by kernel_rfl) ?ty56 ?tr56
        case ty56 => (first | (go_simp; done) | (go_simp; with_reducible rfl))
        case' tr56 => try simp only [Act.put, List.setIfInBounds_toArray, List.set_cons_zero, List.set_cons_succ]
        refine wpList_val (o := ⟨some 147, _, _, _, _, _⟩) (v := ?tv57) (by kernel_rfl) ?ty57 ?tr57
        case ty57 => (first | (go_simp; done) | (go_simp; with_reducible rfl))
        case' tr57 => try simp only [Act.put, List.setIfInBounds_toArray, List.set_cons_zero, List.set_cons_succ]
        refine wpList_val (o := ⟨some 148, _, _, _, _, _⟩) (v := ?tv58) (by kernel_rfl) ?ty58 ?tr58
        case ty58 => (first | (go_simp; done) | (go_simp; with_reducible rfl))
        case' tr58 => try simp only [Act.put, List.setIfInBounds_toArray, List.set_cons_zero, List.set_cons_succ]
        go_guarded
        refine (by assumption : ∀ (a : Act) (w : World), wpList Try.prog _ _ _ a w → _) _ _ ?_
        go_guarded
        refine (by assumption : ∀ (a : Act) (w : World), wpList Try.prog _ _ _ a w → _) _ _ ?_
        go_guarded
        refine (by assumption : ∀ (a : Act) (w : World), wpList Try.prog _ _ _ a w → _) _ _ ?_
        go_guarded
        refine (by assumption : ∀ (a : Act) (w : World), wpList Try.prog _ _ _ a w → _) _ _ ?_
        go_guarded
        refine (by assumption : ∀ (a : Act) (w : World), wpList Try.prog _ _ _ a w → _) _ _ ?_
        go_guarded
        refine (by assumption : ∀ (a : Act) (w : World), wpList Try.prog _ _ _ a w → _) _ _ ?_
        refine wpList_val (o := ⟨some 155, _, _, _, _, _⟩) (v := ?tv59) (by kernel_rfl) ?ty59 ?tr59
        case ty59 => (first | (go_simp; done) | (go_simp; with_reducible rfl))
        case' tr59 => try simp only [Act.put, List.setIfInBounds_toArray, List.set_cons_zero, List.set_cons_succ]
        refine wpList_val (o := ⟨some 156, _, _, _, _, _⟩) (v := ?tv60) (by kernel_rfl) ?ty60 ?tr60
        case ty60 => (first | (go_simp; done) | (go_simp; with_reducible rfl))
        case' tr60 => try simp only [Act.put, List.setIfInBounds_toArray, List.set_cons_zero, List.set_cons_succ]
        refine wpList_val (o := ⟨some 157, _, _, _, _, _⟩) (v := ?tv61) (by kernel_rfl) ?ty61 ?tr61
        case ty61 => (first | (go_simp; done) | (go_simp; with_reducible rfl))
        case' tr61 => try simp only [Act.put, List.setIfInBounds_toArray, List.set_cons_zero, List.set_cons_succ]
        refine wpList_val (o := ⟨some 158, _, _, _, _, _⟩) (v := ?tv62) (by kernel_rfl) ?ty62 ?tr62
        case ty62 => (first | (go_simp; done) | (go_simp; with_reducible rfl))
        case' tr62 => try simp only [Act.put, List.setIfInBounds_toArray, List.set_cons_zero, List.set_cons_succ]
        refine wpList_val (o := ⟨some 159, _, _, _, _, _⟩) (v := ?tv63) (by kernel_rfl) ?ty63 ?tr63
        case ty63 => (first | (go_simp; done) | (go_simp; with_reducible rfl))
        case' tr63 => try simp only [Act.put, List.setIfInBounds_toArray, List.set_cons_zero, List.set_cons_succ]
        go_wp2_with fail
        refine (of_n (some ⟨g10, 0, none⟩) 20 (20 + m) ((frm (T : Int) pr s d U).take 20) _ (by rw [List.length_take, HO15.out.len]; omega) (by omega) (HO15.out.rd.take 20)).mono ?_
        rintro e w16 ⟨rfl, q, rfl⟩
        rw [HC20.out]
        go_wp2
        go_meet
        exact ⟨rfl, HO15.out.drewN q, HH15.out.drewN q, HP15.out.drewN q, below_drewN HS15.out.bel q⟩
    · as_aux_lemma =>
        have h2 := HE2.out (by omega)
        have h3 := HE3.out rfl
        subst h2 h3
        refine wpList_val (o := ⟨some 91, _, _, _, _, _⟩) (v := ?tv64) (by kernel_rfl) ?ty64 ?tr64
        case ty64 => (first | (go_simp; done) | (go_simp; with_reducible rfl))
        case' tr64 => try simp only [Act.put, List.setIfInBounds_toArray, List.set_cons_zero, List.set_cons_succ]
        refine wpList_val (o := ⟨some 92, _, _, _, _, _⟩) (v := ?tv65) (by kernel_rfl) ?ty65 ?tr65
        case ty65 => (first | (go_simp; done) | (go_simp; with_reducible rfl))
        case' tr65 => try simp only [Act.put, List.setIfInBounds_toArray, List.set_cons_zero, List.set_cons_succ]
        refine wpList_val (o := ⟨some 93, _, _, _, _, _⟩) (v := ?tv66) (by kernel_rfl) ?ty66 ?tr66
        case ty66 => (first | (go_simp; done) | (go_simp; with_reducible rfl))
        case' tr66 => try simp only [Act.put, List.setIfInBounds_toArray, List.set_cons_zero, List.set_cons_succ]
        refine wpList_val (o := ⟨some 94, _, _, _, _, _⟩) (v := ?tv67) (by kernel_rfl) ?ty67 ?tr67
        case ty67 => (first | (go_simp; done) | (go_simp; with_reducible rfl))
        case' tr67 => try simp only [Act.put, List.setIfInBounds_toArray, List.set_cons_zero, List.set_cons_succ]
        refine wpList_val (o := ⟨some 95, _, _, _, _, _⟩) (v := ?tv68) (by kernel_rfl) ?ty68 ?tr68
        case ty68 => (first | (go_simp; done) | (go_simp; with_reducible rfl))
        case' tr68 => try simp only [Act.put, List.setIfInBounds_toArray, List.set_cons_zero, List.set_cons_succ]
        refine wpList_val (o := ⟨some 96, _, _, _, _, _⟩) (v := ?tv69) (by kernel_rfl) ?ty69 ?tr69
        case ty69 => (first | (go_simp; done) | (go_simp; with_reducible rfl))
        case' tr69 => try simp only [Act.put, List.setIfInBounds_toArray, List.set_cons_zero, List.set_cons_succ]
        refine wpList_val (o := ⟨some 97, _, _, _, _, _⟩) (v := ?tv70) (by kernel_rfl) ?ty70 ?tr70
        case ty70 => (first | (go_simp; done) | (go_simp; with_reducible rfl))
        case' tr70 => try simp only [Act.put, List.setIfInBounds_toArray, List.set_cons_zero, List.set_cons_succ]
        refine wpList_val (o := ⟨some 98, _, _, _, _, _⟩) (v := ?tv71) (by kernel_rfl) ?ty71 ?tr71
        case ty71 => (first | (go_simp; done) | (go_simp; with_reducible rfl))
        case' tr71 => try simp only [Act.put, List.setIfInBounds_toArray, List.set_cons_zero, List.set_cons_succ]
        refine wpList_val (o := ⟨some 99, _, _, _, _, _⟩) (v := ?tv72) (by kernel_rfl) ?ty72 ?tr72
        case ty72 => (first | (go_simp; done) | (go_simp; with_reducible rfl))
        case' tr72 => try simp only [Act.put, List.setIfInBounds_toArray, List.set_cons_zero, List.set_cons_succ]
        refine wpList_val (o := ⟨some 100, _, _, _, _, _⟩) (v := ?tv73) (by kernel_rfl) ?ty73 ?tr73
        case ty73 => (first | (go_simp; done) | (go_simp; with_reducible rfl))
        case' tr73 => try simp only [Act.put, List.setIfInBounds_toArray, List.set_cons_zero, List.set_cons_succ]
        refine wpList_val (o := ⟨some 101, _, _, _, _, _⟩) (v := ?tv74) (by kernel_rfl) ?ty74 ?tr74
        case ty74 => (first | (go_simp; done) | (go_simp; with_reducible rfl))
        case' tr74 => try simp only [Act.put, List.setIfInBounds_toArray, List.set_cons_zero, List.set_cons_succ]
        refine wpList_val (o := ⟨some 102, _, _, _, _, _⟩) (v := ?tv75) (by kernel_rfl) ?ty75 ?tr75
        case ty75 => (first | (go_simp; done) | (go_simp; with_reducible rfl))
        case' tr75 => try simp only [Act.put, List.setIfInBounds_toArray, List.set_cons_zero, List.set_cons_succ]
        refine wpList_val (o := ⟨some 103, _, _, _, _, _⟩) (v := ?tv76) (by kernel_rfl) ?ty76 ?tr76
        case ty76 => (first | (go_simp; done) | (go_simp; with_reducible rfl))
        case' tr76 => try simp only [Act.put, List.setIfInBounds_toArray, List.set_cons_zero, List.set_cons_succ]
        refine wpList_val (o := ⟨some 104, _, _, _, _, _⟩) (v := ?tv77) (by kernel_rfl) ?ty77 ?tr77
        case ty77 => (first | (go_simp; done) | (go_simp; with_reducible rfl))
        case' tr77 => try simp only [Act.put, List.setIfInBounds_toArray, List.set_cons_zero, List.set_cons_succ]
        refine wpList_val (o := ⟨some 105, _, _, _, _, _⟩) (v := ?tv78) (by kernel_rfl) ?ty78 ?tr78
        case ty78 => (first | (go_simp; done) | (go_simp; with_reducible rfl))
        case' tr78 => try simp only [Act.put, List.setIfInBounds_toArray, List.set_cons_zero, List.set_cons_succ]
        refine wpList_val (o := ⟨some 106, _, _, _, _, _⟩) (v := ?tv79) (by kernel_rfl) ?ty79 ?tr79
        case ty79 => (first | (go_simp; done) | (go_simp; with_reducible rfl))
        case' tr79 => try simp only [Act.put, List.setIfInBounds_toArray, List.set_cons_zero, List.set_cons_succ]
        refine wpList_val (o := ⟨some 107, _, _, _, _, _⟩) (v := ?tv80) (by kernel_rfl) ?ty80 ?tr80
        case ty80 => (first | (go_simp; done) | (go_simp; with_reducible rfl))
        case' tr80 => try simp only [Act.put, List.setIfInBounds_toArray, List.set_cons_zero, List.set_cons_succ]
        refine wpList_val (o := ⟨some 108, _, _, _, _, _⟩) (v := ?tv81) (by kernel_rfl) ?ty81 ?tr81
        case ty81 => (first | (go_simp; done) | (go_simp; with_reducible rfl))
        case' tr81 => try simp only [Act.put, List.setIfInBounds_toArray, List.set_cons_zero, List.set_cons_succ]
        refine wpList_val (o := ⟨some 109, _, _, _, _, _⟩) (v := ?tv82) (by kernel_rfl) ?ty82 ?tr82
        case ty82 => (first | (go_simp; done) | (go_simp; with_reducible rfl))
        case' tr82 => try simp only [Act.put, List.setIfInBounds_toArray, List.set_cons_zero, List.set_cons_succ]
        refine wpList_val (o := ⟨some 110, _, _, _, _, _⟩) (v := ?tv83) (by kernel_rfl) ?ty83 ?tr83
        case ty83 => (first | (go_simp; done) | (go_simp; with_reducible rfl))
        case' tr83 => try simp only [Act.put, List.setIfInBounds_toArray, List.set_cons_zero, List.set_cons_succ]
        refine wpList_val (o := ⟨some 111, _, _, _, _, _⟩) (v := ?tv84) (by kernel_rfl) ?ty84 ?tr84
        case ty84 => (first | (go_simp; done) | (go_simp; with_reducible rfl))
        case' tr84 => try simp only [Act.put, List.setIfInBounds_toArray, List.set_cons_zero, List.set_cons_succ]
        refine wpList_val (o := ⟨some 112, _, _, _, _, _⟩) (v := ?tv85) (by kernel_rfl) ?ty85 ?tr85
        case ty85 => (first | (go_simp; done) | (go_simp; with_reducible rfl))
        case' tr85 => try simp only [Act.put, List.setIfInBounds_toArray, List.set_cons_zero, List.set_cons_succ]
        refine wpList_val (o := ⟨some 113, _, _, _, _, _⟩) (v := ?tv86) (by kernel_rfl) ?ty86 ?tr86
        case ty86 => (first | (go_simp; done) | (go_simp; with_reducible rfl))
        case' tr86 => try simp only [Act.put, List.setIfInBounds_toArray, List.set_cons_zero, List.set_cons_succ]
        refine wpList_val (o := ⟨some 114, _, _, _, _, _⟩) (v := ?tv87) (by kernel_rfl) ?ty87 ?tr87
        case ty87 => (first | (go_simp; done) | (go_simp; with_reducible rfl))
        case' tr87 => try simp only [Act.put, List.setIfInBounds_toArray, List.set_cons_zero, List.set_cons_succ]
        refine wpList_val (o := ⟨some 115, _, _, _, _, _⟩) (v := ?tv88) (by kernel_rfl) ?ty88 ?tr88
        case ty88 => (first | (go_simp; done) | (go_simp; with_reducible rfl))
        case' tr88 => try simp only [Act.put, List.setIfInBounds_toArray, List.set_cons_zero, List.set_cons_succ]
        refine wpList_val (o := ⟨some 116, _, _, _, _, _⟩) (v := ?tv89) (by kernel_rfl) ?ty89 ?tr89
        case ty89 => (first | (go_simp; done) | (go_simp; with_reducible rfl))
        case' tr89 => try simp only [Act.put, List.setIfInBounds_toArray, List.set_cons_zero, List.set_cons_succ]
        refine wpList_val (o := ⟨some 117, _, _, _, _, _⟩) (v := ?tv90) (by kernel_rfl) ?ty90 ?tr90
        case ty90 => (first | (go_simp; done) | (go_simp; with_reducible rfl))
        case' tr90 => try simp only [Act.put, List.setIfInBounds_toArray, List.set_cons_zero, List.set_cons_succ]
        refine wpList_val (o := ⟨some 118, _, _, _, _, _⟩) (v := ?tv91) (by kernel_rfl) ?ty91 ?tr91
        case ty91 => (first | (go_simp; done) | (go_simp; with_reducible rfl))
        case' tr91 => try simp only [Act.put, List.setIfInBounds_toArray, List.set_cons_zero, List.set_cons_succ]
        refine wpList_val (o := ⟨some 119, _, _, _, _, _⟩) (v := ?tv92) (by kernel_rfl) ?ty92 ?tr92
        case ty92 => (first | (go_simp; done) | (go_simp; with_reducible rfl))
        case' tr92 => try simp only [Act.put, List.setIfInBounds_toArray, List.set_cons_zero, List.set_cons_succ]
        refine wpList_val (o := ⟨some 120, _, _, _, _, _⟩) (v := ?tv93) (by kernel_rfl) ?ty93 ?tr93
        case ty93 => (first | (go_simp; done) | (go_simp; with_reducible rfl))
        case' tr93 => try simp only [Act.put, List.setIfInBounds_toArray, List.set_cons_zero, List.set_cons_succ]
        refine wpList_val (o := ⟨some 121, _, _, _, _, _⟩) (v := ?tv94) (by kernel_rfl) ?ty94 ?tr94
        case ty94 => (first | (go_simp; done) | (go_simp; with_reducible rfl))
        case' tr94 => try simp only [Act.put, List.setIfInBounds_toArray, List.set_cons_zero, List.set_cons_succ]
        refine wpList_val (o := ⟨some 122, _, _, _, _, _⟩) (v := ?tv95) (by kernel_rfl) ?ty95 ?tr95
        case ty95 => (first | (go_simp; done) | (go_simp; with_reducible rfl))
        case' tr95 => try simp only [Act.put, List.setIfInBounds_toArray, List.set_cons_zero, List.set_cons_succ]
        refine wpList_val (o := ⟨some 123, _, _, _, _, _⟩) (v := ?tv96) (by kernel_rfl) ?ty96 ?tr96
        case ty96 => (first | (go_simp; done) | (go_simp; with_reducible rfl))
        case' tr96 => try simp only [Act.put, List.setIfInBounds_toArray, List.set_cons_zero, List.set_cons_succ]
        refine wpList_val (o := ⟨some 124, _, _, _, _, _⟩) (v := ?tv97) (by kernel_rfl) ?ty97 ?tr97
        case ty97 => (first | (go_simp; done) | (go_simp; with_reducible rfl))
        case' tr97 => try simp only [Act.put, List.setIfInBounds_toArray, List.set_cons_zero, List.set_cons_succ]
        refine wpList_val (o := ⟨some 125, _, _, _, _, _⟩) (v := ?tv98) (by kernel_rfl) ?ty98 ?tr98
        case ty98 => (first | (go_simp; done) | (go_simp; with_reducible rfl))
        case' tr98 => try simp only [Act.put, List.setIfInBounds_toArray, List.set_cons_zero, List.set_cons_succ]
        refine wpList_val (o := ⟨some 126, _, _, _, _, _⟩) (v := ?tv99) (by kernel_rfl) ?ty99 ?tr99
        case ty99 => (first | (go_simp; done) | (go_simp; with_reducible rfl))
        case' tr99 => try simp only [Act.put, List.setIfInBounds_toArray, List.set_cons_zero, List.set_cons_succ]
        refine wpList_val (o := ⟨some 127, _, _, _, _, _⟩) (v := ?tv100) (by kernel_rfl) ?ty100 ?tr100
        case ty100 => (first | (go_simp; done) | (go_simp; with_reducible rfl))
        case' tr100 => try simp only [Act.put, List.setIfInBounds_toArray, List.set_cons_zero, List.set_cons_succ]
        refine wpList_val (o := ⟨some 128, _, _, _, _, _⟩) (v := ?tv101) (by kernel_rfl) ?ty101 ?tr101
        case ty101 => (first | (go_simp; done) | (go_simp; with_reducible rfl))
        case' tr101 => try simp only [Act.put, List.setIfInBounds_toArray, List.set_cons_zero, List.set_cons_succ]
        refine wpList_val (o := ⟨some 129, _, _, _, _, _⟩) (v := ?tv102) (by kernel_rfl) ?ty102 ?tr102
        case ty102 => (first | (go_simp; done) | (go_simp; with_reducible rfl))
        case' tr102 => try simp only [Act.put, List.setIfInBounds_toArray, List.set_cons_zero, List.set_cons_succ]
        refine wpList_val (o := ⟨some 130, _, _, _, _, _⟩) (v := ?tv103) (by kernel_rfl) ?ty103 ?tr103
        case ty103 => (first | (go_simp; done) | (go_simp; with_reducible rfl))
        case' tr103 => try simp only [Act.put, List.setIfInBounds_toArray, List.set_cons_zero, List.set_cons_succ]
        refine wpList_val (o := ⟨some 131, _, _, _, _, _⟩) (v := ?tv104) (by kernel_rfl) ?ty104 ?tr104
        case ty104 => (first | (go_simp; done) | (go_simp; with_reducible rfl))
        case' tr104 => try simp only [Act.put, List.setIfInBounds_toArray, List.set_cons_zero, List.set_cons_succ]
        refine wpList_val (o := ⟨some 132, _, _, _, _, _⟩) (v := ?tv105) (by kernel_rfl) ?ty105 ?tr105
        case ty105 => (first | (go_simp; done) | (go_simp; with_reducible rfl))
        case' tr105 => try simp only [Act.put, List.setIfInBounds_toArray, List.set_cons_zero, List.set_cons_succ]
        refine wpList_val (o := ⟨some 133, _, _, _, _, _⟩) (v := ?tv106) (by kernel_rfl) ?ty106 ?tr106
        case ty106 => (first | (go_simp; done) | (go_simp; with_reducible rfl))
        case' tr106 => try simp only [Act.put, List.setIfInBounds_toArray, List.set_cons_zero, List.set_cons_succ]
        refine wpList_val (o := ⟨some 134, _, _, _, _, _⟩) (v := ?tv107) (by kernel_rfl) ?ty107 ?tr107
        case ty107 => (first | (go_simp; done) | (go_simp; with_reducible rfl))
        case' tr107 => try simp only [Act.put, List.setIfInBounds_toArray, List.set_cons_zero, List.set_cons_succ]
        refine wpList_val (o := ⟨some 135, _, _, _, _, _⟩) (v := ?tv108) (by kernel_rfl) ?ty108 ?tr108
        case ty108 => (first | (go_simp; done) | (go_simp; with_reducible rfl))
        case' tr108 => try simp only [Act.put, List.setIfInBounds_toArray, List.set_cons_zero, List.set_cons_succ]
        refine wpList_val (o := ⟨some 136, _, _, _, _, _⟩) (v := ?tv109) (by kernel_rfl) ?ty109 ?tr109
        case ty109 => (first | (go_simp; done) | (go_simp; with_reducible rfl))
        case' tr109 => try simp only [Act.put, List.setIfInBounds_toArray, List.set_cons_zero, List.set_cons_succ]
        refine wpList_val (o := ⟨some 137, _, _, _, _, _⟩) (v := ?tv110) (by kernel_rfl) ?ty110 ?tr110
        case ty110 => (first | (go_simp; done) | (go_simp; with_reducible rfl))
        case' tr110 => try simp only [Act.put, List.setIfInBounds_toArray, List.set_cons_zero, List.set_cons_succ]
        refine wpList_val (o := ⟨some 138, _, _, _, _, _⟩) (v := ?tv111) (by kernel_rfl) ?ty111 ?tr111
        case ty111 => (first | (go_simp; done) | (go_simp; with_reducible rfl))
        case' tr111 => try simp only [Act.put, List.setIfInBounds_toArray, List.set_cons_zero, List.set_cons_succ]
        refine wpList_val (o := ⟨some 139, _, _, _, _, _⟩) (v := ?tv112) (by kernel_rfl) ?ty112 ?tr112
        case ty112 => (first | (go_simp; done) | (go_simp; with_reducible rfl))
        case' tr112 => try simp only [Act.put, List.setIfInBounds_toArray, List.set_cons_zero, List.set_cons_succ]
        refine wpList_val (o := ⟨some 140, _, _, _, _, _⟩) (v := ?tv113) (by kernel_rfl) ?ty113 ?tr113
        case ty113 => (first | (go_simp; done) | (go_simp; with_reducible rfl))
        case' tr113 => try simp only [Act.put, List.setIfInBounds_toArray, List.set_cons_zero, List.set_cons_succ]
        refine wpList_val (o := ⟨some 141, _, _, _, _, _⟩) (v := ?tv114) (by kernel_rfl) ?ty114 ?tr114
        case ty114 => (first | (go_simp; done) | (go_simp; with_reducible rfl))
        case' tr114 => try simp only [Act.put, List.setIfInBounds_toArray, List.set_cons_zero, List.set_cons_succ]
        refine wpList_val (o := ⟨some 142, _, _, _, _, _⟩) (v := ?tv115) (by kernel_rfl) ?ty115 ?tr115
        case ty115 => (first | (go_simp; done) | (go_simp; with_reducible rfl))
        case' tr115 => try simp only [Act.put, List.setIfInBounds_toArray, List.set_cons_zero, List.set_cons_succ]
        refine wpList_val (o := ⟨some 143, _, _, _, _, _⟩) (v := ?tv116) (by kernel_rfl) ?ty116 ?tr116
        case ty116 => (first | (go_simp; done) | (go_simp; with_reducible rfl))
        case' tr116 => try simp only [Act.put, List.setIfInBounds_toArray, List.set_cons_zero, List.set_cons_succ]
        refine wpList_val (o := ⟨some 144, _, _, _, _, _⟩) (v := ?tv117) (by kernel_rfl) ?ty117 ?tr117
        case ty117 => (first | (go_simp; done) | (go_simp; with_reducible rfl))
        case' tr117 => try simp only [Act.put, List.setIfInBounds_toArray, List.set_cons_zero, List.set_cons_succ]
        refine wpList_val (o := ⟨some 145, _, _, _, _, _⟩) (v := ?tv118) (by kernel_rfl) ?ty118 ?tr118
        case ty118 => (first | (go_simp; done) | (go_simp; with_reducible rfl))
        case' tr118 => try simp only [Act.put, List.setIfInBounds_toArray, List.set_cons_zero, List.set_cons_succ]
        refine wpList_val (o := ⟨some 146, _, _, _, _, _⟩) (v := ?tv119) (by kernel_rfl) ?ty119 ?tr119
        case ty119 => (first | (go_simp; done) | (go_simp; with_reducible rfl))
        case' tr119 => try simp only [Act.put, List.setIfInBounds_toArray, List.set_cons_zero, List.set_cons_succ]
        refine wpList_val (o := ⟨some 147, _, _, _, _, _⟩) (v := ?tv120) (by kernel_rfl) ?ty120 ?tr120
        case ty120 => (first | (go_simp; done) | (go_simp; with_reducible rfl))
        case' tr120 => try simp only [Act.put, List.setIfInBounds_toArray, List.set_cons_zero, List.set_cons_succ]
        refine wpList_val (o := ⟨some 148, _, _, _, _, _⟩) (v := ?tv121) (by kernel_rfl) ?ty121 ?tr121
        case ty121 => (first | (go_simp; done) | (go_simp; with_reducible rfl))
        case' tr121 => try simp only [Act.put, List.setIfInBounds_toArray, List.set_cons_zero, List.set_cons_succ]
        refine wpList_val (o := ⟨some 149, _, _, _, _, _⟩) (v := ?tv122) (by kernel_rfl) ?ty122 ?tr122
        case ty122 => (first | (go_simp; done) | (go_simp; with_reducible rfl))
        case' tr122 => try simp only [Act.put, List.setIfInBounds_toArray, List.set_cons_zero, List.set_cons_succ]
        refine wpList_val (o := ⟨some 150, _, _, _, _, _⟩) (v := ?tv123) (by kernel_rfl) ?ty123 ?tr123
        case ty123 => (first | (go_simp; done) | (go_simp; with_reducible rfl))
        case' tr123 => try simp only [Act.put, List.setIfInBounds_toArray, List.set_cons_zero, List.set_cons_succ]
        refine wpList_val (o := ⟨some 151, _, _, _, _, _⟩) (v := ?tv124) (by kernel_rfl) ?ty124 ?tr124
        case ty124 => (first | (go_simp; done) | (go_simp; with_reducible rfl))
        case' tr124 => try simp only [Act.put, List.setIfInBounds_toArray, List.set_cons_zero, List.set_cons_succ]
        refine wpList_val (o := ⟨some 152, _, _, _, _, _⟩) (v := ?tv125) (by kernel_rfl) ?ty125 ?tr125
        case ty125 => (first | (go_simp; done) | (go_simp; with_reducible rfl))
        case' tr125 => try simp only [Act.put, List.setIfInBounds_toArray, List.set_cons_zero, List.set_cons_succ]
        refine wpList_val (o := ⟨some 153, _, _, _, _, _⟩) (v := ?tv126) (by kernel_rfl) ?ty126 ?tr126
        case ty126 => (first | (go_simp; done) | (go_simp; with_reducible rfl))
        case' tr126 => try simp only [Act.put, List.setIfInBounds_toArray, List.set_cons_zero, List.set_cons_succ]
        refine wpList_val (o := ⟨some 154, _, _, _, _, _⟩) (v := ?tv127) (by kernel_rfl) ?ty127 ?tr127
        case ty127 => (first | (go_simp; done) | (go_simp; with_reducible rfl))
        case' tr127 => try simp only [Act.put, List.setIfInBounds_toArray, List.set_cons_zero, List.set_cons_succ]
        refine wpList_val (o := ⟨some 155, _, _, _, _, _⟩) (v := ?tv128) (by kernel_rfl) ?ty128 ?tr128
        case ty128 => (first | (go_simp; done) | (go_simp; with_reducible rfl))
        case' tr128 => try simp only [Act.put, List.setIfInBounds_toArray, List.set_cons_zero, List.set_cons_succ]
        refine wpList_val (o := ⟨some 156, _, _, _, _, _⟩) (v := ?tv129) (by kernel_rfl) ?ty129 ?tr129
        case ty129 => (first | (go_simp; done) | (go_simp; with_reducible rfl))
        case' tr129 => try simp only [Act.put, List.setIfInBounds_toArray, List.set_cons_zero, List.set_cons_succ]
        refine wpList_val (o := ⟨some 157, _, _, _, _, _⟩) (v := ?tv130) (by kernel_rfl) ?ty130 ?tr130
        case ty130 => (first | (go_simp; done) | (go_simp; with_reducible rfl))
        case' tr130 => try simp only [Act.put, List.setIfInBounds_toArray, List.set_cons_zero, List.set_cons_succ]
        refine wpList_val (o := ⟨some 158, _, _, _, _, _⟩) (v := ?tv131) (by kernel_rfl) ?ty131 ?tr131
        case ty131 => (first | (go_simp; done) | (go_simp; with_reducible rfl))
        case' tr131 => try simp only [Act.put, List.setIfInBounds_toArray, List.set_cons_zero, List.set_cons_succ]
        refine wpList_val (o := ⟨some 159, _, _, _, _, _⟩) (v := ?tv132) (by kernel_rfl) ?ty132 ?tr132
        case ty132 => (first | (go_simp; done) | (go_simp; with_reducible rfl))
        case' tr132 => try simp only [Act.put, List.setIfInBounds_toArray, List.set_cons_zero, List.set_cons_succ]
        go_wp2_with fail
        refine (of_n (some ⟨g10, 0, none⟩) 20 (20 + m) ((frm (T : Int) pr s d U).take 20) _ (by rw [List.length_take, HO15.out.len]; omega) (by omega) (HO15.out.rd.take 20)).mono ?_
        rintro e w16 ⟨rfl, q, rfl⟩
        rw [HC20.out]
        go_wp2
        go_meet
        exact ⟨rfl, HO15.out.drewN q, HH15.out.drewN q, HP15.out.drewN q, below_drewN HS15.out.bel q⟩
    · as_aux_lemma =>
        refine wpList_val (o := ⟨some 91, _, _, _, _, _⟩) (v := ?tv133) (by kernel_rfl) ?ty133 ?tr133
        case ty133 => (first | (go_simp; done) | (go_simp; with_reducible rfl))
        case' tr133 => try simp only [Act.put, List.setIfInBounds_toArray, List.set_cons_zero, List.set_cons_succ]
        refine wpList_val (o := ⟨some 92, _, _, _, _, _⟩) (v := ?tv134) (by kernel_rfl) ?ty134 ?tr134
        case ty134 => (first | (go_simp; done) | (go_simp; with_reducible rfl))
        case' tr134 => try simp only [Act.put, List.setIfInBounds_toArray, List.set_cons_zero, List.set_cons_succ]
        refine wpList_val (o := ⟨some 93, _, _, _, _, _⟩) (v := ?tv135) (by kernel_rfl) ?ty135 ?tr135
        case ty135 => (first | (go_simp; done) | (go_simp; with_reducible rfl))
        case' tr135 => try simp only [Act.put, List.setIfInBounds_toArray, List.set_cons_zero, List.set_cons_succ]
        refine wpList_val (o := ⟨some 94, _, _, _, _, _⟩) (v := ?tv136) (by kernel_rfl) ?ty136 ?tr136
        case ty136 => (first | (go_simp; done) | (go_simp; with_reducible rfl))
        case' tr136 => try simp only [Act.put, List.setIfInBounds_toArray, List.set_cons_zero, List.set_cons_succ]
        refine wpList_val (o := ⟨some 95, _, _, _, _, _⟩) (v := ?tv137) (by kernel_rfl) ?ty137 ?tr137
        case ty137 => (first | (go_simp; done) | (go_simp; with_reducible rfl))
        case' tr137 => try simp only [Act.put, List.setIfInBounds_toArray, List.set_cons_zero, List.set_cons_succ]
        refine wpList_val (o := ⟨some 96, _, _, _, _, _⟩) (v := ?tv138) (by kernel_rfl) ?ty138 ?tr138
        case ty138 => (first | (go_simp; done) | (go_simp; with_reducible rfl))
        case' tr138 => try simp only [Act.put, List.setIfInBounds_toArray, List.set_cons_zero, List.set_cons_succ]
        refine wpList_val (o := ⟨some 97, _, _, _, _, _⟩) (v := ?tv139) (by kernel_rfl) ?ty139 ?tr139
        case ty139 => (first | (go_simp; done) | (go_simp; with_reducible rfl))
        case' tr139 => try simp only [Act.put, List.setIfInBounds_toArray, List.set_cons_zero, List.set_cons_succ]
        refine wpList_val (o := ⟨some 98, _, _, _, _, _⟩) (v := ?tv140) (by kernel_rfl) ?ty140 ?tr140
        case ty140 => (first | (go_simp; done) | (go_simp; with_reducible rfl))
        case' tr140 => try simp only [Act.put, List.setIfInBounds_toArray, List.set_cons_zero, List.set_cons_succ]
        refine wpList_val (o := ⟨some 99, _, _, _, _, _⟩) (v := ?tv141) (by kernel_rfl) ?ty141 ?tr141
        case ty141 => (first | (go_simp; done) | (go_simp; with_reducible rfl))
        case' tr141 => try simp only [Act.put, List.setIfInBounds_toArray, List.set_cons_zero, List.set_cons_succ]
        refine wpList_val (o := ⟨some 100, _, _, _, _, _⟩) (v := ?tv142) (by kernel_rfl) ?ty142 ?tr142
        case ty142 => (first | (go_simp; done) | (go_simp; with_reducible rfl))
        case' tr142 => try simp only [Act.put, List.setIfInBounds_toArray, List.set_cons_zero, List.set_cons_succ]
        refine wpList_val (o := ⟨some 101, _, _, _, _, _⟩) (v := ?tv143) (by kernel_rfl) ?ty143 ?tr143
        case ty143 => (first | (go_simp; done) | (go_simp; with_reducible rfl))
        case' tr143 => try simp only [Act.put, List.setIfInBounds_toArray, List.set_cons_zero, List.set_cons_succ]
        refine wpList_val (o := ⟨some 102, _, _, _, _, _⟩) (v := ?tv144) (by kernel_rfl) ?ty144 ?tr144
        case ty144 => (first | (go_simp; done) | (go_simp; with_reducible rfl))
        case' tr144 => try simp only [Act.put, List.setIfInBounds_toArray, List.set_cons_zero, List.set_cons_succ]
        refine wpList_val (o := ⟨some 103, _, _, _, _, _⟩) (v := ?tv145) (by kernel_rfl) ?ty145 ?tr145
        case ty145 => (first | (go_simp; done) | (go_simp; with_reducible rfl))
        case' tr145 => try simp only [Act.put, List.setIfInBounds_toArray, List.set_cons_zero, List.set_cons_succ]
        refine wpList_val (o := ⟨some 104, _, _, _, _, _⟩) (v := ?tv146) (by kernel_rfl) ?ty146 ?tr146
        case ty146 => (first | (go_simp; done) | (go_simp; with_reducible rfl))
        case' tr146 => try simp only [Act.put, List.setIfInBounds_toArray, List.set_cons_zero, List.set_cons_succ]
        refine wpList_val (o := ⟨some 105, _, _, _, _, _⟩) (v := ?tv147) (by kernel_rfl) ?ty147 ?tr147
        case ty147 => (first | (go_simp; done) | (go_simp; with_reducible rfl))
        case' tr147 => try simp only [Act.put, List.setIfInBounds_toArray, List.set_cons_zero, List.set_cons_succ]
        refine wpList_val (o := ⟨some 106, _, _, _, _, _⟩) (v := ?tv148) (by kernel_rfl) ?ty148 ?tr148
        case ty148 => (first | (go_simp; done) | (go_simp; with_reducible rfl))
        case' tr148 => try simp only [Act.put, List.setIfInBounds_toArray, List.set_cons_zero, List.set_cons_succ]
        refine wpList_val (o := ⟨some 107, _, _, _, _, _⟩) (v := ?tv149) (by kernel_rfl) ?ty149 ?tr149
        case ty149 => (first | (go_simp; done) | (go_simp; with_reducible rfl))
        case' tr149 => try simp only [Act.put, List.setIfInBounds_toArray, List.set_cons_zero, List.set_cons_succ]
        refine wpList_val (o := ⟨some 108, _, _, _, _, _⟩) (v := ?tv150) (by kernel_rfl) ?ty150 ?tr150
        case ty150 => (first | (go_simp; done) | (go_simp; with_reducible rfl))
        case' tr150 => try simp only [Act.put, List.setIfInBounds_toArray, List.set_cons_zero, List.set_cons_succ]
        refine wpList_val (o := ⟨some 109, _, _, _, _, _⟩) (v := ?tv151) (by kernel_rfl) ?ty151 ?tr151
        case ty151 => (first | (go_simp; done) | (go_simp; with_reducible rfl))
        case' tr151 => try simp only [Act.put, List.setIfInBounds_toArray, List.set_cons_zero, List.set_cons_succ]
        refine wpList_val (o := ⟨some 110, _, _, _, _, _⟩) (v := ?tv152) (by kernel_rfl) ?ty152 ?tr152
        case ty152 => (first | (go_simp; done) | (go_simp; with_reducible rfl))
        case' tr152 => try simp only [Act.put, List.setIfInBounds_toArray, List.set_cons_zero, List.set_cons_succ]
        refine wpList_val (o := ⟨some 111, _, _, _, _, _⟩) (v := ?tv153) (by kernel_rfl) ?ty153 ?tr153
        case ty153 => (first | (go_simp; done) | (go_simp; with_reducible rfl))
        case' tr153 => try simp only [Act.put, List.setIfInBounds_toArray, List.set_cons_zero, List.set_cons_succ]
        refine wpList_val (o := ⟨some 112, _, _, _, _, _⟩) (v := ?tv154) (by kernel_rfl) ?ty154 ?tr154
        case ty154 => (first | (go_simp; done) | (go_simp; with_reducible rfl))
        case' tr154 => try simp only [Act.put, List.setIfInBounds_toArray, List.set_cons_zero, List.set_cons_succ]
        refine wpList_val (o := ⟨some 113, _, _, _, _, _⟩) (v := ?tv155) (by kernel_rfl) ?ty155 ?tr155
        case ty155 => (first | (go_simp; done) | (go_simp; with_reducible rfl))
        case' tr155 => try simp only [Act.put, List.setIfInBounds_toArray, List.set_cons_zero, List.set_cons_succ]
        refine wpList_val (o := ⟨some 114, _, _, _, _, _⟩) (v := ?tv156) (by kernel_rfl) ?ty156 ?tr156
        case ty156 => (first | (go_simp; done) | (go_simp; with_reducible rfl))
        case' tr156 => try simp only [Act.put, List.setIfInBounds_toArray, List.set_cons_zero, List.set_cons_succ]
        refine wpList_val (o := ⟨some 115, _, _, _, _, _⟩) (v := ?tv157) (by kernel_rfl) ?ty157 ?tr157
        case ty157 => (first | (go_simp; done) | (go_simp; with_reducible rfl))
        case' tr157 => try simp only [Act.put, List.setIfInBounds_toArray, List.set_cons_zero, List.set_cons_succ]
        refine wpList_val (o := ⟨some 116, _, _, _, _, _⟩) (v := ?tv158) (by kernel_rfl) ?ty158 ?tr158
        case ty158 => (first | (go_simp; done) | (go_simp; with_reducible rfl))
        case' tr158 => try simp only [Act.put, List.setIfInBounds_toArray, List.set_cons_zero, List.set_cons_succ]
        refine wpList_val (o := ⟨some 117, _, _, _, _, _⟩) (v := ?tv159) (by kernel_rfl) ?ty159 ?tr159
        case ty159 => (first | (go_simp; done) | (go_simp; with_reducible rfl))
        case' tr159 => try simp only [Act.put, List.setIfInBounds_toArray, List.set_cons_zero, List.set_cons_succ]
        refine wpList_val (o := ⟨some 118, _, _, _, _, _⟩) (v := ?tv160) (by kernel_rfl) ?ty160 ?tr160
        case ty160 => (first | (go_simp; done) | (go_simp; with_reducible rfl))
        case' tr160 => try simp only [Act.put, List.setIfInBounds_toArray, List.set_cons_zero, List.set_cons_succ]
        refine wpList_val (o := ⟨some 119, _, _, _, _, _⟩) (v := ?tv161) (by kernel_rfl) ?ty161 ?tr161
        case ty161 => (first | (go_simp; done) | (go_simp; with_reducible rfl))
        case' tr161 => try simp only [Act.put, List.setIfInBounds_toArray, List.set_cons_zero, List.set_cons_succ]
        refine wpList_val (o := ⟨some 120, _, _, _, _, _⟩) (v := ?tv162) (by kernel_rfl) ?ty162 ?tr162
        case ty162 => (first | (go_simp; done) | (go_simp; with_reducible rfl))
        case' tr162 => try simp only [Act.put, List.setIfInBounds_toArray, List.set_cons_zero, List.set_cons_succ]
        refine wpList_val (o := ⟨some 121, _, _, _, _, _⟩) (v := ?tv163) (by kernel_rfl) ?ty163 ?tr163
        case ty163 => (first | (go_simp; done) | (go_simp; with_reducible rfl))
        case' tr163 => try simp only [Act.put, List.setIfInBounds_toArray, List.set_cons_zero, List.set_cons_succ]
        refine wpList_val (o := ⟨some 122, _, _, _, _, _⟩) (v := ?tv164) (by kernel_rfl) ?ty164 ?tr164
        case ty164 => (first | (go_simp; done) | (go_simp; with_reducible rfl))
        case' tr164 => try simp only [Act.put, List.setIfInBounds_toArray, List.set_cons_zero, List.set_cons_succ]
        refine wpList_val (o := ⟨some 123, _, _, _, _, _⟩) (v := ?tv165) (by kernel_rfl) ?ty165 ?tr165
        case ty165 => (first | (go_simp; done) | (go_simp; with_reducible rfl))
        case' tr165 => try simp only [Act.put, List.setIfInBounds_toArray, List.set_cons_zero, List.set_cons_succ]
        refine wpList_val (o := ⟨some 124, _, _, _, _, _⟩) (v := ?tv166) (by kernel_rfl) ?ty166 ?tr166
        case ty166 => (first | (go_simp; done) | (go_simp; with_reducible rfl))
        case' tr166 => try simp only [Act.put, List.setIfInBounds_toArray, List.set_cons_zero, List.set_cons_succ]
        refine wpList_val (o := ⟨some 125, _, _, _, _, _⟩) (v := ?tv167) (by kernel_rfl) ?ty167 ?tr167
        case ty167 => (first | (go_simp; done) | (go_simp; with_reducible rfl))
        case' tr167 => try simp only [Act.put, List.setIfInBounds_toArray, List.set_cons_zero, List.set_cons_succ]
        refine wpList_val (o := ⟨some 126, _, _, _, _, _⟩) (v := ?tv168) (by kernel_rfl) ?ty168 ?tr168
        case ty168 => (first | (go_simp; done) | (go_simp; with_reducible rfl))
        case' tr168 => try simp only [Act.put, List.setIfInBounds_toArray, List.set_cons_zero, List.set_cons_succ]
        refine wpList_val (o := ⟨some 127, _, _, _, _, _⟩) (v := ?tv169) (by kernel_rfl) ?ty169 ?tr169
        case ty169 => (first | (go_simp; done) | (go_simp; with_reducible rfl))
        case' tr169 => try simp only [Act.put, List.setIfInBounds_toArray, List.set_cons_zero, List.set_cons_succ]
        refine wpList_val (o := ⟨some 128, _, _, _, _, _⟩) (v := ?tv170) (by kernel_rfl) ?ty170 ?tr170
        case ty170 => (first | (go_simp; done) | (go_simp; with_reducible rfl))
        case' tr170 => try simp only [Act.put, List.setIfInBounds_toArray, List.set_cons_zero, List.set_cons_succ]
        refine wpList_val (o := ⟨some 129, _, _, _, _, _⟩) (v := ?tv171) (by kernel_rfl) ?ty171 ?tr171
        case ty171 => (first | (go_simp; done) | (go_simp; with_reducible rfl))
        case' tr171 => try simp only [Act.put, List.setIfInBounds_toArray, List.set_cons_zero, List.set_cons_succ]
        refine wpList_val (o := ⟨some 130, _, _, _, _, _⟩) (v := ?tv172) (by kernel_rfl) ?ty172 ?tr172
        case ty172 => (first | (go_simp; done) | (go_simp; with_reducible rfl))
        case' tr172 => try simp only [Act.put, List.setIfInBounds_toArray, List.set_cons_zero, List.set_cons_succ]
        refine wpList_val (o := ⟨some 131, _, _, _, _, _⟩) (v := ?tv173) (by kernel_rfl) ?ty173 ?tr173
        case ty173 => (first | (go_simp; done) | (go_simp; with_reducible rfl))
        case' tr173 => try simp only [Act.put, List.setIfInBounds_toArray, List.set_cons_zero, List.set_cons_succ]
        refine wpList_val (o := ⟨some 132, _, _, _, _, _⟩) (v := ?tv174) (by kernel_rfl) ?ty174 ?tr174
        case ty174 => (first | (go_simp; done) | (go_simp; with_reducible rfl))
        case' tr174 => try simp only [Act.put, List.setIfInBounds_toArray, List.set_cons_zero, List.set_cons_succ]
        refine wpList_val (o := ⟨some 133, _, _, _, _, _⟩) (v := ?tv175) (by kernel_rfl) ?ty175 ?tr175
        case ty175 => (first | (go_simp; done) | (go_simp; with_reducible rfl))
        case' tr175 => try simp only [Act.put, List.setIfInBounds_toArray, List.set_cons_zero, List.set_cons_succ]
        refine wpList_val (o := ⟨some 134, _, _, _, _, _⟩) (v := ?tv176) (by kernel_rfl) ?ty176 ?tr176
        case ty176 => (first | (go_simp; done) | (go_simp; with_reducible rfl))
        case' tr176 => try simp only [Act.put, List.setIfInBounds_toArray, List.set_cons_zero, List.set_cons_succ]
        refine wpList_val (o := ⟨some 135, _, _, _, _, _⟩) (v := ?tv177) (by kernel_rfl) ?ty177 ?tr177
        case ty177 => (first | (go_simp; done) | (go_simp; with_reducible rfl))
        case' tr177 => try simp only [Act.put, List.setIfInBounds_toArray, List.set_cons_zero, List.set_cons_succ]
        refine wpList_val (o := ⟨some 136, _, _, _, _, _⟩) (v := ?tv178) (by kernel_rfl) ?ty178 ?tr178
        case ty178 => (first | (go_simp; done) | (go_simp; with_reducible rfl))
        case' tr178 => try simp only [Act.put, List.setIfInBounds_toArray, List.set_cons_zero, List.set_cons_succ]
        refine wpList_val (o := ⟨some 137, _, _, _, _, _⟩) (v := ?tv179) (by kernel_rfl) ?ty179 ?tr179
        case ty179 => (first | (go_simp; done) | (go_simp; with_reducible rfl))
        case' tr179 => try simp only [Act.put, List.setIfInBounds_toArray, List.set_cons_zero, List.set_cons_succ]
        go_guarded
        refine (by assumption : ∀ (a : Act) (w : World), wpList Try.prog _ _ _ a w → _) _ _ ?_
        go_guarded
        refine (by assumption : ∀ (a : Act) (w : World), wpList Try.prog _ _ _ a w → _) _ _ ?_
        go_guarded
        refine (by assumption : ∀ (a : Act) (w : World), wpList Try.prog _ _ _ a w → _) _ _ ?_
        go_guarded
        refine (by assumption : ∀ (a : Act) (w : World), wpList Try.prog _ _ _ a w → _) _ _ ?_
        go_guarded
        refine (by assumption : ∀ (a : Act) (w : World), wpList Try.prog _ _ _ a w → _) _ _ ?_
        refine wpList_val (o := ⟨some 143, _, _, _, _, _⟩) (v := ?tv180) (by kernel_rfl) ?ty180 ?tr180
        case ty180 => (first | (go_simp; done) | (go_simp; with_reducible rfl))
        case' tr180 => try simp only [Act.put, List.setIfInBounds_toArray, List.set_cons_zero, List.set_cons_succ]
        refine wpList_val (o := ⟨some 144, _, _, _, _, _⟩) (v := ?tv181) (by kernel_rfl) ?ty181 ?tr181
        case ty181 => (first | (go_simp; done) | (go_simp; with_reducible rfl))
        case' tr181 => try simp only [Act.put, List.setIfInBounds_toArray, List.set_cons_zero, List.set_cons_succ]
        refine wpList_val (o := ⟨some 145, _, _, _, _, _⟩) (v := ?tv182) (by kernel_rfl) ?ty182 ?tr182
        case ty182 => (first | (go_simp; done) | (go_simp; with_reducible rfl))
        case' tr182 => try simp only [Act.put, List.setIfInBounds_toArray, List.set_cons_zero, List.set_cons_succ]
        refine wpList_val (o := ⟨some 146, _, _, _, _, _⟩) (v := ?tv183) (by kernel_rfl) ?ty183 ?tr183
        case ty183 => (first | (go_simp; done) | (go_simp; with_reducible rfl))
        case' tr183 => try simp only [Act.put, List.setIfInBounds_toArray, List.set_cons_zero, List.set_cons_succ]
        refine wpList_val (o := ⟨some 147, _, _, _, _, _⟩) (v := ?tv184) (by kernel_rfl) ?ty184 ?tr184
        case ty184 => (first | (go_simp; done) | (go_simp; with_reducible rfl))
        case' tr184 => try simp only [Act.put, List.setIfInBounds_toArray, List.set_cons_zero, List.set_cons_succ]
        refine wpList_val (o := ⟨some 148, _, _, _, _, _⟩) (v := ?tv185) (by kernel_rfl) ?ty185 ?tr185
        case ty185 => (first | (go_simp; done) | (go_simp; with_reducible rfl))
        case' tr185 => try simp only [Act.put, List.setIfInBounds_toArray, List.set_cons_zero, List.set_cons_succ]
        go_guarded
        refine (by assumption : ∀ (a : Act) (w : World), wpList Try.prog _ _ _ a w → _) _ _ ?_
        go_guarded
        refine (by assumption : ∀ (a : Act) (w : World), wpList Try.prog _ _ _ a w → _) _ _ ?_
        go_guarded
        refine (by assumption : ∀ (a : Act) (w : World), wpList Try.prog _ _ _ a w → _) _ _ ?_
        go_guarded
        refine (by assumption : ∀ (a : Act) (w : World), wpList Try.prog _ _ _ a w → _) _ _ ?_
        go_guarded
        refine (by assumption : ∀ (a : Act) (w : World), wpList Try.prog _ _ _ a w → _) _ _ ?_
        go_guarded
        refine (by assumption : ∀ (a : Act) (w : World), wpList Try.prog _ _ _ a w → _) _ _ ?_
        refine wpList_val (o := ⟨some 155, _, _, _, _, _⟩) (v := ?tv186) (by kernel_rfl) ?ty186 ?tr186
        case ty186 => (first | (go_simp; done) | (go_simp; with_reducible rfl))
        case' tr186 => try simp only [Act.put, List.setIfInBounds_toArray, List.set_cons_zero, List.set_cons_succ]
        refine wpList_val (o := ⟨some 156, _, _, _, _, _⟩) (v := ?tv187) (by kernel_rfl) ?ty187 ?tr187
        case ty187 => (first | (go_simp; done) | (go_simp; with_reducible rfl))
        case' tr187 => try simp only [Act.put, List.setIfInBounds_toArray, List.set_cons_zero, List.set_cons_succ]
        refine wpList_val (o := ⟨some 157, _, _, _, _, _⟩) (v := ?tv188) (by kernel_rfl) ?ty188 ?tr188
        case ty188 => (first | (go_simp; done) | (go_simp; with_reducible rfl))
        case' tr188 => try simp only [Act.put, List.setIfInBounds_toArray, List.set_cons_zero, List.set_cons_succ]
        refine wpList_val (o := ⟨some 158, _, _, _, _, _⟩) (v := ?tv189) (by kernel_rfl) ?ty189 ?tr189
        case ty189 => (first | (go_simp; done) | (go_simp; with_reducible rfl))
        case' tr189 => try simp only [Act.put, List.setIfInBounds_toArray, List.set_cons_zero, List.set_cons_succ]
        refine wpList_val (o := ⟨some 159, _, _, _, _, _⟩) (v := ?tv190) (by kernel_rfl) ?ty190 ?tr190
        case ty190 => (first | (go_simp; done) | (go_simp; with_reducible rfl))
        case' tr190 => try simp only [Act.put, List.setIfInBounds_toArray, List.set_cons_zero, List.set_cons_succ]
        go_wp2_with fail
        refine (of_n (some ⟨g10, 0, none⟩) 20 (20 + m) ((frm (T : Int) pr s d U).take 20) _ (by rw [List.length_take, HO15.out.len]; omega) (by omega) (HO15.out.rd.take 20)).mono ?_
        rintro e w16 ⟨rfl, q, rfl⟩
        rw [HC20.out]
        go_wp2
        go_meet
        exact ⟨rfl, HO15.out.drewN q, HH15.out.drewN q, HP15.out.drewN q, below_drewN HS15.out.bel q⟩
    · as_aux_lemma =>
        refine wpList_val (o := ⟨some 91, _, _, _, _, _⟩) (v := ?tv191) (by kernel_rfl) ?ty191 ?tr191
        case ty191 => (first | (go_simp; done) | (go_simp; with_reducible rfl))
        case' tr191 => try simp only [Act.put, List.setIfInBounds_toArray, List.set_cons_zero, List.set_cons_succ]
        refine wpList_val (o := ⟨some 92, _, _, _, _, _⟩) (v := ?tv192) (by kernel_rfl) ?ty192 ?tr192
        case ty192 => (first | (go_simp; done) | (go_simp; with_reducible rfl))
        case' tr192 => try simp only [Act.put, List.setIfInBounds_toArray, List.set_cons_zero, List.set_cons_succ]
        refine wpList_val (o := ⟨some 93, _, _, _, _, _⟩) (v := ?tv193) (by kernel_rfl) ?ty193 ?tr193
        case ty193 => (first | (go_simp; done) | (go_simp; with_reducible rfl))
        case' tr193 => try simp only [Act.put, List.setIfInBounds_toArray, List.set_cons_zero, List.set_cons_succ]
        refine wpList_val (o := ⟨some 94, _, _, _, _, _⟩) (v := ?tv194) (by kernel_rfl) ?ty194 ?tr194
        case ty194 => (first | (go_simp; done) | (go_simp; with_reducible rfl))
        case' tr194 => try simp only [Act.put, List.setIfInBounds_toArray, List.set_cons_zero, List.set_cons_succ]
        refine wpList_val (o := ⟨some 95, _, _, _, _, _⟩) (v := ?tv195) (by kernel_rfl) ?ty195 ?tr195
        case ty195 => (first | (go_simp; done) | (go_simp; with_reducible rfl))
        case' tr195 => try simp only [Act.put, List.setIfInBounds_toArray, List.set_cons_zero, List.set_cons_succ]
        refine wpList_val (o := ⟨some 96, _, _, _, _, _⟩) (v := ?tv196) (by kernel_rfl) ?ty196 ?tr196
        case ty196 => (first | (go_simp; done) | (go_simp; with_reducible rfl))
        case' tr196 => try simp only [Act.put, List.setIfInBounds_toArray, List.set_cons_zero, List.set_cons_succ]
        refine wpList_val (o := ⟨some 97, _, _, _, _, _⟩) (v := ?tv197) (by kernel_rfl) ?ty197 ?tr197
        case ty197 => (first | (go_simp; done) | (go_simp; with_reducible rfl))
        case' tr197 => try simp only [Act.put, List.setIfInBounds_toArray, List.set_cons_zero, List.set_cons_succ]
        refine wpList_val (o := ⟨some 98, _, _, _, _, _⟩) (v := ?tv198) (by kernel_rfl) ?ty198 ?tr198
        case ty198 => (first | (go_simp; done) | (go_simp; with_reducible rfl))
        case' tr198 => try simp only [Act.put, List.setIfInBounds_toArray, List.set_cons_zero, List.set_cons_succ]
        refine wpList_val (o := ⟨some 99, _, _, _, _, _⟩) (v := ?tv199) (by kernel_rfl) ?ty199 ?tr199
        case ty199 => (first | (go_simp; done) | (go_simp; with_reducible rfl))
        case' tr199 => try simp only [Act.put, List.setIfInBounds_toArray, List.set_cons_zero, List.set_cons_succ]
        refine wpList_val (o := ⟨some 100, _, _, _, _, _⟩) (v := ?tv200) (by kernel_rfl) ?ty200 ?tr200
        case ty200 => (first | (go_simp; done) | (go_simp; with_reducible rfl))
        case' tr200 => try simp only [Act.put, List.setIfInBounds_toArray, List.set_cons_zero, List.set_cons_succ]
        refine wpList_val (o := ⟨some 101, _, _, _, _, _⟩) (v := ?tv201) (by kernel_rfl) ?ty201 ?tr201
        case ty201 => (first | (go_simp; done) | (go_simp; with_reducible rfl))
        case' tr201 => try simp only [Act.put, List.setIfInBounds_toArray, List.set_cons_zero, List.set_cons_succ]
        refine wpList_val (o := ⟨some 102, _, _, _, _, _⟩) (v := ?tv202) (by kernel_rfl) ?ty202 ?tr202
        case ty202 => (first | (go_simp; done) | (go_simp; with_reducible rfl))
        case' tr202 => try simp only [Act.put, List.setIfInBounds_toArray, List.set_cons_zero, List.set_cons_succ]
        refine wpList_val (o := ⟨some 103, _, _, _, _, _⟩) (v := ?tv203) (by kernel_rfl) ?ty203 ?tr203
        case ty203 => (first | (go_simp; done) | (go_simp; with_reducible rfl))
        case' tr203 => try simp only [Act.put, List.setIfInBounds_toArray, List.set_cons_zero, List.set_cons_succ]
        refine wpList_val (o := ⟨some 104, _, _, _, _, _⟩) (v := ?tv204) (by kernel_rfl) ?ty204 ?tr204
        case ty204 => (first | (go_simp; done) | (go_simp; with_reducible rfl))
        case' tr204 => try simp only [Act.put, List.setIfInBounds_toArray, List.set_cons_zero, List.set_cons_succ]
        refine wpList_val (o := ⟨some 105, _, _, _, _, _⟩) (v := ?tv205) (by kernel_rfl) ?ty205 ?tr205
        case ty205 => (first | (go_simp; done) | (go_simp; with_reducible rfl))
        case' tr205 => try simp only [Act.put, List.setIfInBounds_toArray, List.set_cons_zero, List.set_cons_succ]
        refine wpList_val (o := ⟨some 106, _, _, _, _, _⟩) (v := ?tv206) (by kernel_rfl) ?ty206 ?tr206
        case ty206 => (first | (go_simp; done) | (go_simp; with_reducible rfl))
        case' tr206 => try simp only [Act.put, List.setIfInBounds_toArray, List.set_cons_zero, List.set_cons_succ]
        refine wpList_val (o := ⟨some 107, _, _, _, _, _⟩) (v := ?tv207) (by kernel_rfl) ?ty207 ?tr207
        case ty207 => (first | (go_simp; done) | (go_simp; with_reducible rfl))
        case' tr207 => try simp only [Act.put, List.setIfInBounds_toArray, List.set_cons_zero, List.set_cons_succ]
        refine wpList_val (o := ⟨some 108, _, _, _, _, _⟩) (v := ?tv208) (by kernel_rfl) ?ty208 ?tr208
        case ty208 => (first | (go_simp; done) | (go_simp; with_reducible rfl))
        case' tr208 => try simp only [Act.put, List.setIfInBounds_toArray, List.set_cons_zero, List.set_cons_succ]
        refine wpList_val (o := ⟨some 109, _, _, _, _, _⟩) (v := ?tv209) (by kernel_rfl) ?ty209 ?tr209
        case ty209 => (first | (go_simp; done) | (go_simp; with_reducible rfl))
        case' tr209 => try simp only [Act.put, List.setIfInBounds_toArray, List.set_cons_zero, List.set_cons_succ]
        refine wpList_val (o := ⟨some 110, _, _, _, _, _⟩) (v := ?tv210) (by kernel_rfl) ?ty210 ?tr210
        case ty210 => (first | (go_simp; done) | (go_simp; with_reducible rfl))
        case' tr210 => try simp only [Act.put, List.setIfInBounds_toArray, List.set_cons_zero, List.set_cons_succ]
        refine wpList_val (o := ⟨some 111, _, _, _, _, _⟩) (v := ?tv211) (by kernel_rfl) ?ty211 ?tr211
        case ty211 => (first | (go_simp; done) | (go_simp; with_reducible rfl))
        case' tr211 => try simp only [Act.put, List.setIfInBounds_toArray, List.set_cons_zero, List.set_cons_succ]
        refine wpList_val (o := ⟨some 112, _, _, _, _, _⟩) (v := ?tv212) (by kernel_rfl) ?ty212 ?tr212
        case ty212 => (first | (go_simp; done) | (go_simp; with_reducible rfl))
        case' tr212 => try simp only [Act.put, List.setIfInBounds_toArray, List.set_cons_zero, List.set_cons_succ]
        refine wpList_val (o := ⟨some 113, _, _, _, _, _⟩) (v := ?tv213) (by kernel_rfl) ?ty213 ?tr213
        case ty213 => (first | (go_simp; done) | (go_simp; with_reducible rfl))
        case' tr213 => try simp only [Act.put, List.setIfInBounds_toArray, List.set_cons_zero, List.set_cons_succ]
        refine wpList_val (o := ⟨some 114, _, _, _, _, _⟩) (v := ?tv214) (by kernel_rfl) ?ty214 ?tr214
        case ty214 => (first | (go_simp; done) | (go_simp; with_reducible rfl))
        case' tr214 => try simp only [Act.put, List.setIfInBounds_toArray, List.set_cons_zero, List.set_cons_succ]
        refine wpList_val (o := ⟨some 115, _, _, _, _, _⟩) (v := ?tv215) (by kernel_rfl) ?ty215 ?tr215
        case ty215 => (first | (go_simp; done) | (go_simp; with_reducible rfl))
        case' tr215 => try simp only [Act.put, List.setIfInBounds_toArray, List.set_cons_zero, List.set_cons_succ]
        refine wpList_val (o := ⟨some 116, _, _, _, _, _⟩) (v := ?tv216) (by kernel_rfl) ?ty216 ?tr216
        case ty216 => (first | (go_simp; done) | (go_simp; with_reducible rfl))
        case' tr216 => try simp only [Act.put, List.setIfInBounds_toArray, List.set_cons_zero, List.set_cons_succ]
        refine wpList_val (o := ⟨some 117, _, _, _, _, _⟩) (v := ?tv217) (by kernel_rfl) ?ty217 ?tr217
        case ty217 => (first | (go_simp; done) | (go_simp; with_reducible rfl))
        case' tr217 => try simp only [Act.put, List.setIfInBounds_toArray, List.set_cons_zero, List.set_cons_succ]
        refine wpList_val (o := ⟨some 118, _, _, _, _, _⟩) (v := ?tv218) (by kernel_rfl) ?ty218 ?tr218
        case ty218 => (first | (go_simp; done) | (go_simp; with_reducible rfl))
        case' tr218 => try simp only [Act.put, List.setIfInBounds_toArray, List.set_cons_zero, List.set_cons_succ]
        refine wpList_val (o := ⟨some 119, _, _, _, _, _⟩) (v := ?tv219) (by kernel_rfl) ?ty219 ?tr219
        case ty219 => (first | (go_simp; done) | (go_simp; with_reducible rfl))
        case' tr219 => try simp only [Act.put, List.setIfInBounds_toArray, List.set_cons_zero, List.set_cons_succ]
        refine wpList_val (o := ⟨some 120, _, _, _, _, _⟩) (v := ?tv220) (by kernel_rfl) ?ty220 ?tr220
        case ty220 => (first | (go_simp; done) | (go_simp; with_reducible rfl))
        case' tr220 => try simp only [Act.put, List.setIfInBounds_toArray, List.set_cons_zero, List.set_cons_succ]
        refine wpList_val (o := ⟨some 121, _, _, _, _, _⟩) (v := ?tv221) (by kernel_rfl) ?ty221 ?tr221
        case ty221 => (first | (go_simp; done) | (go_simp; with_reducible rfl))
        case' tr221 => try simp only [Act.put, List.setIfInBounds_toArray, List.set_cons_zero, List.set_cons_succ]
        refine wpList_val (o := ⟨some 122, _, _, _, _, _⟩) (v := ?tv222) (by kernel_rfl) ?ty222 ?tr222
        case ty222 => (first | (go_simp; done) | (go_simp; with_reducible rfl))
        case' tr222 => try simp only [Act.put, List.setIfInBounds_toArray, List.set_cons_zero, List.set_cons_succ]
        refine wpList_val (o := ⟨some 123, _, _, _, _, _⟩) (v := ?tv223) (by kernel_rfl) ?ty223 ?tr223
        case ty223 => (first | (go_simp; done) | (go_simp; with_reducible rfl))
        case' tr223 => try simp only [Act.put, List.setIfInBounds_toArray, List.set_cons_zero, List.set_cons_succ]
        refine wpList_val (o := ⟨some 124, _, _, _, _, _⟩) (v := ?tv224) (by kernel_rfl) ?ty224 ?tr224
        case ty224 => (first | (go_simp; done) | (go_simp; with_reducible rfl))
        case' tr224 => try simp only [Act.put, List.setIfInBounds_toArray, List.set_cons_zero, List.set_cons_succ]
        refine wpList_val (o := ⟨some 125, _, _, _, _, _⟩) (v := ?tv225) (by kernel_rfl) ?ty225 ?tr225
        case ty225 => (first | (go_simp; done) | (go_simp; with_reducible rfl))
        case' tr225 => try simp only [Act.put, List.setIfInBounds_toArray, List.set_cons_zero, List.set_cons_succ]
        refine wpList_val (o := ⟨some 126, _, _, _, _, _⟩) (v := ?tv226) (by kernel_rfl) ?ty226 ?tr226
        case ty226 => (first | (go_simp; done) | (go_simp; with_reducible rfl))
        case' tr226 => try simp only [Act.put, List.setIfInBounds_toArray, List.set_cons_zero, List.set_cons_succ]
        refine wpList_val (o := ⟨some 127, _, _, _, _, _⟩) (v := ?tv227) (by kernel_rfl) ?ty227 ?tr227
        case ty227 => (first | (go_simp; done) | (go_simp; with_reducible rfl))
        case' tr227 => try simp only [Act.put, List.setIfInBounds_toArray, List.set_cons_zero, List.set_cons_succ]
        refine wpList_val (o := ⟨some 128, _, _, _, _, _⟩) (v := ?tv228) (by kernel_rfl) ?ty228 ?tr228
        case ty228 => (first | (go_simp; done) | (go_simp; with_reducible rfl))
        case' tr228 => try simp only [Act.put, List.setIfInBounds_toArray, List.set_cons_zero, List.set_cons_succ]
        refine wpList_val (o := ⟨some 129, _, _, _, _, _⟩) (v := ?tv229) (by kernel_rfl) ?ty229 ?tr229
        case ty229 => (first | (go_simp; done) | (go_simp; with_reducible rfl))
        case' tr229 => try simp only [Act.put, List.setIfInBounds_toArray, List.set_cons_zero, List.set_cons_succ]
        refine wpList_val (o := ⟨some 130, _, _, _, _, _⟩) (v := ?tv230) (by kernel_rfl) ?ty230 ?tr230
        case ty230 => (first | (go_simp; done) | (go_simp; with_reducible rfl))
        case' tr230 => try simp only [Act.put, List.setIfInBounds_toArray, List.set_cons_zero, List.set_cons_succ]
        refine wpList_val (o := ⟨some 131, _, _, _, _, _⟩) (v := ?tv231) (by kernel_rfl) ?ty231 ?tr231
        case ty231 => (first | (go_simp; done) | (go_simp; with_reducible rfl))
        case' tr231 => try simp only [Act.put, List.setIfInBounds_toArray, List.set_cons_zero, List.set_cons_succ]
        refine wpList_val (o := ⟨some 132, _, _, _, _, _⟩) (v := ?tv232) (by kernel_rfl) ?ty232 ?tr232
        case ty232 => (first | (go_simp; done) | (go_simp; with_reducible rfl))
        case' tr232 => try simp only [Act.put, List.setIfInBounds_toArray, List.set_cons_zero, List.set_cons_succ]
        refine wpList_val (o := ⟨some 133, _, _, _, _, _⟩) (v := ?tv233) (by kernel_rfl) ?ty233 ?tr233
        case ty233 => (first | (go_simp; done) | (go_simp; with_reducible rfl))
        case' tr233 => try simp only [Act.put, List.setIfInBounds_toArray, List.set_cons_zero, List.set_cons_succ]
        refine wpList_val (o := ⟨some 134, _, _, _, _, _⟩) (v := ?tv234) (by kernel_rfl) ?ty234 ?tr234
        case ty234 => (first | (go_simp; done) | (go_simp; with_reducible rfl))
        case' tr234 => try simp only [Act.put, List.setIfInBounds_toArray, List.set_cons_zero, List.set_cons_succ]
        refine wpList_val (o := ⟨some 135, _, _, _, _, _⟩) (v := ?tv235) (by kernel_rfl) ?ty235 ?tr235
        case ty235 => (first | (go_simp; done) | (go_simp; with_reducible rfl))
        case' tr235 => try simp only [Act.put, List.setIfInBounds_toArray, List.set_cons_zero, List.set_cons_succ]
        refine wpList_val (o := ⟨some 136, _, _, _, _, _⟩) (v := ?tv236) (by kernel_rfl) ?ty236 ?tr236
        case ty236 => (first | (go_simp; done) | (go_simp; with_reducible rfl))
        case' tr236 => try simp only [Act.put, List.setIfInBounds_toArray, List.set_cons_zero, List.set_cons_succ]
        refine wpList_val (o := ⟨some 137, _, _, _, _, _⟩) (v := ?tv237) (by kernel_rfl) ?ty237 ?tr237
        case ty237 => (first | (go_simp; done) | (go_simp; with_reducible rfl))
        case' tr237 => try simp only [Act.put, List.setIfInBounds_toArray, List.set_cons_zero, List.set_cons_succ]
        go_guarded
        refine (by assumption : ∀ (a : Act) (w : World), wpList Try.prog _ _ _ a w → _) _ _ ?_
        go_guarded
        refine (by assumption : ∀ (a : Act) (w : World), wpList Try.prog _ _ _ a w → _) _ _ ?_
        go_guarded
        refine (by assumption : ∀ (a : Act) (w : World), wpList Try.prog _ _ _ a w → _) _ _ ?_
        go_guarded
        refine (by assumption : ∀ (a : Act) (w : World), wpList Try.prog _ _ _ a w → _) _ _ ?_
        go_guarded
        refine (by assumption : ∀ (a : Act) (w : World), wpList Try.prog _ _ _ a w → _) _ _ ?_
        refine wpList_val (o := ⟨some 143, _, _, _, _, _⟩) (v := ?tv238) (by kernel_rfl) ?ty238 ?tr238
        case ty238 => (first | (go_simp; done) | (go_simp; with_reducible rfl))
        case' tr238 => try simp only [Act.put, List.setIfInBounds_toArray, List.set_cons_zero, List.set_cons_succ]
        refine wpList_val (o := ⟨some 144, _, _, _, _, _⟩) (v := ?tv239) (by kernel_rfl) ?ty239 ?tr239
        case ty239 => (first | (go_simp; done) | (go_simp; with_reducible rfl))
        case' tr239 => try simp only [Act.put, List.setIfInBounds_toArray, List.set_cons_zero, List.set_cons_succ]
        refine wpList_val (o := ⟨some 145, _, _, _, _, _⟩) (v := ?tv240) (by kernel_rfl) ?ty240 ?tr240
        case ty240 => (first | (go_simp; done) | (go_simp; with_reducible rfl))
        case' tr240 => try simp only [Act.put, List.setIfInBounds_toArray, List.set_cons_zero, List.set_cons_succ]
        refine wpList_val (o := ⟨some 146, _, _, _, _, _⟩) (v := ?tv241) (by kernel_rfl) ?ty241 ?tr241
        case ty241 => (first | (go_simp; done) | (go_simp; with_reducible rfl))
        case' tr241 => try simp only [Act.put, List.setIfInBounds_toArray, List.set_cons_zero, List.set_cons_succ]
        refine wpList_val (o := ⟨some 147, _, _, _, _, _⟩) (v := ?tv242) (by kernel_rfl) ?ty242 ?tr242
        case ty242 => (first | (go_simp; done) | (go_simp; with_reducible rfl))
        case' tr242 => try simp only [Act.put, List.setIfInBounds_toArray, List.set_cons_zero, List.set_cons_succ]
        refine wpList_val (o := ⟨some 148, _, _, _, _, _⟩) (v := ?tv243) (by kernel_rfl) ?ty243 ?tr243
        case ty243 => (first | (go_simp; done) | (go_simp; with_reducible rfl))
        case' tr243 => try simp only [Act.put, List.setIfInBounds_toArray, List.set_cons_zero, List.set_cons_succ]
        go_guarded
        refine (by assumption : ∀ (a : Act) (w : World), wpList Try.prog _ _ _ a w → _) _ _ ?_
        go_guarded
        refine (by assumption : ∀ (a : Act) (w : World), wpList Try.prog _ _ _ a w → _) _ _ ?_
        go_guarded
        refine (by assumption : ∀ (a : Act) (w : World), wpList Try.prog _ _ _ a w → _) _ _ ?_
        go_guarded
        refine (by assumption : ∀ (a : Act) (w : World), wpList Try.prog _ _ _ a w → _) _ _ ?_
        go_guarded
        refine (by assumption : ∀ (a : Act) (w : World), wpList Try.prog _ _ _ a w → _) _ _ ?_
        go_guarded
        refine (by assumption : ∀ (a : Act) (w : World), wpList Try.prog _ _ _ a w → _) _ _ ?_
        refine wpList_val (o := ⟨some 155, _, _, _, _, _⟩) (v := ?tv244) (by kernel_rfl) ?ty244 ?tr244
        case ty244 => (first | (go_simp; done) | (go_simp; with_reducible rfl))
        case' tr244 => try simp only [Act.put, List.setIfInBounds_toArray, List.set_cons_zero, List.set_cons_succ]
        refine wpList_val (o := ⟨some 156, _, _, _, _, _⟩) (v := ?tv245) (by kernel_rfl) ?ty245 ?tr245
        case ty245 => (first | (go_simp; done) | (go_simp; with_reducible rfl))
        case' tr245 => try simp only [Act.put, List.setIfInBounds_toArray, List.set_cons_zero, List.set_cons_succ]
        refine wpList_val (o := ⟨some 157, _, _, _, _, _⟩) (v := ?tv246) (by kernel_rfl) ?ty246 ?tr246
        case ty246 => (first | (go_simp; done) | (go_simp; with_reducible rfl))
        case' tr246 => try simp only [Act.put, List.setIfInBounds_toArray, List.set_cons_zero, List.set_cons_succ]
        refine wpList_val (o := ⟨some 158, _, _, _, _, _⟩) (v := ?tv247) (by kernel_rfl) ?ty247 ?tr247
        case ty247 => (first | (go_simp; done) | (go_simp; with_reducible rfl))
        case' tr247 => try simp only [Act.put, List.setIfInBounds_toArray, List.set_cons_zero, List.set_cons_succ]
        refine wpList_val (o := ⟨some 159, _, _, _, _, _⟩) (v := ?tv248) (by kernel_rfl) ?ty248 ?tr248
        case ty248 => (first | (go_simp; done) | (go_simp; with_reducible rfl))
        case' tr248 => try simp only [Act.put, List.setIfInBounds_toArray, List.set_cons_zero, List.set_cons_succ]
        go_wp2_with fail
        refine (of_n (some ⟨g10, 0, none⟩) 20 (20 + m) ((frm (T : Int) pr s d U).take 20) _ (by rw [List.length_take, HO15.out.len]; omega) (by omega) (HO15.out.rd.take 20)).mono ?_
        rintro e w16 ⟨rfl, q, rfl⟩
        rw [HC20.out]
        go_wp2
        go_meet
        exact ⟨rfl, HO15.out.drewN q, HH15.out.drewN q, HP15.out.drewN q, below_drewN HS15.out.bel q⟩
  case rest =>
  obtain ⟨rfl, hoA, hhA, hpA, hbA⟩ := hcut
  have HOA := Lib.hid hoA
  have HHA := Lib.hid hhA
  have HPA := Lib.hid hpA
  have HBA := Lib.hid hbA
  clear hoA hhA hpA hbA HO14 HS14 HH14 HP14
  obtain ⟨J0, hJ, hJl⟩ := pickN bit (8 * (20 + (m : Int)) - 8) (by omega) (by omega)
  have hnz : ¬ (8 * (20 + (m : Int)) - 8 = 0) := by omega
  go_upto_region 16 with fail
  clear hJ hnz
  obtain ⟨J, hJJ⟩ : ∃ J : Nat, (J : Int) = 8 + (J0 : Int) := ⟨8 + J0, by omega⟩
  rw [← hJJ]
  have hJ8 : 8 ≤ J ∧ J < 8 * (20 + m) := by omega
  clear hJJ hJl
  have hc := HOA.out.at (k := J / 8) (by omega)
  have hf := HOA.out.free (J / 8)
  have bx := HOA.out.byt.getD (J / 8)
  obtain ⟨x, hx⟩ : ∃ x, x = (frm (T : Int) pr s d U).getD (J / 8) 0 := ⟨_, rfl⟩
  rw [← hx] at hc bx
  have Hx := Lib.hid hx
  clear hx
  have i0 : (J : Int) / 8 < 20 + (m : Int) := by omega
  have i1 : 0 ≤ (J : Int) / 8 := by omega
  have i2 : ((J : Int) / 8).toNat = J / 8 := by omega
  have i3 : 0 ≤ (J : Int) % 8 := by omega
  go_region
  have ht := turned_bits x J bx.1 bx.2
  obtain ⟨y, hy⟩ : ∃ y, y = bits .xor .u8 x (2 ^ (J % 8) % 256) := ⟨_, rfl⟩
  rw [← hy] at ht
  rw [← hy]
  clear hy hc hf i2
  obtain ⟨w16, hw16⟩ : ∃ w6, w6 = (wc.setCell ⟨g10, J / 8, none⟩ (.int .u8 y)).drew := ⟨_, rfl⟩
  rw [← hw16]
  obtain ⟨Z, hZ⟩ : ∃ Z, Z = (frm (T : Int) pr s d U).set (J / 8) y := ⟨_, rfl⟩
  have HO16 := Lib.hid (show Own w16 w.heap.size (some ⟨g10, 0, none⟩) (20 + m) (20 + m) Z by rw [hw16, hZ]; exact (HOA.out.set (J / 8) y ht.1 ht.2.1).drewN 1)
  have HB16 := Lib.hid (show Below w.heap.size w w16 by rw [hw16]; exact (HBA.out.setCell (p := ⟨g10, J / 8, none⟩) hwg10 _).drew)
  have hne1 : g10 ≠ gh := by omega
  have hne2 : g10 ≠ gp := by omega
  have hne3 : gh ≠ gp := by omega
  have HH16 := Lib.hid (show Blk w16 gh 51 #[.int .i64 20, .int .i64 (20 + (m : Int)), .int .i64 (T : Int), .int .i64 pr, .int .u32 s, .int .u32 d] by rw [hw16]; exact (HHA.out.ne (p := ⟨g10, J / 8, none⟩) hne1 _).drew)
  have HP16 := Lib.hid (show Blk w16 gp 55 #[.int .i64 e0, .int .u16 e1, .int .u16 e2, .int .i64 e3, .int .i64 e4, .int .i64 e5, .bool e6, .int .i64 e7, .int .i64 e8, .int .i64 e9, .int .i64 e10, .int .u32 e11, .int .u32 e12, .int .i64 e13, .bool e14] by rw [hw16]; exact (HPA.out.ne (p := ⟨g10, J / 8, none⟩) hne2 _).drew)
  clear HOA HBA HHA HPA hw16
  obtain ⟨h0, h1, h2, h3, h4, h5, hh⟩ : ∃ a0 a1 a2 a3 a4 a5, gtH Z = ⟨a0, a1, a2, a3, a4, a5⟩ := by
    generalize gtH Z = q
    obtain ⟨a0, a1, a2, a3, a4, a5⟩ := q
    exact ⟨a0, a1, a2, a3, a4, a5, rfl⟩
  have Hh := Lib.hid hh
  have HZ := Lib.hid hZ
  have Ht := Lib.hid ht
  clear hh hZ ht
  go_wp2_with fail
  refine (get_any (some ⟨g10, 0, none⟩) (20 + m) (20 + m) Z _ HO16.out.len (by omega) (by omega) HO16.out.rd).mono ?_
  rintro e w17 ⟨rfl, hb17⟩
  rw [Hh.out, show (Hd.mk h0 h1 h2 h3 h4 h5).val = .agg #[.int .i64 h0, .int .i64 h1, .int .i64 h2, .int .i64 h3, .int .u32 h4, .int .u32 h5] from rfl]
  have HO17 := Lib.hid (HO16.out.below hb17)
  have HB17 := Lib.hid (bthen HB16.out hb17)
  have HH17 := Lib.hid (HH16.out.below hb17)
  have HP17 := Lib.hid (HP16.out.below hb17)
  clear hb17 HO16 HB16 HH16 HP16
  have hgw : w.heap.size ≤ gh := by omega
  go_upto_region 18 with (first | ((with_reducible refine gd_st 51 13 ?_); refine wpList_st rfl 51 (.tmp 13) _ rfl _ _ rfl _ rfl (HH17.out) sHead.2 (#[.int .i64 h0, .int .i64 h1, .int .i64 h2, .int .i64 h3, .int .u32 h4, .int .u32 h5]) rfl (Nat.le_of_ble_eq_true rfl) rfl ?_; intro w18 hX18 hg18 hs18))
  have HX18 := Lib.hid hX18
  have HR18 := Lib.hid (HO17.out.rd.grown hg18 (fun b off hb0 he => by injection he with he; injection he with he1 he2; omega))
  have HL18 := Lib.hid HO17.out.len
  have HP18 := Lib.hid (HP17.out.grown hg18 (Ne.symm hne3))
  have HB18 := Lib.hid (bgrown HB17.out hg18 hgw)
  clear hX18 hg18 hs18 HO17 HB17 HH17 HP17
  by_cases hj : J / 8 < 20
  · have hbad : gtE Z ≠ 0 := by
      rw [HZ.out]
      exact turned_bad (T : Int) pr s d U (J / 8) y HUb.out (by rw [HUm.out]; omega) (by omega) (by omega) hprr.1 hprr.2 s0 s1 d0 d1 (by omega) hj (by rw [← Hx.out]; exact Ht.out)
    obtain ⟨ec, hec⟩ : ∃ ec, ec = gtE Z := ⟨_, rfl⟩
    rw [← hec] at hbad
    rw [← hec]
    have tb : (ec != 0) = true := by rw [bne_iff_ne]; exact hbad
    clear hec hbad
    go_wp2
    go_ret
    exact ⟨rfl, HB18.out⟩
  · obtain ⟨U2, hU2⟩ : ∃ U2, U2 = U.set (J / 8 - 20) y := ⟨_, rfl⟩
    have hZ2 : Z = frm (T : Int) pr s d U2 := by
      rw [HZ.out, hU2, ← frm_set, show 20 + (J / 8 - 20) = J / 8 by omega]
    have hU2l : U2.length = m := by rw [hU2, List.length_set]; exact HUm.out
    have hU2b : By U2 := by rw [hU2]; exact HUb.out.set _ _ Ht.out.1 Ht.out.2.1
    have hgot := frm_got (T : Int) pr s d U2 [] (by omega) hU2b (by omega) (by omega) hprr.1 hprr.2 s0 s1 d0 d1
    rw [List.append_nil, hU2l, ← hZ2] at hgot
    have hpg : pgE ⟨20, 20 + (m : Int), (T : Int), pr, s, d⟩ Z = byE pr s d U2 ∧ pgP ⟨20, 20 + (m : Int), (T : Int), pr, s, d⟩ Z = byP pr s d U2 := by
      rw [hZ2]; exact frm_pg (T : Int) pr s d U2 m hU2l (T : Int) s d pr
    have hres := HTu.out (J / 8 - 20) y (by omega) (by
      have hg := Ht.out
      rw [Hx.out, show J / 8 = 20 + (J / 8 - 20) by omega, frm_getD] at hg
      exact hg)
    rw [← hU2] at hres
    have HRes := Lib.hid hres
    have HPG2 := Lib.hid hpg
    have heq := hgot.2.symm.trans Hh.out
    have hgE := hgot.1
    injection heq with q0 q1 q2 q3 q4 q5
    subst q0 q1 q2 q3 q4 q5
    rw [hgE]
    obtain ⟨f0', f1', f2', f3', f4', f5', f6', f7', f8', f9', f10', f11', f12', f13', f14', hfv⟩ := Pt.mk_val (byP pr s d U2)
    have Hfv := Lib.hid hfv
    clear hU2 hZ2 hU2l hU2b hgot hpg hres hfv hgE HZ Hh Ht Hx HTu HPG HGot
    go_wp2_with (first | ((with_reducible refine gd_ld 51 13 ?_); refine wpList_ld rfl 51 (.tmp 13) rfl _ rfl (HX18.out) sHead ?_) | fail)
    refine (pget_any 20 (20 + (m : Int)) (T : Int) pr s d (some ⟨g10, 0, none⟩) (20 + m) (20 + m) Z _ HL18.out (by omega) (by omega) HR18.out s0 s1 d0 d1).mono ?_
    rintro e w19 ⟨rfl, hb19⟩
    rw [HPG2.out.1, HPG2.out.2, Hfv.out]
    have HP19 := Lib.hid (HP18.out.below hb19)
    have HB19 := Lib.hid (bthen HB18.out hb19)
    clear hb19 HP18 HB18 HX18 HR18 HL18
    have hgpw : w.heap.size ≤ gp := by omega
    go_upto_region 21 with (first | ((with_reducible refine gd_st 55 15 ?_); refine wpList_st rfl 55 (.tmp 15) _ rfl _ _ rfl _ rfl (HP19.out) sPart.2 (#[.int .i64 f0', .int .u16 f1', .int .u16 f2', .int .i64 f3', .int .i64 f4', .int .i64 f5', .bool f6', .int .i64 f7', .int .i64 f8', .int .i64 f9', .int .i64 f10', .int .u32 f11', .int .u32 f12', .int .i64 f13', .bool f14']) rfl (Nat.le_of_ble_eq_true rfl) rfl ?_; intro w20 hX20 hg20 hs20))
    have HB20 := Lib.hid (bgrown HB19.out hg20 hgpw)
    have p14 : w20.cell? ⟨gp, 14, none⟩ = some (.bool f14') := hX20.cell 14
    have i160 : (160 : Int) ≤ (J : Int) := by omega
    have hfl2 := pt_fields Hfv.out
    clear hX20 hg20 hs20 HP19 HB19
    rcases HRes.out with hbad | ⟨hE0, hp17, hbare⟩
    · obtain ⟨ec, hec⟩ : ∃ ec, ec = byE pr s d U2 := ⟨_, rfl⟩
      rw [← hec] at hbad
      rw [← hec]
      have tb : (ec != 0) = true := by rw [bne_iff_ne]; exact hbad
      clear hec hbad hfl2
      go_wp2
      go_ret
      exact ⟨rfl, HB20.out⟩
    · rw [hE0]
      rw [hp17, hbare] at hfl2
      obtain ⟨_, _, _, hb14⟩ := hfl2
      subst hb14
      clear hE0 hp17 hbare
      go_wp2
      go_ret
      exact ⟨rfl, HB20.out⟩
end Go.Proofs.Ytgoenjoojejghab
