/-
  Package fanlightlaw03: what a Sent carries that is an error. Conditions stand in each theorem.
-/
import Derived.Test.YtbnlpidhbilenaaGN
import Derived.Deep.RegionHeld3
namespace Go.Proofs.Ytbnlpidhbilenaa
open Go.RowKit Plain
set_option linter.unusedVariables false
set_option linter.unusedSimpArgs false
set_option maxRecDepth 100000

/-- a Sent that lies there, and what was there -/
structure SnS (w0 : World) (g : Nat) (what s d f t fl : Int) (A : Option Addr) (n c : Nat) (W : World) : Prop where
  b1 : Blk W g 80 #[.int .i64 what, .int .u32 s, .int .u32 d, .int .u16 f, .int .u16 t, .int .i64 fl, .slice A n c]
  bel : Below w0.heap.size w0 W
theorem SnS.drew {w0 : World} {g : Nat} {what s d f t fl : Int} {A : Option Addr} {n c : Nat} {W : World} (h : SnS w0 g what s d f t fl A n c W) : SnS w0 g what s d f t fl A n c W.drew := ⟨h.b1, h.bel.drew⟩
theorem SnS.below {w0 : World} {g : Nat} {what s d f t fl : Int} {A : Option Addr} {n c : Nat} {W W' : World} (h : SnS w0 g what s d f t fl A n c W) (hb : Below W.heap.size W W') : SnS w0 g what s d f t fl A n c W' := ⟨h.b1.below hb, bthen h.bel hb⟩

set_option maxHeartbeats 4000000 in
theorem carried_4 (x : Sn) (w : World) (ok : x.ok w) (hK : wrap64 ((IntKind.u64.wrap x.what).tmod 7) = 4) :
    Calls Try.prog 54 #[x.val] w (CarOk x 4 w) := by
  obtain ⟨what, s, d, f, t, fl, A, n, c, ys⟩ := x
  obtain ⟨s0, s1, d0, d1, f0, f1, t0, t1, hn, hnc, hcm, hR⟩ := ok
  simp only at s0 s1 d0 d1 f0 f1 t0 t1 hn hnc hcm hR hK
  rw [show (Sn.mk what s d f t fl A n c ys).val = .agg #[.int .i64 what, .int .u32 s, .int .u32 d, .int .u16 f, .int .u16 t, .int .i64 fl, .slice A n c] from rfl]
  have HR := Lib.hid hR
  have Hn := Lib.hid hn
  have HK := Lib.hid hK
  clear hR hn hK
  obtain ⟨u, hu⟩ : ∃ u, u = min n 40 := ⟨_, rfl⟩
  have hu1 : u ≤ n := by omega
  have hu2 : u ≤ 40 := by omega
  have Hl := Lib.hid (show (ys.take 40).length = u by rw [List.length_take, Hn.out, hu]; omega)
  have HU := Lib.hid hu
  clear hu
  go_enter Try.func54, Try.ntmps54
  go_upto_region 1 with fail
  have HB1 := Lib.hid (ball w (.cells #[.int .i64 what, .int .u32 s, .int .u32 d, .int .u16 f, .int .u16 t, .int .i64 fl, .slice A n c] 80))
  have HK1 := Lib.hid (Blk.new w 80 #[.int .i64 what, .int .u32 s, .int .u32 d, .int .u16 f, .int .u16 t, .int .i64 fl, .slice A n c])
  generalize w.alloc (.cells #[.int .i64 what, .int .u32 s, .int .u32 d, .int .u16 f, .int .u16 t, .int .i64 fl, .slice A n c] 80) = w1 at *
  obtain ⟨g, hg⟩ : ∃ g, g = w.heap.size := ⟨_, rfl⟩
  rw [← hg] at HK1
  rw [← hg]
  clear hg
  have HS := Lib.hid (show SnS w g what s d f t fl A n c w1 from ⟨HK1.out, HB1.out⟩)
  have k0 : w1.cell? ⟨g, 0, none⟩ = some (.int .i64 what) := HK1.out.cell 0
  have k6 : w1.cell? ⟨g, 6, none⟩ = some (.slice A n c) := HK1.out.cell 6
  go_cut [4] (fun s4 wx => s4 = .slice A u c ∧ w1 = wx)
  case first =>
    by_cases h : n ≤ 40
    · have h' : (n : Int) ≤ 40 := by omega
      have i1 : (n : Int) ≤ (c : Int) := by omega
      have e : u = n := by have := HU.out; omega
      have HE := Lib.hid e
      clear e
      go_wp2
      go_meet
      exact ⟨by rw [HE.out], rfl⟩
    · have h' : (40 : Int) < (n : Int) := by omega
      have i1 : (40 : Int) ≤ (c : Int) := by omega
      have i2 : 40 ≤ c := by omega
      have e : u = 40 := by have := HU.out; omega
      have HE := Lib.hid e
      clear e
      go_wp2
      go_meet
      exact ⟨by rw [HE.out], rfl⟩
  case rest =>
  obtain ⟨rfl, rfl⟩ := hcut
  have hK := HK.out
  have HR0 := Lib.hid (HR.out.take 40)
  have huc : u ≤ c := by omega
  go_upto_region 12 with fail
  clear hK k0 k6 HB1 HK1
  have S0 := HS.out
  have r1 : ∀ W, SnS w g what s d f t fl A n c W → W.cell? ⟨g, 1, none⟩ = some (.int .u32 s) := fun W h => h.b1.cell 1
  have r2 : ∀ W, SnS w g what s d f t fl A n c W → W.cell? ⟨g, 2, none⟩ = some (.int .u32 d) := fun W h => h.b1.cell 2
  have r3 : ∀ W, SnS w g what s d f t fl A n c W → W.cell? ⟨g, 3, none⟩ = some (.int .u16 f) := fun W h => h.b1.cell 3
  have r4 : ∀ W, SnS w g what s d f t fl A n c W → W.cell? ⟨g, 4, none⟩ = some (.int .u16 t) := fun W h => h.b1.cell 4
  go_region_held3 (fun W => SnS w g what s d f t fl A n c W)
    (first | (with_reducible exact S0.drew) | (with_reducible exact SnS.below (by assumption) (by assumption)) | (with_reducible assumption))
    (first
      | (go_at_call 70; refine (rudp_any d s t f A u c (ys.take 40) _ Hl.out huc (by omega) (HR0.out.below (SnS.bel (by assumption))) d0 d1 s0 s1 t0 t1 f0 f1).mono ?_; rintro e w2 ⟨g2, m, cc, rfl, hm, ho, hb⟩; have hm2 := Nat.min_le_right u 1400; rw [← hm] at hm2; clear hm)
      | (go_at_call 37; refine (rput_yes 0 0 9 17 d s (some ⟨g2, 0, none⟩) (8 + m) cc (udL d s t f ((ys.take 40).take 1400)) _ (by omega) ho.len ho.rd (by omega) (by omega) (by omega) (by omega) d0 d1 s0 s1).mono ?_; rintro e w3 ⟨g3, c3, rfl, ho3, hb3⟩))
  have hS2 : SnS w g what s d f t fl A n c w2 := S0.drew.below hb
  have hS3 : SnS w g what s d f t fl A n c w3 := hS2.below hb3
  have HO3 := Lib.hid (ho3.mono hS2.bel.size)
  have HB3 := Lib.hid hS3.bel
  have k5 : w3.cell? ⟨g, 5, none⟩ = some (.int .i64 fl) := hS3.b1.cell 5
  have hcap := ho3.cap
  clear r1 r2 r3 r4 S0 hS2 hS3 ho ho3 hb hb3
  rename_i hh
  clear hh
  go_wp2_with fail
  refine (rfault_any 3 (fl.tmod 16) (some ⟨g3, 0, none⟩) (20 + (8 + m)) c3 _ _ HO3.out.len hcap (by omega) HO3.out.rd).mono ?_
  rintro e w4 ⟨g4, m4, c4, rfl, hm4, ho4, hb4⟩
  have HO4 := Lib.hid (ho4.mono HB3.out.size)
  have HB4 := Lib.hid (bthen HB3.out hb4)
  clear ho4 hb4 hm4
  go_wp2
  go_ret2
  refine ⟨g4, 8 + m4, c4, rfl, ?_, HB4.out⟩
  have := HO4.out
  rw [take_40, List.take_of_length_le (by rw [frm_len, udL_len, Hl.out]; omega)] at this
  exact this
set_option maxHeartbeats 4000000 in
theorem carried_5 (x : Sn) (w : World) (ok : x.ok w) (hK : wrap64 ((IntKind.u64.wrap x.what).tmod 7) = 5) :
    Calls Try.prog 54 #[x.val] w (CarOk x 5 w) := by
  obtain ⟨what, s, d, f, t, fl, A, n, c, ys⟩ := x
  obtain ⟨s0, s1, d0, d1, f0, f1, t0, t1, hn, hnc, hcm, hR⟩ := ok
  simp only at s0 s1 d0 d1 f0 f1 t0 t1 hn hnc hcm hR hK
  rw [show (Sn.mk what s d f t fl A n c ys).val = .agg #[.int .i64 what, .int .u32 s, .int .u32 d, .int .u16 f, .int .u16 t, .int .i64 fl, .slice A n c] from rfl]
  have HR := Lib.hid hR
  have Hn := Lib.hid hn
  have HK := Lib.hid hK
  clear hR hn hK
  obtain ⟨u, hu⟩ : ∃ u, u = min n 40 := ⟨_, rfl⟩
  have hu1 : u ≤ n := by omega
  have hu2 : u ≤ 40 := by omega
  have Hl := Lib.hid (show (ys.take 40).length = u by rw [List.length_take, Hn.out, hu]; omega)
  have HU := Lib.hid hu
  clear hu
  go_enter Try.func54, Try.ntmps54
  go_upto_region 1 with fail
  have HB1 := Lib.hid (ball w (.cells #[.int .i64 what, .int .u32 s, .int .u32 d, .int .u16 f, .int .u16 t, .int .i64 fl, .slice A n c] 80))
  have HK1 := Lib.hid (Blk.new w 80 #[.int .i64 what, .int .u32 s, .int .u32 d, .int .u16 f, .int .u16 t, .int .i64 fl, .slice A n c])
  generalize w.alloc (.cells #[.int .i64 what, .int .u32 s, .int .u32 d, .int .u16 f, .int .u16 t, .int .i64 fl, .slice A n c] 80) = w1 at *
  obtain ⟨g, hg⟩ : ∃ g, g = w.heap.size := ⟨_, rfl⟩
  rw [← hg] at HK1
  rw [← hg]
  clear hg
  have HS := Lib.hid (show SnS w g what s d f t fl A n c w1 from ⟨HK1.out, HB1.out⟩)
  have k0 : w1.cell? ⟨g, 0, none⟩ = some (.int .i64 what) := HK1.out.cell 0
  have k6 : w1.cell? ⟨g, 6, none⟩ = some (.slice A n c) := HK1.out.cell 6
  go_cut [4] (fun s4 wx => s4 = .slice A u c ∧ w1 = wx)
  case first =>
    by_cases h : n ≤ 40
    · have h' : (n : Int) ≤ 40 := by omega
      have i1 : (n : Int) ≤ (c : Int) := by omega
      have e : u = n := by have := HU.out; omega
      have HE := Lib.hid e
      clear e
      go_wp2
      go_meet
      exact ⟨by rw [HE.out], rfl⟩
    · have h' : (40 : Int) < (n : Int) := by omega
      have i1 : (40 : Int) ≤ (c : Int) := by omega
      have i2 : 40 ≤ c := by omega
      have e : u = 40 := by have := HU.out; omega
      have HE := Lib.hid e
      clear e
      go_wp2
      go_meet
      exact ⟨by rw [HE.out], rfl⟩
  case rest =>
  obtain ⟨rfl, rfl⟩ := hcut
  have hK := HK.out
  have HR0 := Lib.hid (HR.out.take 40)
  have huc : u ≤ c := by omega
  go_upto_region 15 with fail
  clear hK k0 k6 HB1 HK1
  have S0 := HS.out
  have r1 : ∀ W, SnS w g what s d f t fl A n c W → W.cell? ⟨g, 1, none⟩ = some (.int .u32 s) := fun W h => h.b1.cell 1
  have r2 : ∀ W, SnS w g what s d f t fl A n c W → W.cell? ⟨g, 2, none⟩ = some (.int .u32 d) := fun W h => h.b1.cell 2
  have r3 : ∀ W, SnS w g what s d f t fl A n c W → W.cell? ⟨g, 3, none⟩ = some (.int .u16 f) := fun W h => h.b1.cell 3
  have r4 : ∀ W, SnS w g what s d f t fl A n c W → W.cell? ⟨g, 4, none⟩ = some (.int .u16 t) := fun W h => h.b1.cell 4
  go_region_held3 (fun W => SnS w g what s d f t fl A n c W)
    (first | (with_reducible exact S0.drew) | (with_reducible exact SnS.below (by assumption) (by assumption)) | (with_reducible assumption))
    (first
      | (go_at_call 71; refine (rtcp_any d s t f 2 A u c (ys.take 40) _ Hl.out huc (by omega) (HR0.out.below (SnS.bel (by assumption))) d0 d1 s0 s1 t0 t1 f0 f1).mono ?_; rintro e w2 ⟨g2, m, cc, rfl, hm, ho, hb⟩; have hm2 := Nat.min_le_right u 1400; rw [← hm] at hm2; clear hm)
      | (go_at_call 37; refine (rput_yes 0 0 9 6 d s (some ⟨g2, 0, none⟩) (20 + m) cc (tcL d s t f (2 % 256) ((ys.take 40).take 1400)) _ (by omega) ho.len ho.rd (by omega) (by omega) (by omega) (by omega) d0 d1 s0 s1).mono ?_; rintro e w3 ⟨g3, c3, rfl, ho3, hb3⟩))
  have hS2 : SnS w g what s d f t fl A n c w2 := S0.drew.below hb
  have hS3 : SnS w g what s d f t fl A n c w3 := hS2.below hb3
  have HO3 := Lib.hid (ho3.mono hS2.bel.size)
  have HB3 := Lib.hid hS3.bel
  have hcap := ho3.cap
  clear r1 r2 r3 r4 S0 hS2 hS3 ho ho3 hb hb3
  rename_i hh
  clear hh
  have hmu : m = u := by
    have := HO3.out.len
    rw [frm_len, tcL_len, take_40, Hl.out] at this
    omega
  subst hmu
  have e1 : (28 + (m : Int) / 2).toNat = 28 + m / 2 := by omega
  have e2 : 28 + (m : Int) / 2 ≤ (c3 : Int) := by omega
  have e3 : 0 ≤ 28 + (m : Int) / 2 := by omega
  go_wp2_with fail
  refine (rfault_any 11 0 (some ⟨g3, 0, none⟩) (28 + m / 2) c3 _ _ (by rw [List.length_take, HO3.out.len]; omega) (by omega) (by omega) (HO3.out.rd.take (28 + m / 2))).mono ?_
  rintro e w4 ⟨g4, m4, c4, rfl, hm4, ho4, hb4⟩
  have HO4 := Lib.hid (ho4.mono HB3.out.size)
  have HB4 := Lib.hid (bthen HB3.out hb4)
  clear ho4 hb4 hm4 e1 e2 e3
  go_wp2
  go_ret2
  refine ⟨g4, 8 + m4, c4, rfl, ?_, HB4.out⟩
  have := HO4.out
  rw [take_40, List.take_of_length_le (l := List.take (28 + m / 2) _) (by rw [List.length_take]; omega)] at this
  unfold carL
  rw [Hl.out]
  exact this

set_option maxHeartbeats 4000000 in
theorem carried_6 (x : Sn) (w : World) (ok : x.ok w) (hK : wrap64 ((IntKind.u64.wrap x.what).tmod 7) = 6) :
    Calls Try.prog 54 #[x.val] w (CarOk x 6 w) := by
  obtain ⟨what, s, d, f, t, fl, A, n, c, ys⟩ := x
  obtain ⟨s0, s1, d0, d1, f0, f1, t0, t1, hn, hnc, hcm, hR⟩ := ok
  simp only at s0 s1 d0 d1 f0 f1 t0 t1 hn hnc hcm hR hK
  rw [show (Sn.mk what s d f t fl A n c ys).val = .agg #[.int .i64 what, .int .u32 s, .int .u32 d, .int .u16 f, .int .u16 t, .int .i64 fl, .slice A n c] from rfl]
  have HR := Lib.hid hR
  have Hn := Lib.hid hn
  have HK := Lib.hid hK
  clear hR hn hK
  obtain ⟨u, hu⟩ : ∃ u, u = min n 40 := ⟨_, rfl⟩
  have hu1 : u ≤ n := by omega
  have hu2 : u ≤ 40 := by omega
  have Hl := Lib.hid (show (ys.take 40).length = u by rw [List.length_take, Hn.out, hu]; omega)
  have HU := Lib.hid hu
  clear hu
  go_enter Try.func54, Try.ntmps54
  go_upto_region 1 with fail
  have HB1 := Lib.hid (ball w (.cells #[.int .i64 what, .int .u32 s, .int .u32 d, .int .u16 f, .int .u16 t, .int .i64 fl, .slice A n c] 80))
  have HK1 := Lib.hid (Blk.new w 80 #[.int .i64 what, .int .u32 s, .int .u32 d, .int .u16 f, .int .u16 t, .int .i64 fl, .slice A n c])
  generalize w.alloc (.cells #[.int .i64 what, .int .u32 s, .int .u32 d, .int .u16 f, .int .u16 t, .int .i64 fl, .slice A n c] 80) = w1 at *
  obtain ⟨g, hg⟩ : ∃ g, g = w.heap.size := ⟨_, rfl⟩
  rw [← hg] at HK1
  rw [← hg]
  clear hg
  have HS := Lib.hid (show SnS w g what s d f t fl A n c w1 from ⟨HK1.out, HB1.out⟩)
  have k0 : w1.cell? ⟨g, 0, none⟩ = some (.int .i64 what) := HK1.out.cell 0
  have k6 : w1.cell? ⟨g, 6, none⟩ = some (.slice A n c) := HK1.out.cell 6
  go_cut [4] (fun s4 wx => s4 = .slice A u c ∧ w1 = wx)
  case first =>
    by_cases h : n ≤ 40
    · have h' : (n : Int) ≤ 40 := by omega
      have i1 : (n : Int) ≤ (c : Int) := by omega
      have e : u = n := by have := HU.out; omega
      have HE := Lib.hid e
      clear e
      go_wp2
      go_meet
      exact ⟨by rw [HE.out], rfl⟩
    · have h' : (40 : Int) < (n : Int) := by omega
      have i1 : (40 : Int) ≤ (c : Int) := by omega
      have i2 : 40 ≤ c := by omega
      have e : u = 40 := by have := HU.out; omega
      have HE := Lib.hid e
      clear e
      go_wp2
      go_meet
      exact ⟨by rw [HE.out], rfl⟩
  case rest =>
  obtain ⟨rfl, rfl⟩ := hcut
  have hK := HK.out
  have HR0 := Lib.hid (HR.out.take 40)
  have huc : u ≤ c := by omega
  go_upto_region 17 with fail
  clear hK k0 k6 HB1 HK1
  have S0 := HS.out
  have r1 : ∀ W, SnS w g what s d f t fl A n c W → W.cell? ⟨g, 1, none⟩ = some (.int .u32 s) := fun W h => h.b1.cell 1
  have r2 : ∀ W, SnS w g what s d f t fl A n c W → W.cell? ⟨g, 2, none⟩ = some (.int .u32 d) := fun W h => h.b1.cell 2
  have r3 : ∀ W, SnS w g what s d f t fl A n c W → W.cell? ⟨g, 3, none⟩ = some (.int .u16 f) := fun W h => h.b1.cell 3
  have r4 : ∀ W, SnS w g what s d f t fl A n c W → W.cell? ⟨g, 4, none⟩ = some (.int .u16 t) := fun W h => h.b1.cell 4
  go_region_held3 (fun W => SnS w g what s d f t fl A n c W)
    (first | (with_reducible exact S0.drew) | (with_reducible exact SnS.below (by assumption) (by assumption)) | (with_reducible assumption))
    (first
      | (go_at_call 72; refine (recho_any false 8 rfl t t0 t1 A u c (ys.take 40) _ Hl.out huc (by omega) (HR0.out.below (SnS.bel (by assumption)))).mono ?_; rintro e w2 ⟨g2, m, cc, rfl, hm, ho, hb⟩; have hm2 := Nat.min_le_right u 1400; rw [← hm] at hm2; clear hm)
      | (go_at_call 37; refine (rput_yes 0 0 9 1 d s (some ⟨g2, 0, none⟩) (8 + m) cc (icL 8 0 t ((ys.take 40).take 1400)) _ (by omega) ho.len ho.rd (by omega) (by omega) (by omega) (by omega) d0 d1 s0 s1).mono ?_; rintro e w3 ⟨g3, c3, rfl, ho3, hb3⟩))
  have hS2 : SnS w g what s d f t fl A n c w2 := S0.drew.below hb
  have hS3 : SnS w g what s d f t fl A n c w3 := hS2.below hb3
  have HO3 := Lib.hid (ho3.mono hS2.bel.size)
  have HB3 := Lib.hid hS3.bel
  have hcap := ho3.cap
  clear r1 r2 r3 r4 S0 hS2 hS3 ho ho3 hb hb3
  rename_i hh
  clear hh
  go_wp2_with fail
  refine (rfault_any 3 1 (some ⟨g3, 0, none⟩) (20 + (8 + m)) c3 _ _ HO3.out.len hcap (by omega) HO3.out.rd).mono ?_
  rintro e w4 ⟨g4, m4, c4, rfl, hm4, ho4, hb4⟩
  have HO4 := Lib.hid (ho4.mono HB3.out.size)
  have HB4 := Lib.hid (bthen HB3.out hb4)
  clear ho4 hb4 hm4
  go_wp2
  go_ret2
  refine ⟨g4, 8 + m4, c4, rfl, ?_, HB4.out⟩
  have := HO4.out
  rw [take_40, List.take_of_length_le (by rw [frm_len, icL_len, Hl.out]; omega)] at this
  exact this
theorem carried_any (x : Sn) (K : Nat) (hK7 : K < 7) (w : World) (ok : x.ok w) (hK : wrap64 ((IntKind.u64.wrap x.what).tmod 7) = (K : Int)) :
    Calls Try.prog 54 #[x.val] w (CarOk x K w) := by
  by_cases h4 : K < 4
  · exact carried_low x K h4 w ok hK
  · obtain rfl | rfl | rfl : K = 4 ∨ K = 5 ∨ K = 6 := by omega
    · exact carried_4 x w ok hK
    · exact carried_5 x w ok hK
    · exact carried_6 x w ok hK
theorem frame_any (x : Sn) (K : Nat) (hK7 : K < 7) (w : World) (ok : x.ok w) (hK : wrap64 ((IntKind.u64.wrap x.what).tmod 7) = (K : Int)) :
    Calls Try.prog 36 #[x.val] w (FrameOk x K w) :=
  frame_of x K w ok fun w' ok' => carried_any x K hK7 w' ok' hK
end Go.Proofs.Ytbnlpidhbilenaa
