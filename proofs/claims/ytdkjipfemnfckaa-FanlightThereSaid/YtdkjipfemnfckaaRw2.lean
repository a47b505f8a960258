/-
  Package rewrite: layPort, layAddr, layUdp, layTcp, layEcho. Conditions stand in each theorem.
-/
import Derived.Test.YtdkjipfemnfckaaRw
namespace Go.Proofs.Ytdkjipfemnfckaa
open Go.RowKit Plain
set_option linter.unusedVariables false
set_option linter.unusedSimpArgs false
set_option maxRecDepth 100000
theorem P16_byte {L : List Int} (h : By L) (i : Nat) {v : Int} (h0 : 0 ≤ v) (h1 : v ≤ 65535) : By (P16 L i v) := P16_by h i v h0 h1
theorem P32_byte {L : List Int} (h : By L) (i : Nat) {v : Int} (h0 : 0 ≤ v) (h1 : v ≤ 4294967295) : By (P32 L i v) := by
  unfold P32
  exact P16_by (P16_by h _ _ (by omega) (by omega)) _ _ (by omega) (by omega)
section
variable {w : World} {base g N C : Nat} {L : List Int}
set_option maxHeartbeats 2000000 in
theorem layPort_any (off n c : Nat) (a : Int) (i : Nat) (wa A wp P : Int) (ha : a = (i : Int)) (hi : i + 1 < n) (h : off + n ≤ N) (hN : N ≤ 1000000) (q0 : 0 ≤ P) (q1 : P ≤ 65535) (hO : Own w base (some ⟨g, 0, none⟩) N C L) :
    Calls Try.prog 87 #[.slice (some ⟨g, off, none⟩) n c, .int .i64 a, .agg #[.int .u32 wa, .int .u32 A, .int .u16 wp, .int .u16 P]] w fun e w' => e = .returned (.agg #[.int .u32 wa, .int .u32 A, .int .u16 (G16 L (off + i)), .int .u16 P]) ∧ Lz w w' base g N C (P16 L (off + i) P) := by
  have HA := Lib.hid ha
  clear ha
  have hgl := hO.gl.2
  obtain ⟨v, hv⟩ : ∃ v, G16 L (off + i) = v := ⟨_, rfl⟩
  rw [hv]
  have HV := Lib.hid hv
  clear hv
  go_enter Try.func87, Try.ntmps87
  go_upto_region 1 with fail
  obtain ⟨w1, hw1⟩ : ∃ w1, w1 = (w.alloc (.cells #[.int .u32 wa, .int .u32 A, .int .u16 wp, .int .u16 P] 79)).alloc (.cells #[.int .u32 0, .int .u32 0, .int .u16 0, .int .u16 0] 79) := ⟨_, rfl⟩
  have H0 := Lib.hid (show Blk w1 w.heap.size 79 #[.int .u32 wa, .int .u32 A, .int .u16 wp, .int .u16 P] by rw [hw1]; exact (Blk.new w _ _).alloc _)
  have h1 : Blk w1 (w.heap.size + 1) 79 #[.int .u32 0, .int .u32 0, .int .u16 0, .int .u16 0] := by rw [hw1]; have := Blk.new (w.alloc (.cells #[.int .u32 wa, .int .u32 A, .int .u16 wp, .int .u16 P] 79)) 79 #[.int .u32 0, .int .u32 0, .int .u16 0, .int .u16 0]; rwa [World.size_alloc] at this
  have HL := Lib.hid (show Lz w w1 base g N C L from (Lz.refl hO).below (by rw [hw1]; exact bthen (ball _ _) (ball _ _)))
  rw [← hw1]
  clear hw1 hO
  obtain ⟨gb, hgq⟩ : ∃ x, x = w.heap.size := ⟨_, rfl⟩
  obtain ⟨gr, hgr⟩ : ∃ x, x = w.heap.size + 1 := ⟨_, rfl⟩
  have hge : w.heap.size ≤ gb := by omega
  have hgf : w.heap.size ≤ gr := by omega
  have hbr : gb ≠ gr := by omega
  have hne : gb ≠ g := by omega
  have hnf : gr ≠ g := by omega
  rw [← hgr] at h1
  rw [← hgr]
  rw [← hgq] at H0
  rw [← hgq]
  have H1 := Lib.hid h1
  clear hgq hgr h1
  go_wp2_with fail
  refine (get16_at off n c a i HA.out hi h hN HL.out.own).mono ?_
  rintro e w' ⟨rfl, q, rfl⟩
  rw [HV.out]
  have HL2 := Lib.hid (HL.out.drewN q)
  have H02 := Lib.hid (H0.out.drewN q)
  have H12 := Lib.hid (H1.out.drewN q)
  clear HL H0 H1
  generalize w1.drewN q = w2 at *
  have k2 : w2.cell? ⟨gb, 2, none⟩ = some (.int .u16 wp) := H02.out.cell 2
  have kf2 : w2.frozen? ⟨gb, 2, none⟩ = false := H02.out.frozen 2
  go_upto_region 2 with fail
  have HL3 := Lib.hid (HL2.out.setN hge hne 2 (.int .u16 v))
  have H03 := Lib.hid (show Blk _ _ _ #[.int .u32 wa, .int .u32 A, .int .u16 v, .int .u16 P] from H02.out.set 2 (.int .u16 v))
  have H13 := Lib.hid (H12.out.ne (p := ⟨gb, 2, none⟩) hbr (.int .u16 v))
  clear k2 kf2 HL2 H02 H12
  generalize w2.setCell ⟨gb, 2, none⟩ (.int .u16 v) = w3 at *
  have k3 : w3.cell? ⟨gb, 3, none⟩ = some (.int .u16 P) := H03.out.cell 3
  go_wp2_with fail
  refine (put16_at off n c a P i HA.out hi h hN q0 q1 HL3.out.own).mono ?_
  rintro e w4 ⟨rfl, hl⟩
  have HL4 := Lib.hid (HL3.out.laid hl)
  have H04 := Lib.hid (H03.out.grown hl.grow hne)
  have H14 := Lib.hid (H13.out.grown hl.grow hnf)
  clear hl k3 HL3 H03 H13
  have k0 : w4.cell? ⟨gb, 0, none⟩ = some (.int .u32 wa) := H04.out.cell 0
  have k1 : w4.cell? ⟨gb, 1, none⟩ = some (.int .u32 A) := H04.out.cell 1
  have k2 : w4.cell? ⟨gb, 2, none⟩ = some (.int .u16 v) := H04.out.cell 2
  have k3 : w4.cell? ⟨gb, 3, none⟩ = some (.int .u16 P) := H04.out.cell 3
  have r0 : w4.cell? ⟨gr, 0, none⟩ = some (.int .u32 0) := H14.out.cell 0
  have r1 : w4.cell? ⟨gr, 1, none⟩ = some (.int .u32 0) := H14.out.cell 1
  have r2 : w4.cell? ⟨gr, 2, none⟩ = some (.int .u16 0) := H14.out.cell 2
  have r3 : w4.cell? ⟨gr, 3, none⟩ = some (.int .u16 0) := H14.out.cell 3
  have rf0 : w4.frozen? ⟨gr, 0, none⟩ = false := H14.out.frozen 0
  have rf1 : w4.frozen? ⟨gr, 1, none⟩ = false := H14.out.frozen 1
  have rf2 : w4.frozen? ⟨gr, 2, none⟩ = false := H14.out.frozen 2
  have rf3 : w4.frozen? ⟨gr, 3, none⟩ = false := H14.out.frozen 3
  have HF := Lib.hid ((((HL4.out.setN hgf hnf 0 (.int .u32 wa)).setN hgf hnf 1 (.int .u32 A)).setN hgf hnf 2 (.int .u16 v)).setN hgf hnf 3 (.int .u16 P))
  have HR := Lib.hid (show Blk ((((w4.setCell ⟨gr, 0, none⟩ (.int .u32 wa)).setCell ⟨gr, 1, none⟩ (.int .u32 A)).setCell ⟨gr, 2, none⟩ (.int .u16 v)).setCell ⟨gr, 3, none⟩ (.int .u16 P)) gr 79 #[.int .u32 wa, .int .u32 A, .int .u16 v, .int .u16 P] from (((H14.out.set 0 (.int .u32 wa)).set 1 (.int .u32 A)).set 2 (.int .u16 v)).set 3 (.int .u16 P))
  clear HL4 H04 H14
  go_wp2
  exact bodyPost_ret (res_cell1 Try.results87 _ _ rfl HR.out sChange) rfl ⟨rfl, HF.out⟩
set_option maxHeartbeats 4000000 in
theorem layAddr_any (off n c e : Nat) (wa A wp P : Int) (he : e ≤ 1) (hi : 20 ≤ n) (h : off + n ≤ N) (hN : N ≤ 1000000) (n0 : 0 ≤ A) (n1 : A ≤ 4294967295) (hO : Own w base (some ⟨g, 0, none⟩) N C L) :
    Calls Try.prog 75 #[.slice (some ⟨g, off, none⟩) n c, .int .i64 e, .agg #[.int .u32 wa, .int .u32 A, .int .u16 wp, .int .u16 P]] w fun r w' => r = .returned (.agg #[.int .u32 (G32 L (off + ePl e)), .int .u32 A, .int .u16 wp, .int .u16 P]) ∧ Lz w w' base g N C (adL L off (ePl e) A) := by
  have hgl := hO.gl.2
  have hby := hO.byt
  have hpl : ePl e = 12 ∨ ePl e = 16 := by unfold ePl; split <;> simp
  have hpr := G32_range L hby (off + ePl e)
  have HAT := Lib.hid (fun W => addrAt_any e he W)
  have hsm := G16_range (P32 L (off + ePl e) A) (P32_byte hby _ n0 n1) (off + 10)
  have hsr := FxW_range _ _ _ hsm.1 hsm.2 hpr.1 hpr.2 n0 n1
  have HAD := Lib.hid (show P16 (P32 L (off + ePl e) A) (off + 10) (FxW (G16 (P32 L (off + ePl e) A) (off + 10)) (G32 L (off + ePl e)) A) = adL L off (ePl e) A from rfl)
  clear hby
  generalize adL L off (ePl e) A = L9 at *
  generalize ePl e = p at *
  obtain ⟨v, hv⟩ : ∃ v, G32 L (off + p) = v := ⟨_, rfl⟩
  rw [hv] at hsr hpr HAD ⊢
  have HV := Lib.hid hv
  clear hv
  go_enter Try.func75, Try.ntmps75
  go_upto_region 1 with fail
  obtain ⟨w1, hw1⟩ : ∃ w1, w1 = (w.alloc (.cells #[.int .u32 wa, .int .u32 A, .int .u16 wp, .int .u16 P] 79)).alloc (.cells #[.int .u32 0, .int .u32 0, .int .u16 0, .int .u16 0] 79) := ⟨_, rfl⟩
  have H0 := Lib.hid (show Blk w1 w.heap.size 79 #[.int .u32 wa, .int .u32 A, .int .u16 wp, .int .u16 P] by rw [hw1]; exact (Blk.new w _ _).alloc _)
  have h1 : Blk w1 (w.heap.size + 1) 79 #[.int .u32 0, .int .u32 0, .int .u16 0, .int .u16 0] := by rw [hw1]; have := Blk.new (w.alloc (.cells #[.int .u32 wa, .int .u32 A, .int .u16 wp, .int .u16 P] 79)) 79 #[.int .u32 0, .int .u32 0, .int .u16 0, .int .u16 0]; rwa [World.size_alloc] at this
  have HL := Lib.hid (show Lz w w1 base g N C L from (Lz.refl hO).below (by rw [hw1]; exact bthen (ball _ _) (ball _ _)))
  rw [← hw1]
  clear hw1 hO
  obtain ⟨gb, hgq⟩ : ∃ x, x = w.heap.size := ⟨_, rfl⟩
  obtain ⟨gr, hgr⟩ : ∃ x, x = w.heap.size + 1 := ⟨_, rfl⟩
  have hge : w.heap.size ≤ gb := by omega
  have hgf : w.heap.size ≤ gr := by omega
  have hbr : gb ≠ gr := by omega
  have hne : gb ≠ g := by omega
  have hnf : gr ≠ g := by omega
  rw [← hgr] at h1
  rw [← hgr]
  rw [← hgq] at H0
  rw [← hgq]
  have H1 := Lib.hid h1
  clear hgq hgr h1
  go_wp2_with fail
  refine (HAT.out _).mono ?_
  rintro r w' ⟨rfl, rfl⟩
  go_wp2_with fail
  refine (get32_at off n c (p : Int) p rfl (by omega) h hN HL.out.own).mono ?_
  rintro r w' ⟨rfl, q, rfl⟩
  rw [HV.out]
  have HL2 := Lib.hid (HL.out.drewN q)
  have H02 := Lib.hid (H0.out.drewN q)
  have H12 := Lib.hid (H1.out.drewN q)
  clear HL H0 H1
  generalize w1.drewN q = w2 at *
  have k0 : w2.cell? ⟨gb, 0, none⟩ = some (.int .u32 wa) := H02.out.cell 0
  have kf0 : w2.frozen? ⟨gb, 0, none⟩ = false := H02.out.frozen 0
  go_upto_region 2 with fail
  have HL3 := Lib.hid (HL2.out.setN hge hne 0 (.int .u32 v))
  have H03 := Lib.hid (show Blk _ _ _ #[.int .u32 v, .int .u32 A, .int .u16 wp, .int .u16 P] from H02.out.set 0 (.int .u32 v))
  have H13 := Lib.hid (H12.out.ne (p := ⟨gb, 0, none⟩) hbr (.int .u32 v))
  clear k0 kf0 HL2 H02 H12
  generalize w2.setCell ⟨gb, 0, none⟩ (.int .u32 v) = w3 at *
  have k1 : w3.cell? ⟨gb, 1, none⟩ = some (.int .u32 A) := H03.out.cell 1
  go_region_held3 (fun W => W.cell? ⟨gb, 1, none⟩ = some (.int .u32 A)) (first | assumption | (refine (Blk.cell (H03.out.drew.grown (Laid.grow (by assumption)) hne) 1)))
    ((first
      | (go_at_call 85; refine (HAT.out _).mono ?_; rintro r w' ⟨rfl, rfl⟩)
      | (go_at_call 63; refine (put32_at off n c (p : Int) A p rfl (by omega) h hN n0 n1 (HL3.out.own.drewN 1)).mono ?_; rintro r w4 ⟨rfl, hl⟩)))
  have HL4 := Lib.hid ((HL3.out.drewN 1).laid hl)
  have H04 := Lib.hid (H03.out.drew.grown hl.grow hne)
  have H14 := Lib.hid (H13.out.drew.grown hl.grow hnf)
  clear hl k1 HL3 H03 H13 HAT
  generalize P32 L (off + p) A = L4 at *
  go_wp2_with fail
  refine (get16_at off n c 10 10 rfl (by omega) h hN HL4.out.own).mono ?_
  rintro r w' ⟨rfl, q2, rfl⟩
  have HL5 := Lib.hid (HL4.out.drewN q2)
  have H05 := Lib.hid (H04.out.drewN q2)
  have H15 := Lib.hid (H14.out.drewN q2)
  clear HL4 H04 H14
  generalize w4.drewN q2 = w5 at *
  have k0 : w5.cell? ⟨gb, 0, none⟩ = some (.int .u32 v) := H05.out.cell 0
  have k1 : w5.cell? ⟨gb, 1, none⟩ = some (.int .u32 A) := H05.out.cell 1
  generalize G16 L4 (off + 10) = s at *
  go_wp2_with fail
  refine (fixWide_w s v A _ hsm.1 hsm.2 hpr.1 hpr.2 n0 n1).mono ?_
  rintro r w' ⟨rfl, rfl⟩
  go_wp2_with fail
  refine (put16_at off n c 10 _ 10 rfl (by omega) h hN hsr.1 hsr.2 HL5.out.own).mono ?_
  rintro r w6 ⟨rfl, hl⟩
  rw [HAD.out] at hl
  have HL6 := Lib.hid (HL5.out.laid hl)
  have H06 := Lib.hid (H05.out.grown hl.grow hne)
  have H16 := Lib.hid (H15.out.grown hl.grow hnf)
  clear hl k0 k1 HL5 H05 H15
  have k0 : w6.cell? ⟨gb, 0, none⟩ = some (.int .u32 v) := H06.out.cell 0
  have k1 : w6.cell? ⟨gb, 1, none⟩ = some (.int .u32 A) := H06.out.cell 1
  have k2 : w6.cell? ⟨gb, 2, none⟩ = some (.int .u16 wp) := H06.out.cell 2
  have k3 : w6.cell? ⟨gb, 3, none⟩ = some (.int .u16 P) := H06.out.cell 3
  have r0 : w6.cell? ⟨gr, 0, none⟩ = some (.int .u32 0) := H16.out.cell 0
  have r1 : w6.cell? ⟨gr, 1, none⟩ = some (.int .u32 0) := H16.out.cell 1
  have r2 : w6.cell? ⟨gr, 2, none⟩ = some (.int .u16 0) := H16.out.cell 2
  have r3 : w6.cell? ⟨gr, 3, none⟩ = some (.int .u16 0) := H16.out.cell 3
  have rf0 : w6.frozen? ⟨gr, 0, none⟩ = false := H16.out.frozen 0
  have rf1 : w6.frozen? ⟨gr, 1, none⟩ = false := H16.out.frozen 1
  have rf2 : w6.frozen? ⟨gr, 2, none⟩ = false := H16.out.frozen 2
  have rf3 : w6.frozen? ⟨gr, 3, none⟩ = false := H16.out.frozen 3
  have HF := Lib.hid ((((HL6.out.setN hgf hnf 0 (.int .u32 v)).setN hgf hnf 1 (.int .u32 A)).setN hgf hnf 2 (.int .u16 wp)).setN hgf hnf 3 (.int .u16 P))
  have HR := Lib.hid (show Blk ((((w6.setCell ⟨gr, 0, none⟩ (.int .u32 v)).setCell ⟨gr, 1, none⟩ (.int .u32 A)).setCell ⟨gr, 2, none⟩ (.int .u16 wp)).setCell ⟨gr, 3, none⟩ (.int .u16 P)) gr 79 #[.int .u32 v, .int .u32 A, .int .u16 wp, .int .u16 P] from (((H16.out.set 0 (.int .u32 v)).set 1 (.int .u32 A)).set 2 (.int .u16 wp)).set 3 (.int .u16 P))
  clear HL6 H06 H16
  go_wp2
  exact bodyPost_ret (res_cell1 Try.results75 _ _ rfl HR.out sChange) rfl ⟨rfl, HF.out⟩
set_option maxHeartbeats 4000000 in
theorem layUdp_any (off n c e : Nat) (wa A wp P : Int) (he : e ≤ 1) (hi : 8 ≤ n) (h : off + n ≤ N) (hN : N ≤ 1000000) (a0 : 0 ≤ wa) (a1 : wa ≤ 4294967295) (n0 : 0 ≤ A) (n1 : A ≤ 4294967295) (p0 : 0 ≤ wp) (p1 : wp ≤ 65535) (q0 : 0 ≤ P) (q1 : P ≤ 65535) (hO : Own w base (some ⟨g, 0, none⟩) N C L) :
    Calls Try.prog 77 #[.slice (some ⟨g, off, none⟩) n c, .int .i64 e, .agg #[.int .u32 wa, .int .u32 A, .int .u16 wp, .int .u16 P]] w fun r w' => r = .returned (.tuple #[]) ∧ Lz w w' base g N C (udR L off (ePt e) wa A P) := by
  have hgl := hO.gl.2
  have hby := hO.byt
  have hpt : ePt e = 0 ∨ ePt e = 2 := by unfold ePt; split <;> simp
  have hpr := G16_range L hby (off + ePt e)
  have HPT := Lib.hid (fun W => portAt_any e he W)
  have hb2 := P16_byte hby (off + ePt e) q0 q1
  have hs := G16_range _ hb2 (off + 6)
  have hfx := FxC_range (G16 (P16 L (off + ePt e) P) (off + 6)) wa A (G16 L (off + ePt e)) P hs.1 hs.2 a0 a1 n0 n1 hpr.1 hpr.2 q0 q1
  obtain ⟨L9, hL9⟩ : ∃ x, udR L off (ePt e) wa A P = x := ⟨_, rfl⟩
  rw [hL9]
  unfold udR at hL9
  generalize ePt e = p at *
  obtain ⟨v, hv⟩ : ∃ v, G16 L (off + p) = v := ⟨_, rfl⟩
  rw [hv] at hL9 hfx hpr
  have HV := Lib.hid hv
  have HL9 := Lib.hid hL9
  clear hv hL9 hby
  go_enter Try.func77, Try.ntmps77
  go_upto_region 1 with fail
  have hb1 := ball w (.cells #[.int .u32 wa, .int .u32 A, .int .u16 wp, .int .u16 P] 79)
  have H0 := Lib.hid (Blk.new w 79 #[.int .u32 wa, .int .u32 A, .int .u16 wp, .int .u16 P])
  have HL := Lib.hid ((Lz.refl hO).below hb1)
  have hgb : w.heap.size ≤ w.heap.size := Nat.le_refl _
  have hne : w.heap.size ≠ g := by omega
  clear hb1 hO
  generalize w.alloc (.cells #[.int .u32 wa, .int .u32 A, .int .u16 wp, .int .u16 P] 79) = w1 at *
  obtain ⟨gb, hgq⟩ : ∃ x, x = w.heap.size := ⟨_, rfl⟩
  rw [← hgq] at H0 hne
  rw [← hgq]
  have hge : w.heap.size ≤ gb := by omega
  clear hgq hgb
  have k0 : w1.cell? ⟨gb, 0, none⟩ = some (.int .u32 wa) := H0.out.cell 0
  have k1 : w1.cell? ⟨gb, 1, none⟩ = some (.int .u32 A) := H0.out.cell 1
  have k2 : w1.cell? ⟨gb, 2, none⟩ = some (.int .u16 wp) := H0.out.cell 2
  have k3 : w1.cell? ⟨gb, 3, none⟩ = some (.int .u16 P) := H0.out.cell 3
  go_upto_region 1 with fail
  go_region_with ((first
    | (go_at_call 88; refine (HPT.out _).mono ?_; rintro r w' ⟨rfl, rfl⟩)
    | (go_at_call 87; refine (layPort_any off n c _ p wa A wp P rfl (by omega) h hN q0 q1 (HL.out.own.drewN 1)).mono ?_; rintro r w2 ⟨rfl, hl⟩; rw [HV.out]; have hk2 := hl.kp.blk (H0.out.drewN 1) (by simpa using hne); have k0 := hk2.cell 0; have k1 := hk2.cell 1; have k2 := hk2.cell 2; have k3 := hk2.cell 3; have z0 := hk2.frozen 0; have z1 := hk2.frozen 1; have z2 := hk2.frozen 2; have z3 := hk2.frozen 3; simp only [List.getElem?_toArray, List.getElem?_cons_zero, List.getElem?_cons_succ] at k0 k1 k2 k3)))
  all_goals
    have HL3 := Lib.hid ((((((HL.out.drewN 1).then hl).setN hge hne 0 (.int .u32 wa)).setN hge hne 1 (.int .u32 A)).setN hge hne 2 (.int .u16 v)).setN hge hne 3 (.int .u16 P))
    have H03 := Lib.hid (show Blk _ gb 79 #[.int .u32 wa, .int .u32 A, .int .u16 v, .int .u16 P] from (((hk2.set 0 (.int .u32 wa)).set 1 (.int .u32 A)).set 2 (.int .u16 v)).set 3 (.int .u16 P))
    clear hl hk2 HL H0 k0 k1 k2 k3 z0 z1 z2 z3
    generalize (((w2.setCell ⟨gb, 0, none⟩ (.int .u32 wa)).setCell ⟨gb, 1, none⟩ (.int .u32 A)).setCell ⟨gb, 2, none⟩ (.int .u16 v)).setCell ⟨gb, 3, none⟩ (.int .u16 P) = w3 at *
    generalize P16 L (off + p) P = L2 at *
    go_wp2_with fail
    refine (get16_at off n c 6 6 rfl (by omega) h hN HL3.out.own).mono ?_
    rintro r w' ⟨rfl, q, rfl⟩
    have HL4 := Lib.hid (HL3.out.drewN q)
    have H04 := Lib.hid (H03.out.drewN q)
    clear HL3 H03
    generalize w3.drewN q = w4 at *
    generalize G16 L2 (off + 6) = s at *
    by_cases hs0 : s = 0
    · have h9 := HL9.out
      subst hs0
      rw [if_neg (by simp)] at h9
      have HF := Lib.hid (show Lz w w4 base g N C L9 by rw [← h9]; exact HL4.out)
      clear h9
      go_wp2
      go_end0
      exact ⟨rfl, HF.out⟩
    · have h9 := HL9.out
      rw [if_pos hs0] at h9
      have H9 := Lib.hid h9
      have s1 : (s != 0) = true := by simpa using hs0
      have s2 : (s == 0) = false := by simpa using hs0
      have hn0 := no0_range _ hfx.1 hfx.2
      clear h9 hs0
      have k0 : w4.cell? ⟨gb, 0, none⟩ = some (.int .u32 wa) := H04.out.cell 0
      have k1 : w4.cell? ⟨gb, 1, none⟩ = some (.int .u32 A) := H04.out.cell 1
      have k2 : w4.cell? ⟨gb, 2, none⟩ = some (.int .u16 v) := H04.out.cell 2
      have k3 : w4.cell? ⟨gb, 3, none⟩ = some (.int .u16 P) := H04.out.cell 3
      go_wp2_with fail
      refine (fixed_any s wa A v P _ hs.1 hs.2 a0 a1 n0 n1 hpr.1 hpr.2 q0 q1).mono ?_
      rintro r w5 ⟨rfl, hb5⟩
      have HL5 := Lib.hid (HL4.out.below hb5)
      clear hb5 HL4
      go_wp2_with fail
      refine (notNought_any _ _).mono ?_
      rintro r w' ⟨rfl, rfl⟩
      go_wp2_with fail
      refine (put16_at off n c 6 _ 6 rfl (by omega) h hN (by omega) hn0.2 HL5.out.own).mono ?_
      rintro r w6 ⟨rfl, hl6⟩
      rw [H9.out] at hl6
      have HF := Lib.hid (HL5.out.laid hl6)
      clear hl6
      go_wp2
      go_end0
      exact ⟨rfl, HF.out⟩
set_option maxHeartbeats 4000000 in
theorem layTcp_any (off n c e : Nat) (wa A wp P : Int) (he : e ≤ 1) (hi : 8 ≤ n) (h : off + n ≤ N) (hN : N ≤ 1000000) (a0 : 0 ≤ wa) (a1 : wa ≤ 4294967295) (n0 : 0 ≤ A) (n1 : A ≤ 4294967295) (p0 : 0 ≤ wp) (p1 : wp ≤ 65535) (q0 : 0 ≤ P) (q1 : P ≤ 65535) (hO : Own w base (some ⟨g, 0, none⟩) N C L) :
    Calls Try.prog 78 #[.slice (some ⟨g, off, none⟩) n c, .int .i64 e, .agg #[.int .u32 wa, .int .u32 A, .int .u16 wp, .int .u16 P]] w fun r w' => r = .returned (.tuple #[]) ∧ Lz w w' base g N C (tcR L off n (ePt e) wa A P) := by
  have hgl := hO.gl.2
  have hby := hO.byt
  have hpt : ePt e = 0 ∨ ePt e = 2 := by unfold ePt; split <;> simp
  have hpr := G16_range L hby (off + ePt e)
  have HPT := Lib.hid (fun W => portAt_any e he W)
  have hb2 := P16_byte hby (off + ePt e) q0 q1
  have hs := G16_range _ hb2 (off + 16)
  have hfx := FxC_range (G16 (P16 L (off + ePt e) P) (off + 16)) wa A (G16 L (off + ePt e)) P hs.1 hs.2 a0 a1 n0 n1 hpr.1 hpr.2 q0 q1
  obtain ⟨L9, hL9⟩ : ∃ x, tcR L off n (ePt e) wa A P = x := ⟨_, rfl⟩
  rw [hL9]
  unfold tcR at hL9
  generalize ePt e = p at *
  obtain ⟨v, hv⟩ : ∃ v, G16 L (off + p) = v := ⟨_, rfl⟩
  rw [hv] at hL9 hfx hpr
  have HV := Lib.hid hv
  have HL9 := Lib.hid hL9
  clear hv hL9 hby
  go_enter Try.func78, Try.ntmps78
  go_upto_region 1 with fail
  have hb1 := ball w (.cells #[.int .u32 wa, .int .u32 A, .int .u16 wp, .int .u16 P] 79)
  have H0 := Lib.hid (Blk.new w 79 #[.int .u32 wa, .int .u32 A, .int .u16 wp, .int .u16 P])
  have HL := Lib.hid ((Lz.refl hO).below hb1)
  have hgb : w.heap.size ≤ w.heap.size := Nat.le_refl _
  have hne : w.heap.size ≠ g := by omega
  clear hb1 hO
  generalize w.alloc (.cells #[.int .u32 wa, .int .u32 A, .int .u16 wp, .int .u16 P] 79) = w1 at *
  obtain ⟨gb, hgq⟩ : ∃ x, x = w.heap.size := ⟨_, rfl⟩
  rw [← hgq] at H0 hne
  rw [← hgq]
  have hge : w.heap.size ≤ gb := by omega
  clear hgq hgb
  have k0 : w1.cell? ⟨gb, 0, none⟩ = some (.int .u32 wa) := H0.out.cell 0
  have k1 : w1.cell? ⟨gb, 1, none⟩ = some (.int .u32 A) := H0.out.cell 1
  have k2 : w1.cell? ⟨gb, 2, none⟩ = some (.int .u16 wp) := H0.out.cell 2
  have k3 : w1.cell? ⟨gb, 3, none⟩ = some (.int .u16 P) := H0.out.cell 3
  go_upto_region 1 with fail
  go_region_with ((first
    | (go_at_call 88; refine (HPT.out _).mono ?_; rintro r w' ⟨rfl, rfl⟩)
    | (go_at_call 87; refine (layPort_any off n c _ p wa A wp P rfl (by omega) h hN q0 q1 (HL.out.own.drewN 1)).mono ?_; rintro r w2 ⟨rfl, hl⟩; rw [HV.out]; have hk2 := hl.kp.blk (H0.out.drewN 1) (by simpa using hne); have k0 := hk2.cell 0; have k1 := hk2.cell 1; have k2 := hk2.cell 2; have k3 := hk2.cell 3; have z0 := hk2.frozen 0; have z1 := hk2.frozen 1; have z2 := hk2.frozen 2; have z3 := hk2.frozen 3; simp only [List.getElem?_toArray, List.getElem?_cons_zero, List.getElem?_cons_succ] at k0 k1 k2 k3)))
  all_goals
    have HL3 := Lib.hid ((((((HL.out.drewN 1).then hl).setN hge hne 0 (.int .u32 wa)).setN hge hne 1 (.int .u32 A)).setN hge hne 2 (.int .u16 v)).setN hge hne 3 (.int .u16 P))
    have H03 := Lib.hid (show Blk _ gb 79 #[.int .u32 wa, .int .u32 A, .int .u16 v, .int .u16 P] from (((hk2.set 0 (.int .u32 wa)).set 1 (.int .u32 A)).set 2 (.int .u16 v)).set 3 (.int .u16 P))
    clear hl hk2 HL H0 k0 k1 k2 k3 z0 z1 z2 z3
    generalize (((w2.setCell ⟨gb, 0, none⟩ (.int .u32 wa)).setCell ⟨gb, 1, none⟩ (.int .u32 A)).setCell ⟨gb, 2, none⟩ (.int .u16 v)).setCell ⟨gb, 3, none⟩ (.int .u16 P) = w3 at *
    generalize P16 L (off + p) P = L2 at *
    by_cases h18 : 18 ≤ n
    · have h9 := HL9.out
      rw [if_pos h18] at h9
      have H9 := Lib.hid h9
      have i18 : (18 : Int) ≤ (n : Int) := by omega
      have j18 : decide ((18 : Int) ≤ (n : Int)) = true := decide_eq_true i18
      clear h9
      go_wp2_with fail
      refine (get16_at off n c 16 16 rfl (by omega) h hN HL3.out.own).mono ?_
      rintro r w' ⟨rfl, q, rfl⟩
      have HL4 := Lib.hid (HL3.out.drewN q)
      have H04 := Lib.hid (H03.out.drewN q)
      clear HL3 H03
      generalize w3.drewN q = w4 at *
      generalize G16 L2 (off + 16) = s at *
      have k0 : w4.cell? ⟨gb, 0, none⟩ = some (.int .u32 wa) := H04.out.cell 0
      have k1 : w4.cell? ⟨gb, 1, none⟩ = some (.int .u32 A) := H04.out.cell 1
      have k2 : w4.cell? ⟨gb, 2, none⟩ = some (.int .u16 v) := H04.out.cell 2
      have k3 : w4.cell? ⟨gb, 3, none⟩ = some (.int .u16 P) := H04.out.cell 3
      go_wp2_with fail
      refine (fixed_any s wa A v P _ hs.1 hs.2 a0 a1 n0 n1 hpr.1 hpr.2 q0 q1).mono ?_
      rintro r w5 ⟨rfl, hb5⟩
      have HL5 := Lib.hid (HL4.out.below hb5)
      clear hb5 HL4
      go_wp2_with fail
      refine (put16_at off n c 16 _ 16 rfl (by omega) h hN hfx.1 hfx.2 HL5.out.own).mono ?_
      rintro r w6 ⟨rfl, hl6⟩
      rw [H9.out] at hl6
      have HF := Lib.hid (HL5.out.laid hl6)
      clear hl6
      go_wp2
      go_end0
      exact ⟨rfl, HF.out⟩
    · have h9 := HL9.out
      rw [if_neg h18] at h9
      have i18 : ¬ (18 : Int) ≤ (n : Int) := by omega
      have j18 : decide ((18 : Int) ≤ (n : Int)) = false := decide_eq_false i18
      have HF := Lib.hid (show Lz w w3 base g N C L9 by rw [← h9]; exact HL3.out)
      clear h9
      go_wp2
      go_end0
      exact ⟨rfl, HF.out⟩
set_option maxHeartbeats 4000000 in
theorem layEcho_any (off n c : Nat) (wa A wp P : Int) (hi : 6 ≤ n) (h : off + n ≤ N) (hN : N ≤ 1000000) (q0 : 0 ≤ P) (q1 : P ≤ 65535) (hO : Own w base (some ⟨g, 0, none⟩) N C L) :
    Calls Try.prog 79 #[.slice (some ⟨g, off, none⟩) n c, .agg #[.int .u32 wa, .int .u32 A, .int .u16 wp, .int .u16 P]] w fun r w' => r = .returned (.tuple #[]) ∧ Lz w w' base g N C (ecR L off P) := by
  have hgl := hO.gl.2
  have hby := hO.byt
  have hpr := G16_range L hby (off + 4)
  have hb2 := P16_byte hby (off + 4) q0 q1
  have hs := G16_range _ hb2 (off + 2)
  have hfx := Fx_range (G16 (P16 L (off + 4) P) (off + 2)) (G16 L (off + 4)) P hs.1 hs.2 hpr.1 hpr.2 q0 q1
  obtain ⟨L9, hL9⟩ : ∃ x, ecR L off P = x := ⟨_, rfl⟩
  rw [hL9]
  unfold ecR at hL9
  obtain ⟨v, hv⟩ : ∃ v, G16 L (off + 4) = v := ⟨_, rfl⟩
  rw [hv] at hL9 hfx hpr
  have HV := Lib.hid hv
  have H9 := Lib.hid hL9
  have hn0 := no0_range _ hfx.1 hfx.2
  clear hv hL9 hby
  go_enter Try.func79, Try.ntmps79
  go_upto_region 1 with fail
  have hb1 := ball w (.cells #[.int .u32 wa, .int .u32 A, .int .u16 wp, .int .u16 P] 79)
  have H0 := Lib.hid (Blk.new w 79 #[.int .u32 wa, .int .u32 A, .int .u16 wp, .int .u16 P])
  have HL := Lib.hid ((Lz.refl hO).below hb1)
  have hgb : w.heap.size ≤ w.heap.size := Nat.le_refl _
  have hne : w.heap.size ≠ g := by omega
  clear hb1 hO
  generalize w.alloc (.cells #[.int .u32 wa, .int .u32 A, .int .u16 wp, .int .u16 P] 79) = w1 at *
  obtain ⟨gb, hgq⟩ : ∃ x, x = w.heap.size := ⟨_, rfl⟩
  rw [← hgq] at H0 hne
  rw [← hgq]
  have hge : w.heap.size ≤ gb := by omega
  clear hgq hgb
  have k0 : w1.cell? ⟨gb, 0, none⟩ = some (.int .u32 wa) := H0.out.cell 0
  have k1 : w1.cell? ⟨gb, 1, none⟩ = some (.int .u32 A) := H0.out.cell 1
  have k2 : w1.cell? ⟨gb, 2, none⟩ = some (.int .u16 wp) := H0.out.cell 2
  have k3 : w1.cell? ⟨gb, 3, none⟩ = some (.int .u16 P) := H0.out.cell 3
  go_wp2_with fail
  refine (layPort_any off n c 4 4 wa A wp P rfl (by omega) h hN q0 q1 HL.out.own).mono ?_
  rintro r w2 ⟨rfl, hl⟩
  rw [HV.out]
  have hk2 := hl.kp.blk H0.out (by simpa using hne)
  clear k0 k1 k2 k3
  have k0 : w2.cell? ⟨gb, 0, none⟩ = some (.int .u32 wa) := hk2.cell 0
  have k1 : w2.cell? ⟨gb, 1, none⟩ = some (.int .u32 A) := hk2.cell 1
  have k2 : w2.cell? ⟨gb, 2, none⟩ = some (.int .u16 wp) := hk2.cell 2
  have k3 : w2.cell? ⟨gb, 3, none⟩ = some (.int .u16 P) := hk2.cell 3
  have z0 : w2.frozen? ⟨gb, 0, none⟩ = false := hk2.frozen 0
  have z1 : w2.frozen? ⟨gb, 1, none⟩ = false := hk2.frozen 1
  have z2 : w2.frozen? ⟨gb, 2, none⟩ = false := hk2.frozen 2
  have z3 : w2.frozen? ⟨gb, 3, none⟩ = false := hk2.frozen 3
  go_upto_region 2 with fail
  have HL3 := Lib.hid (((((HL.out.then hl).setN hge hne 0 (.int .u32 wa)).setN hge hne 1 (.int .u32 A)).setN hge hne 2 (.int .u16 v)).setN hge hne 3 (.int .u16 P))
  have H03 := Lib.hid (show Blk _ gb 79 #[.int .u32 wa, .int .u32 A, .int .u16 v, .int .u16 P] from (((hk2.set 0 (.int .u32 wa)).set 1 (.int .u32 A)).set 2 (.int .u16 v)).set 3 (.int .u16 P))
  clear hl hk2 HL H0 k0 k1 k2 k3 z0 z1 z2 z3
  generalize (((w2.setCell ⟨gb, 0, none⟩ (.int .u32 wa)).setCell ⟨gb, 1, none⟩ (.int .u32 A)).setCell ⟨gb, 2, none⟩ (.int .u16 v)).setCell ⟨gb, 3, none⟩ (.int .u16 P) = w3 at *
  generalize P16 L (off + 4) P = L2 at *
  go_wp2_with fail
  refine (get16_at off n c 2 2 rfl (by omega) h hN HL3.out.own).mono ?_
  rintro r w' ⟨rfl, q, rfl⟩
  have HL4 := Lib.hid (HL3.out.drewN q)
  have H04 := Lib.hid (H03.out.drewN q)
  clear HL3 H03
  generalize w3.drewN q = w4 at *
  generalize G16 L2 (off + 2) = s at *
  have k0 : w4.cell? ⟨gb, 0, none⟩ = some (.int .u32 wa) := H04.out.cell 0
  have k1 : w4.cell? ⟨gb, 1, none⟩ = some (.int .u32 A) := H04.out.cell 1
  have k2 : w4.cell? ⟨gb, 2, none⟩ = some (.int .u16 v) := H04.out.cell 2
  have k3 : w4.cell? ⟨gb, 3, none⟩ = some (.int .u16 P) := H04.out.cell 3
  go_wp2_with fail
  refine (fix_fx s v P _ hs.1 hs.2 hpr.1 hpr.2 q0 q1).mono ?_
  rintro r w' ⟨rfl, rfl⟩
  go_wp2_with fail
  refine (notNought_any _ _).mono ?_
  rintro r w' ⟨rfl, rfl⟩
  go_wp2_with fail
  refine (put16_at off n c 2 _ 2 rfl (by omega) h hN (by omega) hn0.2 HL4.out.own).mono ?_
  rintro r w6 ⟨rfl, hl6⟩
  rw [H9.out] at hl6
  have HF := Lib.hid (HL4.out.laid hl6)
  clear hl6
  go_wp2
  go_end0
  exact ⟨rfl, HF.out⟩
end
end Go.Proofs.Ytdkjipfemnfckaa
