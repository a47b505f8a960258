/-
  PlaceFirst: its walk.
-/
import Derived.Test.YtgengboaoniogaaPlF
namespace Go.Proofs.Ytgengboaoniogaa
open Go.RowKit Plain
set_option linter.unusedVariables false
set_option maxRecDepth 100000
set_option linter.unusedSimpArgs false

/-- the round's state: the Word from which all would change, the one that is there -/
structure FS (w0 : World) (g2 g7 gp gc gn : Nat) (o nw : Wd) (W : World) : Prop where
  b2 : Blk W g2 48 #[.int .i64 o.st, .int .i64 o.gn, .int .i64 o.tr, .int .i64 o.sn]
  b7 : Blk W g7 48 #[.int .i64 nw.st, .int .i64 nw.gn, .int .i64 nw.tr, .int .i64 nw.sn]
  pl : PlB W gp gc gn 1 [nw.num, 0]
  can : nw.can = true
  n2 : g2 ≠ gn
  n7 : g7 ≠ gn
  p7 : g7 ≠ gp
  c7 : g7 ≠ gc
  n27 : g2 ≠ g7
  ng : w0.heap.size ≤ gn
  n7g : w0.heap.size ≤ g7
  bel : Below w0.heap.size w0 W
section
variable {w0 : World} {g2 g7 gp gc gn : Nat} {o nw : Wd} {W W' : World}
theorem FS.below (h : FS w0 g2 g7 gp gc gn o nw W) (hb : Below W.heap.size W W') : FS w0 g2 g7 gp gc gn o nw W' :=
  ⟨h.b2.below hb, h.b7.below hb, h.pl.below hb, h.can, h.n2, h.n7, h.p7, h.c7, h.n27, h.ng, h.n7g, bthen h.bel hb⟩
theorem FS.drew (h : FS w0 g2 g7 gp gc gn o nw W) : FS w0 g2 g7 gp gc gn o nw W.drew := h.below (bdrew W)
/-- behind a Cas -/
theorem FS.cas (h : FS w0 g2 g7 gp gc gn o nw W) {x : Wd} {W' : World} {g9 : Nat} (hp : PlB W' gp gc gn 1 [nw.num, 0]) (hs : S3 w0 g2 g7 g9 gn o nw x W') : FS w0 g2 g7 gp gc gn o nw W' :=
  ⟨hs.b2, hs.b7, hp, h.can, h.n2, h.n7, h.p7, h.c7, h.n27, h.ng, h.n7g, hs.bel⟩
end

set_option maxHeartbeats 8000000 in
theorem placeFirst_walk (y : Wd) (A : Option Addr) (n c : Nat) (V : Nat → Nat → Value) (w : World) (hy : y.ok) (hnc : n ≤ c) (hm : c ≤ maxLen) (hR : RdS wdK w A n V) :
    Calls Try.prog 10 #[y.val, .slice A n c] w fun e w' => e = .returned (.bool true) ∧ Below w.heap.size w w' := by
  unfold maxLen at hm
  have HR := Lib.hid hR
  clear hR
  obtain ⟨ya, yb, yc, yd⟩ := y
  simp only [Wd.v4]
  have HRI := Lib.hid (rright_any ⟨1, 1, yc, yd⟩)
  have HTO := Lib.hid (to_any ⟨1, 1, yc, yd⟩)
  have hcan := (can_iff ⟨1, 1, yc, yd⟩)
  obtain ⟨cc, hcc⟩ : ∃ cc, cc = (Wd.mk 1 1 yc yd).can := ⟨_, rfl⟩
  rw [← hcc] at HRI
  simp only [Wd.v4] at HRI HTO
  have HCC := Lib.hid hcc
  have HN := Lib.hid (fun W => pnew_any 1 (by omega) (by omega) W)
  clear hcan hy hcc
  go_enter Try.func10, Try.ntmps10
  go_wp2_with fail
  refine (HN.out _).mono ?_
  rintro e w1 ⟨rfl, hp, hb, hs⟩
  have b2 := (Blk.new w 48 #[.int .i64 ya, .int .i64 yb, .int .i64 yc, .int .i64 yd]).below hb
  have hb1 := bthen (ball w _) hb
  obtain ⟨k0, k1, k2, k3⟩ := b2.c4
  have f0 := b2.frozen 0
  have f1 := b2.frozen 1
  have H1 := Lib.hid hp
  have B2 := Lib.hid b2
  have HB1 := Lib.hid hb1
  have hs' := hs
  rw [World.size_alloc] at hs'
  rw [World.size_alloc] at H1
  clear hb hp hb1 b2 HN hs
  go_upto_region 3 with fail
  have B3 := Lib.hid ((B2.out.set 0 (.int .i64 1)).set 1 (.int .i64 1))
  have H3 := Lib.hid (show PlB ((w1.setCell ⟨w.heap.size, 0, none⟩ (.int .i64 1)).setCell ⟨w.heap.size, 1, none⟩ (.int .i64 1)) (w.heap.size + 1 + 2) (w.heap.size + 1 + 1) (w.heap.size + 1) 1 [0, 0] from
    H1.out.keep (bs := [w.heap.size]) (((Keep.refl _ w1).setCell (p := ⟨w.heap.size, 0, none⟩) (.inl (by simp)) _).setCell (p := ⟨w.heap.size, 1, none⟩) (.inl (by simp)) _) (by rw [List.mem_singleton]; omega) (by rw [List.mem_singleton]; omega) (by rw [List.mem_singleton]; omega))
  have HB3 := Lib.hid ((HB1.out.setCell (p := ⟨w.heap.size, 0, none⟩) (Nat.le_refl _) (.int .i64 1)).setCell (p := ⟨w.heap.size, 1, none⟩) (Nat.le_refl _) (.int .i64 1))
  clear k0 k1 k2 k3 f0 f1 H1 B2 HB1 hs'
  generalize (w1.setCell ⟨w.heap.size, 0, none⟩ (.int .i64 1)).setCell ⟨w.heap.size, 1, none⟩ (.int .i64 1) = w3 at *
  obtain ⟨g2, hg2⟩ : ∃ g, g = w.heap.size := ⟨_, rfl⟩
  rw [← hg2] at B3 H3
  rw [← hg2]
  have hg2' : w.heap.size ≤ g2 := by omega
  clear hg2
  go_wp2_with fail
  refine (moves_any _).mono ?_
  rintro e w4 ⟨rfl, hb⟩
  have B4 := Lib.hid (B3.out.below hb)
  have H4 := Lib.hid (H3.out.below hb)
  have HB4 := Lib.hid (bthen HB3.out hb)
  obtain ⟨k0, k1, k2, k3⟩ := B4.out.c4
  simp only [List.setIfInBounds_toArray, List.set_cons_zero, List.set_cons_succ] at k0 k1 k2 k3 B4
  clear hb B3 H3 HB3
  go_wp2_with fail
  refine (HRI.out _).mono ?_
  rintro e w5 ⟨rfl, hb⟩
  have B5 := Lib.hid (B4.out.below hb)
  have H5 := Lib.hid (H4.out.below hb)
  have HB5 := Lib.hid (bthen HB4.out hb)
  clear hb B4 H4 HB4 k0 k1 k2 k3 HRI
  cases cc
  · go_wp2_with fail
    refine (moves_any _).mono ?_
    rintro e w6 ⟨rfl, hb⟩
    have HB6 := Lib.hid (bthen HB5.out hb)
    clear hb
    go_wp2
    go_ret
    exact ⟨rfl, HB6.out⟩
  have hC : (Wd.mk 1 1 yc yd).can = true := HCC.out.symm
  have HC := Lib.hid hC
  clear HCC
  obtain ⟨k0, k1, k2, k3⟩ := B5.out.c4
  go_wp2_with fail
  refine (HTO.out _).mono ?_
  rintro e w6 ⟨rfl, hb⟩
  have B6 := Lib.hid (B5.out.below hb)
  have H6 := Lib.hid (H5.out.below hb)
  have HB6 := Lib.hid (bthen HB5.out hb)
  clear hb B5 H5 HB5 k0 k1 k2 k3
  have HCA := Lib.hid (pf_cas (nw := wz) H6.out (by decide) wz ⟨1, 1, yc, yd⟩ true (by
    have e : wz.may ⟨1, 1, yc, yd⟩ = true := by unfold Wd.may; rw [HC.out, show wz.can = true by decide]; rfl
    rw [e]; rfl) ⟨1, 1, yc, yd⟩ rfl)
  rw [show wz.val = .agg #[.int .i64 0, .int .i64 0, .int .i64 0, .int .i64 0] from rfl, Wd.v4] at HCA
  go_wp2_with fail
  refine (HCA.out).mono ?_
  rintro e w7 ⟨rfl, hp, hk⟩
  have B7 := Lib.hid (hk.blk B6.out (by simp))
  have HB7 := Lib.hid (hk.below HB6.out (Nat.le_refl _) (by simp; omega))
  have H7 := Lib.hid hp
  obtain ⟨k0, k1, k2, k3⟩ := B7.out.c4
  clear hp hk B6 H6 HB6 HCA
  go_upto_region 8 with fail
  have l7 := H7.out.lt
  have b7 := B7.out.lt
  have F0 := Lib.hid (show FS w g2 w7.heap.size (g2 + 1 + 2) (g2 + 1 + 1) (g2 + 1) ⟨1, 1, yc, yd⟩ ⟨1, 1, yc, yd⟩ (w7.alloc (.cells #[.int .i64 1, .int .i64 1, .int .i64 yc, .int .i64 yd] 48)) from
    ⟨B7.out.alloc _, Blk.new w7 _ _, H7.out.alloc _, HC.out, by omega, by omega, by omega, by omega, by omega, by omega, HB7.out.size, HB7.out.alloc HB7.out.size _⟩)
  clear B7 H7 HB7 k0 k1 k2 k3 HTO
  generalize w7.alloc (.cells #[.int .i64 1, .int .i64 1, .int .i64 yc, .int .i64 yd] 48) = w8 at *
  generalize w7.heap.size = g7 at *
  generalize g2 + 1 + 2 = gp at *
  generalize g2 + 1 + 1 = gc at *
  generalize g2 + 1 = gn at *
  clear l7 b7
  go_wp2
  go_loopw [8, 9, 10] (fun s8 s9 s10 wr => ∃ (k : Nat) (nw : Wd), s8 = .int .i64 k ∧ k ≤ n ∧ k ≤ 40 ∧ FS w g2 g7 gp gc gn ⟨1, 1, yc, yd⟩ nw wr) (fun i _ _ _ => 40 - (intOf i).toNat)
  case atStart => exact ⟨0, _, rfl, by omega, by omega, F0.out⟩
  case round =>
    obtain ⟨k, nw, rfl, hk, h40, hF⟩ := hrel
    have HF := Lib.hid hF
    clear hF F0
    by_cases hlt : k < n
    · by_cases hlt2 : k < 40
      · obtain ⟨b, off, x, rfl, hbl, hxo, c0, c1, c2, c3⟩ := HR.out.wd HF.out.bel k hlt
        obtain ⟨x0, x1, x2, x3⟩ := x
        simp only at c0 c1 c2 c3
        obtain ⟨q0, q1, q2, q3⟩ := HF.out.b2.c4
        go_upto_region 12 with fail
        have lt2 := HF.out.b2.lt
        have lt7 := HF.out.b7.lt
        obtain ⟨ltp, ltc, ltn⟩ := HF.out.pl.lt
        have n2 := HF.out.n2
        have n7 := HF.out.n7
        have n27 := HF.out.n27
        have F5 := Lib.hid (HF.out.below (ball wr (.cells #[.int .i64 x0, .int .i64 x1, .int .i64 x2, .int .i64 x3] 48)))
        have B9 := Lib.hid (Blk.new wr 48 #[.int .i64 x0, .int .i64 x1, .int .i64 x2, .int .i64 x3])
        have lt0 := HF.out.bel.size
        obtain ⟨g9, hg9⟩ : ∃ g, g = wr.heap.size := ⟨_, rfl⟩
        rw [← hg9] at B9 lt2 lt7 ltp ltc ltn lt0
        rw [← hg9]
        clear hg9 HF c0 c1 c2 c3 q0 q1 q2 q3
        generalize wr.alloc (.cells #[.int .i64 x0, .int .i64 x1, .int .i64 x2, .int .i64 x3] 48) = w5 at *
        obtain ⟨q0, q1, q2, q3⟩ := F5.out.b2.c4
        obtain ⟨k0, k1, k2, k3⟩ := B9.out.c4
        have f1 := B9.out.frozen 1
        have f2 := B9.out.frozen 2
        have f3 := B9.out.frozen 3
        simp only at q0 q1 q2 q3
        go_upto_if 56 with fail
        go_cut [] (fun wx => ∃ z : Wd, S3 w g2 g7 g9 gn ⟨1, 1, yc, yd⟩ nw z wx ∧ PlB wx gp gc gn 1 [nw.num, 0])
        case first =>
          by_cases he : (k : Int) % 2 = 0
          · have he' : ((k : Int) % 2 == 0) = true := by simpa using he
            go_upto_region 13 with fail
            go_region
            have K5 := (((Keep.refl [g9] w5).setCell (p := ⟨g9, 1, none⟩) (.inl (by simp)) (.int .i64 1)).setCell (p := ⟨g9, 2, none⟩) (.inl (by simp)) (.int .i64 yc)).setCell (p := ⟨g9, 3, none⟩) (.inl (by simp)) (.int .i64 yd)
            have B99 := Lib.hid (((B9.out.set 1 (.int .i64 1)).set 2 (.int .i64 yc)).set 3 (.int .i64 yd))
            have P99 := Lib.hid (F5.out.pl.keep K5 (by simp; omega) (by simp; omega) (by simp; omega))
            have S99 := Lib.hid (show S3 w g2 g7 g9 gn ⟨1, 1, yc, yd⟩ nw ⟨x0, 1, yc, yd⟩ _ from ⟨K5.blk F5.out.b2 (by simp; omega), K5.blk F5.out.b7 (by simp; omega), B99.out, n2, n7, by omega, F5.out.ng, K5.below F5.out.bel (Nat.le_refl _) (by simp; omega)⟩)
            clear K5 k0 k1 k2 k3 f1 f2 f3 q0 q1 q2 q3 B99
            generalize ((w5.setCell ⟨g9, 1, none⟩ (Value.int IntKind.i64 1)).setCell ⟨g9, 2, none⟩ (Value.int IntKind.i64 yc)).setCell ⟨g9, 3, none⟩ (Value.int IntKind.i64 yd) = w9 at *
            go_wp2_with fail
            go_meet
            exact ⟨_, S99.out.drew, P99.out.drew⟩
          · have he' : ((k : Int) % 2 == 0) = false := by simpa using he
            go_wp2_with fail
            go_meet
            exact ⟨⟨x0, x1, x2, x3⟩, ⟨F5.out.b2, F5.out.b7, B9.out, n2, n7, by omega, F5.out.ng, F5.out.bel⟩, F5.out.pl⟩
        case rest =>
          obtain ⟨z, hS, hP⟩ := hcut
          have HS := Lib.hid hS
          have HP := Lib.hid hP
          have hcn := F5.out.can
          have HFF := F5.out
          have HCN := Lib.hid hcn
          have HF5 := Lib.hid HFF
          clear hS hP B9 k0 k1 k2 k3 f1 f2 f3 q0 q1 q2 q3 hcn HFF F5
          obtain ⟨q0, q1, q2, q3⟩ := HS.out.b2.c4
          obtain ⟨k0, k1, k2, k3⟩ := HS.out.b7.c4
          obtain ⟨j0, j1, j2, j3⟩ := HS.out.b9.c4
          simp only at q0 q1 q2 q3
          have HRM := Lib.hid (rmay_any ⟨1, 1, yc, yd⟩ z)
          obtain ⟨v, hv⟩ : ∃ v, v = (decide (nw = ⟨1, 1, yc, yd⟩) && (Wd.mk 1 1 yc yd).may z) := ⟨_, rfl⟩
          have HV := Lib.hid hv
          clear hv
          go_upto_region 14 with fail
          go_cut [10] (fun s10 wx => s10 = .bool v ∧ S3 w g2 g7 g9 gn ⟨1, 1, yc, yd⟩ nw z wx ∧ PlB wx gp gc gn 1 [nw.num, 0])
          case first =>
            obtain ⟨z0, z1, z2, z3⟩ := z
            by_cases hn : nw = ⟨1, 1, yc, yd⟩
            · subst hn
              simp only at k0 k1 k2 k3 j0 j1 j2 j3
              have HV' := Lib.hid (show v = (Wd.mk 1 1 yc yd).may ⟨z0, z1, z2, z3⟩ by rw [HV.out]; simp)
              clear HV
              simp only [Wd.v4] at HRM
              go_wp2_with fail
              refine (HRM.out _).mono ?_
              rintro e w' ⟨rfl, hb⟩
              rw [← HV'.out]
              have HB := Lib.hid hb
              clear hb
              go_wp2_with fail
              go_meet
              exact ⟨rfl, HS.out.below HB.out, HP.out.below HB.out⟩
            · have hv0 : v = false := by rw [HV.out]; simp [hn]
              subst hv0
              obtain ⟨n0, n1, n2', n3⟩ := nw
              simp only at k0 k1 k2 k3 j0 j1 j2 j3
              have HN := Lib.hid hn
              clear hn HV HRM
              go_wp2_with fail
              all_goals first
                | (go_meet; exact ⟨rfl, HS.out, HP.out⟩)
                | (exfalso; apply HN.out; simp [*])
          case rest =>
            obtain ⟨rfl, hS, hP⟩ := hcut
            have HS2 := Lib.hid hS
            have HP2 := Lib.hid hP
            clear hS hP HS HP q0 q1 q2 q3 k0 k1 k2 k3 j0 j1 j2 j3 HRM
            have HT1 := Lib.hid (to_any ⟨1, 1, yc, yd⟩)
            have HT2 := Lib.hid (to_any z)
            obtain ⟨nw', hnw'⟩ : ∃ nw', nw' = if v then z else nw := ⟨_, rfl⟩
            have HNW := Lib.hid hnw'
            clear hnw'
            go_upto_region 15 with fail
            go_cut [81] (fun s81 wx => s81 = .bool false ∧ S3 w g2 g7 g9 gn ⟨1, 1, yc, yd⟩ nw z wx ∧ PlB wx gp gc gn 1 [nw'.num, 0])
            case first =>
              obtain ⟨z0, z1, z2, z3⟩ := z
              simp only [Wd.v4] at HT1 HT2
              have S0 := HS2.out
              have P0 := HP2.out.drew
              clear HS2 HP2
              have r20 : ∀ W, S3 w g2 g7 g9 gn ⟨1, 1, yc, yd⟩ nw ⟨z0, z1, z2, z3⟩ W → W.cell? ⟨g2, 0, none⟩ = some (.int .i64 1) := fun W h => h.b2.cell 0
              have r21 : ∀ W, S3 w g2 g7 g9 gn ⟨1, 1, yc, yd⟩ nw ⟨z0, z1, z2, z3⟩ W → W.cell? ⟨g2, 1, none⟩ = some (.int .i64 1) := fun W h => h.b2.cell 1
              have r22 : ∀ W, S3 w g2 g7 g9 gn ⟨1, 1, yc, yd⟩ nw ⟨z0, z1, z2, z3⟩ W → W.cell? ⟨g2, 2, none⟩ = some (.int .i64 yc) := fun W h => h.b2.cell 2
              have r23 : ∀ W, S3 w g2 g7 g9 gn ⟨1, 1, yc, yd⟩ nw ⟨z0, z1, z2, z3⟩ W → W.cell? ⟨g2, 3, none⟩ = some (.int .i64 yd) := fun W h => h.b2.cell 3
              have r90 : ∀ W, S3 w g2 g7 g9 gn ⟨1, 1, yc, yd⟩ nw ⟨z0, z1, z2, z3⟩ W → W.cell? ⟨g9, 0, none⟩ = some (.int .i64 z0) := fun W h => h.b9.cell 0
              have r91 : ∀ W, S3 w g2 g7 g9 gn ⟨1, 1, yc, yd⟩ nw ⟨z0, z1, z2, z3⟩ W → W.cell? ⟨g9, 1, none⟩ = some (.int .i64 z1) := fun W h => h.b9.cell 1
              have r92 : ∀ W, S3 w g2 g7 g9 gn ⟨1, 1, yc, yd⟩ nw ⟨z0, z1, z2, z3⟩ W → W.cell? ⟨g9, 2, none⟩ = some (.int .i64 z2) := fun W h => h.b9.cell 2
              have r93 : ∀ W, S3 w g2 g7 g9 gn ⟨1, 1, yc, yd⟩ nw ⟨z0, z1, z2, z3⟩ W → W.cell? ⟨g9, 3, none⟩ = some (.int .i64 z3) := fun W h => h.b9.cell 3
              go_region_held3 (fun W => S3 w g2 g7 g9 gn ⟨1, 1, yc, yd⟩ nw ⟨z0, z1, z2, z3⟩ W)
                (first | (with_reducible exact S0.drew) | (with_reducible exact S3.below (by assumption) (by assumption)) | (with_reducible exact S3.keep (by assumption) (by assumption)))
                (first
                  | (go_at_call 20; (with_reducible refine (HT1.out _).mono ?_); rintro e w' ⟨rfl, hbh⟩; have hPn := PlB.below (by assumption) hbh)
                  | (go_at_call 20; (with_reducible refine (HT2.out _).mono ?_); rintro e w' ⟨rfl, hbh⟩; have hPn := PlB.below (by assumption) hbh)
                  | (go_at_call 30; refine (pf_cas (by assumption) HCN.out ⟨1, 1, yc, yd⟩ ⟨z0, z1, z2, z3⟩ v HV.out nw' HNW.out).mono ?_; rintro e w' ⟨rfl, hP9, hk9⟩))
              all_goals
                have H9 := Lib.hid hP9
                clear hP9
                go_wp2_with fail
                go_meet
                exact ⟨by simp, by assumption, H9.out⟩
            case rest =>
              obtain ⟨rfl, hS, hP⟩ := hcut
              have HS3 := Lib.hid hS
              have HP3 := Lib.hid hP
              clear hS hP HS2 HP2
              cases v
              · have hnw : nw' = nw := HNW.out
                subst hnw
                generalize z = zz at *
                have HCM := Lib.hid HCN.out
                obtain ⟨m0, m1, m2, m3⟩ := nw'
                have HS4 := Lib.hid HS3.out
                have HP4 := Lib.hid HP3.out
                clear HS3 HP3 HNW HV HCN HT1 HT2
                go_upto_region 19 with fail
                have HLD := Lib.hid (fun W (h : PlB W gp gc gn 1 [(Wd.mk m0 m1 m2 m3).num, 0]) => pf_load h HCM.out)
                have HFR := Lib.hid (wfrom_any ⟨m0, m1, m2, m3⟩)
                simp only [Wd.v4] at HLD HFR
                have r70 : ∀ W, S3 w g2 g7 g9 gn ⟨1, 1, yc, yd⟩ ⟨m0, m1, m2, m3⟩ zz W → W.cell? ⟨g7, 0, none⟩ = some (.int .i64 m0) := fun W h => h.b7.cell 0
                have r71 : ∀ W, S3 w g2 g7 g9 gn ⟨1, 1, yc, yd⟩ ⟨m0, m1, m2, m3⟩ zz W → W.cell? ⟨g7, 1, none⟩ = some (.int .i64 m1) := fun W h => h.b7.cell 1
                have r72 : ∀ W, S3 w g2 g7 g9 gn ⟨1, 1, yc, yd⟩ ⟨m0, m1, m2, m3⟩ zz W → W.cell? ⟨g7, 2, none⟩ = some (.int .i64 m2) := fun W h => h.b7.cell 2
                have r73 : ∀ W, S3 w g2 g7 g9 gn ⟨1, 1, yc, yd⟩ ⟨m0, m1, m2, m3⟩ zz W → W.cell? ⟨g7, 3, none⟩ = some (.int .i64 m3) := fun W h => h.b7.cell 3
                have S0 := HS4.out
                have P0 := HP4.out.drew
                clear HS4 HP4
                go_region_held3 (fun W => S3 w g2 g7 g9 gn ⟨1, 1, yc, yd⟩ ⟨m0, m1, m2, m3⟩ zz W)
                  (first | (with_reducible exact S0.drew) | (with_reducible exact S3.below (by assumption) (by assumption)))
                  (first
                    | (go_at_call 29; refine (HLD.out _ (by assumption)).mono ?_; rintro e w' ⟨rfl, hPn, hbh⟩)
                    | (go_at_call 23; refine (HFR.out _).mono ?_; rintro e w' ⟨rfl, hbg⟩; have hPm := PlB.below (by assumption) hbg))
                all_goals
                  have HPm := Lib.hid hPm
                  clear hPm
                  go_wp2
                  go_roundw
                  case rel => exact ⟨k + 1, ⟨m0, m1, m2, m3⟩, by go_num, by omega, by omega, ⟨S3.b2 (by assumption), S3.b7 (by assumption), HPm.out, HCM.out, HF5.out.n2, HF5.out.n7, HF5.out.p7, HF5.out.c7, HF5.out.n27, HF5.out.ng, HF5.out.n7g, S3.bel (by assumption)⟩⟩
                  case measure => simp [intOf]; omega
              · have hnw : nw' = z := HNW.out
                have hz : z.can = true := (may_can (o := ⟨1, 1, yc, yd⟩) (x := z) (by have := HV.out.symm; simp only [Bool.and_eq_true] at this; exact this.2)).2
                subst hnw
                have HCM := Lib.hid hz
                clear hz HNW HV HT1 HT2 HCN
                obtain ⟨m0, m1, m2, m3⟩ := nw'
                obtain ⟨n0, n1, n2', n3⟩ := nw
                obtain ⟨k0, k1, k2, k3⟩ := HS3.out.b7.c4
                obtain ⟨j0, j1, j2, j3⟩ := HS3.out.b9.c4
                simp only at k0 k1 k2 k3 j0 j1 j2 j3
                have f0 := HS3.out.b7.frozen 0
                have f1 := HS3.out.b7.frozen 1
                have f2 := HS3.out.b7.frozen 2
                have f3 := HS3.out.b7.frozen 3
                have p7 := HF5.out.p7
                have c7 := HF5.out.c7
                have n7g := HF5.out.n7g
                go_upto_region 19 with fail
                have K7 := ((((Keep.refl [g7] wc).setCell (p := ⟨g7, 0, none⟩) (.inl (by simp)) (.int .i64 m0)).setCell (p := ⟨g7, 1, none⟩) (.inl (by simp)) (.int .i64 m1)).setCell (p := ⟨g7, 2, none⟩) (.inl (by simp)) (.int .i64 m2)).setCell (p := ⟨g7, 3, none⟩) (.inl (by simp)) (.int .i64 m3)
                have B77 := Lib.hid (HS3.out.b7.c4set (.int .i64 m0) (.int .i64 m1) (.int .i64 m2) (.int .i64 m3))
                have HP4 := Lib.hid (HP3.out.keep K7 (by simp; omega) (by simp; omega) (by simp; omega))
                obtain ⟨zz, hzz⟩ : ∃ zz : Wd, zz = ⟨m0, m1, m2, m3⟩ := ⟨_, rfl⟩
                have HS4 := Lib.hid (show S3 w g2 g7 g9 gn ⟨1, 1, yc, yd⟩ ⟨m0, m1, m2, m3⟩ zz _ from ⟨K7.blk HS3.out.b2 (by simp; omega), B77.out, by rw [hzz]; exact K7.blk HS3.out.b9 (by simp; omega), n2, n7, HS3.out.n9, HF5.out.ng, K7.below HS3.out.bel (Nat.le_refl _) (by simp; omega)⟩)
                clear hzz K7 B77 k0 k1 k2 k3 j0 j1 j2 j3 f0 f1 f2 f3 HS3 HP3
                generalize (((wc.setCell ⟨g7, 0, none⟩ (Value.int IntKind.i64 m0)).setCell ⟨g7, 1, none⟩ (Value.int IntKind.i64 m1)).setCell ⟨g7, 2, none⟩ (Value.int IntKind.i64 m2)).setCell ⟨g7, 3, none⟩ (Value.int IntKind.i64 m3) = w9 at *
                have HLD := Lib.hid (fun W (h : PlB W gp gc gn 1 [(Wd.mk m0 m1 m2 m3).num, 0]) => pf_load h HCM.out)
                have HFR := Lib.hid (wfrom_any ⟨m0, m1, m2, m3⟩)
                simp only [Wd.v4] at HLD HFR
                have r70 : ∀ W, S3 w g2 g7 g9 gn ⟨1, 1, yc, yd⟩ ⟨m0, m1, m2, m3⟩ zz W → W.cell? ⟨g7, 0, none⟩ = some (.int .i64 m0) := fun W h => h.b7.cell 0
                have r71 : ∀ W, S3 w g2 g7 g9 gn ⟨1, 1, yc, yd⟩ ⟨m0, m1, m2, m3⟩ zz W → W.cell? ⟨g7, 1, none⟩ = some (.int .i64 m1) := fun W h => h.b7.cell 1
                have r72 : ∀ W, S3 w g2 g7 g9 gn ⟨1, 1, yc, yd⟩ ⟨m0, m1, m2, m3⟩ zz W → W.cell? ⟨g7, 2, none⟩ = some (.int .i64 m2) := fun W h => h.b7.cell 2
                have r73 : ∀ W, S3 w g2 g7 g9 gn ⟨1, 1, yc, yd⟩ ⟨m0, m1, m2, m3⟩ zz W → W.cell? ⟨g7, 3, none⟩ = some (.int .i64 m3) := fun W h => h.b7.cell 3
                have S0 := HS4.out
                have P0 := HP4.out.drew
                clear HS4 HP4
                go_region_held3 (fun W => S3 w g2 g7 g9 gn ⟨1, 1, yc, yd⟩ ⟨m0, m1, m2, m3⟩ zz W)
                  (first | (with_reducible exact S0.drew) | (with_reducible exact S3.below (by assumption) (by assumption)))
                  (first
                    | (go_at_call 29; refine (HLD.out _ (by assumption)).mono ?_; rintro e w' ⟨rfl, hPn, hbh⟩)
                    | (go_at_call 23; refine (HFR.out _).mono ?_; rintro e w' ⟨rfl, hbg⟩; have hPm := PlB.below (by assumption) hbg))
                all_goals
                  have HPm := Lib.hid hPm
                  clear hPm
                  go_wp2
                  go_roundw
                  case rel => exact ⟨k + 1, ⟨m0, m1, m2, m3⟩, by go_num, by omega, by omega, ⟨S3.b2 (by assumption), S3.b7 (by assumption), HPm.out, HCM.out, HF5.out.n2, HF5.out.n7, HF5.out.p7, HF5.out.c7, HF5.out.n27, HF5.out.ng, HF5.out.n7g, S3.bel (by assumption)⟩⟩
                  case measure => simp [intOf]; omega
      · go_wp2
        go_ret
        exact ⟨rfl, HF.out.bel⟩
    · obtain rfl : k = n := by omega
      go_wp2
      go_ret
      exact ⟨rfl, HF.out.bel⟩
end Go.Proofs.Ytgengboaoniogaa
