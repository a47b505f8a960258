/-
  PlaceLives: its walk.
-/
import Derived.Test.YtgengboaoniogaaPlA
namespace Go.Proofs.Ytgengboaoniogaa
open Go.RowKit Plain
set_option linter.unusedVariables false
set_option maxRecDepth 100000
set_option linter.unusedSimpArgs false

/-- the state of the loop: the Word of the place -/
structure LV (w0 : World) (gp gc gn : Nat) (nw : Wd) (W : World) : Prop where
  pl : PlB W gp gc gn 1 [nw.num, 0]
  can : nw.can = true
  ng : w0.heap.size ≤ gn
  bel : Below w0.heap.size w0 W
/-- in a round: what was there, and what is to be there -/
structure LR (w0 : World) (g8 g9 gp gc gn : Nat) (nw z : Wd) (W : World) : Prop where
  b8 : Blk W g8 51 #[.int .i64 nw.st, .int .i64 nw.gn, .int .i64 nw.tr, .int .i64 nw.sn]
  b9 : Blk W g9 51 #[.int .i64 z.st, .int .i64 z.gn, .int .i64 z.tr, .int .i64 z.sn]
  pl : PlB W gp gc gn 1 [nw.num, 0]
  can : nw.can = true
  ng : w0.heap.size ≤ gn
  n8 : g8 ≠ gn
  bel : Below w0.heap.size w0 W
section
variable {w0 : World} {g8 g9 gp gc gn : Nat} {nw z z' : Wd} {W W' : World}
theorem LV.below (h : LV w0 gp gc gn nw W) (hb : Below W.heap.size W W') : LV w0 gp gc gn nw W' := ⟨h.pl.below hb, h.can, h.ng, bthen h.bel hb⟩
theorem LR.below (h : LR w0 g8 g9 gp gc gn nw z W) (hb : Below W.heap.size W W') : LR w0 g8 g9 gp gc gn nw z W' := ⟨h.b8.below hb, h.b9.below hb, h.pl.below hb, h.can, h.ng, h.n8, bthen h.bel hb⟩
/-- another Word at the second place -/
theorem LR.put (h : LR w0 g8 g9 gp gc gn nw z W) (hk : Keep [g9] W W') (hb : Blk W' g9 51 #[.int .i64 z'.st, .int .i64 z'.gn, .int .i64 z'.tr, .int .i64 z'.sn]) (h1 : g8 ≠ g9) (h2 : gp ≠ g9) (h3 : gc ≠ g9) (h4 : gn ≠ g9) (h5 : w0.heap.size ≤ g9) : LR w0 g8 g9 gp gc gn nw z' W' :=
  ⟨hk.blk h.b8 (by simpa using h1), hb, h.pl.keep hk (by simpa using h2) (by simpa using h3) (by simpa using h4), h.can, h.ng, h.n8, hk.below h.bel (Nat.le_refl _) (by simpa using h5)⟩
end

theorem Blk.s0 {w : World} {g : Nat} {t : TypeId} {x0 x1 x2 x3 : Value} (h : Blk w g t #[x0, x1, x2, x3]) (v : Value) : Blk (w.setCell ⟨g, 0, none⟩ v) g t #[v, x1, x2, x3] := h.set 0 v
theorem Blk.s3 {w : World} {g : Nat} {t : TypeId} {x0 x1 x2 x3 : Value} (h : Blk w g t #[x0, x1, x2, x3]) (v : Value) : Blk (w.setCell ⟨g, 3, none⟩ v) g t #[x0, x1, x2, v] := h.set 3 v
/-- what may follow, by what is there -/
theorem may_ways {o x : Wd} (h : o.may x = true) : (o.st = 0 ∧ x.st = 1 ∧ x.gn = (o.gn + 1) % 65536) ∨ (o.st = 1 ∧ (x.st = 2 ∨ x.st = 0) ∧ x.gn = o.gn ∧ x.sn = o.sn) ∨ (o.st = 2 ∧ (x.st = 2 ∨ x.st = 3) ∧ x.gn = o.gn ∧ o.sn ≤ x.sn) ∨ (o.st = 3 ∧ x.st = 0 ∧ x.gn = o.gn) := by
  have hc := (can_iff o).1 (may_can h).1
  unfold Wd.may at h
  simp only [Bool.and_eq_true] at h
  have hw := h.2
  unfold Wd.way at hw
  by_cases h0 : o.st = 0
  · rw [if_pos h0] at hw
    simp only [Bool.and_eq_true, decide_eq_true_eq] at hw
    exact .inl ⟨h0, hw⟩
  rw [if_neg h0] at hw
  by_cases h1 : o.st = 1
  · rw [if_pos h1] at hw
    simp only [Bool.or_eq_true, decide_eq_true_eq] at hw
    rcases hw with rfl | rfl
    · exact .inr (.inl ⟨h1, .inl rfl, rfl, rfl⟩)
    · exact .inr (.inl ⟨h1, .inr rfl, rfl, rfl⟩)
  rw [if_neg h1] at hw
  by_cases h2 : o.st = 2
  · rw [if_pos h2] at hw
    simp only [Wd.again, Bool.or_eq_true, Bool.and_eq_true, decide_eq_true_eq] at hw
    rcases hw with ⟨⟨a, b⟩, c⟩ | rfl
    · exact .inr (.inr (.inl ⟨h2, .inl a, b, c⟩))
    · exact .inr (.inr (.inl ⟨h2, .inr rfl, rfl, Int.le_refl _⟩))
  rw [if_neg h2] at hw
  simp only [decide_eq_true_eq] at hw
  subst hw
  exact .inr (.inr (.inr ⟨by omega, rfl, rfl⟩))

set_option maxHeartbeats 8000000 in
theorem placeLives_walk (A : Option Addr) (n c : Nat) (V : Nat → Av) (w : World) (hnc : n ≤ c) (hm : c ≤ maxLen) (hR : RdA w A n V) :
    Calls Try.prog 9 #[.slice A n c] w fun e w' => e = .returned (.bool true) ∧ Below w.heap.size w w' := by
  unfold maxLen at hm
  have HR := Lib.hid hR
  clear hR
  have HN := Lib.hid (fun W => pnew_any 1 (by omega) (by omega) W)
  go_enter Try.func9, Try.ntmps9
  go_wp2_with fail
  refine (HN.out _).mono ?_
  rintro e w1 ⟨rfl, hp, hb, hs⟩
  have H1 := Lib.hid hp
  have HB1 := Lib.hid hb
  clear hb hp HN hs
  go_wp2_with fail
  refine (moves_any _).mono ?_
  rintro e w2 ⟨rfl, hb⟩
  have F0 := Lib.hid (show LV w (w.heap.size + 2) (w.heap.size + 1) w.heap.size wz w2 from ⟨H1.out.below hb, by decide, Nat.le_refl _, bthen HB1.out hb⟩)
  clear hb H1 HB1
  go_upto_region 5 with fail
  generalize w.heap.size + 2 = gp at *
  generalize w.heap.size + 1 = gc at *
  obtain ⟨gn, hgn⟩ : ∃ g, g = w.heap.size := ⟨_, rfl⟩
  rw [← hgn] at F0
  clear hgn
  go_wp2
  go_loopw [5, 6, 7, 8, 9, 10] (fun s5 s6 s7 s8 s9 s10 wr => ∃ (k md : Nat) (nw : Wd), s5 = .int .i64 md ∧ s6 = .int .i64 k ∧ k ≤ n ∧ k ≤ 80 ∧ md ≤ k ∧ nw.gn = (md : Int) % 65536 ∧ LV w gp gc gn nw wr) (fun _ i _ _ _ _ _ => 80 - (intOf i).toNat)
  case atStart => exact ⟨0, 0, wz, rfl, rfl, by omega, by omega, by omega, rfl, F0.out⟩
  case round =>
    obtain ⟨k, md, nw, rfl, rfl, hk, h80, hmd, hgn, hF⟩ := hrel
    have HF := Lib.hid hF
    have HG := Lib.hid hgn
    clear hF F0 hgn
    by_cases hlt : k < n
    · by_cases hlt2 : k < 80
      · obtain ⟨b, off, rfl, hbl, hc⟩ := HR.out (by omega)
        obtain ⟨hok, hcell⟩ := hc k hlt
        have cell : ∀ j v, (V k).cs[j]? = some v → wr.cell? ⟨b, off + (k * 13 + j), none⟩ = some v := fun j v h => (HF.out.bel.cell (p := ⟨b, off + (k * 13 + j), none⟩) hbl).trans (hcell j v h)
        generalize V k = x at *
        obtain ⟨wh, ii, ⟨o0, o1, o2, o3⟩, ⟨x0, x1, x2, x3⟩, kp, ka, ko⟩ := x
        have c0 := cell 0 _ rfl
        have c1 := cell 1 _ rfl
        have c2 := cell 2 _ rfl
        have c3 := cell 3 _ rfl
        have c4 := cell 4 _ rfl
        have c5 := cell 5 _ rfl
        have c6 := cell 6 _ rfl
        have c7 := cell 7 _ rfl
        have c8 := cell 8 _ rfl
        have c9 := cell 9 _ rfl
        have c10 := cell 10 _ rfl
        have c11 := cell 11 _ rfl
        have c12 := cell 12 _ rfl
        simp only [Nat.add_zero, ← Nat.add_assoc] at c0 c1 c2 c3 c4 c5 c6 c7 c8 c9 c10 c11 c12
        clear cell hcell hc
        have HX := Lib.hid hok
        clear hok
        go_upto_region 9 with fail
        have B7 := Lib.hid (Blk.new wr 83 #[.int .i64 wh, .int .i64 ii, .int .i64 o0, .int .i64 o1, .int .i64 o2, .int .i64 o3, .int .i64 x0, .int .i64 x1, .int .i64 x2, .int .i64 x3, .int .i64 kp, .int .u32 ka, .int .u16 ko])
        have F7 := Lib.hid (HF.out.below (ball wr (.cells #[.int .i64 wh, .int .i64 ii, .int .i64 o0, .int .i64 o1, .int .i64 o2, .int .i64 o3, .int .i64 x0, .int .i64 x1, .int .i64 x2, .int .i64 x3, .int .i64 kp, .int .u32 ka, .int .u16 ko] 83)))
        clear HF c0 c1 c2 c3 c4 c5 c6 c7 c8 c9 c10 c11 c12
        generalize wr.alloc (.cells #[.int .i64 wh, .int .i64 ii, .int .i64 o0, .int .i64 o1, .int .i64 o2, .int .i64 o3, .int .i64 x0, .int .i64 x1, .int .i64 x2, .int .i64 x3, .int .i64 kp, .int .u32 ka, .int .u16 ko] 83) = w7 at *
        generalize wr.heap.size = g7 at *
        have HLD := Lib.hid (pf_load F7.out.pl F7.out.can)
        have HTO := Lib.hid (to_any ⟨x0, x1, x2, x3⟩)
        obtain ⟨n0, n1, n2, n3⟩ := nw
        simp only [Wd.v4] at HLD HTO
        go_wp2_with fail
        refine HLD.out.mono ?_
        rintro e w8 ⟨rfl, hp, hb⟩
        have B8 := Lib.hid (B7.out.below hb)
        have F8 := Lib.hid (F7.out.below hb)
        clear hp hb HLD B7 F7
        have BA := Lib.hid (B8.out.alloc (.cells #[.int .i64 n0, .int .i64 n1, .int .i64 n2, .int .i64 n3] 51))
        have BN := Lib.hid (Blk.new w8 51 #[.int .i64 n0, .int .i64 n1, .int .i64 n2, .int .i64 n3])
        have FA := Lib.hid (F8.out.below (ball w8 (.cells #[.int .i64 n0, .int .i64 n1, .int .i64 n2, .int .i64 n3] 51)))
        have lt8 := F8.out.pl.lt
        have sz8 := F8.out.bel.size
        clear B8 F8
        obtain ⟨q6, q7, q8, q9⟩ := (show (w8.alloc (.cells #[.int .i64 n0, .int .i64 n1, .int .i64 n2, .int .i64 n3] 51)).cell? ⟨g7, 6, none⟩ = some (.int .i64 x0) ∧ (w8.alloc (.cells #[.int .i64 n0, .int .i64 n1, .int .i64 n2, .int .i64 n3] 51)).cell? ⟨g7, 7, none⟩ = some (.int .i64 x1) ∧ (w8.alloc (.cells #[.int .i64 n0, .int .i64 n1, .int .i64 n2, .int .i64 n3] 51)).cell? ⟨g7, 8, none⟩ = some (.int .i64 x2) ∧ (w8.alloc (.cells #[.int .i64 n0, .int .i64 n1, .int .i64 n2, .int .i64 n3] 51)).cell? ⟨g7, 9, none⟩ = some (.int .i64 x3) from ⟨BA.out.cell 6, BA.out.cell 7, BA.out.cell 8, BA.out.cell 9⟩)
        go_upto_region 10 with fail
        obtain ⟨g8, hg8⟩ : ∃ g, g = w8.heap.size := ⟨_, rfl⟩
        rw [← hg8] at lt8 sz8 BN
        rw [← hg8]
        generalize w8.alloc (.cells #[.int .i64 n0, .int .i64 n1, .int .i64 n2, .int .i64 n3] 51) = wa8 at *
        clear hg8
        go_wp2_with fail
        refine (HTO.out _).mono ?_
        rintro e w9 ⟨rfl, hb⟩
        have L9 := Lib.hid (show LR w g8 w9.heap.size gp gc gn ⟨n0, n1, n2, n3⟩ ⟨x0, x1, x2, x3⟩ (w9.alloc (.cells #[.int .i64 x0, .int .i64 x1, .int .i64 x2, .int .i64 x3] 51)) from
          ⟨(BN.out.below hb).alloc _, Blk.new w9 _ _, (FA.out.pl.below hb).alloc _, FA.out.can, FA.out.ng, by omega, (bthen FA.out.bel hb).alloc (bthen FA.out.bel hb).size _⟩)
        have B79 := Lib.hid ((BA.out.below hb).alloc (.cells #[.int .i64 x0, .int .i64 x1, .int .i64 x2, .int .i64 x3] 51))
        have l89 := (BN.out.below hb).lt
        have l79 := (BA.out.below hb).lt
        have lp9 := (FA.out.pl.below hb).lt
        have sz9 := (bthen FA.out.bel hb).size
        clear hb BA BN FA HTO q6 q7 q8 q9
        go_upto_region 11 with fail
        obtain ⟨g9, hg9⟩ : ∃ g, g = w9.heap.size := ⟨_, rfl⟩
        rw [← hg9] at L9 l89 l79 lp9 sz9
        rw [← hg9]
        generalize w9.alloc (.cells #[.int .i64 x0, .int .i64 x1, .int .i64 x2, .int .i64 x3] 51) = wa9 at *
        clear hg9
        have q0 := B79.out.cell 0
        have q6 := B79.out.cell 6
        have q8 := B79.out.cell 8
        have q9 := B79.out.cell 9
        simp only [List.getElem?_toArray, List.getElem?_cons_zero, List.getElem?_cons_succ] at q0 q6 q8 q9
        obtain ⟨k0, k1, k2, k3⟩ := L9.out.b8.c4
        obtain ⟨j0, j1, j2, j3⟩ := L9.out.b9.c4
        simp only at k0 k1 k2 k3 j0 j1 j2 j3
        have f0 := L9.out.b9.frozen 0
        have f1 := L9.out.b9.frozen 1
        have f2 := L9.out.b9.frozen 2
        have f3 := L9.out.b9.frozen 3
        have bn := (can_iff _).1 L9.out.can
        simp only at bn
        go_upto_if 43 with fail
        go_cut [] (fun wx => ∃ z : Wd, LR w g8 g9 gp gc gn ⟨n0, n1, n2, n3⟩ z wx)
        case first =>
          go_wp2_with fail
          · go_meet
            refine ⟨⟨wrap64 ((IntKind.u64.wrap x0).tmod 4), (n1 + 1) % 65536, wrap64 ((IntKind.u64.wrap x2).tmod 8), wrap64 ((IntKind.u64.wrap x3).tmod 1000)⟩, L9.out.put ?_ (((L9.out.b9.c4set (.int .i64 n0) (.int .i64 n1) (.int .i64 n2) (.int .i64 n3)).s0 (.int .i64 (wrap64 ((IntKind.u64.wrap x0).tmod 4)))).c4set (.int .i64 (wrap64 ((IntKind.u64.wrap x0).tmod 4))) (.int .i64 ((n1 + 1) % 65536)) (.int .i64 (wrap64 ((IntKind.u64.wrap x2).tmod 8))) (.int .i64 (wrap64 ((IntKind.u64.wrap x3).tmod 1000)))) (by omega) (by omega) (by omega) (by omega) (by omega)⟩
            repeat (first | (with_reducible exact Keep.refl _ _) | (with_reducible refine Keep.setCell ?_ (.inl (by simp)) _))
          · go_meet
            refine ⟨⟨wrap64 ((IntKind.u64.wrap x0).tmod 4), n1, n2, wrap64 ((IntKind.u64.wrap x3).tmod 1000)⟩, L9.out.put ?_ (((L9.out.b9.c4set (.int .i64 n0) (.int .i64 n1) (.int .i64 n2) (.int .i64 n3)).s0 (.int .i64 (wrap64 ((IntKind.u64.wrap x0).tmod 4)))).s3 (.int .i64 (wrap64 ((IntKind.u64.wrap x3).tmod 1000)))) (by omega) (by omega) (by omega) (by omega) (by omega)⟩
            repeat (first | (with_reducible exact Keep.refl _ _) | (with_reducible refine Keep.setCell ?_ (.inl (by simp)) _))
          · go_meet
            refine ⟨⟨wrap64 ((IntKind.u64.wrap x0).tmod 4), n1, n2, n3⟩, L9.out.put ?_ ((L9.out.b9.c4set (.int .i64 n0) (.int .i64 n1) (.int .i64 n2) (.int .i64 n3)).s0 (.int .i64 (wrap64 ((IntKind.u64.wrap x0).tmod 4)))) (by omega) (by omega) (by omega) (by omega) (by omega)⟩
            repeat (first | (with_reducible exact Keep.refl _ _) | (with_reducible refine Keep.setCell ?_ (.inl (by simp)) _))
          · go_meet
            exact ⟨_, L9.out⟩
        case rest =>
          obtain ⟨z, hL⟩ := hcut
          have HL := Lib.hid hL
          clear hL L9 B79 k0 k1 k2 k3 j0 j1 j2 j3 f0 f1 f2 f3 q0 q6 q8 q9 HX
          obtain ⟨z0, z1, z2, z3⟩ := z
          obtain ⟨k0, k1, k2, k3⟩ := HL.out.b8.c4
          obtain ⟨j0, j1, j2, j3⟩ := HL.out.b9.c4
          simp only at k0 k1 k2 k3 j0 j1 j2 j3
          by_cases hmay : (Wd.mk n0 n1 n2 n3).may ⟨z0, z1, z2, z3⟩ = true
          · have HCA := Lib.hid (pf_cas HL.out.pl HL.out.can ⟨n0, n1, n2, n3⟩ ⟨z0, z1, z2, z3⟩ true (by rw [hmay]; simp) ⟨z0, z1, z2, z3⟩ rfl)
            have hw := may_ways hmay
            have hzc := (may_can hmay).2
            simp only [Wd.v4] at HCA hw
            have HW := Lib.hid hw
            have HZ := Lib.hid hzc
            clear hmay hw hzc
            go_wp2_with fail
            refine HCA.out.mono ?_
            rintro e w' ⟨rfl, hp, hk⟩
            have B8 := Lib.hid (hk.blk HL.out.b8 (by simpa using HL.out.n8))
            have hbw := hk.below HL.out.bel (Nat.le_refl _) (by simpa using HL.out.ng)
            have F := Lib.hid (show LV w gp gc gn ⟨z0, z1, z2, z3⟩ w' from ⟨hp, HZ.out, HL.out.ng, hbw⟩)
            clear hp hk HCA HL hbw k0 k1 k2 k3 j0 j1 j2 j3
            have HLD := Lib.hid (pf_load F.out.pl F.out.can)
            simp only [Wd.v4] at HLD
            go_wp2_with fail
            refine HLD.out.mono ?_
            rintro e w'' ⟨rfl, hp, hb⟩
            have F2 := Lib.hid (F.out.below hb)
            have B82 := Lib.hid (B8.out.below hb)
            clear hp hb HLD F B8
            obtain ⟨k0, k1, k2, k3⟩ := (B82.out.alloc (.cells #[.int .i64 z0, .int .i64 z1, .int .i64 z2, .int .i64 z3] 51)).c4
            have F3 := Lib.hid (F2.out.below (ball w'' (.cells #[.int .i64 z0, .int .i64 z1, .int .i64 z2, .int .i64 z3] 51)))
            have B10 := Lib.hid (Blk.new w'' 51 #[.int .i64 z0, .int .i64 z1, .int .i64 z2, .int .i64 z3])
            go_upto_region 24 with fail
            clear F2 B82
            generalize w''.alloc (.cells #[.int .i64 z0, .int .i64 z1, .int .i64 z2, .int .i64 z3] 51) = wx at *
            generalize w''.heap.size = g10 at *
            obtain ⟨i0, i1, i2, i3⟩ := B10.out.c4
            have hgn : n1 = (md : Int) % 65536 := HG.out
            rcases HW.out with ⟨h0, h1, h2⟩ | ⟨h0, h1, h2, h3⟩ | ⟨h0, h1, h2, h3⟩ | ⟨h0, h1, h2⟩
            · have h2' : z1 = ((md : Int) + 1) % 65536 := by rw [h2, hgn]; omega
              clear h2 HW HG HZ
              subst h0 h1 h2'
              go_wp2
              go_roundw
              case rel => exact ⟨k + 1, md + 1, _, by go_num, by go_num, by omega, by omega, by omega, by simp, F3.out⟩
              case measure => simp [intOf]; omega
            · have h2' : z1 = (md : Int) % 65536 := by rw [h2, hgn]
              clear h2 HW HG HZ
              subst h0 h2' h3
              rcases h1 with h1 | h1
              · subst h1
                go_wp2
                go_roundw
                case rel => exact ⟨k + 1, md, _, rfl, by go_num, by omega, by omega, by omega, by simp, F3.out⟩
                case measure => simp [intOf]; omega
              · subst h1
                go_wp2
                go_roundw
                case rel => exact ⟨k + 1, md, _, rfl, by go_num, by omega, by omega, by omega, by simp, F3.out⟩
                case measure => simp [intOf]; omega
            · have h2' : z1 = (md : Int) % 65536 := by rw [h2, hgn]
              have h3' : decide (z3 < n3) = false := by simp; omega
              clear h2 HW HG HZ
              subst h0 h2'
              rcases h1 with h1 | h1
              · subst h1
                go_wp2
                go_roundw
                case rel => exact ⟨k + 1, md, _, rfl, by go_num, by omega, by omega, by omega, by simp, F3.out⟩
                case measure => simp [intOf]; omega
              · subst h1
                go_wp2
                go_roundw
                case rel => exact ⟨k + 1, md, _, rfl, by go_num, by omega, by omega, by omega, by simp, F3.out⟩
                case measure => simp [intOf]; omega
            · have h2' : z1 = (md : Int) % 65536 := by rw [h2, hgn]
              clear h2 HW HG HZ
              subst h0 h1 h2'
              go_wp2
              go_roundw
              case rel => exact ⟨k + 1, md, _, rfl, by go_num, by omega, by omega, by omega, by simp, F3.out⟩
              case measure => simp [intOf]; omega
          · have hmf : (Wd.mk n0 n1 n2 n3).may ⟨z0, z1, z2, z3⟩ = false := by simpa using hmay
            have HCA := Lib.hid (pf_cas HL.out.pl HL.out.can ⟨n0, n1, n2, n3⟩ ⟨z0, z1, z2, z3⟩ false (by rw [hmf]; simp) ⟨n0, n1, n2, n3⟩ rfl)
            simp only [Wd.v4] at HCA
            clear hmay hmf
            go_wp2_with fail
            refine HCA.out.mono ?_
            rintro e w' ⟨rfl, hp, hk⟩
            have B8 := hk.blk HL.out.b8 (by simpa using HL.out.n8)
            have hbw := hk.below HL.out.bel (Nat.le_refl _) (by simpa using HL.out.ng)
            have F := Lib.hid (show LV w gp gc gn ⟨n0, n1, n2, n3⟩ w' from ⟨hp, HL.out.can, HL.out.ng, hbw⟩)
            have HB8 := Lib.hid B8
            clear B8 hp hk HCA HL hbw k0 k1 k2 k3 j0 j1 j2 j3
            have HLD := Lib.hid (fun W (h : PlB W gp gc gn 1 [(Wd.mk n0 n1 n2 n3).num, 0]) => pf_load h F.out.can)
            simp only [Wd.v4] at HLD
            go_upto_region 19 with fail
            have B80 := HB8.out
            have P0 := F.out.pl.drew
            have r80 : ∀ W, Blk W g8 51 #[.int .i64 n0, .int .i64 n1, .int .i64 n2, .int .i64 n3] → W.cell? ⟨g8, 0, none⟩ = some (.int .i64 n0) := fun W h => h.cell 0
            have r81 : ∀ W, Blk W g8 51 #[.int .i64 n0, .int .i64 n1, .int .i64 n2, .int .i64 n3] → W.cell? ⟨g8, 1, none⟩ = some (.int .i64 n1) := fun W h => h.cell 1
            have r82 : ∀ W, Blk W g8 51 #[.int .i64 n0, .int .i64 n1, .int .i64 n2, .int .i64 n3] → W.cell? ⟨g8, 2, none⟩ = some (.int .i64 n2) := fun W h => h.cell 2
            have r83 : ∀ W, Blk W g8 51 #[.int .i64 n0, .int .i64 n1, .int .i64 n2, .int .i64 n3] → W.cell? ⟨g8, 3, none⟩ = some (.int .i64 n3) := fun W h => h.cell 3
            go_region_held3 (fun W => Blk W g8 51 #[.int .i64 n0, .int .i64 n1, .int .i64 n2, .int .i64 n3])
              (first | (exact B80) | (exact Blk.below (by assumption) (by assumption)))
              (first
                | (go_at_call 29; refine (HLD.out _ (by assumption)).mono ?_; rintro e w1' ⟨rfl, hPn, hbh⟩))
            have F9 := Lib.hid ((F.out.below (bdrew _)).below hbh)
            clear hPn hbh
            go_wp2
            go_roundw
            case rel => exact ⟨k + 1, md, _, rfl, by go_num, by omega, by omega, by omega, HG.out, F9.out⟩
            case measure => simp [intOf]; omega
      · go_wp2
        go_ret
        exact ⟨rfl, HF.out.bel⟩
    · obtain rfl : k = n := by omega
      go_wp2
      go_ret
      exact ⟨rfl, HF.out.bel⟩
end Go.Proofs.Ytgengboaoniogaa
