/-
  PoolBounds: its walk. Conditions stand in each theorem.
-/
import Derived.Test.YtmbceafeonjffaaPqA
namespace Go.Proofs.Ytmbceafeonjffaa
open Go.RowKit Go.Deep Plain
set_option linter.unusedVariables false
set_option linter.unusedSimpArgs false
set_option maxRecDepth 100000
set_option maxHeartbeats 8000000 in
theorem pb_walk (n kind : Int) (A : Option Addr) (len cap : Nat) (L : List A8) (w : World) (hl : L.length = len) (hlc : len ≤ cap) (hcm : cap ≤ maxLen) (hr : RdA8 w A L) (hok : ∀ x ∈ L, x.ok w) :
    Calls Try.prog 5 #[.int .i64 n, .int .i64 kind, .slice A len cap] w fun e w' => e = .returned (.bool true) ∧ Below w.heap.size w w' := by
  obtain ⟨K, hK, hKl⟩ := pickN n 200 (by omega) (by omega)
  have hKn : K < 200 := by omega
  obtain ⟨Q, hQ, hQl⟩ := pickN kind 2 (by omega) (by omega)
  have hQn : Q ≤ 1 := by omega
  have HNW := Lib.hid (fun W => pnew_any (1 + K) (by omega) (by omega) W)
  have hwr := wdsN_rng (1 + K) (by omega) (by omega)
  obtain ⟨N, hN⟩ : ∃ N, wdsN (1 + K) = N := ⟨_, rfl⟩
  rw [hN] at HNW hwr
  have hN32 : N ≤ 7 := by unfold wdsN at hN; omega
  have hN1 : 1 ≤ N := hwr.1
  have hNd : (1 + (K : Int) + 31) / 32 = (N : Int) := by unfold wdsN at hN; omega
  have HSZ := Lib.hid (show 1 + (K : Int) ≤ 32 * (N : Int) by omega)
  rw [show ((1 + K : Nat) : Int) = 1 + (K : Int) by omega] at HNW
  have HL := Lib.hid hl
  have HR := Lib.hid hr
  have HOK := Lib.hid hok
  clear hl hr hok hwr hKl hQl hN
  go_enter Try.func5, Try.ntmps5
  go_upto_region 3 with (go_at_call 9; refine (HNW.out _).mono ?_; rintro e w1 ⟨gp, gc, gn, rfl, hp, hb, hgp, hgc, hgn⟩; have HP := Lib.hid hp; have HB := Lib.hid hb; clear hp hb)
  go_upto_region 9 with (go_at_call 10; refine (takes_any _).mono ?_; rintro e w2 ⟨rfl, hb⟩; have HP2 := Lib.hid (HP.out.below hb); have HB2 := Lib.hid (bthen HB.out hb); clear hb)
  rw [hNd]
  clear hNd
  have HI0 := Lib.hid (show BdI w w2 gp gc gn N (1 + (K : Int)) _ none none 0 0 0 0 from ⟨HP2.out, SgW.nil _ _ _ _, SgW.nil _ _ _ _, (fun g s h t e => (by cases e)), (fun g s e => (by cases e)), by omega, by omega, by omega, HB2.out⟩)
  clear HP HB HP2 HB2 HNW
  go_loopw [6, 11, 12, 13, 14, 15, 16] (fun s6 s11 s12 s13 s14 s15 s16 wr => BdR w gp gc gn N len (1 + (K : Int)) s6 s11 s12 s13 s14 s15 s16 wr) (fun _ _ _ _ _ _ s16 _ => 200 - (intOf s16).toNat)
  case atStart => exact ⟨_, none, none, 0, 0, 0, 0, rfl, rfl, rfl, rfl, rfl, rfl, rfl, Nat.zero_le _, by omega, HI0.out⟩
  case round =>
    obtain ⟨l, own, other, wh, st, ch, i, rfl, rfl, rfl, rfl, rfl, rfl, rfl, hi, hi2, hI⟩ := hrel
    have HI := Lib.hid hI
    clear hI HI0
    by_cases hlt : i < len ∧ i < 200
    · have d1 : decide ((i : Int) < (len : Int)) = true := decide_eq_true (by omega)
      have d2 : decide ((i : Int) < 200) = true := decide_eq_true (by omega)
      obtain ⟨hlt1, hlt2⟩ := hlt
      obtain ⟨b, off, rfl, hbl, hc⟩ := HR.out (by rw [HL.out]; omega)
      have HA := Lib.hid ((hc i (by rw [HL.out]; exact hlt1)).below HI.out.be hbl)
      have HXK := Lib.hid (HOK.out _ (show L.getD i a80 ∈ L by simp [List.getD, show i < L.length by rw [HL.out]; exact hlt1]))
      clear hc
      generalize L.getD i a80 = x at *
      obtain ⟨xw, xk, xf, xm, xA, xn, xc, xz⟩ := x
      unfold A8.cs at HA
      simp only at HA
      have HZ := Lib.hid (Blk.new wr 34 #[.int .i64 0, .int .i64 0, .int .i64 0, .int .i64 0, .slice none 0 0])
      have hal := ball wr (.cells #[.int .i64 0, .int .i64 0, .int .i64 0, .int .i64 0, .slice none 0 0] 34)
      have HAL := Lib.hid hal
      clear hal
      go_upto_region 12 with (first | ((with_reducible refine gd_ldt 34 53 ?_); refine wpList_ldc rfl 34 (.tmp 53) rfl _ rfl _ (HA.out) sA8 ?_) | ((with_reducible refine gd_st 34 17 ?_); refine wpList_st rfl 34 (.tmp 17) _ rfl _ _ rfl _ rfl (HZ.out) sA8.2 (#[.int .i64 xw, .int .i64 xk, .int .i64 xf, .int .i64 xm, .slice xA xn xc]) rfl (Nat.le_of_ble_eq_true rfl) rfl ?_; intro w4 hb4 hg4 hs4))
      have k1 : w4.cell? ⟨wr.heap.size, 1, none⟩ = some (.int .i64 xk) := hb4.cell 1
      have HB4 := Lib.hid hb4
      have HW4 := Lib.hid (bgrown HAL.out hg4 (Nat.le_refl _))
      clear hb4 hg4 hs4 HZ HAL HA
      have HI4 := Lib.hid (HI.out.below HW4.out)
      generalize wr.heap.size = g4 at *
      have hz4 := HI4.out.be.size
      obtain ⟨hw1, hw2, hw3, hw4, hxl, hxc, hxm, hxr⟩ := HXK.out
      simp only at hw1 hw2 hw3 hw4 hxl hxc hxm hxr
      have bd4 := bounds_i64 hw4
      have HX4 := Lib.hid (RdI.below hxr.2 HI4.out.be)
      clear HI HW4 HXK hw1 hw2 hw3 hw4 hxr
      obtain ⟨pb, hpb⟩ : ∃ q, (xk.tmod 2 == 0) = q := ⟨_, rfl⟩
      obtain ⟨qb, hqb⟩ : ∃ q, (xw.tmod 2 == 0) = q := ⟨_, rfl⟩
      go_upto_if 58 with fail
      cases pb
      case true =>
        rcases other with _ | ⟨g', s'⟩
        · have k2 : w4.cell? ⟨g4, 2, none⟩ = some (.int .i64 xf) := HB4.out.cell 2
          have k3 : w4.cell? ⟨g4, 3, none⟩ = some (.int .i64 xm) := HB4.out.cell 3
          have HTK := Lib.hid (pTake_any HI4.out.po hN1 (by omega) xf xm bd4.1 bd4.2)
          go_upto_region 15 with (go_at_call 11; refine (HTK.out).mono ?_; rintro e w5 ⟨wd, mo, hwd, hm1, hm2, _, _, rfl, hst, hb2⟩; have k5 := (hb2.cell (p := ⟨g4, 0, none⟩) HB4.out.lt).trans (HB4.out.cell 0); have HA5 := Lib.hid (HB4.out.below hb2); have HX5 := Lib.hid (HX4.out.below hb2); have HI5 := Lib.hid (HI4.out.newOther hb2 ⟨⟨_, hst, ⟨none, 0, 0, rfl, rfl, Nat.le_refl _, by omega, fun h => absurd h (by omega)⟩⟩, takeP_ok hwd hm2⟩ (Nat.le_refl _)); clear hst hb2)
          generalize w4.heap.size = g5 at *
          have k6 : w5.cell? ⟨g4, 4, none⟩ = some (.slice xA xn xc) := HA5.out.cell 4
          cases qb
          case true =>
            have HFW := Lib.hid (few_any HX5.out hxl hxc hxm)
            clear HTK k2 k3
            go_wp2_with (first | (go_at_call 18; refine (HFW.out).mono ?_; rintro e w6 ⟨A6, m6, c6, rfl, hr6, hl6, hm6, hb6⟩; have HB6 := Lib.hid hb6; have HBK := Lib.hid (pBack_any (cap := c6) (HI5.out.po.below hb6) hN1 (by omega) HSZ.out hr6 hl6 (by omega)); clear hr6 hl6 hb6) | (go_at_call 12; refine (HBK.out).mono ?_; rintro e w7 ⟨g7, rfl, hg7, hs7, hb7⟩; have HI7 := Lib.hid (HI5.out.insteadOther (bthen HB6.out hb7) hs7 (Nat.le_trans HB6.out.size hg7)); clear hs7 hb7 hg7))
            go_roundw
            case rel => exact ⟨l, own, _, wh, st, ch, i + 1, rfl, rfl, rfl, rfl, rfl, rfl, by go_num, by omega, by omega, HI7.out.next⟩
            case measure => simp [intOf]; omega
          case false =>
            clear HTK k2 k3 k6
            go_wp2
            go_roundw
            case rel => exact ⟨l, own, _, wh, st, ch, i + 1, rfl, rfl, rfl, rfl, rfl, rfl, by go_num, by omega, by omega, HI5.out.next⟩
            case measure => simp [intOf]; omega
        · have HCP := Lib.hid (pcopy_any8 HI4.out.po (by omega))
          have hll := HI4.out.po.cl.len
          go_upto_region 18 with (go_at_call 22; refine (HCP.out).mono ?_; rintro e w5 ⟨rfl, hr5, hb5⟩; have HR5 := Lib.hid hr5; have HI5 := Lib.hid (HI4.out.below hb5); clear hr5 hb5)
          have hg5 : w4.heap.size < w5.heap.size := HR5.out.lt
          have hg5b : w.heap.size ≤ w4.heap.size := hz4
          generalize w4.heap.size = g5 at *
          have hg5c : g5 ∉ [gn, g'] := by
            have q1 := blkT HR5.out HI5.out.po.cl.nu (by decide)
            have q2 := (HI5.out.ot g' s' rfl).1.typ HR5.out (by decide)
            simp
            exact ⟨q1, q2⟩
          have hd := pDo_any HI5.out.po (HI5.out.ot g' s' rfl).1 (by omega)
          have HL2 := Lib.hid (stp_len N l s')
          have HI6 := Lib.hid (fun W h1 h2 h3 => HI5.out.doOther (w' := W) (by omega) h1 h2 h3 hgn)
          generalize stpP N l s' = r at *
          obtain ⟨l2, s2⟩ := r
          simp only at hd HI6 HL2
          obtain ⟨db, hdb⟩ : ∃ q, decide (s2.nx = 0) = q := ⟨_, rfl⟩
          rw [hdb] at hd
          have HD := Lib.hid hd
          clear hd HCP
          go_upto_if 80 with (go_at_call 14; refine (HD.out).mono ?_; rintro e w6 ⟨rfl, h6, s6, k6⟩; have HJ := Lib.hid (HI6.out _ h6 s6 k6); have HR6 := Lib.hid (k6.row HR5.out hg5c); clear h6 s6 k6)
          go_cut [12] from 41 to 150 (fun s12 wx => wx = w6 ∧ ∃ o, s12 = sgV o ∧ BdI w w6 gp gc gn N (1 + (K : Int)) l2 own o wh st (ch + diffs l l2) (i + 1))
          case first =>
            cases db
            case true =>
              go_wp2
              go_meet
              case rel => exact ⟨rfl, none, rfl, HJ.out.dropOther⟩
            case false =>
              go_wp2
              go_meet
              case rel => exact ⟨rfl, some (g', s2), rfl, HJ.out⟩
          case rest =>
            obtain ⟨rfl, o, rfl, hJ⟩ := hcut
            have HJ2 := Lib.hid hJ
            have HCP := Lib.hid (pcopy_any8 hJ.po (by omega))
            clear hJ HJ HI6 HD hdb
            have hl2 : l2.length = N := HJ2.out.po.cl.len
            go_upto_region 22 with (go_at_call 22; refine (HCP.out).mono ?_; rintro e w7 ⟨rfl, hr7, hb7⟩; have HR7 := Lib.hid hr7; have HR8 := Lib.hid (HR6.out.below hb7); have HI7 := Lib.hid (HJ2.out.below hb7); clear hr7 hb7)
            generalize wc.heap.size = g6 at *
            clear HCP HR6 HJ2 HR5 HI5
            go_loopw [14, 20] (fun s14 s20 wr => ∃ j : Nat, j ≤ N ∧ s20 = .int .i64 j ∧ s14 = .int .i64 ((ch + dfs l l2 j : Nat) : Int) ∧ Row .u64 23 wr g5 l ∧ Row .u64 23 wr g6 l2 ∧ BdI w wr gp gc gn N (1 + (K : Int)) l2 own o wh st (ch + diffs l l2) (i + 1)) (fun _ s20 _ => N - (intOf s20).toNat)
            case atStart => exact ⟨0, Nat.zero_le _, rfl, by simp [dfs, diffs], HR8.out, HR7.out, HI7.out⟩
            case round =>
              obtain ⟨j, hj, rfl, rfl, hr8, hr7, hi7⟩ := hrel
              clear HR8 HR7 HI7
              have HR8 := Lib.hid hr8
              have HR7 := Lib.hid hr7
              have HI7 := Lib.hid hi7
              clear hr8 hr7 hi7
              have HDS := Lib.hid (dfs_succ l l2 j (by omega))
              have HDA := Lib.hid (dfs_all l l2 (by omega))
              have hch := HI4.out.ch
              obtain ⟨c, hc⟩ : ∃ c, ch + dfs l l2 j = c := ⟨_, rfl⟩
              have hcb : c ≤ 32 * i + N := by
                have := diffs_le (l.take j) (l2.take j)
                rw [List.length_take] at this
                unfold dfs at hc
                omega
              have HC := Lib.hid hc
              rw [hc]
              clear hc hch
              by_cases hlj : j < N
              · have e1 : decide ((j : Int) < (N : Int)) = true := decide_eq_true (by omega)
                obtain ⟨x, hx⟩ : ∃ x, l.getD j 0 = x := ⟨_, rfl⟩
                obtain ⟨y, hy⟩ : ∃ y, l2.getD j 0 = y := ⟨_, rfl⟩
                have p0 : wr.cell? ⟨g5, j, none⟩ = some (.int .u64 x) := by rw [HR8.out.at (by omega), hx]
                have p1 : wr.cell? ⟨g6, j, none⟩ = some (.int .u64 y) := by rw [HR7.out.at (by omega), hy]
                have HDS2 := Lib.hid (show dfs l l2 (j + 1) = dfs l l2 j + if x ≠ y then 1 else 0 by rw [HDS.out (by omega), hx, hy])
                clear hx hy HDS HDA
                have i1 : (j : Int) < (N : Int) := by omega
                by_cases hxy : x = y
                · have e2 : (x != y) = false := by simp [hxy]
                  have HD3 := Lib.hid (show ch + dfs l l2 (j + 1) = c by rw [HDS2.out, if_neg (by simp [hxy])]; exact HC.out)
                  clear hxy HDS2
                  go_upto_region 24 with fail
                  go_quiet (fail)
                  go_wp2
                  refine ⟨⟨j + 1, by omega, by go_num, by rw [HD3.out], HR8.out, HR7.out, HI7.out.below (bdrewN wr nq)⟩, by simp [intOf]; omega⟩
                · have e2 : (x != y) = true := by simp [hxy]
                  have HD3 := Lib.hid (show ch + dfs l l2 (j + 1) = c + 1 by rw [HDS2.out, if_pos (by simp [hxy])]; have := HC.out; omega)
                  clear hxy HDS2
                  go_upto_region 24 with fail
                  go_quiet (fail)
                  go_wp2
                  refine ⟨⟨j + 1, by omega, by go_num, by rw [HD3.out]; go_num, HR8.out, HR7.out, HI7.out.below (bdrewN wr nq)⟩, by simp [intOf]; omega⟩
              · have e1 : decide ((j : Int) < (N : Int)) = false := decide_eq_false (by omega)
                obtain rfl : j = N := by omega
                have HD3 := Lib.hid (show c = ch + diffs l l2 by rw [← HC.out, ← HDA.out, show l.length = j by omega])
                go_wp2
                go_roundw
                case rel => exact ⟨l2, own, o, wh, st, c, i + 1, rfl, rfl, rfl, rfl, rfl, rfl, by go_num, by omega, by omega, by rw [HD3.out]; exact HI7.out⟩
                case measure => simp [intOf]; omega
      case false =>
        go_upto_if 107 with fail
        go_cut [11, 13, 14, 15] from 41 to 150 (fun s11 s13 s14 s15 wx => ∃ g s, ∃ st' ch' wh' : Nat, s11 = .pointer (some ⟨g, 0, none⟩) ∧ s13 = .int .i64 st' ∧ s14 = .int .i64 ch' ∧ s15 = .int .i64 wh' ∧ BdI w wx gp gc gn N (1 + (K : Int)) l (some (g, s)) other wh' st' ch' i)
        case first =>
          rcases own with _ | ⟨g, s⟩
          · have k2 : w4.cell? ⟨g4, 2, none⟩ = some (.int .i64 xf) := HB4.out.cell 2
            have k3 : w4.cell? ⟨g4, 3, none⟩ = some (.int .i64 xm) := HB4.out.cell 3
            have HTK := Lib.hid (pTake_any HI4.out.po hN1 (by omega) xf xm bd4.1 bd4.2)
            go_upto_region 29 with (go_at_call 11; refine (HTK.out).mono ?_; rintro e w5 ⟨wd, mo, hwd, hm1, hm2, _, _, rfl, hst, hb2⟩; have HB5 := Lib.hid hb2; have HS5 := Lib.hid (show StW w5 w4.heap.size gc N _ from ⟨⟨_, hst, ⟨none, 0, 0, rfl, rfl, Nat.le_refl _, by omega, fun h => absurd h (by omega)⟩⟩, takeP_ok hwd hm2⟩); clear hst hb2)
            rcases (show Q = 0 ∨ Q = 1 by omega) with rfl | rfl
            · have HI5 := Lib.hid (HI4.out.newOwn HB5.out HS5.out (Nat.le_refl _) (by omega) (.inl ⟨rfl, tkI_start hwd⟩))
              clear HTK k2 k3
              go_wp2
              go_meet
              case rel => exact ⟨_, _, 0, 0, 0, rfl, rfl, rfl, rfl, HI5.out⟩
            · have hal := ball w5 (.cells #[.int .i64 0] 3)
              have hrd : RdI (w5.alloc (.cells #[.int .i64 0] 3)) (some ⟨w5.heap.size, 0, none⟩) [0] := fun _ => ⟨w5.heap.size, 0, rfl, (Blk.new w5 3 #[.int .i64 0]).lt, fun j hj => by
                obtain rfl : j = 0 := by simpa using hj
                exact (Blk.new w5 3 #[.int .i64 0]).cell 0⟩
              have hbk := pBack_any (len := 1) (cap := 1) ((HI4.out.po.below HB5.out).below hal) hN1 (by omega) HSZ.out hrd rfl (by omega)
              rw [gifts_zero _ (by omega)] at hbk
              have HBK := Lib.hid hbk
              have HB6 := Lib.hid (bthen HB5.out hal)
              clear HTK k2 k3 hbk hrd hal HS5
              go_wp2_with (go_at_call 12; refine (HBK.out).mono ?_; rintro e w7 ⟨g7, rfl, hg7, hs7, hb7⟩; have HI7 := Lib.hid (HI4.out.newOwn (bthen HB6.out hb7) hs7 (Nat.le_trans HB6.out.size hg7) (Nat.le_refl 1) (.inr ⟨rfl, bkI_start hN1⟩)); clear hs7 hb7)
              go_meet
              case rel => exact ⟨_, _, 0, 0, 1, rfl, rfl, rfl, rfl, HI7.out⟩
          · go_wp2
            go_meet
            case rel => exact ⟨g, s, st, ch, wh, rfl, rfl, rfl, rfl, HI4.out⟩
        case rest =>
          obtain ⟨g, s, st', ch', wh', rfl, rfl, rfl, rfl, hI⟩ := hcut
          clear HI4 HB4 k1
          have hst := hI.st
          have hch := hI.ch
          have hwh := hI.wh
          have hd := pDo_any hI.po (hI.ow g s rfl).1 (by omega)
          have hdo := fun W h1 h2 h3 => hI.doOwn (w' := W) (by omega) h1 h2 h3 hgn
          generalize stpP N l s = r at *
          obtain ⟨l2, s2⟩ := r
          simp only at hd hdo
          have hs1 : st' + 1 ≤ 201 := by omega
          have hc1 : ch' ≤ 6400 := by omega
          obtain ⟨db, hdb⟩ : ∃ q, decide (s2.nx = 0) = q := ⟨_, rfl⟩
          rw [hdb] at hd
          have HD := Lib.hid hd
          have HDO := Lib.hid hdo
          have HDB := Lib.hid hdb
          clear hd hdo hdb hI hst hch
          rcases (show wh' = 0 ∨ wh' = 1 by omega) with rfl | rfl
          · go_upto_region 33 with (go_at_call 14; refine (HD.out).mono ?_; rintro e w6 ⟨rfl, h6, s6, k6⟩; have HJ := Lib.hid (HDO.out _ h6 s6 k6); clear h6 s6 k6)
            obtain ⟨⟨hb0, _⟩, hj1, hj2⟩ := HJ.out
            have hb0 := hb0 (by simp)
            have HJ1 := Lib.hid hj1
            have HJ2 := Lib.hid hj2
            clear hj1 hj2 HD HDO HJ
            have d3 : decide ((N : Int) + 1 + 2 * (ch' : Int) < (st' : Int) + 1) = false := decide_eq_false (by omega)
            cases db
            case true =>
              go_wp2
              go_roundw
              case rel => exact ⟨l2, none, other, 0, st' + 1, ch', i + 1, rfl, rfl, rfl, by go_num, rfl, rfl, by go_num, by omega, by omega, HJ2.out⟩
              case measure => simp [intOf]; omega
            case false =>
              go_wp2
              go_roundw
              case rel => exact ⟨l2, some (g, s2), other, 0, st' + 1, ch', i + 1, rfl, rfl, rfl, by go_num, rfl, rfl, by go_num, by omega, by omega, HJ1.out (by simpa using HDB.out)⟩
              case measure => simp [intOf]; omega
          · go_upto_region 33 with (go_at_call 14; refine (HD.out).mono ?_; rintro e w6 ⟨rfl, h6, s6, k6⟩; have HJ := Lib.hid (HDO.out _ h6 s6 k6); clear h6 s6 k6)
            obtain ⟨⟨_, hb0⟩, hj1, hj2⟩ := HJ.out
            have hb0 := hb0 (by simp)
            have HJ1 := Lib.hid hj1
            have HJ2 := Lib.hid hj2
            clear hj1 hj2 HD HDO HJ
            have d3 : decide (2 + 2 * (ch' : Int) < (st' : Int) + 1) = false := decide_eq_false (by omega)
            cases db
            case true =>
              go_wp2
              go_roundw
              case rel => exact ⟨l2, none, other, 1, st' + 1, ch', i + 1, rfl, rfl, rfl, by go_num, rfl, rfl, by go_num, by omega, by omega, HJ2.out⟩
              case measure => simp [intOf]; omega
            case false =>
              go_wp2
              go_roundw
              case rel => exact ⟨l2, some (g, s2), other, 1, st' + 1, ch', i + 1, rfl, rfl, rfl, by go_num, rfl, rfl, by go_num, by omega, by omega, HJ1.out (by simpa using HDB.out)⟩
              case measure => simp [intOf]; omega
    · by_cases hli : i < len
      · obtain rfl : i = 200 := by omega
        have d1 : decide (((200 : Nat) : Int) < (len : Int)) = true := decide_eq_true (by omega)
        have d2 : decide ((200 : Int) < (len : Int)) = true := decide_eq_true (by omega)
        go_wp2
        go_ret
        exact ⟨rfl, HI.out.be⟩
      · have d1 : decide ((i : Int) < (len : Int)) = false := decide_eq_false (by omega)
        go_wp2
        go_ret
        exact ⟨rfl, HI.out.be⟩
end Go.Proofs.Ytmbceafeonjffaa
