/-
  Contract of the reference fanlightref03.Get: it tells what part.Get tells. Conditions stand in each theorem.
-/
import Derived.Test.YtbnlpidhbilenaaGK
import Derived.Test.YtbnlpidhbilenaaRIcmp
namespace Go.Proofs.Ytbnlpidhbilenaa
open Go.RowKit Plain
set_option linter.unusedVariables false
set_option linter.unusedSimpArgs false
set_option maxRecDepth 100000

theorem Rd.getAt {w : World} {b off : Nat} {zs : List Int} (h : Rd w (some ⟨b, off, none⟩) zs) (k : Nat) (hk : k < zs.length) : w.cell? ⟨b, off + k, none⟩ = some (.int .u8 (zs.getD k 0)) := by
  obtain ⟨b', off', e, hc⟩ := h.2 (by omega)
  injection e with e; injection e with e1 e2
  subst e1 e2
  exact hc k hk

set_option maxHeartbeats 8000000 in
theorem rget_any (d0 d1 d2 d3 d4 d5 : Int) (A : Option Addr) (n c : Nat) (zs : List Int) (w : World) (hn : zs.length = n) (hnc : n ≤ c) (hl : n ≤ 100000) (hR : Rd w A zs) (s0 : 0 ≤ d4) (s1 : d4 ≤ 4294967295) (t0 : 0 ≤ d5) (t1 : d5 ≤ 4294967295) :
    Calls Try.prog 53 #[.agg #[.int .i64 d0, .int .i64 d1, .int .i64 d2, .int .i64 d3, .int .u32 d4, .int .u32 d5], .slice A n c] w fun e w' => e = .returned (.tuple #[(pgP ⟨d0, d1, d2, d3, d4, d5⟩ zs).val, .int .i64 (pgE ⟨d0, d1, d2, d3, d4, d5⟩ zs)]) ∧ Below w.heap.size w w' := by
  have HR := Lib.hid hR
  have Hn := Lib.hid hn
  clear hR hn
  go_enter Try.func53, Try.ntmps53
  go_upto_region 1 with fail
  obtain ⟨w1, hw1⟩ : ∃ w1, w1 = (w.alloc (.cells #[.int .i64 d0, .int .i64 d1, .int .i64 d2, .int .i64 d3, .int .u32 d4, .int .u32 d5] 84)).alloc (.cells #[.int .i64 0, .int .u16 0, .int .u16 0, .int .i64 0, .int .i64 0, .int .i64 0, .bool false, .int .i64 0, .int .i64 0, .int .i64 0, .int .i64 0, .int .u32 0, .int .u32 0, .int .i64 0, .bool false] 112) := ⟨_, rfl⟩
  have HBh := Lib.hid (show Blk w1 w.heap.size 84 #[.int .i64 d0, .int .i64 d1, .int .i64 d2, .int .i64 d3, .int .u32 d4, .int .u32 d5] by rw [hw1]; exact (Blk.new w _ _).alloc _)
  have hbr : Blk w1 (w.heap.size + 1) 112 #[.int .i64 0, .int .u16 0, .int .u16 0, .int .i64 0, .int .i64 0, .int .i64 0, .bool false, .int .i64 0, .int .i64 0, .int .i64 0, .int .i64 0, .int .u32 0, .int .u32 0, .int .i64 0, .bool false] := by rw [hw1]; have := Blk.new (w.alloc (.cells #[.int .i64 d0, .int .i64 d1, .int .i64 d2, .int .i64 d3, .int .u32 d4, .int .u32 d5] 84)) 112 #[.int .i64 0, .int .u16 0, .int .u16 0, .int .i64 0, .int .i64 0, .int .i64 0, .bool false, .int .i64 0, .int .i64 0, .int .i64 0, .int .i64 0, .int .u32 0, .int .u32 0, .int .i64 0, .bool false]; rwa [World.size_alloc] at this
  have HB1 := Lib.hid (show Below w.heap.size w w1 by rw [hw1]; exact bthen (ball _ _) (ball _ _))
  have HR1 := Lib.hid (HR.out.below HB1.out)
  rw [← hw1]
  clear hw1
  obtain ⟨gr, hgr⟩ : ∃ gr, gr = w.heap.size + 1 := ⟨_, rfl⟩
  have hgl : w.heap.size ≤ gr := by omega
  have hgn : ¬ w.heap.size = gr := by omega
  have hgn2 : ¬ gr = w.heap.size := by omega
  rw [← hgr] at hbr
  rw [← hgr]
  have HBr := Lib.hid hbr
  have hgw := hbr.lt
  clear hgr hbr
  have h0c : w1.cell? ⟨w.heap.size, 0, none⟩ = some (.int .i64 d0) := HBh.out.cell 0
  have h1c : w1.cell? ⟨w.heap.size, 1, none⟩ = some (.int .i64 d1) := HBh.out.cell 1
  have h3c : w1.cell? ⟨w.heap.size, 3, none⟩ = some (.int .i64 d3) := HBh.out.cell 3
  have Hbad := Lib.hid (fun (hb : d0 < 20 ∨ 60 < d0 ∨ d1 < d0 ∨ (n : Int) < d1) => show pgE ⟨d0, d1, d2, d3, d4, d5⟩ zs = 1 ∧ (pgP ⟨d0, d1, d2, d3, d4, d5⟩ zs).val = .agg #[.int .i64 0, .int .u16 0, .int .u16 0, .int .i64 0, .int .i64 0, .int .i64 0, .bool false, .int .i64 0, .int .i64 0, .int .i64 0, .int .i64 0, .int .u32 0, .int .u32 0, .int .i64 0, .bool false] by
    constructor
    · unfold pgE; rw [Hn.out, if_pos hb]
    · unfold pgP; rw [Hn.out, if_pos hb]; rfl)
  by_cases a1 : d0 < 20
  · have x1 : decide (d0 < 20) = true := by simp [a1]
    have hb := Lib.hid (Hbad.out (.inl a1))
    go_wp2_with (first | ((with_reducible refine gd_st 112 4 ?_); refine wpList_st rfl 112 (.tmp 4) _ rfl _ _ rfl _ rfl (HBr.out) sRPart.2 (#[.int .i64 0, .int .u16 0, .int .u16 0, .int .i64 0, .int .i64 0, .int .i64 0, .bool false, .int .i64 0, .int .i64 0, .int .i64 0, .int .i64 0, .int .u32 0, .int .u32 0, .int .i64 0, .bool false]) rfl (Nat.le_of_ble_eq_true rfl) rfl ?_; intro w9 hb9 hg9 hs9))
    rw [hb.out.1, hb.out.2]
    exact bodyPost_ret (res_cell2 Try.results53 _ _ _ rfl rfl hb9 sRPart) rfl ⟨rfl, bgrown (HB1.out) hg9 hgl⟩
  · have x1 : decide (d0 < 20) = false := by simp [a1]
    by_cases a2 : 60 < d0
    · have x2 : decide (60 < d0) = true := by simp [a2]
      have hb := Lib.hid (Hbad.out (.inr (.inl a2)))
      go_wp2_with (first | ((with_reducible refine gd_st 112 4 ?_); refine wpList_st rfl 112 (.tmp 4) _ rfl _ _ rfl _ rfl (HBr.out) sRPart.2 (#[.int .i64 0, .int .u16 0, .int .u16 0, .int .i64 0, .int .i64 0, .int .i64 0, .bool false, .int .i64 0, .int .i64 0, .int .i64 0, .int .i64 0, .int .u32 0, .int .u32 0, .int .i64 0, .bool false]) rfl (Nat.le_of_ble_eq_true rfl) rfl ?_; intro w9 hb9 hg9 hs9))
      rw [hb.out.1, hb.out.2]
      exact bodyPost_ret (res_cell2 Try.results53 _ _ _ rfl rfl hb9 sRPart) rfl ⟨rfl, bgrown (HB1.out) hg9 hgl⟩
    · have x2 : decide (60 < d0) = false := by simp [a2]
      by_cases a3 : d1 < d0
      · have x3 : decide (d1 < d0) = true := by simp [a3]
        have hb := Lib.hid (Hbad.out (.inr (.inr (.inl a3))))
        go_wp2_with (first | ((with_reducible refine gd_st 112 4 ?_); refine wpList_st rfl 112 (.tmp 4) _ rfl _ _ rfl _ rfl (HBr.out) sRPart.2 (#[.int .i64 0, .int .u16 0, .int .u16 0, .int .i64 0, .int .i64 0, .int .i64 0, .bool false, .int .i64 0, .int .i64 0, .int .i64 0, .int .i64 0, .int .u32 0, .int .u32 0, .int .i64 0, .bool false]) rfl (Nat.le_of_ble_eq_true rfl) rfl ?_; intro w9 hb9 hg9 hs9))
        rw [hb.out.1, hb.out.2]
        exact bodyPost_ret (res_cell2 Try.results53 _ _ _ rfl rfl hb9 sRPart) rfl ⟨rfl, bgrown (HB1.out) hg9 hgl⟩
      · have x3 : decide (d1 < d0) = false := by simp [a3]
        by_cases a4 : (n : Int) < d1
        · have x4 : decide ((n : Int) < d1) = true := by simp [a4]
          have hb := Lib.hid (Hbad.out (.inr (.inr (.inr a4))))
          go_wp2_with (first | ((with_reducible refine gd_st 112 4 ?_); refine wpList_st rfl 112 (.tmp 4) _ rfl _ _ rfl _ rfl (HBr.out) sRPart.2 (#[.int .i64 0, .int .u16 0, .int .u16 0, .int .i64 0, .int .i64 0, .int .i64 0, .bool false, .int .i64 0, .int .i64 0, .int .i64 0, .int .i64 0, .int .u32 0, .int .u32 0, .int .i64 0, .bool false]) rfl (Nat.le_of_ble_eq_true rfl) rfl ?_; intro w9 hb9 hg9 hs9))
          rw [hb.out.1, hb.out.2]
          exact bodyPost_ret (res_cell2 Try.results53 _ _ _ rfl rfl hb9 sRPart) rfl ⟨rfl, bgrown (HB1.out) hg9 hgl⟩
        · have x4 : decide ((n : Int) < d1) = false := by simp [a4]
          obtain ⟨sz, rfl⟩ : ∃ sz : Nat, d0 = (sz : Int) := ⟨d0.toNat, by omega⟩
          obtain ⟨ln, rfl⟩ : ∃ ln : Nat, d1 = (ln : Int) := ⟨d1.toNat, by omega⟩
          obtain ⟨b, off, rfl, hc⟩ := HR.out.2 (by rw [Hn.out]; omega)
          have ys_eq : bodyOf ⟨(sz : Int), (ln : Int), d2, d3, d4, d5⟩ zs = (zs.drop sz).take (ln - sz) := by
            show (zs.drop (sz : Int).toNat).take ((ln : Int) - (sz : Int)).toNat = _; rw [Int.toNat_natCast, show ((ln : Int) - (sz : Int)).toNat = ln - sz by omega]
          have HE := Lib.hid (show pgE ⟨(sz : Int), (ln : Int), d2, d3, d4, d5⟩ zs = if d3 = 17 then udE d4 d5 ((zs.drop sz).take (ln - sz)) else if d3 = 6 then tcE d4 d5 ((zs.drop sz).take (ln - sz)) else if d3 = 1 then icE ((zs.drop sz).take (ln - sz)) else 6 by
            unfold pgE; rw [Hn.out, if_neg (by simp only; omega), ys_eq])
          have HP := Lib.hid (show pgP ⟨(sz : Int), (ln : Int), d2, d3, d4, d5⟩ zs = if d3 = 17 then udP d4 d5 ((zs.drop sz).take (ln - sz)) else if d3 = 6 then tcP d4 d5 ((zs.drop sz).take (ln - sz)) else if d3 = 1 then icP (sz : Int) ((zs.drop sz).take (ln - sz)) else pt0 by
            unfold pgP; rw [Hn.out, if_neg (by simp only; omega), ys_eq])
          have iln : (ln : Int) ≤ (c : Int) := by omega
          have isl : (sz : Int) ≤ (ln : Int) := by omega
          obtain ⟨A2, hA2⟩ : ∃ A2 : Option Addr, A2 = if c = sz then some ⟨b, off, none⟩ else some ⟨b, off + sz, none⟩ := ⟨_, rfl⟩
          have HRy := Lib.hid (show Rd w A2 ((zs.drop sz).take (ln - sz)) by
            rw [hA2]
            split
            · rw [show (zs.drop sz).take (ln - sz) = [] from List.eq_nil_of_length_eq_zero (by rw [List.length_take, List.length_drop, Hn.out]; omega)]; exact Rd.nil _ _
            · exact (HR.out.dropAt sz).take (ln - sz))
          have Hyl := Lib.hid (show ((zs.drop sz).take (ln - sz)).length = ln - sz by rw [List.length_take, List.length_drop, Hn.out]; omega)
          generalize (zs.drop sz).take (ln - sz) = ys at *
          go_upto_region 4 with fail
          rw [← hA2]
          have hml : ln - sz ≤ 100000 := by omega
          have hmc : ln - sz ≤ c - sz := by omega
          generalize ln - sz = m at *
          clear hA2 ys_eq hc h0c h1c x1 x2 x3 x4
          have h4c : w1.cell? ⟨w.heap.size, 4, none⟩ = some (.int .u32 d4) := HBh.out.cell 4
          have h5c : w1.cell? ⟨w.heap.size, 5, none⟩ = some (.int .u32 d5) := HBh.out.cell 5
          have lh := HBh.out.lt
          go_upto_region 5 with fail
          have H7 := Lib.hid (Blk.new w1 112 #[.int .i64 d3, .int .u16 0, .int .u16 0, .int .i64 0, .int .i64 0, .int .i64 0, .bool false, .int .i64 0, .int .i64 0, .int .i64 0, .int .i64 0, .int .u32 0, .int .u32 0, .int .i64 0, .bool false])
          have HBh2 := Lib.hid (HBh.out.alloc (.cells #[.int .i64 d3, .int .u16 0, .int .u16 0, .int .i64 0, .int .i64 0, .int .i64 0, .bool false, .int .i64 0, .int .i64 0, .int .i64 0, .int .i64 0, .int .u32 0, .int .u32 0, .int .i64 0, .bool false] 112))
          have HBr2 := Lib.hid (HBr.out.alloc (.cells #[.int .i64 d3, .int .u16 0, .int .u16 0, .int .i64 0, .int .i64 0, .int .i64 0, .bool false, .int .i64 0, .int .i64 0, .int .i64 0, .int .i64 0, .int .u32 0, .int .u32 0, .int .i64 0, .bool false] 112))
          have HRy2 := Lib.hid ((HRy.out.below HB1.out).alloc (.cells #[.int .i64 d3, .int .u16 0, .int .u16 0, .int .i64 0, .int .i64 0, .int .i64 0, .bool false, .int .i64 0, .int .i64 0, .int .i64 0, .int .i64 0, .int .u32 0, .int .u32 0, .int .i64 0, .bool false] 112))
          have HB2 := Lib.hid (bthen HB1.out (ball w1 (.cells #[.int .i64 d3, .int .u16 0, .int .u16 0, .int .i64 0, .int .i64 0, .int .i64 0, .bool false, .int .i64 0, .int .i64 0, .int .i64 0, .int .i64 0, .int .u32 0, .int .u32 0, .int .i64 0, .bool false] 112)))
          have hsz1 := HB1.out.size
          clear h3c h4c h5c HBh HBr
          generalize w1.alloc (.cells #[.int .i64 d3, .int .u16 0, .int .u16 0, .int .i64 0, .int .i64 0, .int .i64 0, .bool false, .int .i64 0, .int .i64 0, .int .i64 0, .int .i64 0, .int .u32 0, .int .u32 0, .int .i64 0, .bool false] 112) = w2 at *
          obtain ⟨g7, hg7⟩ : ∃ g, g = w1.heap.size := ⟨_, rfl⟩
          rw [← hg7] at H7 hgw lh hsz1
          rw [← hg7]
          have hg7l : w.heap.size ≤ g7 := by omega
          have n7r : gr ≠ g7 := by omega
          have n7h : w.heap.size ≠ g7 := by omega
          clear hg7
          have h3c : w2.cell? ⟨w.heap.size, 3, none⟩ = some (.int .i64 d3) := HBh2.out.cell 3
          have h4c : w2.cell? ⟨w.heap.size, 4, none⟩ = some (.int .u32 d4) := HBh2.out.cell 4
          have h5c : w2.cell? ⟨w.heap.size, 5, none⟩ = some (.int .u32 d5) := HBh2.out.cell 5
          have Hby := Lib.hid HRy.out.1
          by_cases h17 : d3 = 17
          · have e17 : (d3 == 17) = true := by simp [h17]
            have HEu := Lib.hid (show pgE ⟨(sz : Int), (ln : Int), d2, d3, d4, d5⟩ zs = udE d4 d5 ys by rw [HE.out, if_pos h17])
            have HPu := Lib.hid (show pgP ⟨(sz : Int), (ln : Int), d2, d3, d4, d5⟩ zs = udP d4 d5 ys by rw [HP.out, if_pos h17])
            clear HE HP Hbad
            subst h17
            by_cases h8 : m < 8
            · have x8 : decide ((m : Int) < 8) = true := by simp; omega
              have heE : udE d4 d5 ys = 2 := by unfold udE; rw [Hyl.out, if_pos h8]
              have he := Lib.hid (show pgE ⟨(sz : Int), (ln : Int), d2, 17, d4, d5⟩ zs = 2 by rw [HEu.out, heE])
              have hh := Lib.hid (show (pgP ⟨(sz : Int), (ln : Int), d2, 17, d4, d5⟩ zs).val = .agg #[.int .i64 0, .int .u16 0, .int .u16 0, .int .i64 0, .int .i64 0, .int .i64 0, .bool false, .int .i64 0, .int .i64 0, .int .i64 0, .int .i64 0, .int .u32 0, .int .u32 0, .int .i64 0, .bool false] by rw [HPu.out]; unfold udP; rw [if_neg (by rw [heE]; decide)]; rfl)
              clear heE
              go_wp2_with (first | ((with_reducible refine gd_st 112 4 ?_); refine wpList_st rfl 112 (.tmp 4) _ rfl _ _ rfl _ rfl (HBr2.out) sRPart.2 (#[.int .i64 0, .int .u16 0, .int .u16 0, .int .i64 0, .int .i64 0, .int .i64 0, .bool false, .int .i64 0, .int .i64 0, .int .i64 0, .int .i64 0, .int .u32 0, .int .u32 0, .int .i64 0, .bool false]) rfl (Nat.le_of_ble_eq_true rfl) rfl ?_; intro w9 hb9 hg9 hs9))
              rw [he.out, hh.out]
              exact bodyPost_ret (res_cell2 Try.results53 _ _ _ rfl rfl hb9 sRPart) rfl ⟨rfl, bgrown (HB2.out) hg9 hgl⟩
            · have x8 : decide ((m : Int) < 8) = false := by simp; omega
              obtain ⟨b2, ou, rfl, hcy⟩ := HRy.out.2 (by rw [Hyl.out]; omega)
              have hlt7 := Lib.hid (show ∀ b off, 0 < ys.length → (some (⟨b2, ou, none⟩ : Addr)) = some ⟨b, off, none⟩ → b < g7 from fun b' off' hp e => by injection e with e; injection e with e1 e2; have := HRy.out.lt b2 ou hp rfl; omega)
              have nb7 : ¬ b2 = g7 := by have := HRy.out.lt b2 ou (by rw [Hyl.out]; omega) rfl; omega
              have Hn0 := Lib.hid (fun W (h : Rd W (some ⟨b2, ou, none⟩) ys) => num16_any b2 ou m (c - sz) ys 0 W Hyl.out (by omega) h)
              have Hn2 := Lib.hid (fun W (h : Rd W (some ⟨b2, ou, none⟩) ys) => num16_any b2 ou m (c - sz - 2) ys 2 W Hyl.out (by omega) h)
              simp only [Nat.add_zero] at Hn0
              have r0 := G16_range ys Hby.out 0
              have r2 := G16_range ys Hby.out 2
              clear hcy
              have icc : 8 ≤ c - sz := by omega
              have ic2 : (2 : Int) ≤ ((c - sz : Nat) : Int) := by omega
              have ic4 : (4 : Int) ≤ ((c - sz : Nat) : Int) := by omega
              have r4 := G16_range ys Hby.out 4
              have ps := Ps_range d4 d5 17 ys Hby.out s0 t0 (by decide)
              have i4 : (4 : Int) ≤ ((c - sz : Nat) : Int) := by omega
              have i6 : (6 : Int) ≤ ((c - sz : Nat) : Int) := by omega
              have HUE := Lib.hid (show udE d4 d5 ys = if G16 ys 4 ≠ (m : Int) then 3 else if G16 ys 6 ≠ 0 ∧ Ps d4 d5 17 ys ≠ 0 then 4 else 0 by unfold udE; rw [Hyl.out, if_neg h8])
              go_wp2_with fail
              refine (num16_any b2 ou m _ ys 4 _ Hyl.out (by omega) HRy2.out).mono ?_
              rintro e w3 ⟨rfl, rfl⟩
              by_cases h4 : G16 ys 4 = (m : Int)
              · have x4 : (G16 ys 4 != (m : Int)) = false := by simp [h4]
                have HUF := Lib.hid (show udE d4 d5 ys = if G16 ys 6 ≠ 0 ∧ Ps d4 d5 17 ys ≠ 0 then 4 else 0 by rw [HUE.out, if_neg (by simpa using h4)])
                have b6 := Hby.out.getD 6
                have b7 := Hby.out.getD 7
                have c6 := HRy2.out.getAt 6 (by rw [Hyl.out]; omega)
                have c7 := HRy2.out.getAt 7 (by rw [Hyl.out]; omega)
                have hg6 : G16 ys 6 = ys.getD 6 0 * 256 + ys.getD 7 0 := rfl
                have HG6 := Lib.hid hg6
                have i7 : (7 : Int) < (m : Int) := by omega
                have i6' : (6 : Int) < (m : Int) := by omega
                clear h4 HUE hg6
                generalize ys.getD 6 0 = y6 at *
                generalize ys.getD 7 0 = y7 at *
                by_cases hb6 : y6 = 0 ∧ y7 = 0
                · obtain ⟨rfl, rfl⟩ := hb6
                  have HZ6 := Lib.hid (show G16 ys 6 = 0 by rw [HG6.out]; rfl)
                  have heE : udE d4 d5 ys = 0 := by rw [HUF.out, if_neg (by rw [HZ6.out]; simp)]
                  have he := Lib.hid (show pgE ⟨(sz : Int), (ln : Int), d2, 17, d4, d5⟩ zs = 0 by rw [HEu.out, heE])
                  have hh := Lib.hid (show (pgP ⟨(sz : Int), (ln : Int), d2, 17, d4, d5⟩ zs).val = .agg #[.int .i64 17, .int .u16 (G16 ys 0), .int .u16 (G16 ys 2), .int .i64 0, .int .i64 0, .int .i64 0, .bool false, .int .i64 0, .int .i64 0, .int .i64 0, .int .i64 0, .int .u32 0, .int .u32 0, .int .i64 0, .bool true] by rw [HPu.out]; unfold udP; rw [if_pos heE, show (G16 ys 6 == 0) = true by rw [HZ6.out]; rfl]; rfl)
                  clear heE
                  go_upto_region 13 with (((with_reducible refine gd_st 4 67 ?_); refine wpList_st rfl 4 (.tmp 67) _ rfl _ _ rfl _ rfl (H7.out) sBool (#[.int .i64 17, .int .u16 0, .int .u16 0, .int .i64 0, .int .i64 0, .int .i64 0, .bool false, .int .i64 0, .int .i64 0, .int .i64 0, .int .i64 0, .int .u32 0, .int .u32 0, .int .i64 0, .bool true]) rfl (Nat.le_of_ble_eq_true rfl) rfl ?_; intro w4 hb4 hg4 hs4))
                  have H74 := Lib.hid hb4
                  have HBr4 := Lib.hid (HBr2.out.grown hg4 n7r)
                  have HBh4 := Lib.hid (HBh2.out.grown hg4 n7h)
                  have HR4 := Lib.hid (HRy2.out.grown hg4 (fun b off hp e => by injection e with e; injection e with e1 e2; omega))
                  have HB4 := Lib.hid (bgrown HB2.out hg4 hg7l)
                  have k14 := hb4.cell 14
                  simp only [List.getElem?_toArray, List.getElem?_cons_zero, List.getElem?_cons_succ] at k14
                  have h4d : w4.cell? ⟨w.heap.size, 4, none⟩ = some (.int .u32 d4) := HBh4.out.cell 4
                  have h5d : w4.cell? ⟨w.heap.size, 5, none⟩ = some (.int .u32 d5) := HBh4.out.cell 5
                  clear hb4 hg4 hs4 h3c h4c h5c c6 c7
                  have kg1 := H74.out.cell 1
                  have kg2 := H74.out.cell 2
                  have kf1 := H74.out.frozen 1
                  have kf2 := H74.out.frozen 2
                  simp only [List.getElem?_toArray, List.getElem?_cons_zero, List.getElem?_cons_succ] at kg1 kg2
                  have wr0 : IntKind.u16.wrap (G16 ys 0) = G16 ys 0 := by rw [IntKind.wrap_u16]; omega
                  have wr2 : IntKind.u16.wrap (G16 ys 2) = G16 ys 2 := by rw [IntKind.wrap_u16]; omega
                  go_upto_region 26 with fail
                  go_region_held3 (fun W => Rd W (some ⟨b2, ou, none⟩) ys)
                    (first | (with_reducible exact HR4.out.drew) | (with_reducible exact (HR4.out.neq (p := ⟨g7, 1, none⟩) hlt7.out _).drew) | (with_reducible exact ((HR4.out.neq (p := ⟨g7, 1, none⟩) hlt7.out _).neq (p := ⟨g7, 2, none⟩) hlt7.out _).drew))
                    (first | (go_at_call 58; (with_reducible refine (Hn2.out _ (by assumption)).mono ?_); rintro e w' ⟨rfl, rfl⟩) | (go_at_call 58; refine (Hn0.out _ (by assumption)).mono ?_; rintro e w' ⟨rfl, rfl⟩))
                  have q1 : Blk _ g7 112 #[.int .i64 17, .int .u16 (G16 ys 0), .int .u16 0, .int .i64 0, .int .i64 0, .int .i64 0, .bool false, .int .i64 0, .int .i64 0, .int .i64 0, .int .i64 0, .int .u32 0, .int .u32 0, .int .i64 0, .bool true] := H74.out.set 1 (.int .u16 (G16 ys 0))
                  have q2 : Blk _ g7 112 #[.int .i64 17, .int .u16 (G16 ys 0), .int .u16 (G16 ys 2), .int .i64 0, .int .i64 0, .int .i64 0, .bool false, .int .i64 0, .int .i64 0, .int .i64 0, .int .i64 0, .int .u32 0, .int .u32 0, .int .i64 0, .bool true] := q1.set 2 (.int .u16 (G16 ys 2))
                  have s1' := grown_setCell w4 g7 1 (.int .u16 (G16 ys 0))
                  have s2' := grown_drew (s1'.trans (grown_setCell _ g7 2 (.int .u16 (G16 ys 2))))
                  go_wp2_with (first | ((with_reducible refine gd_ld 112 7 ?_); refine wpList_ld rfl 112 (.tmp 7) rfl _ rfl (q2.drew) sRPart ?_) | ((with_reducible refine gd_st 112 4 ?_); refine wpList_st rfl 112 (.tmp 4) _ rfl _ _ rfl _ rfl (HBr4.out.grown s2' n7r) sRPart.2 (#[.int .i64 17, .int .u16 (G16 ys 0), .int .u16 (G16 ys 2), .int .i64 0, .int .i64 0, .int .i64 0, .bool false, .int .i64 0, .int .i64 0, .int .i64 0, .int .i64 0, .int .u32 0, .int .u32 0, .int .i64 0, .bool true]) rfl (Nat.le_of_ble_eq_true rfl) rfl ?_; intro w9 hb9 hg9 hs9))
                  rw [he.out, hh.out]
                  exact bodyPost_ret (res_cell2 Try.results53 _ _ _ rfl rfl hb9 sRPart) rfl ⟨rfl, bgrown (bgrown HB4.out s2' hg7l) hg9 hgl⟩
                · have HZ6 := Lib.hid (show ¬ G16 ys 6 = 0 by rw [HG6.out]; omega)
                  have key : (y6 == 0) = false ∨ ((y6 == 0) = true ∧ (y7 == 0) = false) := by
                    by_cases h : y6 = 0
                    · right; exact ⟨by simpa using h, by rw [beq_eq_false_iff_ne]; omega⟩
                    · left; simpa using h
                  clear hb6
                  rcases key with k6 | ⟨k6, k7⟩
                  all_goals
                    go_upto_region 13 with (((with_reducible refine gd_st 4 67 ?_); refine wpList_st rfl 4 (.tmp 67) _ rfl _ _ rfl _ rfl (H7.out) sBool (#[.int .i64 17, .int .u16 0, .int .u16 0, .int .i64 0, .int .i64 0, .int .i64 0, .bool false, .int .i64 0, .int .i64 0, .int .i64 0, .int .i64 0, .int .u32 0, .int .u32 0, .int .i64 0, .bool false]) rfl (Nat.le_of_ble_eq_true rfl) rfl ?_; intro w4 hb4 hg4 hs4))
                    have H74 := Lib.hid hb4
                    have HBr4 := Lib.hid (HBr2.out.grown hg4 n7r)
                    have HBh4 := Lib.hid (HBh2.out.grown hg4 n7h)
                    have HR4 := Lib.hid (HRy2.out.grown hg4 (fun b off hp e => by injection e with e; injection e with e1 e2; omega))
                    have HB4 := Lib.hid (bgrown HB2.out hg4 hg7l)
                    have k14 := hb4.cell 14
                    simp only [List.getElem?_toArray, List.getElem?_cons_zero, List.getElem?_cons_succ] at k14
                    have h4d : w4.cell? ⟨w.heap.size, 4, none⟩ = some (.int .u32 d4) := HBh4.out.cell 4
                    have h5d : w4.cell? ⟨w.heap.size, 5, none⟩ = some (.int .u32 d5) := HBh4.out.cell 5
                    clear hb4 hg4 hs4 h3c h4c h5c c6 c7
                    go_wp2_with fail
                    refine (pseudo_any d4 d5 17 _ m (c - sz) ys _ Hyl.out (by omega) HR4.out s0 s1 t0 t1 (by decide) (by decide)).mono ?_
                    rintro e w5 ⟨rfl, hb5⟩
                    have H75 := Lib.hid (H74.out.below hb5)
                    have HBr5 := Lib.hid (HBr4.out.below hb5)
                    have HR5 := Lib.hid (HR4.out.below hb5)
                    have HB5 := Lib.hid (bthen HB4.out hb5)
                    clear hb5
                    by_cases hps : Ps d4 d5 17 ys = 0
                    · have HPS := Lib.hid hps
                      have xps : (Ps d4 d5 17 ys != 0) = false := by simp [hps]
                      clear hps
                      have heE : udE d4 d5 ys = 0 := by rw [HUF.out, if_neg (fun h => h.2 HPS.out)]
                      have he := Lib.hid (show pgE ⟨(sz : Int), (ln : Int), d2, 17, d4, d5⟩ zs = 0 by rw [HEu.out, heE])
                      have hh := Lib.hid (show (pgP ⟨(sz : Int), (ln : Int), d2, 17, d4, d5⟩ zs).val = .agg #[.int .i64 17, .int .u16 (G16 ys 0), .int .u16 (G16 ys 2), .int .i64 0, .int .i64 0, .int .i64 0, .bool false, .int .i64 0, .int .i64 0, .int .i64 0, .int .i64 0, .int .u32 0, .int .u32 0, .int .i64 0, .bool false] by rw [HPu.out]; unfold udP; rw [if_pos heE, show (G16 ys 6 == 0) = false by simpa using HZ6.out]; rfl)
                      clear heE
                      have kg1 := H75.out.cell 1
                      have kg2 := H75.out.cell 2
                      have kf1 := H75.out.frozen 1
                      have kf2 := H75.out.frozen 2
                      simp only [List.getElem?_toArray, List.getElem?_cons_zero, List.getElem?_cons_succ] at kg1 kg2
                      have wr0 : IntKind.u16.wrap (G16 ys 0) = G16 ys 0 := by rw [IntKind.wrap_u16]; omega
                      have wr2 : IntKind.u16.wrap (G16 ys 2) = G16 ys 2 := by rw [IntKind.wrap_u16]; omega
                      go_upto_region 26 with fail
                      go_region_held3 (fun W => Rd W (some ⟨b2, ou, none⟩) ys)
                        (first | (with_reducible exact HR5.out.drew) | (with_reducible exact (HR5.out.neq (p := ⟨g7, 1, none⟩) hlt7.out _).drew) | (with_reducible exact ((HR5.out.neq (p := ⟨g7, 1, none⟩) hlt7.out _).neq (p := ⟨g7, 2, none⟩) hlt7.out _).drew))
                        (first | (go_at_call 58; (with_reducible refine (Hn2.out _ (by assumption)).mono ?_); rintro e w' ⟨rfl, rfl⟩) | (go_at_call 58; refine (Hn0.out _ (by assumption)).mono ?_; rintro e w' ⟨rfl, rfl⟩))
                      have q1 : Blk _ g7 112 #[.int .i64 17, .int .u16 (G16 ys 0), .int .u16 0, .int .i64 0, .int .i64 0, .int .i64 0, .bool false, .int .i64 0, .int .i64 0, .int .i64 0, .int .i64 0, .int .u32 0, .int .u32 0, .int .i64 0, .bool false] := H75.out.set 1 (.int .u16 (G16 ys 0))
                      have q2 : Blk _ g7 112 #[.int .i64 17, .int .u16 (G16 ys 0), .int .u16 (G16 ys 2), .int .i64 0, .int .i64 0, .int .i64 0, .bool false, .int .i64 0, .int .i64 0, .int .i64 0, .int .i64 0, .int .u32 0, .int .u32 0, .int .i64 0, .bool false] := q1.set 2 (.int .u16 (G16 ys 2))
                      have s1' := grown_setCell w5 g7 1 (.int .u16 (G16 ys 0))
                      have s2' := grown_drew (s1'.trans (grown_setCell _ g7 2 (.int .u16 (G16 ys 2))))
                      go_wp2_with (first | ((with_reducible refine gd_ld 112 7 ?_); refine wpList_ld rfl 112 (.tmp 7) rfl _ rfl (q2.drew) sRPart ?_) | ((with_reducible refine gd_st 112 4 ?_); refine wpList_st rfl 112 (.tmp 4) _ rfl _ _ rfl _ rfl (HBr5.out.grown s2' n7r) sRPart.2 (#[.int .i64 17, .int .u16 (G16 ys 0), .int .u16 (G16 ys 2), .int .i64 0, .int .i64 0, .int .i64 0, .bool false, .int .i64 0, .int .i64 0, .int .i64 0, .int .i64 0, .int .u32 0, .int .u32 0, .int .i64 0, .bool false]) rfl (Nat.le_of_ble_eq_true rfl) rfl ?_; intro w9 hb9 hg9 hs9))
                      rw [he.out, hh.out]
                      exact bodyPost_ret (res_cell2 Try.results53 _ _ _ rfl rfl hb9 sRPart) rfl ⟨rfl, bgrown (bgrown HB5.out s2' hg7l) hg9 hgl⟩
                    · have xps : (Ps d4 d5 17 ys != 0) = true := by simp [hps]
                      have heE : udE d4 d5 ys = 4 := by rw [HUF.out, if_pos ⟨HZ6.out, hps⟩]
                      have he := Lib.hid (show pgE ⟨(sz : Int), (ln : Int), d2, 17, d4, d5⟩ zs = 4 by rw [HEu.out, heE])
                      have hh := Lib.hid (show (pgP ⟨(sz : Int), (ln : Int), d2, 17, d4, d5⟩ zs).val = .agg #[.int .i64 0, .int .u16 0, .int .u16 0, .int .i64 0, .int .i64 0, .int .i64 0, .bool false, .int .i64 0, .int .i64 0, .int .i64 0, .int .i64 0, .int .u32 0, .int .u32 0, .int .i64 0, .bool false] by rw [HPu.out]; unfold udP; rw [if_neg (by rw [heE]; decide)]; rfl)
                      clear heE
                      go_wp2_with (first | ((with_reducible refine gd_st 112 4 ?_); refine wpList_st rfl 112 (.tmp 4) _ rfl _ _ rfl _ rfl (HBr5.out) sRPart.2 (#[.int .i64 0, .int .u16 0, .int .u16 0, .int .i64 0, .int .i64 0, .int .i64 0, .bool false, .int .i64 0, .int .i64 0, .int .i64 0, .int .i64 0, .int .u32 0, .int .u32 0, .int .i64 0, .bool false]) rfl (Nat.le_of_ble_eq_true rfl) rfl ?_; intro w9 hb9 hg9 hs9))
                      rw [he.out, hh.out]
                      exact bodyPost_ret (res_cell2 Try.results53 _ _ _ rfl rfl hb9 sRPart) rfl ⟨rfl, bgrown (HB5.out) hg9 hgl⟩
              · have x4 : (G16 ys 4 != (m : Int)) = true := by simp [h4]
                have heE : udE d4 d5 ys = 3 := by rw [HUE.out, if_pos h4]
                have he := Lib.hid (show pgE ⟨(sz : Int), (ln : Int), d2, 17, d4, d5⟩ zs = 3 by rw [HEu.out, heE])
                have hh := Lib.hid (show (pgP ⟨(sz : Int), (ln : Int), d2, 17, d4, d5⟩ zs).val = .agg #[.int .i64 0, .int .u16 0, .int .u16 0, .int .i64 0, .int .i64 0, .int .i64 0, .bool false, .int .i64 0, .int .i64 0, .int .i64 0, .int .i64 0, .int .u32 0, .int .u32 0, .int .i64 0, .bool false] by rw [HPu.out]; unfold udP; rw [if_neg (by rw [heE]; decide)]; rfl)
                clear heE
                go_wp2_with (first | ((with_reducible refine gd_st 112 4 ?_); refine wpList_st rfl 112 (.tmp 4) _ rfl _ _ rfl _ rfl (HBr2.out) sRPart.2 (#[.int .i64 0, .int .u16 0, .int .u16 0, .int .i64 0, .int .i64 0, .int .i64 0, .bool false, .int .i64 0, .int .i64 0, .int .i64 0, .int .i64 0, .int .u32 0, .int .u32 0, .int .i64 0, .bool false]) rfl (Nat.le_of_ble_eq_true rfl) rfl ?_; intro w9 hb9 hg9 hs9))
                rw [he.out, hh.out]
                exact bodyPost_ret (res_cell2 Try.results53 _ _ _ rfl rfl hb9 sRPart) rfl ⟨rfl, bgrown (HB2.out) hg9 hgl⟩
          · have e17 : (d3 == 17) = false := by simp [h17]
            by_cases h6 : d3 = 6
            · have e6 : (d3 == 6) = true := by simp [h6]
              have HEu := Lib.hid (show pgE ⟨(sz : Int), (ln : Int), d2, d3, d4, d5⟩ zs = tcE d4 d5 ys by rw [HE.out, if_neg h17, if_pos h6])
              have HPu := Lib.hid (show pgP ⟨(sz : Int), (ln : Int), d2, d3, d4, d5⟩ zs = tcP d4 d5 ys by rw [HP.out, if_neg h17, if_pos h6])
              clear HE HP Hbad e17 h17
              subst h6
              by_cases h8 : m < 20
              · have x8 : decide ((m : Int) < 20) = true := by simp; omega
                have heE : tcE d4 d5 ys = 2 := by unfold tcE; rw [Hyl.out, if_pos h8]
                have he := Lib.hid (show pgE ⟨(sz : Int), (ln : Int), d2, 6, d4, d5⟩ zs = 2 by rw [HEu.out, heE])
                have hh := Lib.hid (show (pgP ⟨(sz : Int), (ln : Int), d2, 6, d4, d5⟩ zs).val = .agg #[.int .i64 0, .int .u16 0, .int .u16 0, .int .i64 0, .int .i64 0, .int .i64 0, .bool false, .int .i64 0, .int .i64 0, .int .i64 0, .int .i64 0, .int .u32 0, .int .u32 0, .int .i64 0, .bool false] by rw [HPu.out]; unfold tcP; rw [if_neg (by rw [heE]; decide)]; rfl)
                clear heE
                go_wp2_with (first | ((with_reducible refine gd_st 112 4 ?_); refine wpList_st rfl 112 (.tmp 4) _ rfl _ _ rfl _ rfl (HBr2.out) sRPart.2 (#[.int .i64 0, .int .u16 0, .int .u16 0, .int .i64 0, .int .i64 0, .int .i64 0, .bool false, .int .i64 0, .int .i64 0, .int .i64 0, .int .i64 0, .int .u32 0, .int .u32 0, .int .i64 0, .bool false]) rfl (Nat.le_of_ble_eq_true rfl) rfl ?_; intro w9 hb9 hg9 hs9))
                rw [he.out, hh.out]
                exact bodyPost_ret (res_cell2 Try.results53 _ _ _ rfl rfl hb9 sRPart) rfl ⟨rfl, bgrown (HB2.out) hg9 hgl⟩
              · have x8 : decide ((m : Int) < 20) = false := by simp; omega
                obtain ⟨b2, ou, rfl, hcy⟩ := HRy.out.2 (by rw [Hyl.out]; omega)
                have hlt7 := Lib.hid (show ∀ b off, 0 < ys.length → (some (⟨b2, ou, none⟩ : Addr)) = some ⟨b, off, none⟩ → b < g7 from fun b' off' hp e => by injection e with e; injection e with e1 e2; have := HRy.out.lt b2 ou hp rfl; omega)
                have nb7 : ¬ b2 = g7 := by have := HRy.out.lt b2 ou (by rw [Hyl.out]; omega) rfl; omega
                have Hn0 := Lib.hid (fun W (h : Rd W (some ⟨b2, ou, none⟩) ys) => num16_any b2 ou m (c - sz) ys 0 W Hyl.out (by omega) h)
                have Hn2 := Lib.hid (fun W (h : Rd W (some ⟨b2, ou, none⟩) ys) => num16_any b2 ou m (c - sz - 2) ys 2 W Hyl.out (by omega) h)
                simp only [Nat.add_zero] at Hn0
                have r0 := G16_range ys Hby.out 0
                have r2 := G16_range ys Hby.out 2
                clear hcy
                have icc : 20 ≤ c - sz := by omega
                have ic2 : (2 : Int) ≤ ((c - sz : Nat) : Int) := by omega
                have ic4 : (4 : Int) ≤ ((c - sz : Nat) : Int) := by omega
                have ps := Ps_range d4 d5 6 ys Hby.out s0 t0 (by decide)
                have b12 := Hby.out.getD 12
                have b13 := Hby.out.getD 13
                have c12 := HRy2.out.getAt 12 (by rw [Hyl.out]; omega)
                have HUE := Lib.hid (show tcE d4 d5 ys = if ys.getD 12 0 / 16 * 4 < 20 ∨ (m : Int) < ys.getD 12 0 / 16 * 4 then 3 else if Ps d4 d5 6 ys ≠ 0 then 4 else 0 by unfold tcE; rw [Hyl.out, if_neg h8])
                have HP13 := Lib.hid (show tcP d4 d5 ys = if tcE d4 d5 ys = 0 then ⟨6, G16 ys 0, G16 ys 2, ys.getD 13 0, 0, 0, false, hd0, 0, false⟩ else pt0 from rfl)
                have HC13 := Lib.hid (fun W (h : Rd W (some ⟨b2, ou, none⟩) ys) => h.getAt 13 (by rw [Hyl.out]; omega))
                generalize ys.getD 12 0 = y12 at *
                generalize ys.getD 13 0 = y13 at *
                have i12 : (12 : Int) < (m : Int) := by omega
                have i13 : (13 : Int) < (m : Int) := by omega
                go_upto_region 19 with fail
                have HT := Lib.hid (show (∃ t, True) from ⟨0, trivial⟩)
                by_cases ha : y12 / 16 * 4 < 20
                · have xa : decide (y12 / 16 * 4 < 20) = true := by simpa using ha
                  have heE : tcE d4 d5 ys = 3 := by rw [HUE.out, if_pos (.inl ha)]
                  have he := Lib.hid (show pgE ⟨(sz : Int), (ln : Int), d2, 6, d4, d5⟩ zs = 3 by rw [HEu.out, heE])
                  have hh := Lib.hid (show (pgP ⟨(sz : Int), (ln : Int), d2, 6, d4, d5⟩ zs).val = .agg #[.int .i64 0, .int .u16 0, .int .u16 0, .int .i64 0, .int .i64 0, .int .i64 0, .bool false, .int .i64 0, .int .i64 0, .int .i64 0, .int .i64 0, .int .u32 0, .int .u32 0, .int .i64 0, .bool false] by rw [HPu.out]; unfold tcP; rw [if_neg (by rw [heE]; decide)]; rfl)
                  clear heE
                  go_wp2_with (first | ((with_reducible refine gd_st 112 4 ?_); refine wpList_st rfl 112 (.tmp 4) _ rfl _ _ rfl _ rfl (HBr2.out) sRPart.2 (#[.int .i64 0, .int .u16 0, .int .u16 0, .int .i64 0, .int .i64 0, .int .i64 0, .bool false, .int .i64 0, .int .i64 0, .int .i64 0, .int .i64 0, .int .u32 0, .int .u32 0, .int .i64 0, .bool false]) rfl (Nat.le_of_ble_eq_true rfl) rfl ?_; intro w9 hb9 hg9 hs9))
                  rw [he.out, hh.out]
                  exact bodyPost_ret (res_cell2 Try.results53 _ _ _ rfl rfl hb9 sRPart) rfl ⟨rfl, bgrown (HB2.out) hg9 hgl⟩
                · have xa : decide (y12 / 16 * 4 < 20) = false := by simpa using ha
                  by_cases hb : (m : Int) < y12 / 16 * 4
                  · have xb : decide ((m : Int) < y12 / 16 * 4) = true := by simpa using hb
                    have heE : tcE d4 d5 ys = 3 := by rw [HUE.out, if_pos (.inr hb)]
                    have he := Lib.hid (show pgE ⟨(sz : Int), (ln : Int), d2, 6, d4, d5⟩ zs = 3 by rw [HEu.out, heE])
                    have hh := Lib.hid (show (pgP ⟨(sz : Int), (ln : Int), d2, 6, d4, d5⟩ zs).val = .agg #[.int .i64 0, .int .u16 0, .int .u16 0, .int .i64 0, .int .i64 0, .int .i64 0, .bool false, .int .i64 0, .int .i64 0, .int .i64 0, .int .i64 0, .int .u32 0, .int .u32 0, .int .i64 0, .bool false] by rw [HPu.out]; unfold tcP; rw [if_neg (by rw [heE]; decide)]; rfl)
                    clear heE
                    go_wp2_with (first | ((with_reducible refine gd_st 112 4 ?_); refine wpList_st rfl 112 (.tmp 4) _ rfl _ _ rfl _ rfl (HBr2.out) sRPart.2 (#[.int .i64 0, .int .u16 0, .int .u16 0, .int .i64 0, .int .i64 0, .int .i64 0, .bool false, .int .i64 0, .int .i64 0, .int .i64 0, .int .i64 0, .int .u32 0, .int .u32 0, .int .i64 0, .bool false]) rfl (Nat.le_of_ble_eq_true rfl) rfl ?_; intro w9 hb9 hg9 hs9))
                    rw [he.out, hh.out]
                    exact bodyPost_ret (res_cell2 Try.results53 _ _ _ rfl rfl hb9 sRPart) rfl ⟨rfl, bgrown (HB2.out) hg9 hgl⟩
                  · have xb : decide ((m : Int) < y12 / 16 * 4) = false := by simpa using hb
                    have HUF := Lib.hid (show tcE d4 d5 ys = if Ps d4 d5 6 ys ≠ 0 then 4 else 0 by rw [HUE.out, if_neg (by omega)])
                    clear HUE
                    go_wp2_with fail
                    refine (pseudo_any d4 d5 6 _ m (c - sz) ys _ Hyl.out (by omega) HRy2.out s0 s1 t0 t1 (by decide) (by decide)).mono ?_
                    rintro e w5 ⟨rfl, hb5⟩
                    have H75 := Lib.hid (H7.out.below hb5)
                    have HBr5 := Lib.hid (HBr2.out.below hb5)
                    have HR5 := Lib.hid (HRy2.out.below hb5)
                    have HB5 := Lib.hid (bthen HB2.out hb5)
                    clear hb5 h3c h4c h5c c12
                    by_cases hps : Ps d4 d5 6 ys = 0
                    · have xps : (Ps d4 d5 6 ys != 0) = false := by simp [hps]
                      have heE : tcE d4 d5 ys = 0 := by rw [HUF.out, if_neg (by simpa using hps)]
                      have he := Lib.hid (show pgE ⟨(sz : Int), (ln : Int), d2, 6, d4, d5⟩ zs = 0 by rw [HEu.out, heE])
                      have hh := Lib.hid (show (pgP ⟨(sz : Int), (ln : Int), d2, 6, d4, d5⟩ zs).val = .agg #[.int .i64 6, .int .u16 (G16 ys 0), .int .u16 (G16 ys 2), .int .i64 y13, .int .i64 0, .int .i64 0, .bool false, .int .i64 0, .int .i64 0, .int .i64 0, .int .i64 0, .int .u32 0, .int .u32 0, .int .i64 0, .bool false] by rw [HPu.out, HP13.out, if_pos heE]; rfl)
                      clear heE hps
                      have c13 := HC13.out _ HR5.out
                      have k3 := H75.out.cell 3
                      have k3f := H75.out.frozen 3
                      simp only [List.getElem?_toArray, List.getElem?_cons_zero, List.getElem?_cons_succ] at k3
                      go_upto_region 26 with (((with_reducible refine gd_st 3 114 ?_); refine wpList_st rfl 3 (.tmp 114) _ rfl _ _ rfl _ rfl (H75.out) sInt (#[.int .i64 6, .int .u16 0, .int .u16 0, .int .i64 y13, .int .i64 0, .int .i64 0, .bool false, .int .i64 0, .int .i64 0, .int .i64 0, .int .i64 0, .int .u32 0, .int .u32 0, .int .i64 0, .bool false]) rfl (Nat.le_of_ble_eq_true rfl) rfl ?_; intro w6 hb6 hg6 hs6))
                      have H76 := Lib.hid hb6
                      have HBr6 := Lib.hid (HBr5.out.grown hg6 n7r)
                      have HR6 := Lib.hid (HR5.out.grown hg6 (fun b off hp e => by injection e with e; injection e with e1 e2; omega))
                      have HB6 := Lib.hid (bgrown HB5.out hg6 hg7l)
                      clear hb6 hg6 hs6 c13 k3 k3f
                      have kg1 := H76.out.cell 1
                      have kg2 := H76.out.cell 2
                      have kf1 := H76.out.frozen 1
                      have kf2 := H76.out.frozen 2
                      simp only [List.getElem?_toArray, List.getElem?_cons_zero, List.getElem?_cons_succ] at kg1 kg2
                      have wr0 : IntKind.u16.wrap (G16 ys 0) = G16 ys 0 := by rw [IntKind.wrap_u16]; omega
                      have wr2 : IntKind.u16.wrap (G16 ys 2) = G16 ys 2 := by rw [IntKind.wrap_u16]; omega
                      go_upto_region 26 with fail
                      go_region_held3 (fun W => Rd W (some ⟨b2, ou, none⟩) ys)
                        (first | (with_reducible exact HR6.out.drew) | (with_reducible exact (HR6.out.neq (p := ⟨g7, 1, none⟩) hlt7.out _).drew) | (with_reducible exact ((HR6.out.neq (p := ⟨g7, 1, none⟩) hlt7.out _).neq (p := ⟨g7, 2, none⟩) hlt7.out _).drew))
                        (first | (go_at_call 58; (with_reducible refine (Hn2.out _ (by assumption)).mono ?_); rintro e w' ⟨rfl, rfl⟩) | (go_at_call 58; refine (Hn0.out _ (by assumption)).mono ?_; rintro e w' ⟨rfl, rfl⟩))
                      have q1 : Blk _ g7 112 #[.int .i64 6, .int .u16 (G16 ys 0), .int .u16 0, .int .i64 y13, .int .i64 0, .int .i64 0, .bool false, .int .i64 0, .int .i64 0, .int .i64 0, .int .i64 0, .int .u32 0, .int .u32 0, .int .i64 0, .bool false] := H76.out.set 1 (.int .u16 (G16 ys 0))
                      have q2 : Blk _ g7 112 #[.int .i64 6, .int .u16 (G16 ys 0), .int .u16 (G16 ys 2), .int .i64 y13, .int .i64 0, .int .i64 0, .bool false, .int .i64 0, .int .i64 0, .int .i64 0, .int .i64 0, .int .u32 0, .int .u32 0, .int .i64 0, .bool false] := q1.set 2 (.int .u16 (G16 ys 2))
                      have s1' := grown_setCell w6 g7 1 (.int .u16 (G16 ys 0))
                      have s2' := grown_drew (s1'.trans (grown_setCell _ g7 2 (.int .u16 (G16 ys 2))))
                      go_wp2_with (first | ((with_reducible refine gd_ld 112 7 ?_); refine wpList_ld rfl 112 (.tmp 7) rfl _ rfl (q2.drew) sRPart ?_) | ((with_reducible refine gd_st 112 4 ?_); refine wpList_st rfl 112 (.tmp 4) _ rfl _ _ rfl _ rfl (HBr6.out.grown s2' n7r) sRPart.2 (#[.int .i64 6, .int .u16 (G16 ys 0), .int .u16 (G16 ys 2), .int .i64 y13, .int .i64 0, .int .i64 0, .bool false, .int .i64 0, .int .i64 0, .int .i64 0, .int .i64 0, .int .u32 0, .int .u32 0, .int .i64 0, .bool false]) rfl (Nat.le_of_ble_eq_true rfl) rfl ?_; intro w9 hb9 hg9 hs9))
                      rw [he.out, hh.out]
                      exact bodyPost_ret (res_cell2 Try.results53 _ _ _ rfl rfl hb9 sRPart) rfl ⟨rfl, bgrown (bgrown HB6.out s2' hg7l) hg9 hgl⟩
                    · have xps : (Ps d4 d5 6 ys != 0) = true := by simp [hps]
                      have heE : tcE d4 d5 ys = 4 := by rw [HUF.out, if_pos hps]
                      have he := Lib.hid (show pgE ⟨(sz : Int), (ln : Int), d2, 6, d4, d5⟩ zs = 4 by rw [HEu.out, heE])
                      have hh := Lib.hid (show (pgP ⟨(sz : Int), (ln : Int), d2, 6, d4, d5⟩ zs).val = .agg #[.int .i64 0, .int .u16 0, .int .u16 0, .int .i64 0, .int .i64 0, .int .i64 0, .bool false, .int .i64 0, .int .i64 0, .int .i64 0, .int .i64 0, .int .u32 0, .int .u32 0, .int .i64 0, .bool false] by rw [HPu.out]; unfold tcP; rw [if_neg (by rw [heE]; decide)]; rfl)
                      clear heE
                      go_wp2_with (first | ((with_reducible refine gd_st 112 4 ?_); refine wpList_st rfl 112 (.tmp 4) _ rfl _ _ rfl _ rfl (HBr5.out) sRPart.2 (#[.int .i64 0, .int .u16 0, .int .u16 0, .int .i64 0, .int .i64 0, .int .i64 0, .bool false, .int .i64 0, .int .i64 0, .int .i64 0, .int .i64 0, .int .u32 0, .int .u32 0, .int .i64 0, .bool false]) rfl (Nat.le_of_ble_eq_true rfl) rfl ?_; intro w9 hb9 hg9 hs9))
                      rw [he.out, hh.out]
                      exact bodyPost_ret (res_cell2 Try.results53 _ _ _ rfl rfl hb9 sRPart) rfl ⟨rfl, bgrown (HB5.out) hg9 hgl⟩
            · have e6 : (d3 == 6) = false := by simp [h6]
              by_cases h1 : d3 = 1
              · have e1' : (d3 == 1) = true := by simp [h1]
                have HEu := Lib.hid (show pgE ⟨(sz : Int), (ln : Int), d2, d3, d4, d5⟩ zs = icE ys by rw [HE.out, if_neg h17, if_neg h6, if_pos h1])
                have HPu := Lib.hid (show pgP ⟨(sz : Int), (ln : Int), d2, d3, d4, d5⟩ zs = icP (sz : Int) ys by rw [HP.out, if_neg h17, if_neg h6, if_pos h1])
                clear HE HP Hbad h17 h6
                subst h1
                obtain ⟨e0, e1, e2, e3, e4, e5, e6, e7, e8, e9, e10, e11, e12, e13, e14, hev⟩ := Pt.mk_val (icP (sz : Int) ys)
                have he := Lib.hid (show pgE ⟨(sz : Int), (ln : Int), d2, 1, d4, d5⟩ zs = icE ys by rw [HEu.out])
                have hh := Lib.hid (show (pgP ⟨(sz : Int), (ln : Int), d2, 1, d4, d5⟩ zs).val = .agg #[.int .i64 e0, .int .u16 e1, .int .u16 e2, .int .i64 e3, .int .i64 e4, .int .i64 e5, .bool e6, .int .i64 e7, .int .i64 e8, .int .i64 e9, .int .i64 e10, .int .u32 e11, .int .u32 e12, .int .i64 e13, .bool e14] by rw [HPu.out, hev])
                have Hev := Lib.hid hev
                clear hev
                go_wp2_with (first | ((with_reducible refine gd_ld 112 7 ?_); refine wpList_ld rfl 112 (.tmp 7) rfl _ rfl (H7.out) sRPart ?_) | ((with_reducible refine gd_ld 84 2 ?_); refine wpList_ld rfl 84 (.tmp 2) rfl _ rfl (HBh2.out) sRHead ?_) | fail)
                refine (ricmp_any (sz : Int) (ln : Int) d2 1 d4 d5 A2 m (c - sz) ys _ Hyl.out hmc (by omega) HRy2.out (by omega) (by omega)).mono ?_
                rintro e w6 ⟨rfl, hb6⟩
                rw [Hev.out]
                have HB6 := Lib.hid (bthen HB2.out hb6)
                have HBr6 := Lib.hid (HBr2.out.below hb6)
                clear hb6
                go_wp2_with (first | ((with_reducible refine gd_st 112 4 ?_); refine wpList_st rfl 112 (.tmp 4) _ rfl _ _ rfl _ rfl (HBr6.out) sRPart.2 (#[.int .i64 e0, .int .u16 e1, .int .u16 e2, .int .i64 e3, .int .i64 e4, .int .i64 e5, .bool e6, .int .i64 e7, .int .i64 e8, .int .i64 e9, .int .i64 e10, .int .u32 e11, .int .u32 e12, .int .i64 e13, .bool e14]) rfl (Nat.le_of_ble_eq_true rfl) rfl ?_; intro w9 hb9 hg9 hs9))
                rw [he.out, hh.out]
                exact bodyPost_ret (res_cell2 Try.results53 _ _ _ rfl rfl hb9 sRPart) rfl ⟨rfl, bgrown (HB6.out) hg9 hgl⟩
              · have e1' : (d3 == 1) = false := by simp [h1]
                have he := Lib.hid (show pgE ⟨(sz : Int), (ln : Int), d2, d3, d4, d5⟩ zs = 6 by rw [HE.out, if_neg h17, if_neg h6, if_neg h1])
                have hh := Lib.hid (show (pgP ⟨(sz : Int), (ln : Int), d2, d3, d4, d5⟩ zs).val = .agg #[.int .i64 0, .int .u16 0, .int .u16 0, .int .i64 0, .int .i64 0, .int .i64 0, .bool false, .int .i64 0, .int .i64 0, .int .i64 0, .int .i64 0, .int .u32 0, .int .u32 0, .int .i64 0, .bool false] by rw [HP.out, if_neg h17, if_neg h6, if_neg h1]; rfl)
                clear h17 h6 h1
                go_wp2_with (first | ((with_reducible refine gd_st 112 4 ?_); refine wpList_st rfl 112 (.tmp 4) _ rfl _ _ rfl _ rfl (HBr2.out) sRPart.2 (#[.int .i64 0, .int .u16 0, .int .u16 0, .int .i64 0, .int .i64 0, .int .i64 0, .bool false, .int .i64 0, .int .i64 0, .int .i64 0, .int .i64 0, .int .u32 0, .int .u32 0, .int .i64 0, .bool false]) rfl (Nat.le_of_ble_eq_true rfl) rfl ?_; intro w9 hb9 hg9 hs9))
                rw [he.out, hh.out]
                exact bodyPost_ret (res_cell2 Try.results53 _ _ _ rfl rfl hb9 sRPart) rfl ⟨rfl, bgrown (HB2.out) hg9 hgl⟩
end Go.Proofs.Ytbnlpidhbilenaa
