/-
  Contract of part.Get. Conditions stand in each theorem.
-/
import Derived.Test.YtbnlpidhbilenaaIcmp
namespace Go.Proofs.Ytbnlpidhbilenaa
open Go.RowKit Plain
set_option linter.unusedVariables false
set_option linter.unusedSimpArgs false
set_option maxRecDepth 100000

/-- what part.Get tells -/
def bodyOf (h : Hd) (zs : List Int) : List Int := (zs.drop h.size.toNat).take (h.len - h.size).toNat
def pgE (h : Hd) (zs : List Int) : Int :=
  if h.size < 20 ∨ 60 < h.size ∨ h.len < h.size ∨ (zs.length : Int) < h.len then 1
  else if h.proto = 17 then udE h.src h.dst (bodyOf h zs) else if h.proto = 6 then tcE h.src h.dst (bodyOf h zs) else if h.proto = 1 then icE (bodyOf h zs) else 6
def pgP (h : Hd) (zs : List Int) : Pt :=
  if h.size < 20 ∨ 60 < h.size ∨ h.len < h.size ∨ (zs.length : Int) < h.len then pt0
  else if h.proto = 17 then udP h.src h.dst (bodyOf h zs) else if h.proto = 6 then tcP h.src h.dst (bodyOf h zs) else if h.proto = 1 then icP h.size (bodyOf h zs) else pt0
set_option maxHeartbeats 8000000 in
theorem pget_any (d0 d1 d2 d3 d4 d5 : Int) (A : Option Addr) (n c : Nat) (zs : List Int) (w : World) (hn : zs.length = n) (hnc : n ≤ c) (hl : n ≤ 1000000) (hR : Rd w A zs) (s0 : 0 ≤ d4) (s1 : d4 ≤ 4294967295) (t0 : 0 ≤ d5) (t1 : d5 ≤ 4294967295) :
    Calls Try.prog 51 #[.agg #[.int .i64 d0, .int .i64 d1, .int .i64 d2, .int .i64 d3, .int .u32 d4, .int .u32 d5], .slice A n c] w fun e w' => e = .returned (.tuple #[(pgP ⟨d0, d1, d2, d3, d4, d5⟩ zs).val, .int .i64 (pgE ⟨d0, d1, d2, d3, d4, d5⟩ zs)]) ∧ Below w.heap.size w w' := by
  have HR := Lib.hid hR
  have Hn := Lib.hid hn
  clear hR hn
  go_enter Try.func51, Try.ntmps51
  go_upto_region 1 with fail
  obtain ⟨w1, hw1⟩ : ∃ w1, w1 = (w.alloc (.cells #[.int .i64 d0, .int .i64 d1, .int .i64 d2, .int .i64 d3, .int .u32 d4, .int .u32 d5] 103)).alloc (.cells #[.int .i64 0, .int .u16 0, .int .u16 0, .int .i64 0, .int .i64 0, .int .i64 0, .bool false, .int .i64 0, .int .i64 0, .int .i64 0, .int .i64 0, .int .u32 0, .int .u32 0, .int .i64 0, .bool false] 107) := ⟨_, rfl⟩
  have HBh := Lib.hid (show Blk w1 w.heap.size 103 #[.int .i64 d0, .int .i64 d1, .int .i64 d2, .int .i64 d3, .int .u32 d4, .int .u32 d5] by rw [hw1]; exact (Blk.new w _ _).alloc _)
  have hbr : Blk w1 (w.heap.size + 1) 107 #[.int .i64 0, .int .u16 0, .int .u16 0, .int .i64 0, .int .i64 0, .int .i64 0, .bool false, .int .i64 0, .int .i64 0, .int .i64 0, .int .i64 0, .int .u32 0, .int .u32 0, .int .i64 0, .bool false] := by rw [hw1]; have := Blk.new (w.alloc (.cells #[.int .i64 d0, .int .i64 d1, .int .i64 d2, .int .i64 d3, .int .u32 d4, .int .u32 d5] 103)) 107 #[.int .i64 0, .int .u16 0, .int .u16 0, .int .i64 0, .int .i64 0, .int .i64 0, .bool false, .int .i64 0, .int .i64 0, .int .i64 0, .int .i64 0, .int .u32 0, .int .u32 0, .int .i64 0, .bool false]; rwa [World.size_alloc] at this
  have HB1 := Lib.hid (show Below w.heap.size w w1 by rw [hw1]; exact bthen (ball _ _) (ball _ _))
  have HR1 := Lib.hid (HR.out.below HB1.out)
  rw [← hw1]
  clear hw1
  obtain ⟨gr, hgr⟩ : ∃ gr, gr = w.heap.size + 1 := ⟨_, rfl⟩
  have hgl : w.heap.size ≤ gr := by omega
  have hgn : ¬ w.heap.size = gr := by omega
  have hgn2 : ¬ gr = w.heap.size := by omega
  rw [← hgr] at hbr
  rw [← hgr]
  have HBr := Lib.hid hbr
  have hgw := hbr.lt
  clear hgr hbr
  have h0c : w1.cell? ⟨w.heap.size, 0, none⟩ = some (.int .i64 d0) := HBh.out.cell 0
  have h1c : w1.cell? ⟨w.heap.size, 1, none⟩ = some (.int .i64 d1) := HBh.out.cell 1
  have h3c : w1.cell? ⟨w.heap.size, 3, none⟩ = some (.int .i64 d3) := HBh.out.cell 3
  have Hbad := Lib.hid (fun (hb : d0 < 20 ∨ 60 < d0 ∨ d1 < d0 ∨ (n : Int) < d1) => show pgE ⟨d0, d1, d2, d3, d4, d5⟩ zs = 1 ∧ (pgP ⟨d0, d1, d2, d3, d4, d5⟩ zs).val = .agg #[.int .i64 0, .int .u16 0, .int .u16 0, .int .i64 0, .int .i64 0, .int .i64 0, .bool false, .int .i64 0, .int .i64 0, .int .i64 0, .int .i64 0, .int .u32 0, .int .u32 0, .int .i64 0, .bool false] by
    constructor
    · unfold pgE; rw [Hn.out, if_pos hb]
    · unfold pgP; rw [Hn.out, if_pos hb]; rfl)
  by_cases a1 : d0 < 20
  · have x1 : decide (d0 < 20) = true := by simp [a1]
    have hb := Lib.hid (Hbad.out (.inl a1))
    go_wp2_with (first | ((with_reducible refine gd_st 107 4 ?_); refine wpList_st rfl 107 (.tmp 4) _ rfl _ _ rfl _ rfl (HBr.out) sPart.2 (#[.int .i64 0, .int .u16 0, .int .u16 0, .int .i64 0, .int .i64 0, .int .i64 0, .bool false, .int .i64 0, .int .i64 0, .int .i64 0, .int .i64 0, .int .u32 0, .int .u32 0, .int .i64 0, .bool false]) rfl (Nat.le_of_ble_eq_true rfl) rfl ?_; intro w9 hb9 hg9 hs9))
    rw [hb.out.1, hb.out.2]
    exact bodyPost_ret (res_cell2 Try.results51 _ _ _ rfl rfl hb9 sPart) rfl ⟨rfl, bgrown (HB1.out) hg9 hgl⟩
  · have x1 : decide (d0 < 20) = false := by simp [a1]
    by_cases a2 : 60 < d0
    · have x2 : decide (60 < d0) = true := by simp [a2]
      have hb := Lib.hid (Hbad.out (.inr (.inl a2)))
      go_wp2_with (first | ((with_reducible refine gd_st 107 4 ?_); refine wpList_st rfl 107 (.tmp 4) _ rfl _ _ rfl _ rfl (HBr.out) sPart.2 (#[.int .i64 0, .int .u16 0, .int .u16 0, .int .i64 0, .int .i64 0, .int .i64 0, .bool false, .int .i64 0, .int .i64 0, .int .i64 0, .int .i64 0, .int .u32 0, .int .u32 0, .int .i64 0, .bool false]) rfl (Nat.le_of_ble_eq_true rfl) rfl ?_; intro w9 hb9 hg9 hs9))
      rw [hb.out.1, hb.out.2]
      exact bodyPost_ret (res_cell2 Try.results51 _ _ _ rfl rfl hb9 sPart) rfl ⟨rfl, bgrown (HB1.out) hg9 hgl⟩
    · have x2 : decide (60 < d0) = false := by simp [a2]
      by_cases a3 : d1 < d0
      · have x3 : decide (d1 < d0) = true := by simp [a3]
        have hb := Lib.hid (Hbad.out (.inr (.inr (.inl a3))))
        go_wp2_with (first | ((with_reducible refine gd_st 107 4 ?_); refine wpList_st rfl 107 (.tmp 4) _ rfl _ _ rfl _ rfl (HBr.out) sPart.2 (#[.int .i64 0, .int .u16 0, .int .u16 0, .int .i64 0, .int .i64 0, .int .i64 0, .bool false, .int .i64 0, .int .i64 0, .int .i64 0, .int .i64 0, .int .u32 0, .int .u32 0, .int .i64 0, .bool false]) rfl (Nat.le_of_ble_eq_true rfl) rfl ?_; intro w9 hb9 hg9 hs9))
        rw [hb.out.1, hb.out.2]
        exact bodyPost_ret (res_cell2 Try.results51 _ _ _ rfl rfl hb9 sPart) rfl ⟨rfl, bgrown (HB1.out) hg9 hgl⟩
      · have x3 : decide (d1 < d0) = false := by simp [a3]
        by_cases a4 : (n : Int) < d1
        · have x4 : decide ((n : Int) < d1) = true := by simp [a4]
          have hb := Lib.hid (Hbad.out (.inr (.inr (.inr a4))))
          go_wp2_with (first | ((with_reducible refine gd_st 107 4 ?_); refine wpList_st rfl 107 (.tmp 4) _ rfl _ _ rfl _ rfl (HBr.out) sPart.2 (#[.int .i64 0, .int .u16 0, .int .u16 0, .int .i64 0, .int .i64 0, .int .i64 0, .bool false, .int .i64 0, .int .i64 0, .int .i64 0, .int .i64 0, .int .u32 0, .int .u32 0, .int .i64 0, .bool false]) rfl (Nat.le_of_ble_eq_true rfl) rfl ?_; intro w9 hb9 hg9 hs9))
          rw [hb.out.1, hb.out.2]
          exact bodyPost_ret (res_cell2 Try.results51 _ _ _ rfl rfl hb9 sPart) rfl ⟨rfl, bgrown (HB1.out) hg9 hgl⟩
        · have x4 : decide ((n : Int) < d1) = false := by simp [a4]
          obtain ⟨sz, rfl⟩ : ∃ sz : Nat, d0 = (sz : Int) := ⟨d0.toNat, by omega⟩
          obtain ⟨ln, rfl⟩ : ∃ ln : Nat, d1 = (ln : Int) := ⟨d1.toNat, by omega⟩
          obtain ⟨b, off, rfl, hc⟩ := HR.out.2 (by rw [Hn.out]; omega)
          have ys_eq : bodyOf ⟨(sz : Int), (ln : Int), d2, d3, d4, d5⟩ zs = (zs.drop sz).take (ln - sz) := by
            show (zs.drop (sz : Int).toNat).take ((ln : Int) - (sz : Int)).toNat = _; rw [Int.toNat_natCast, show ((ln : Int) - (sz : Int)).toNat = ln - sz by omega]
          have HE := Lib.hid (show pgE ⟨(sz : Int), (ln : Int), d2, d3, d4, d5⟩ zs = if d3 = 17 then udE d4 d5 ((zs.drop sz).take (ln - sz)) else if d3 = 6 then tcE d4 d5 ((zs.drop sz).take (ln - sz)) else if d3 = 1 then icE ((zs.drop sz).take (ln - sz)) else 6 by
            unfold pgE; rw [Hn.out, if_neg (by simp only; omega), ys_eq])
          have HP := Lib.hid (show pgP ⟨(sz : Int), (ln : Int), d2, d3, d4, d5⟩ zs = if d3 = 17 then udP d4 d5 ((zs.drop sz).take (ln - sz)) else if d3 = 6 then tcP d4 d5 ((zs.drop sz).take (ln - sz)) else if d3 = 1 then icP (sz : Int) ((zs.drop sz).take (ln - sz)) else pt0 by
            unfold pgP; rw [Hn.out, if_neg (by simp only; omega), ys_eq])
          have iln : (ln : Int) ≤ (c : Int) := by omega
          have isl : (sz : Int) ≤ (ln : Int) := by omega
          obtain ⟨A2, hA2⟩ : ∃ A2 : Option Addr, A2 = if c = sz then some ⟨b, off, none⟩ else some ⟨b, off + sz, none⟩ := ⟨_, rfl⟩
          have HRy := Lib.hid (show Rd w A2 ((zs.drop sz).take (ln - sz)) by
            rw [hA2]
            split
            · rw [show (zs.drop sz).take (ln - sz) = [] from List.eq_nil_of_length_eq_zero (by rw [List.length_take, List.length_drop, Hn.out]; omega)]; exact Rd.nil _ _
            · exact (HR.out.dropAt sz).take (ln - sz))
          have Hyl := Lib.hid (show ((zs.drop sz).take (ln - sz)).length = ln - sz by rw [List.length_take, List.length_drop, Hn.out]; omega)
          generalize (zs.drop sz).take (ln - sz) = ys at *
          go_upto_region 4 with fail
          rw [← hA2]
          have hml : ln - sz ≤ 1000000 := by omega
          have hmc : ln - sz ≤ c - sz := by omega
          generalize ln - sz = m at *
          clear hA2 ys_eq hc h0c h1c x1 x2 x3 x4
          by_cases h17 : d3 = 17
          · have e17 : (d3 == 17) = true := by simp [h17]
            obtain ⟨e0, e1, e2, e3, e4, e5, e6, e7, e8, e9, e10, e11, e12, e13, e14, hev⟩ := Pt.mk_val (udP d4 d5 ys)
            have he := Lib.hid (show pgE ⟨(sz : Int), (ln : Int), d2, d3, d4, d5⟩ zs = udE d4 d5 ys by rw [HE.out, if_pos h17])
            have hh := Lib.hid (show (pgP ⟨(sz : Int), (ln : Int), d2, d3, d4, d5⟩ zs).val = .agg #[.int .i64 e0, .int .u16 e1, .int .u16 e2, .int .i64 e3, .int .i64 e4, .int .i64 e5, .bool e6, .int .i64 e7, .int .i64 e8, .int .i64 e9, .int .i64 e10, .int .u32 e11, .int .u32 e12, .int .i64 e13, .bool e14] by rw [HP.out, if_pos h17, hev])
            have Hev := Lib.hid hev
            clear h17 hev
            go_wp2_with (first | ((with_reducible refine gd_ld 103 2 ?_); refine wpList_ld rfl 103 (.tmp 2) rfl _ rfl (HBh.out) sHead ?_) | fail)
            refine (getUdp_any (sz : Int) (ln : Int) d2 d3 d4 d5 A2 m (c - sz) ys _ Hyl.out hml (HRy.out.below HB1.out) s0 s1 t0 t1).mono ?_
            rintro e w6 ⟨rfl, hb6⟩
            rw [Hev.out]
            have HB6 := Lib.hid (bthen HB1.out hb6)
            have HBr6 := Lib.hid (HBr.out.below hb6)
            clear hb6
            go_wp2_with (first | ((with_reducible refine gd_st 107 4 ?_); refine wpList_st rfl 107 (.tmp 4) _ rfl _ _ rfl _ rfl (HBr6.out) sPart.2 (#[.int .i64 e0, .int .u16 e1, .int .u16 e2, .int .i64 e3, .int .i64 e4, .int .i64 e5, .bool e6, .int .i64 e7, .int .i64 e8, .int .i64 e9, .int .i64 e10, .int .u32 e11, .int .u32 e12, .int .i64 e13, .bool e14]) rfl (Nat.le_of_ble_eq_true rfl) rfl ?_; intro w9 hb9 hg9 hs9))
            rw [he.out, hh.out]
            exact bodyPost_ret (res_cell2 Try.results51 _ _ _ rfl rfl hb9 sPart) rfl ⟨rfl, bgrown (HB6.out) hg9 hgl⟩
          · have e17 : (d3 == 17) = false := by simp [h17]
            by_cases h6 : d3 = 6
            · have e6 : (d3 == 6) = true := by simp [h6]
              obtain ⟨e0, e1, e2, e3, e4, e5, e6, e7, e8, e9, e10, e11, e12, e13, e14, hev⟩ := Pt.mk_val (tcP d4 d5 ys)
              have he := Lib.hid (show pgE ⟨(sz : Int), (ln : Int), d2, d3, d4, d5⟩ zs = tcE d4 d5 ys by rw [HE.out, if_neg h17, if_pos h6])
              have hh := Lib.hid (show (pgP ⟨(sz : Int), (ln : Int), d2, d3, d4, d5⟩ zs).val = .agg #[.int .i64 e0, .int .u16 e1, .int .u16 e2, .int .i64 e3, .int .i64 e4, .int .i64 e5, .bool e6, .int .i64 e7, .int .i64 e8, .int .i64 e9, .int .i64 e10, .int .u32 e11, .int .u32 e12, .int .i64 e13, .bool e14] by rw [HP.out, if_neg h17, if_pos h6, hev])
              have Hev := Lib.hid hev
              clear h17 h6 hev
              go_wp2_with (first | ((with_reducible refine gd_ld 103 2 ?_); refine wpList_ld rfl 103 (.tmp 2) rfl _ rfl (HBh.out) sHead ?_) | fail)
              refine (getTcp_any (sz : Int) (ln : Int) d2 d3 d4 d5 A2 m (c - sz) ys _ Hyl.out hml (HRy.out.below HB1.out) s0 s1 t0 t1).mono ?_
              rintro e w6 ⟨rfl, hb6⟩
              rw [Hev.out]
              have HB6 := Lib.hid (bthen HB1.out hb6)
              have HBr6 := Lib.hid (HBr.out.below hb6)
              clear hb6
              go_wp2_with (first | ((with_reducible refine gd_st 107 4 ?_); refine wpList_st rfl 107 (.tmp 4) _ rfl _ _ rfl _ rfl (HBr6.out) sPart.2 (#[.int .i64 e0, .int .u16 e1, .int .u16 e2, .int .i64 e3, .int .i64 e4, .int .i64 e5, .bool e6, .int .i64 e7, .int .i64 e8, .int .i64 e9, .int .i64 e10, .int .u32 e11, .int .u32 e12, .int .i64 e13, .bool e14]) rfl (Nat.le_of_ble_eq_true rfl) rfl ?_; intro w9 hb9 hg9 hs9))
              rw [he.out, hh.out]
              exact bodyPost_ret (res_cell2 Try.results51 _ _ _ rfl rfl hb9 sPart) rfl ⟨rfl, bgrown (HB6.out) hg9 hgl⟩
            · have e6 : (d3 == 6) = false := by simp [h6]
              by_cases h1 : d3 = 1
              · have e1' : (d3 == 1) = true := by simp [h1]
                obtain ⟨e0, e1, e2, e3, e4, e5, e6, e7, e8, e9, e10, e11, e12, e13, e14, hev⟩ := Pt.mk_val (icP (sz : Int) ys)
                have he := Lib.hid (show pgE ⟨(sz : Int), (ln : Int), d2, d3, d4, d5⟩ zs = icE ys by rw [HE.out, if_neg h17, if_neg h6, if_pos h1])
                have hh := Lib.hid (show (pgP ⟨(sz : Int), (ln : Int), d2, d3, d4, d5⟩ zs).val = .agg #[.int .i64 e0, .int .u16 e1, .int .u16 e2, .int .i64 e3, .int .i64 e4, .int .i64 e5, .bool e6, .int .i64 e7, .int .i64 e8, .int .i64 e9, .int .i64 e10, .int .u32 e11, .int .u32 e12, .int .i64 e13, .bool e14] by rw [HP.out, if_neg h17, if_neg h6, if_pos h1, hev])
                have Hev := Lib.hid hev
                clear h17 h6 h1 hev
                go_wp2_with (first | ((with_reducible refine gd_ld 103 2 ?_); refine wpList_ld rfl 103 (.tmp 2) rfl _ rfl (HBh.out) sHead ?_) | fail)
                refine (getIcmp_any (sz : Int) (ln : Int) d2 d3 d4 d5 A2 m (c - sz) ys _ Hyl.out hmc hml (HRy.out.below HB1.out) (by omega) (by omega)).mono ?_
                rintro e w6 ⟨rfl, hb6⟩
                rw [Hev.out]
                have HB6 := Lib.hid (bthen HB1.out hb6)
                have HBr6 := Lib.hid (HBr.out.below hb6)
                clear hb6
                go_wp2_with (first | ((with_reducible refine gd_st 107 4 ?_); refine wpList_st rfl 107 (.tmp 4) _ rfl _ _ rfl _ rfl (HBr6.out) sPart.2 (#[.int .i64 e0, .int .u16 e1, .int .u16 e2, .int .i64 e3, .int .i64 e4, .int .i64 e5, .bool e6, .int .i64 e7, .int .i64 e8, .int .i64 e9, .int .i64 e10, .int .u32 e11, .int .u32 e12, .int .i64 e13, .bool e14]) rfl (Nat.le_of_ble_eq_true rfl) rfl ?_; intro w9 hb9 hg9 hs9))
                rw [he.out, hh.out]
                exact bodyPost_ret (res_cell2 Try.results51 _ _ _ rfl rfl hb9 sPart) rfl ⟨rfl, bgrown (HB6.out) hg9 hgl⟩
              · have e1' : (d3 == 1) = false := by simp [h1]
                have he := Lib.hid (show pgE ⟨(sz : Int), (ln : Int), d2, d3, d4, d5⟩ zs = 6 by rw [HE.out, if_neg h17, if_neg h6, if_neg h1])
                have hh := Lib.hid (show (pgP ⟨(sz : Int), (ln : Int), d2, d3, d4, d5⟩ zs).val = .agg #[.int .i64 0, .int .u16 0, .int .u16 0, .int .i64 0, .int .i64 0, .int .i64 0, .bool false, .int .i64 0, .int .i64 0, .int .i64 0, .int .i64 0, .int .u32 0, .int .u32 0, .int .i64 0, .bool false] by rw [HP.out, if_neg h17, if_neg h6, if_neg h1]; rfl)
                clear h17 h6 h1
                go_wp2_with (first | ((with_reducible refine gd_st 107 4 ?_); refine wpList_st rfl 107 (.tmp 4) _ rfl _ _ rfl _ rfl (HBr.out) sPart.2 (#[.int .i64 0, .int .u16 0, .int .u16 0, .int .i64 0, .int .i64 0, .int .i64 0, .bool false, .int .i64 0, .int .i64 0, .int .i64 0, .int .i64 0, .int .u32 0, .int .u32 0, .int .i64 0, .bool false]) rfl (Nat.le_of_ble_eq_true rfl) rfl ?_; intro w9 hb9 hg9 hs9))
                rw [he.out, hh.out]
                exact bodyPost_ret (res_cell2 Try.results51 _ _ _ rfl rfl hb9 sPart) rfl ⟨rfl, bgrown (HB1.out) hg9 hgl⟩
end Go.Proofs.Ytbnlpidhbilenaa
