/-
  Several small texts in one: PGet, Put, PutY, Behind, Pseudo, Lay. Conditions stand in each theorem.
-/
import Derived.Test.YtbnlpidhbilenaaIcmp
import Derived.Test.YtbnlpidhbilenaaGI
import Derived.Laws.CopyOwn
import Derived.StillTailTactics
import Derived.Deep.DeepCutAuto
namespace Go.Proofs.Ytbnlpidhbilenaa
open Go.RowKit Plain
set_option linter.unusedVariables false
set_option linter.unusedSimpArgs false
set_option maxRecDepth 100000

/-- what part.Get tells -/
def bodyOf (h : Hd) (zs : List Int) : List Int := (zs.drop h.size.toNat).take (h.len - h.size).toNat
def pgE (h : Hd) (zs : List Int) : Int :=
  if h.size < 20 ∨ 60 < h.size ∨ h.len < h.size ∨ (zs.length : Int) < h.len then 1
  else if h.proto = 17 then udE h.src h.dst (bodyOf h zs) else if h.proto = 6 then tcE h.src h.dst (bodyOf h zs) else if h.proto = 1 then icE (bodyOf h zs) else 6
def pgP (h : Hd) (zs : List Int) : Pt :=
  if h.size < 20 ∨ 60 < h.size ∨ h.len < h.size ∨ (zs.length : Int) < h.len then pt0
  else if h.proto = 17 then udP h.src h.dst (bodyOf h zs) else if h.proto = 6 then tcP h.src h.dst (bodyOf h zs) else if h.proto = 1 then icP h.size (bodyOf h zs) else pt0
set_option maxHeartbeats 8000000 in
theorem pget_any (d0 d1 d2 d3 d4 d5 : Int) (A : Option Addr) (n c : Nat) (zs : List Int) (w : World) (hn : zs.length = n) (hnc : n ≤ c) (hl : n ≤ 1000000) (hR : Rd w A zs) (s0 : 0 ≤ d4) (s1 : d4 ≤ 4294967295) (t0 : 0 ≤ d5) (t1 : d5 ≤ 4294967295) :
    Calls Try.prog 51 #[.agg #[.int .i64 d0, .int .i64 d1, .int .i64 d2, .int .i64 d3, .int .u32 d4, .int .u32 d5], .slice A n c] w fun e w' => e = .returned (.tuple #[(pgP ⟨d0, d1, d2, d3, d4, d5⟩ zs).val, .int .i64 (pgE ⟨d0, d1, d2, d3, d4, d5⟩ zs)]) ∧ Below w.heap.size w w' := by
  have HR := Lib.hid hR
  have Hn := Lib.hid hn
  clear hR hn
  go_enter Try.func51, Try.ntmps51
  go_upto_region 1 with fail
  obtain ⟨w1, hw1⟩ : ∃ w1, w1 = (w.alloc (.cells #[.int .i64 d0, .int .i64 d1, .int .i64 d2, .int .i64 d3, .int .u32 d4, .int .u32 d5] 103)).alloc (.cells #[.int .i64 0, .int .u16 0, .int .u16 0, .int .i64 0, .int .i64 0, .int .i64 0, .bool false, .int .i64 0, .int .i64 0, .int .i64 0, .int .i64 0, .int .u32 0, .int .u32 0, .int .i64 0, .bool false] 107) := ⟨_, rfl⟩
  have HBh := Lib.hid (show Blk w1 w.heap.size 103 #[.int .i64 d0, .int .i64 d1, .int .i64 d2, .int .i64 d3, .int .u32 d4, .int .u32 d5] by rw [hw1]; exact (Blk.new w _ _).alloc _)
  have hbr : Blk w1 (w.heap.size + 1) 107 #[.int .i64 0, .int .u16 0, .int .u16 0, .int .i64 0, .int .i64 0, .int .i64 0, .bool false, .int .i64 0, .int .i64 0, .int .i64 0, .int .i64 0, .int .u32 0, .int .u32 0, .int .i64 0, .bool false] := by rw [hw1]; have := Blk.new (w.alloc (.cells #[.int .i64 d0, .int .i64 d1, .int .i64 d2, .int .i64 d3, .int .u32 d4, .int .u32 d5] 103)) 107 #[.int .i64 0, .int .u16 0, .int .u16 0, .int .i64 0, .int .i64 0, .int .i64 0, .bool false, .int .i64 0, .int .i64 0, .int .i64 0, .int .i64 0, .int .u32 0, .int .u32 0, .int .i64 0, .bool false]; rwa [World.size_alloc] at this
  have HB1 := Lib.hid (show Below w.heap.size w w1 by rw [hw1]; exact bthen (ball _ _) (ball _ _))
  have HR1 := Lib.hid (HR.out.below HB1.out)
  rw [← hw1]
  clear hw1
  obtain ⟨gr, hgr⟩ : ∃ gr, gr = w.heap.size + 1 := ⟨_, rfl⟩
  have hgl : w.heap.size ≤ gr := by omega
  have hgn : ¬ w.heap.size = gr := by omega
  have hgn2 : ¬ gr = w.heap.size := by omega
  rw [← hgr] at hbr
  rw [← hgr]
  have HBr := Lib.hid hbr
  have hgw := hbr.lt
  clear hgr hbr
  have h0c : w1.cell? ⟨w.heap.size, 0, none⟩ = some (.int .i64 d0) := HBh.out.cell 0
  have h1c : w1.cell? ⟨w.heap.size, 1, none⟩ = some (.int .i64 d1) := HBh.out.cell 1
  have h3c : w1.cell? ⟨w.heap.size, 3, none⟩ = some (.int .i64 d3) := HBh.out.cell 3
  have Hbad := Lib.hid (fun (hb : d0 < 20 ∨ 60 < d0 ∨ d1 < d0 ∨ (n : Int) < d1) => show pgE ⟨d0, d1, d2, d3, d4, d5⟩ zs = 1 ∧ (pgP ⟨d0, d1, d2, d3, d4, d5⟩ zs).val = .agg #[.int .i64 0, .int .u16 0, .int .u16 0, .int .i64 0, .int .i64 0, .int .i64 0, .bool false, .int .i64 0, .int .i64 0, .int .i64 0, .int .i64 0, .int .u32 0, .int .u32 0, .int .i64 0, .bool false] by
    constructor
    · unfold pgE; rw [Hn.out, if_pos hb]
    · unfold pgP; rw [Hn.out, if_pos hb]; rfl)
  by_cases a1 : d0 < 20
  · have x1 : decide (d0 < 20) = true := by simp [a1]
    have hb := Lib.hid (Hbad.out (.inl a1))
    go_wp2_with (first | ((with_reducible refine gd_st 107 4 ?_); refine wpList_st rfl 107 (.tmp 4) _ rfl _ _ rfl _ rfl (HBr.out) sPart.2 (#[.int .i64 0, .int .u16 0, .int .u16 0, .int .i64 0, .int .i64 0, .int .i64 0, .bool false, .int .i64 0, .int .i64 0, .int .i64 0, .int .i64 0, .int .u32 0, .int .u32 0, .int .i64 0, .bool false]) rfl (Nat.le_of_ble_eq_true rfl) rfl ?_; intro w9 hb9 hg9 hs9))
    rw [hb.out.1, hb.out.2]
    exact bodyPost_ret (res_cell2 Try.results51 _ _ _ rfl rfl hb9 sPart) rfl ⟨rfl, bgrown (HB1.out) hg9 hgl⟩
  · have x1 : decide (d0 < 20) = false := by simp [a1]
    by_cases a2 : 60 < d0
    · have x2 : decide (60 < d0) = true := by simp [a2]
      have hb := Lib.hid (Hbad.out (.inr (.inl a2)))
      go_wp2_with (first | ((with_reducible refine gd_st 107 4 ?_); refine wpList_st rfl 107 (.tmp 4) _ rfl _ _ rfl _ rfl (HBr.out) sPart.2 (#[.int .i64 0, .int .u16 0, .int .u16 0, .int .i64 0, .int .i64 0, .int .i64 0, .bool false, .int .i64 0, .int .i64 0, .int .i64 0, .int .i64 0, .int .u32 0, .int .u32 0, .int .i64 0, .bool false]) rfl (Nat.le_of_ble_eq_true rfl) rfl ?_; intro w9 hb9 hg9 hs9))
      rw [hb.out.1, hb.out.2]
      exact bodyPost_ret (res_cell2 Try.results51 _ _ _ rfl rfl hb9 sPart) rfl ⟨rfl, bgrown (HB1.out) hg9 hgl⟩
    · have x2 : decide (60 < d0) = false := by simp [a2]
      by_cases a3 : d1 < d0
      · have x3 : decide (d1 < d0) = true := by simp [a3]
        have hb := Lib.hid (Hbad.out (.inr (.inr (.inl a3))))
        go_wp2_with (first | ((with_reducible refine gd_st 107 4 ?_); refine wpList_st rfl 107 (.tmp 4) _ rfl _ _ rfl _ rfl (HBr.out) sPart.2 (#[.int .i64 0, .int .u16 0, .int .u16 0, .int .i64 0, .int .i64 0, .int .i64 0, .bool false, .int .i64 0, .int .i64 0, .int .i64 0, .int .i64 0, .int .u32 0, .int .u32 0, .int .i64 0, .bool false]) rfl (Nat.le_of_ble_eq_true rfl) rfl ?_; intro w9 hb9 hg9 hs9))
        rw [hb.out.1, hb.out.2]
        exact bodyPost_ret (res_cell2 Try.results51 _ _ _ rfl rfl hb9 sPart) rfl ⟨rfl, bgrown (HB1.out) hg9 hgl⟩
      · have x3 : decide (d1 < d0) = false := by simp [a3]
        by_cases a4 : (n : Int) < d1
        · have x4 : decide ((n : Int) < d1) = true := by simp [a4]
          have hb := Lib.hid (Hbad.out (.inr (.inr (.inr a4))))
          go_wp2_with (first | ((with_reducible refine gd_st 107 4 ?_); refine wpList_st rfl 107 (.tmp 4) _ rfl _ _ rfl _ rfl (HBr.out) sPart.2 (#[.int .i64 0, .int .u16 0, .int .u16 0, .int .i64 0, .int .i64 0, .int .i64 0, .bool false, .int .i64 0, .int .i64 0, .int .i64 0, .int .i64 0, .int .u32 0, .int .u32 0, .int .i64 0, .bool false]) rfl (Nat.le_of_ble_eq_true rfl) rfl ?_; intro w9 hb9 hg9 hs9))
          rw [hb.out.1, hb.out.2]
          exact bodyPost_ret (res_cell2 Try.results51 _ _ _ rfl rfl hb9 sPart) rfl ⟨rfl, bgrown (HB1.out) hg9 hgl⟩
        · have x4 : decide ((n : Int) < d1) = false := by simp [a4]
          obtain ⟨sz, rfl⟩ : ∃ sz : Nat, d0 = (sz : Int) := ⟨d0.toNat, by omega⟩
          obtain ⟨ln, rfl⟩ : ∃ ln : Nat, d1 = (ln : Int) := ⟨d1.toNat, by omega⟩
          obtain ⟨b, off, rfl, hc⟩ := HR.out.2 (by rw [Hn.out]; omega)
          have ys_eq : bodyOf ⟨(sz : Int), (ln : Int), d2, d3, d4, d5⟩ zs = (zs.drop sz).take (ln - sz) := by
            show (zs.drop (sz : Int).toNat).take ((ln : Int) - (sz : Int)).toNat = _; rw [Int.toNat_natCast, show ((ln : Int) - (sz : Int)).toNat = ln - sz by omega]
          have HE := Lib.hid (show pgE ⟨(sz : Int), (ln : Int), d2, d3, d4, d5⟩ zs = if d3 = 17 then udE d4 d5 ((zs.drop sz).take (ln - sz)) else if d3 = 6 then tcE d4 d5 ((zs.drop sz).take (ln - sz)) else if d3 = 1 then icE ((zs.drop sz).take (ln - sz)) else 6 by
            unfold pgE; rw [Hn.out, if_neg (by simp only; omega), ys_eq])
          have HP := Lib.hid (show pgP ⟨(sz : Int), (ln : Int), d2, d3, d4, d5⟩ zs = if d3 = 17 then udP d4 d5 ((zs.drop sz).take (ln - sz)) else if d3 = 6 then tcP d4 d5 ((zs.drop sz).take (ln - sz)) else if d3 = 1 then icP (sz : Int) ((zs.drop sz).take (ln - sz)) else pt0 by
            unfold pgP; rw [Hn.out, if_neg (by simp only; omega), ys_eq])
          have iln : (ln : Int) ≤ (c : Int) := by omega
          have isl : (sz : Int) ≤ (ln : Int) := by omega
          obtain ⟨A2, hA2⟩ : ∃ A2 : Option Addr, A2 = if c = sz then some ⟨b, off, none⟩ else some ⟨b, off + sz, none⟩ := ⟨_, rfl⟩
          have HRy := Lib.hid (show Rd w A2 ((zs.drop sz).take (ln - sz)) by
            rw [hA2]
            split
            · rw [show (zs.drop sz).take (ln - sz) = [] from List.eq_nil_of_length_eq_zero (by rw [List.length_take, List.length_drop, Hn.out]; omega)]; exact Rd.nil _ _
            · exact (HR.out.dropAt sz).take (ln - sz))
          have Hyl := Lib.hid (show ((zs.drop sz).take (ln - sz)).length = ln - sz by rw [List.length_take, List.length_drop, Hn.out]; omega)
          generalize (zs.drop sz).take (ln - sz) = ys at *
          go_upto_region 4 with fail
          rw [← hA2]
          have hml : ln - sz ≤ 1000000 := by omega
          have hmc : ln - sz ≤ c - sz := by omega
          generalize ln - sz = m at *
          clear hA2 ys_eq hc h0c h1c x1 x2 x3 x4
          by_cases h17 : d3 = 17
          · have e17 : (d3 == 17) = true := by simp [h17]
            obtain ⟨e0, e1, e2, e3, e4, e5, e6, e7, e8, e9, e10, e11, e12, e13, e14, hev⟩ := Pt.mk_val (udP d4 d5 ys)
            have he := Lib.hid (show pgE ⟨(sz : Int), (ln : Int), d2, d3, d4, d5⟩ zs = udE d4 d5 ys by rw [HE.out, if_pos h17])
            have hh := Lib.hid (show (pgP ⟨(sz : Int), (ln : Int), d2, d3, d4, d5⟩ zs).val = .agg #[.int .i64 e0, .int .u16 e1, .int .u16 e2, .int .i64 e3, .int .i64 e4, .int .i64 e5, .bool e6, .int .i64 e7, .int .i64 e8, .int .i64 e9, .int .i64 e10, .int .u32 e11, .int .u32 e12, .int .i64 e13, .bool e14] by rw [HP.out, if_pos h17, hev])
            have Hev := Lib.hid hev
            clear h17 hev
            go_wp2_with (first | ((with_reducible refine gd_ld 103 2 ?_); refine wpList_ld rfl 103 (.tmp 2) rfl _ rfl (HBh.out) sHead ?_) | fail)
            refine (getUdp_any (sz : Int) (ln : Int) d2 d3 d4 d5 A2 m (c - sz) ys _ Hyl.out hml (HRy.out.below HB1.out) s0 s1 t0 t1).mono ?_
            rintro e w6 ⟨rfl, hb6⟩
            rw [Hev.out]
            have HB6 := Lib.hid (bthen HB1.out hb6)
            have HBr6 := Lib.hid (HBr.out.below hb6)
            clear hb6
            go_wp2_with (first | ((with_reducible refine gd_st 107 4 ?_); refine wpList_st rfl 107 (.tmp 4) _ rfl _ _ rfl _ rfl (HBr6.out) sPart.2 (#[.int .i64 e0, .int .u16 e1, .int .u16 e2, .int .i64 e3, .int .i64 e4, .int .i64 e5, .bool e6, .int .i64 e7, .int .i64 e8, .int .i64 e9, .int .i64 e10, .int .u32 e11, .int .u32 e12, .int .i64 e13, .bool e14]) rfl (Nat.le_of_ble_eq_true rfl) rfl ?_; intro w9 hb9 hg9 hs9))
            rw [he.out, hh.out]
            exact bodyPost_ret (res_cell2 Try.results51 _ _ _ rfl rfl hb9 sPart) rfl ⟨rfl, bgrown (HB6.out) hg9 hgl⟩
          · have e17 : (d3 == 17) = false := by simp [h17]
            by_cases h6 : d3 = 6
            · have e6 : (d3 == 6) = true := by simp [h6]
              obtain ⟨e0, e1, e2, e3, e4, e5, e6, e7, e8, e9, e10, e11, e12, e13, e14, hev⟩ := Pt.mk_val (tcP d4 d5 ys)
              have he := Lib.hid (show pgE ⟨(sz : Int), (ln : Int), d2, d3, d4, d5⟩ zs = tcE d4 d5 ys by rw [HE.out, if_neg h17, if_pos h6])
              have hh := Lib.hid (show (pgP ⟨(sz : Int), (ln : Int), d2, d3, d4, d5⟩ zs).val = .agg #[.int .i64 e0, .int .u16 e1, .int .u16 e2, .int .i64 e3, .int .i64 e4, .int .i64 e5, .bool e6, .int .i64 e7, .int .i64 e8, .int .i64 e9, .int .i64 e10, .int .u32 e11, .int .u32 e12, .int .i64 e13, .bool e14] by rw [HP.out, if_neg h17, if_pos h6, hev])
              have Hev := Lib.hid hev
              clear h17 h6 hev
              go_wp2_with (first | ((with_reducible refine gd_ld 103 2 ?_); refine wpList_ld rfl 103 (.tmp 2) rfl _ rfl (HBh.out) sHead ?_) | fail)
              refine (getTcp_any (sz : Int) (ln : Int) d2 d3 d4 d5 A2 m (c - sz) ys _ Hyl.out hml (HRy.out.below HB1.out) s0 s1 t0 t1).mono ?_
              rintro e w6 ⟨rfl, hb6⟩
              rw [Hev.out]
              have HB6 := Lib.hid (bthen HB1.out hb6)
              have HBr6 := Lib.hid (HBr.out.below hb6)
              clear hb6
              go_wp2_with (first | ((with_reducible refine gd_st 107 4 ?_); refine wpList_st rfl 107 (.tmp 4) _ rfl _ _ rfl _ rfl (HBr6.out) sPart.2 (#[.int .i64 e0, .int .u16 e1, .int .u16 e2, .int .i64 e3, .int .i64 e4, .int .i64 e5, .bool e6, .int .i64 e7, .int .i64 e8, .int .i64 e9, .int .i64 e10, .int .u32 e11, .int .u32 e12, .int .i64 e13, .bool e14]) rfl (Nat.le_of_ble_eq_true rfl) rfl ?_; intro w9 hb9 hg9 hs9))
              rw [he.out, hh.out]
              exact bodyPost_ret (res_cell2 Try.results51 _ _ _ rfl rfl hb9 sPart) rfl ⟨rfl, bgrown (HB6.out) hg9 hgl⟩
            · have e6 : (d3 == 6) = false := by simp [h6]
              by_cases h1 : d3 = 1
              · have e1' : (d3 == 1) = true := by simp [h1]
                obtain ⟨e0, e1, e2, e3, e4, e5, e6, e7, e8, e9, e10, e11, e12, e13, e14, hev⟩ := Pt.mk_val (icP (sz : Int) ys)
                have he := Lib.hid (show pgE ⟨(sz : Int), (ln : Int), d2, d3, d4, d5⟩ zs = icE ys by rw [HE.out, if_neg h17, if_neg h6, if_pos h1])
                have hh := Lib.hid (show (pgP ⟨(sz : Int), (ln : Int), d2, d3, d4, d5⟩ zs).val = .agg #[.int .i64 e0, .int .u16 e1, .int .u16 e2, .int .i64 e3, .int .i64 e4, .int .i64 e5, .bool e6, .int .i64 e7, .int .i64 e8, .int .i64 e9, .int .i64 e10, .int .u32 e11, .int .u32 e12, .int .i64 e13, .bool e14] by rw [HP.out, if_neg h17, if_neg h6, if_pos h1, hev])
                have Hev := Lib.hid hev
                clear h17 h6 h1 hev
                go_wp2_with (first | ((with_reducible refine gd_ld 103 2 ?_); refine wpList_ld rfl 103 (.tmp 2) rfl _ rfl (HBh.out) sHead ?_) | fail)
                refine (getIcmp_any (sz : Int) (ln : Int) d2 d3 d4 d5 A2 m (c - sz) ys _ Hyl.out hmc hml (HRy.out.below HB1.out) (by omega) (by omega)).mono ?_
                rintro e w6 ⟨rfl, hb6⟩
                rw [Hev.out]
                have HB6 := Lib.hid (bthen HB1.out hb6)
                have HBr6 := Lib.hid (HBr.out.below hb6)
                clear hb6
                go_wp2_with (first | ((with_reducible refine gd_st 107 4 ?_); refine wpList_st rfl 107 (.tmp 4) _ rfl _ _ rfl _ rfl (HBr6.out) sPart.2 (#[.int .i64 e0, .int .u16 e1, .int .u16 e2, .int .i64 e3, .int .i64 e4, .int .i64 e5, .bool e6, .int .i64 e7, .int .i64 e8, .int .i64 e9, .int .i64 e10, .int .u32 e11, .int .u32 e12, .int .i64 e13, .bool e14]) rfl (Nat.le_of_ble_eq_true rfl) rfl ?_; intro w9 hb9 hg9 hs9))
                rw [he.out, hh.out]
                exact bodyPost_ret (res_cell2 Try.results51 _ _ _ rfl rfl hb9 sPart) rfl ⟨rfl, bgrown (HB6.out) hg9 hgl⟩
              · have e1' : (d3 == 1) = false := by simp [h1]
                have he := Lib.hid (show pgE ⟨(sz : Int), (ln : Int), d2, d3, d4, d5⟩ zs = 6 by rw [HE.out, if_neg h17, if_neg h6, if_neg h1])
                have hh := Lib.hid (show (pgP ⟨(sz : Int), (ln : Int), d2, d3, d4, d5⟩ zs).val = .agg #[.int .i64 0, .int .u16 0, .int .u16 0, .int .i64 0, .int .i64 0, .int .i64 0, .bool false, .int .i64 0, .int .i64 0, .int .i64 0, .int .i64 0, .int .u32 0, .int .u32 0, .int .i64 0, .bool false] by rw [HP.out, if_neg h17, if_neg h6, if_neg h1]; rfl)
                clear h17 h6 h1
                go_wp2_with (first | ((with_reducible refine gd_st 107 4 ?_); refine wpList_st rfl 107 (.tmp 4) _ rfl _ _ rfl _ rfl (HBr.out) sPart.2 (#[.int .i64 0, .int .u16 0, .int .u16 0, .int .i64 0, .int .i64 0, .int .i64 0, .bool false, .int .i64 0, .int .i64 0, .int .i64 0, .int .i64 0, .int .u32 0, .int .u32 0, .int .i64 0, .bool false]) rfl (Nat.le_of_ble_eq_true rfl) rfl ?_; intro w9 hb9 hg9 hs9))
                rw [he.out, hh.out]
                exact bodyPost_ret (res_cell2 Try.results51 _ _ _ rfl rfl hb9 sPart) rfl ⟨rfl, bgrown (HB1.out) hg9 hgl⟩
end Go.Proofs.Ytbnlpidhbilenaa

namespace Go.Proofs.Ytbnlpidhbilenaa
open Go.RowKit Plain
set_option linter.unusedVariables false
set_option maxRecDepth 100000

theorem zeros_list (n : Nat) : (madeCells #[Value.int .u8 0] (n * 1)).toList = (List.replicate n (0 : Int)).map (Value.int .u8) := by
  rw [toList_madeCells_one, Nat.mul_one, List.map_replicate]
theorem By.zeros (n : Nat) : By (List.replicate n 0) := by intro x hx; rw [List.eq_of_mem_replicate hx]; omega

/-- make of so many bytes -/
theorem wpList_mk {w : World} {ops : Array Oper} {rest : List Oper} {o : Oper} {a : Act} {Q : Exit → Act → World → Prop} (hg : o.guard = none) (l c : Operand) (hop : o.op = Op.makeSlice 27 l c)
    (base : Nat) (L C : Int) (n : Nat) (hl : a.eval l = .int .i64 L) (hc : a.eval c = .int .i64 C) (hL : L = (n : Int)) (hC : C = (n : Int)) (b3 : n ≤ 1000000000) (b4 : base ≤ w.heap.size)
    (hK : ∀ w', Own w' base (some ⟨w.heap.size, 0, none⟩) n n (List.replicate n 0) → w.grownBy w' none → wpList Try.prog ops Q rest (a.put o.dst (.slice (some ⟨w.heap.size, 0, none⟩) n n)) w') :
    wpList Try.prog ops Q (o :: rest) a w := by
  obtain ⟨i, hi, hz, hs, hb⟩ := info_parts info8
  refine wpList_make_full w hg l c 27 hop base 5 i (.int .u8 0) 1 Try.underlying27 hi hz hs .i64 .i64 L C n hl hc hL hC (by rw [hb]; omega) (by unfold maxLen; omega) b4 ?_
  intro w' h1 h2
  refine hK w' ⟨List.length_replicate, By.zeros n, ?_⟩ h2
  have := h1
  rw [show (Value.int IntKind.u8 0).cells = #[Value.int .u8 0] from rfl, zeros_list] at this
  exact this

/-- copy into the tail of a row of one's own that is full -/
theorem wpList_cpy {w : World} {ops : Array Oper} {rest : List Oper} {o : Oper} {a : Act} {Q : Exit → Act → World → Prop} (hgd : o.guard = none) (d s : Operand)
    (ho : o.op = .call { callee := .builtin .copy, args := #[d, s], argTypes := #[27, 27] })
    (base g n k : Nat) (zs ys : List Int) (hown : Own w base (some ⟨g, 0, none⟩) n n zs) (dp sp : Option Addr) (dCap m sCap : Nat) (hd : a.eval d = .slice dp m dCap) (hs : a.eval s = .slice sp m sCap)
    (hk : k + m = n) (hdp : 0 < m → dp = some ⟨g, k, none⟩) (hR : Rd w sp ys) (hm : ys.length = m) (B : Nat) (w0 : World) (hb : Below B w0 w) (hBg : B ≤ g)
    (h : ∀ w', Own w' base (some ⟨g, 0, none⟩) n n (zs.take k ++ ys) → Below B w0 w' → wpList Try.prog ops Q rest (a.put o.dst (goInt m)) w') :
    wpList Try.prog ops Q (o :: rest) a w := by
  rcases hown.row.2 with ⟨e, _⟩ | ⟨g', cap, cur, e, hbg, hg, hnc, hcm, hcs, ht⟩
  · cases e
  injection e with e1 e2 e3
  injection e1 with e1
  injection e1 with e1
  subst e1 e3
  have hcur : cur = (zs.map (Value.int .u8)).toArray := by
    rw [← ht, List.take_of_length_le (by rw [Array.length_toList, hcs]; omega)]
  have hzl : (zs.map (Value.int .u8)).length = n := by rw [List.length_map]; exact hown.len
  have hyl : (ys.map (Value.int .u8)).length = m := by rw [List.length_map]; exact hm
  refine wpList_copy_splice hgd d s 27 27 ho 5 Try.underlying27 (by kernel_rfl) dp sp m dCap m sCap hd hs g k (zs.map (Value.int .u8)) 5 (by rw [hg, hcur]) (ys.map (Value.int .u8))
    (by rw [hyl]; exact (Nat.min_self m).symm) ?_ (by rw [hyl, hzl]; omega) (by intro v hv; obtain ⟨x, _, rfl⟩ := List.mem_map.1 hv; rfl) B w0 hb hBg ?_
  · intro hpos
    rw [hyl] at hpos
    obtain ⟨b, off, rfl, hc⟩ := hR.2 (by omega)
    refine ⟨hdp hpos, ⟨b, off, none⟩, rfl, fun j v hv => ?_⟩
    have hj : j < ys.length := by
      rcases Nat.lt_or_ge j ys.length with h | h
      · exact h
      · rw [List.getElem?_eq_none (by simpa using h)] at hv; cases hv
    have hadd : (⟨b, off, none⟩ : Addr).add j = ⟨b, off + j, none⟩ := by unfold Addr.add; split <;> simp_all
    rw [hadd, hc j hj, ← hv]
    simp [hj, List.getD]
  · intro w' hw' hb'
    rw [hyl]
    have hsp : splice (zs.map (Value.int .u8)) k (ys.map (Value.int .u8)) = (zs.take k ++ ys).map (Value.int .u8) := by
      unfold splice
      rw [hyl, List.drop_of_length_le (by omega), List.map_append, List.map_take]
      simp
    have hl : (zs.take k ++ ys).length = n := by rw [List.length_append, List.length_take, hown.len, hm]; omega
    have hw'' : w'.heap[g]? = some (.cells (splice (zs.map (Value.int .u8)) k (ys.map (Value.int .u8))).toArray 5 (0, 0)) := hw'
    rw [hsp] at hw''
    refine h w' ⟨hl, (hown.byt.take k).app hR.1, by rw [List.length_map, hl]; omega, .inr ⟨g, n, _, rfl, hbg, hw'', hnc, hcm, by rw [List.size_toArray, List.length_map, hl, Nat.mul_one], ?_⟩⟩ hb'
    show List.take (n * 1) (List.map (Value.int .u8) (zs.take k ++ ys)) = _
    rw [List.take_of_length_le (by rw [List.length_map, hl]; omega)]

/-- a plain head's twenty bytes, its sum left nought; with its sum; a frame -/
def hb0 (t p s d n : Int) : List Int := [69, 0, n / 256, n % 256, 0, 0, 64, 0, t, p, 0, 0, s / 65536 / 256, s / 65536 % 256, s % 65536 / 256, s % 65536 % 256, d / 65536 / 256, d / 65536 % 256, d % 65536 / 256, d % 65536 % 256]
def hb1 (t p s d n : Int) : List Int := P16 (hb0 t p s d n) 10 (Cs (hb0 t p s d n))
def frm (t p s d : Int) (ys : List Int) : List Int := hb1 t p s d (20 + (ys.length : Int)) ++ ys
theorem hb0_len (t p s d n : Int) : (hb0 t p s d n).length = 20 := rfl
theorem hb1_len (t p s d n : Int) : (hb1 t p s d n).length = 20 := by unfold hb1 P16; simp [hb0_len]
theorem hb0_by (t p s d n : Int) (t0 : 0 ≤ t) (t1 : t ≤ 255) (p0 : 0 ≤ p) (p1 : p ≤ 255) (s0 : 0 ≤ s) (s1 : s ≤ 4294967295) (d0 : 0 ≤ d) (d1 : d ≤ 4294967295) (n0 : 0 ≤ n) (n1 : n ≤ 65535) : By (hb0 t p s d n) := by
  unfold hb0
  repeat (first | exact By.nil | refine By.mk (by omega) (by omega) ?_)
theorem P16_app (l r : List Int) (i : Nat) (v : Int) (h : i + 1 < l.length) : P16 (l ++ r) i v = P16 l i v ++ r := by
  unfold P16
  rw [List.set_append_left _ _ (by omega), List.set_append_left _ _ (by rw [List.length_set]; omega)]
theorem P32_app (l r : List Int) (i : Nat) (v : Int) (h : i + 3 < l.length) : P32 (l ++ r) i v = P32 l i v ++ r := by
  unfold P32
  rw [P16_app _ _ _ _ (by omega), P16_app _ _ _ _ (by unfold P16; simp; omega)]

end Go.Proofs.Ytbnlpidhbilenaa

namespace Go.Proofs.Ytbnlpidhbilenaa
open Go.RowKit Plain
set_option linter.unusedVariables false
set_option maxRecDepth 100000

theorem put_list (t p s d : Int) (m : Nat) :
    P32 (P32 (((P16 (P16 ((List.replicate (20 + m) (0 : Int)).set 0 69) 2 (20 + (m : Int))) 6 16384).set 8 t).set 9 p) 12 s) 16 d = hb0 t p s d (20 + (m : Int)) ++ List.replicate m 0 := by
  have e : List.replicate (20 + m) (0 : Int) = [0, 0, 0, 0, 0, 0, 0, 0, 0, 0, 0, 0, 0, 0, 0, 0, 0, 0, 0, 0] ++ List.replicate m 0 := by
    rw [← List.replicate_append_replicate]; rfl
  rw [e, List.set_append_left _ _ (by decide), P16_app _ _ _ _ (by simp), P16_app _ _ _ _ (by simp [P16]), List.set_append_left _ _ (by simp [P16]), List.set_append_left _ _ (by simp [P16]), P32_app _ _ _ _ (by simp [P16]), P32_app _ _ _ _ (by simp [P16, P32])]
  rfl

theorem frm_len (t p s d : Int) (ys : List Int) : (frm t p s d ys).length = 20 + ys.length := by unfold frm; rw [List.length_append, hb1_len]

end Go.Proofs.Ytbnlpidhbilenaa

namespace Go.Proofs.Ytbnlpidhbilenaa
open Go.RowKit Plain
set_option linter.unusedVariables false
set_option maxRecDepth 100000

/-- so many noughts, and at most 1400 bytes behind them -/
def bh (s : Nat) (ys : List Int) : List Int := List.replicate s 0 ++ ys.take 1400


def ecL (k id : Int) (ys : List Int) : List Int := P16 (P16 ((bh 8 ys).set 0 k) 4 id) 2 (Cs (P16 ((bh 8 ys).set 0 k) 4 id))

theorem bh_len (s : Nat) (ys : List Int) (n u : Nat) (hn : ys.length = n) (hu : u = min n 1400) : (bh s ys).length = s + u := by
  unfold bh; rw [List.length_append, List.length_replicate, List.length_take, hn, hu]; omega

end Go.Proofs.Ytbnlpidhbilenaa

namespace Go.Proofs.Ytbnlpidhbilenaa
open Go.RowKit Plain
set_option linter.unusedVariables false
set_option linter.unusedSimpArgs false
set_option maxRecDepth 100000

def w2l (n : Int) : List Int := [n / 256 % 256, n % 256]
def w4l (x : Int) : List Int := [x / 16777216, x / 65536 % 256, x / 256 % 256, x % 256]
theorem w2l_by (n : Int) : By (w2l n) := by
  unfold w2l
  exact By.mk (by omega) (by omega) (By.mk (by omega) (by omega) By.nil)
theorem w4l_by (x : Int) (h0 : 0 ≤ x) (h1 : x ≤ 4294967295) : By (w4l x) := by
  unfold w4l
  exact By.mk (by omega) (by omega) (By.mk (by omega) (by omega) (By.mk (by omega) (by omega) (By.mk (by omega) (by omega) By.nil)))

theorem wide_any (x : Int) (w : World) (h0 : 0 ≤ x) (h1 : x ≤ 4294967295) :
    Calls Try.prog 74 #[.int .u32 x] w fun e w' => e = .returned (.slice (some ⟨w.heap.size, 0, none⟩) 4 4) ∧ Own w' w.heap.size (some ⟨w.heap.size, 0, none⟩) 4 4 (w4l x) ∧ Below w.heap.size w w' := by
  go_enter Try.func74, Try.ntmps74
  go_wp2
  go_ret
  exact ⟨rfl, Own.lit w (Nat.le_refl _) (w4l x) (w4l_by x h0 h1) 4 rfl (by omega) _ rfl, ball _ _⟩
theorem word_any (n : Int) (w : World) (h0 : 0 ≤ n) (h1 : n ≤ 1000000) :
    Calls Try.prog 75 #[.int .i64 n] w fun e w' => e = .returned (.slice (some ⟨w.heap.size, 0, none⟩) 2 2) ∧ Own w' w.heap.size (some ⟨w.heap.size, 0, none⟩) 2 2 (w2l n) ∧ Below w.heap.size w w' := by
  have e1 : IntKind.u8.wrap (n / 256) = n / 256 % 256 := IntKind.wrap_u8 _
  have e2 : IntKind.u8.wrap n = n % 256 := IntKind.wrap_u8 _
  go_enter Try.func75, Try.ntmps75
  go_wp2
  go_ret
  exact ⟨rfl, Own.lit w (Nat.le_refl _) (w2l n) (w2l_by n) 2 rfl (by omega) _ rfl, ball _ _⟩

def psL (src dst pr : Int) (zs : List Int) : List Int := w4l src ++ w4l dst ++ [0, pr] ++ w2l (zs.length : Int) ++ zs
theorem psL_cs (src dst pr : Int) (zs : List Int) (hz : By zs) (s0 : 0 ≤ src) (s1 : src ≤ 4294967295) (d0 : 0 ≤ dst) (d1 : dst ≤ 4294967295) (p0 : 0 ≤ pr) (p1 : pr ≤ 255) : Cs (psL src dst pr zs) = Ps src dst pr zs := by
  have t := tot_append (w4l src ++ w4l dst ++ [0, pr] ++ w2l (zs.length : Int)) zs (by simp [w4l, w2l])
  unfold Cs Ps psL
  rw [t]
  congr 2
  simp only [w4l, w2l, List.cons_append, List.nil_append, tot]
  omega

set_option maxHeartbeats 4000000 in
theorem pseudo_any (src dst pr : Int) (A : Option Addr) (n c : Nat) (zs : List Int) (w : World) (hn : zs.length = n) (hl : n ≤ 100000) (hR : Rd w A zs) (s0 : 0 ≤ src) (s1 : src ≤ 4294967295) (d0 : 0 ≤ dst) (d1 : dst ≤ 4294967295) (p0 : 0 ≤ pr) (p1 : pr ≤ 255) :
    Calls Try.prog 59 #[.int .u32 src, .int .u32 dst, .int .i64 pr, .slice A n c] w fun e w' => e = .returned (.int .u16 (Ps src dst pr zs)) ∧ Below w.heap.size w w' := by
  have HR := Lib.hid hR
  have Hn := Lib.hid hn
  have Hps := Lib.hid (psL_cs src dst pr zs hR.1 s0 s1 d0 d1 p0 p1)
  have e1 : IntKind.u8.wrap pr = pr := by rw [IntKind.wrap_u8]; omega
  clear hR hn
  go_enter Try.func59, Try.ntmps59
  go_wp2_with fail
  refine (wide_any src _ s0 s1).mono ?_
  rintro e w1 ⟨rfl, ho1, hb1⟩
  have HB1 := Lib.hid hb1
  have HO1 := Lib.hid ho1
  have hs1 := hb1.size
  clear ho1 hb1
  go_wp2_with fail
  refine (wide_any dst _ d0 d1).mono ?_
  rintro e w2 ⟨rfl, ho2, hb2⟩
  have HB2 := Lib.hid (bthen HB1.out hb2)
  have HO2 := Lib.hid (HO1.out.below hb2)
  have HR2 := Lib.hid ho2.rd
  have hs2 := (bthen HB1.out hb2).size
  clear ho2 hb2
  generalize w1.heap.size = p1' at *
  go_wp2_with (first | (at_builtin; refine wpList_app rfl (.tmp 11) (.tmp 13) rfl rfl HO2.out (w4l dst) rfl HR2.out rfl (by omega) hs2 ?_; intro A3 c3 w3 ho3 hg3 hA3; have HO3 := Lib.hid ho3; have HB3 := Lib.hid (below_app HB2.out hg3 HO2.out (Nat.le_refl _) hs2); have hs3 := HB3.out.size; clear ho3 hg3 hA3) | (at_builtin; refine wpList_app rfl (.tmp 14) (.tmp 17) rfl rfl (HO3.out.alloc _) [0, pr] rfl (Rd.newM w3 _ _ [0, pr] (By.mk (by omega) (by omega) (By.mk (by omega) (by omega) By.nil)) _ rfl) rfl (by omega) (bthen HB3.out (ball w3 _)).size ?_; intro A4 c4 w4 ho4 hg4 hA4; have HO4 := Lib.hid ho4; have HB4 := Lib.hid (below_app (bthen HB3.out (ball w3 _)) hg4 (HO3.out.alloc _) (Nat.le_refl _) (bthen HB3.out (ball w3 _)).size); have hs4 := HB4.out.size; clear ho4 hg4 hA4))
  refine (word_any (n : Int) _ (by omega) (by omega)).mono ?_
  rintro e w5 ⟨rfl, ho5, hb5⟩
  have HB5 := Lib.hid (bthen HB4.out hb5)
  have HO5 := Lib.hid (HO4.out.below hb5)
  have HR5 := Lib.hid ho5.rd
  have hs5 := (bthen HB4.out hb5).size
  clear ho5 hb5
  go_wp2_with (first | (at_builtin; refine wpList_app rfl (.tmp 18) (.tmp 21) rfl rfl HO5.out (w2l (n : Int)) rfl HR5.out rfl (by omega) hs5 ?_; intro A6 c6 w6 ho6 hg6 hA6; have HO6 := Lib.hid ho6; have HB6 := Lib.hid (below_app HB5.out hg6 HO5.out (Nat.le_refl _) hs5); have hs6 := HB6.out.size; clear ho6 hg6 hA6) | (at_builtin; refine wpList_app rfl (.tmp 23) (.tmp 24) rfl rfl HO6.out zs rfl (HR.out.below HB6.out) Hn.out (by omega) hs6 ?_; intro A7 c7 w7 ho7 hg7 hA7; have HO7 := Lib.hid ho7; have HB7 := Lib.hid (below_app HB6.out hg7 HO6.out (Nat.le_refl _) hs6); clear ho7 hg7 hA7))
  have Hz := Lib.hid (show w4l src ++ w4l dst ++ [0, pr] ++ w2l (n : Int) ++ zs = psL src dst pr zs by unfold psL; rw [Hn.out])
  refine (refOf_n _ (4 + 4 + 2 + 2 + n) c7 _ _ HO7.out.len (by omega) HO7.out.rd).mono ?_
  rintro e w' ⟨rfl, rfl⟩
  rw [Hz.out, Hps.out]
  go_wp2
  go_ret
  exact ⟨rfl, HB7.out⟩
end Go.Proofs.Ytbnlpidhbilenaa

namespace Go.Proofs.Ytbnlpidhbilenaa
open Go.RowKit Plain
set_option linter.unusedVariables false
set_option linter.unusedSimpArgs false
set_option maxRecDepth 100000

def ud0 (f t : Int) (L : List Int) : List Int := w2l f ++ w2l t ++ w2l (8 + (L.length : Int)) ++ [0, 0] ++ L
def no0 (x : Int) : Int := if x = 0 then 65535 else x
def udL (s d f t : Int) (L : List Int) : List Int := P16 (ud0 f t L) 6 (no0 (Ps s d 17 (ud0 f t L)))
def tc0 (f t fl : Int) (L : List Int) : List Int := w2l f ++ w2l t ++ [0, 0, 0, 0, 0, 0, 0, 0, 80, fl, 32, 0, 0, 0, 0, 0] ++ L
def tcL (s d f t fl : Int) (L : List Int) : List Int := P16 (tc0 f t fl L) 16 (Ps s d 6 (tc0 f t fl L))
def ic0 (k c id : Int) (L : List Int) : List Int := [k, c, 0, 0] ++ w2l id ++ [0, 0] ++ L
def icL (k c id : Int) (L : List Int) : List Int := P16 (ic0 k c id L) 2 (Cs (ic0 k c id L))

theorem P16_len (zs : List Int) (i : Nat) (v : Int) : (P16 zs i v).length = zs.length := by unfold P16; simp
theorem P16_by {zs : List Int} (h : By zs) (i : Nat) (v : Int) (h0 : 0 ≤ v) (h1 : v ≤ 65535) : By (P16 zs i v) := by
  unfold P16; exact (h.set i _ (by omega) (by omega)).set (i + 1) _ (by omega) (by omega)
theorem getD_set_ne (l : List Int) (i j : Nat) (x : Int) (h : i ≠ j) : (l.set i x).getD j 0 = l.getD j 0 := by simp [List.getD, List.getElem?_set_ne h]
theorem getD_set_eq (l : List Int) (i : Nat) (x : Int) (h : i < l.length) : (l.set i x).getD i 0 = x := by simp [List.getD, h]
theorem P16_other (zs : List Int) (i j : Nat) (v : Int) (h1 : j ≠ i) (h2 : j ≠ i + 1) : (P16 zs i v).getD j 0 = zs.getD j 0 := by
  unfold P16; rw [getD_set_ne _ _ _ _ (Ne.symm h2), getD_set_ne _ _ _ _ (Ne.symm h1)]
theorem P16_g16 (zs : List Int) (i : Nat) (v : Int) (h : i + 1 < zs.length) : G16 (P16 zs i v) i = v := by
  unfold G16 P16
  rw [getD_set_ne _ _ _ _ (by omega), getD_set_eq _ _ _ (by omega), getD_set_eq _ _ _ (by simpa using h)]
  omega
theorem P16_g16_ne (zs : List Int) (i j : Nat) (v : Int) (h1 : j ≠ i) (h2 : j ≠ i + 1) (h3 : j + 1 ≠ i) : G16 (P16 zs i v) j = G16 zs j := by
  unfold G16
  rw [P16_other _ _ _ _ h1 h2, P16_other _ _ _ _ h3 (by omega)]
theorem P16_tot (zs : List Int) (i : Nat) (v : Int) (he : i % 2 = 0) (h : i + 1 < zs.length) : tot (P16 zs i v) = tot zs + v - G16 zs i := by
  unfold P16
  rw [tot_set _ _ _ (by simpa using h), tot_set _ _ _ (by omega), if_pos he, if_neg (by omega), getD_set_ne _ _ _ _ (by omega)]
  unfold G16
  omega
theorem P16_P16 (zs : List Int) (i : Nat) (u v : Int) : P16 (P16 zs i u) i v = P16 zs i v := by
  unfold P16
  rw [List.set_comm _ _ (show i + 1 ≠ i by omega), List.set_set, List.set_set]
theorem no0_range (x : Int) (h0 : 0 ≤ x) (h1 : x ≤ 65535) : 1 ≤ no0 x ∧ no0 x ≤ 65535 := by unfold no0; split <;> omega

theorem ud0_len (f t : Int) (L : List Int) : (ud0 f t L).length = 8 + L.length := by unfold ud0 w2l; simp; omega
theorem ud0_by (f t : Int) {L : List Int} (h : By L) : By (ud0 f t L) := by
  unfold ud0
  exact ((((w2l_by f).app (w2l_by t)).app (w2l_by _)).app (By.mk (by omega) (by omega) (By.mk (by omega) (by omega) By.nil))).app h
theorem tc0_len (f t fl : Int) (L : List Int) : (tc0 f t fl L).length = 20 + L.length := by unfold tc0 w2l; simp; omega
theorem tc0_by (f t fl : Int) {L : List Int} (h : By L) (f0 : 0 ≤ fl) (f1 : fl ≤ 255) : By (tc0 f t fl L) := by
  unfold tc0
  refine (((w2l_by f).app (w2l_by t)).app ?_).app h
  intro x hx
  simp at hx
  omega
theorem ic0_len (k c id : Int) (L : List Int) : (ic0 k c id L).length = 8 + L.length := by unfold ic0 w2l; simp; omega
theorem ic0_by (k c id : Int) {L : List Int} (h : By L) (k0 : 0 ≤ k) (k1 : k ≤ 255) (c0 : 0 ≤ c) (c1 : c ≤ 255) : By (ic0 k c id L) := by
  unfold ic0
  refine ((By.app ?_ (w2l_by id)).app ?_).app h
  · intro x hx
    simp at hx
    omega
  · intro x hx
    simp at hx
    omega
theorem ud0_g (f t : Int) (L : List Int) (f0 : 0 ≤ f) (f1 : f ≤ 65535) (t0 : 0 ≤ t) (t1 : t ≤ 65535) (hl : L.length ≤ 1400) : G16 (ud0 f t L) 0 = f ∧ G16 (ud0 f t L) 2 = t ∧ G16 (ud0 f t L) 4 = 8 + (L.length : Int) ∧ G16 (ud0 f t L) 6 = 0 := by
  unfold G16 ud0 w2l
  simp [List.getD]
  omega
theorem tc0_g (f t fl : Int) (L : List Int) (f0 : 0 ≤ f) (f1 : f ≤ 65535) (t0 : 0 ≤ t) (t1 : t ≤ 65535) : G16 (tc0 f t fl L) 0 = f ∧ G16 (tc0 f t fl L) 2 = t ∧ (tc0 f t fl L).getD 12 0 = 80 ∧ (tc0 f t fl L).getD 13 0 = fl ∧ G16 (tc0 f t fl L) 16 = 0 := by
  unfold G16 tc0 w2l
  simp [List.getD]
  omega
theorem ic0_g (k c id : Int) (L : List Int) (i0 : 0 ≤ id) (i1 : id ≤ 65535) : (ic0 k c id L).getD 0 0 = k ∧ (ic0 k c id L).getD 1 0 = c ∧ G16 (ic0 k c id L) 4 = id ∧ G16 (ic0 k c id L) 2 = 0 := by
  unfold G16 ic0 w2l
  simp [List.getD]
  omega

/-- what stands ahead in the sum -/
def Px (s d pr : Int) (n : Nat) : Int := s / 65536 + s % 65536 + d / 65536 + d % 65536 + (pr + (n : Int) % 65536)
theorem Ps_px (s d pr : Int) (zs : List Int) : Ps s d pr zs = 65535 - F (Px s d pr zs.length + tot zs) := rfl
theorem Px_pos (s d pr : Int) (n : Nat) (s0 : 0 ≤ s) (d0 : 0 ≤ d) (p0 : 0 < pr) : 0 < Px s d pr n := by unfold Px; omega
theorem Ps_P16 (s d pr : Int) (zs : List Int) (i : Nat) (v : Int) (he : i % 2 = 0) (h : i + 1 < zs.length) (hz : G16 zs i = 0) : Ps s d pr (P16 zs i v) = 65535 - F (Px s d pr zs.length + tot zs + v) := by
  rw [Ps_px, P16_len, P16_tot zs i v he h, hz]; congr 2; omega
theorem F_full (X : Int) (h : 0 < X) : F X = 65535 ↔ X % 65535 = 0 := by unfold F; split <;> omega
/-- which sums are right -/
theorem right_iff (X v : Int) (hX : 0 < X) (h0 : 0 < v) (h1 : v ≤ 65535) : F (X + v) = 65535 ↔ v = no0 (65535 - F X) := by
  rw [F_full _ (by omega)]
  unfold no0 F
  split <;> split <;> omega
theorem udL_len (s d f t : Int) (L : List Int) : (udL s d f t L).length = 8 + L.length := by unfold udL; rw [P16_len, ud0_len]
theorem udL_by (s d f t : Int) {L : List Int} (h : By L) (s0 : 0 ≤ s) (d0 : 0 ≤ d) : By (udL s d f t L) := by
  have r := Ps_range s d 17 _ (ud0_by f t h) s0 d0 (by decide)
  have r' := no0_range _ r.1 r.2
  exact P16_by (ud0_by f t h) _ _ (by omega) r'.2
theorem tcL_len (s d f t fl : Int) (L : List Int) : (tcL s d f t fl L).length = 20 + L.length := by unfold tcL; rw [P16_len, tc0_len]
theorem tcL_by (s d f t fl : Int) {L : List Int} (h : By L) (s0 : 0 ≤ s) (d0 : 0 ≤ d) (f0 : 0 ≤ fl) (f1 : fl ≤ 255) : By (tcL s d f t fl L) := by
  have r := Ps_range s d 6 _ (tc0_by f t fl h f0 f1) s0 d0 (by decide)
  exact P16_by (tc0_by f t fl h f0 f1) _ _ r.1 r.2
theorem icL_len (k c id : Int) (L : List Int) : (icL k c id L).length = 8 + L.length := by unfold icL; rw [P16_len, ic0_len]
theorem icL_by (k c id : Int) {L : List Int} (h : By L) (k0 : 0 ≤ k) (k1 : k ≤ 255) (c0 : 0 ≤ c) (c1 : c ≤ 255) : By (icL k c id L) := by
  have r := Cs_range _ (ic0_by k c id h k0 k1 c0 c1)
  exact P16_by (ic0_by k c id h k0 k1 c0 c1) _ _ r.1 r.2
end Go.Proofs.Ytbnlpidhbilenaa
