/-
  Contracts of head.Get and head.Part: the head of a frame, or of a packet's begin, or the error. Conditions: at most 1000000 bytes.
-/
import Derived.Test.YtbnlpidhbilenaaRead
namespace Go.Proofs.Ytbnlpidhbilenaa
open Go.RowKit Plain
set_option linter.unusedVariables false
set_option maxRecDepth 100000

def gtE (zs : List Int) : Int :=
  if rdE zs 1500 ≠ 0 then rdE zs 1500 else if (zs.length : Int) < (fld zs).len then 2 else if Cs (zs.take (fld zs).size.toNat) ≠ 0 then 4 else if G16 zs 6 % 16384 ≠ 0 then 5 else 0
def gtH (zs : List Int) : Hd := if gtE zs = 0 then fld zs else hd0
def ptE (zs : List Int) : Int := if rdE zs 65535 ≠ 0 then rdE zs 65535 else if G16 zs 6 % 16384 ≠ 0 then 5 else 0
def ptH (zs : List Int) : Hd := if ptE zs = 0 then fld zs else hd0

theorem rdE_zero (zs : List Int) (most : Int) (h : rdE zs most = 0) : 20 ≤ zs.length ∧ zs.getD 0 0 / 16 = 4 ∧ 20 ≤ (fld zs).size ∧ (fld zs).size ≤ (zs.length : Int) ∧ (fld zs).size ≤ (fld zs).len ∧ (fld zs).len ≤ most := by
  unfold rdE at h
  split at h
  · omega
  split at h
  · omega
  split at h
  · omega
  split at h
  · omega
  split at h
  · omega
  split at h
  · omega
  rename_i a b c d e f
  exact ⟨by omega, by omega, by omega, by omega, by omega, by omega⟩
theorem rdE_range (zs : List Int) (most : Int) : 0 ≤ rdE zs most ∧ rdE zs most ≤ 3 := by unfold rdE; repeat (split <;> try omega)

set_option maxHeartbeats 2000000 in
theorem get_any (A : Option Addr) (n c : Nat) (zs : List Int) (w : World) (hn : zs.length = n) (hnc : n ≤ c) (hl : n ≤ 1000000) (hR : Rd w A zs) :
    Calls Try.prog 50 #[.slice A n c] w fun e w' => e = .returned (.tuple #[(gtH zs).val, .int .i64 (gtE zs)]) ∧ Below w.heap.size w w' := by
  have hrd := read_any A n c zs 1500 (w.alloc (.cells #[.int .i64 0, .int .i64 0, .int .i64 0, .int .i64 0, .int .u32 0, .int .u32 0] 103)) hn hl (hR.alloc _) (by omega) (by omega)
  obtain ⟨er, her⟩ : ∃ er, er = rdE zs 1500 := ⟨_, rfl⟩
  obtain ⟨hv, hhv⟩ : ∃ hv, hv = rdH zs 1500 := ⟨_, rfl⟩
  rw [← her, ← hhv] at hrd
  have HF := Lib.hid hrd
  have Her := Lib.hid her
  have Hhv := Lib.hid hhv
  have HR := Lib.hid hR
  have Hn := Lib.hid hn
  clear hrd her hhv hR hn
  obtain ⟨d0, d1, d2, d3, d4, d5⟩ := hv
  go_enter Try.func50, Try.ntmps50
  go_wp2_with fail
  refine HF.out.mono ?_
  rintro e w1 ⟨rfl, hb1⟩
  rw [show (Hd.mk d0 d1 d2 d3 d4 d5).val = .agg #[.int .i64 d0, .int .i64 d1, .int .i64 d2, .int .i64 d3, .int .u32 d4, .int .u32 d5] from rfl]
  have bk := (Blk.new w 103 #[.int .i64 0, .int .i64 0, .int .i64 0, .int .i64 0, .int .u32 0, .int .u32 0]).below hb1
  have hs1 : w.heap.size + 1 ≤ w1.heap.size := by have := hb1.size; simpa using this
  have Hbk := Lib.hid bk
  have Hb1 := Lib.hid (show Below w.heap.size w w1 from ((Below.refl _ _).alloc (Nat.le_refl _) _).trans (hb1.mono (by simp)))
  clear hb1 bk HF
  go_upto_region 2 with fail
  obtain ⟨w2, hw2⟩ : ∃ w2, w2 = w1.alloc (.cells #[.int .i64 d0, .int .i64 d1, .int .i64 d2, .int .i64 d3, .int .u32 d4, .int .u32 d5] 103) := ⟨_, rfl⟩
  rw [← hw2]
  have bk2 : Blk w2 w.heap.size 103 #[.int .i64 0, .int .i64 0, .int .i64 0, .int .i64 0, .int .u32 0, .int .u32 0] := by rw [hw2]; exact Hbk.out.alloc _
  have bh2 : Blk w2 w1.heap.size 103 #[.int .i64 d0, .int .i64 d1, .int .i64 d2, .int .i64 d3, .int .u32 d4, .int .u32 d5] := by rw [hw2]; exact Blk.new w1 _ _
  have Hb2 := Lib.hid (show Below w.heap.size w w2 by rw [hw2]; exact Hb1.out.alloc Hb1.out.size _)
  have k0 := bk2.cell 0
  have k1 := bk2.cell 1
  have k2 := bk2.cell 2
  have k3 := bk2.cell 3
  have k4 := bk2.cell 4
  have k5 := bk2.cell 5
  have f0 := bk2.frozen 0
  have f1 := bk2.frozen 1
  have f2 := bk2.frozen 2
  have f3 := bk2.frozen 3
  have f4 := bk2.frozen 4
  have f5 := bk2.frozen 5
  have m0 := bh2.cell 0
  have m1 := bh2.cell 1
  have m2 := bh2.cell 2
  have m3 := bh2.cell 3
  have m4 := bh2.cell 4
  have m5 := bh2.cell 5
  simp only [List.getElem?_toArray, List.getElem?_cons_zero, List.getElem?_cons_succ] at k0 k1 k2 k3 k4 k5 m0 m1 m2 m3 m4 m5
  have hne : ¬ w.heap.size = w1.heap.size := by omega
  clear bk2 bh2 hw2 Hbk Hb1
  generalize w1.heap.size = p at *

  by_cases hz : er = 0
  · have hrd0 : rdE zs 1500 = 0 := by rw [← Her.out]; exact hz
    obtain ⟨q0, q1, q2, q3, q4, q5⟩ := rdE_zero zs 1500 hrd0
    have hfd : fld zs = ⟨d0, d1, d2, d3, d4, d5⟩ := by have := Hhv.out; unfold rdH at this; rw [hrd0, if_pos rfl] at this; exact this.symm
    have hHR := HR.out
    rw [hfd] at q2 q3 q4 q5
    simp only at q2 q3 q4 q5
    rw [Hn.out] at q0 q3
    obtain ⟨sz, hsz⟩ : ∃ sz : Nat, (sz : Int) = d0 := ⟨d0.toNat, by omega⟩
    subst hsz
    have Hfld := Lib.hid hfd
    have Hrd0 := Lib.hid hrd0
    have HE := Lib.hid (show gtE zs = if (n : Int) < d1 then 2 else if Cs (zs.take sz) ≠ 0 then 4 else if G16 zs 6 % 16384 ≠ 0 then 5 else 0 by
      unfold gtE; rw [Hrd0.out, if_neg (by decide), Hn.out, hfd]; rfl)
    obtain rfl : er = 0 := hz
    clear hfd hrd0 hHR
    have hc16 := Cs_range _ (HR.out.1.take sz)
    by_cases hnl : (n : Int) < d1
    · have he := Lib.hid (show gtE zs = 2 by rw [HE.out, if_pos hnl])
      have hh := Lib.hid (show (gtH zs).val = .agg #[.int .i64 0, .int .i64 0, .int .i64 0, .int .i64 0, .int .u32 0, .int .u32 0] by unfold gtH; rw [he.out, if_neg (by decide)]; rfl)
      go_wp2
      rw [he.out, hh.out]
      refine bodyPost_ret (v := .tuple #[.agg #[.int .i64 0, .int .i64 0, .int .i64 0, .int .i64 0, .int .u32 0, .int .u32 0], .int .i64 2]) (by simp [results, Try.results50, go_sem, k0, k1, k2, k3, k4, k5]) rfl ⟨rfl, ?_⟩
      exact below_set6 Hb2.out (Nat.le_refl _) _ _ _ _ _ _
    · have isz : (sz : Int) ≤ (c : Int) := by omega
      have isz0 : (0 : Int) ≤ (sz : Int) := by omega
      go_wp2_with fail
      refine (of_n A sz c (zs.take sz) _ (by rw [List.length_take, Hn.out]; omega) (by omega) ((HR.out.below Hb2.out).take sz)).mono ?_
      rintro e w' ⟨rfl, qa, rfl⟩
      by_cases hcs : Cs (zs.take sz) = 0
      · have t1 : (Cs (zs.take sz) != 0) = false := by simp [hcs]
        have Hcs := Lib.hid hcs
        clear hcs
        go_wp2_with fail
        refine (isPiece_any A n c zs _ Hn.out (by omega) hl ((HR.out.below Hb2.out).drewN qa)).mono ?_
        rintro e w' ⟨rfl, qb, rfl⟩
        by_cases hp : G16 zs 6 % 16384 = 0
        · have t2 : (G16 zs 6 % 16384 != 0) = false := by simp [hp]
          have he := Lib.hid (show gtE zs = 0 by rw [HE.out, if_neg (by omega), if_neg (by simp [Hcs.out]), if_neg (by simp [hp])])
          have hh := Lib.hid (show (gtH zs).val = .agg #[.int .i64 (sz : Int), .int .i64 d1, .int .i64 d2, .int .i64 d3, .int .u32 d4, .int .u32 d5] by unfold gtH; rw [he.out, if_pos rfl, Hfld.out]; rfl)
          clear hp
          go_wp2
          rw [he.out, hh.out]
          refine bodyPost_ret (v := .tuple #[.agg #[.int .i64 (sz : Int), .int .i64 d1, .int .i64 d2, .int .i64 d3, .int .u32 d4, .int .u32 d5], .int .i64 0]) (by simp [results, Try.results50, go_sem, k0, k1, k2, k3, k4, k5]) rfl ⟨rfl, ?_⟩
          exact below_set6 (below_drewN Hb2.out _) (Nat.le_refl _) _ _ _ _ _ _
        · have t2 : (G16 zs 6 % 16384 != 0) = true := by rw [bne_iff_ne]; exact hp
          have he := Lib.hid (show gtE zs = 5 by rw [HE.out, if_neg (by omega), if_neg (by simp [Hcs.out]), if_pos hp])
          have hh := Lib.hid (show (gtH zs).val = .agg #[.int .i64 0, .int .i64 0, .int .i64 0, .int .i64 0, .int .u32 0, .int .u32 0] by unfold gtH; rw [he.out, if_neg (by decide)]; rfl)
          clear hp
          go_wp2
          rw [he.out, hh.out]
          refine bodyPost_ret (v := .tuple #[.agg #[.int .i64 0, .int .i64 0, .int .i64 0, .int .i64 0, .int .u32 0, .int .u32 0], .int .i64 5]) (by simp [results, Try.results50, go_sem, k0, k1, k2, k3, k4, k5]) rfl ⟨rfl, ?_⟩
          exact below_set6 (below_drewN Hb2.out _) (Nat.le_refl _) _ _ _ _ _ _
      · have t1 : (Cs (zs.take sz) != 0) = true := by rw [bne_iff_ne]; exact hcs
        have he := Lib.hid (show gtE zs = 4 by rw [HE.out, if_neg (by omega), if_pos hcs])
        have hh := Lib.hid (show (gtH zs).val = .agg #[.int .i64 0, .int .i64 0, .int .i64 0, .int .i64 0, .int .u32 0, .int .u32 0] by unfold gtH; rw [he.out, if_neg (by decide)]; rfl)
        clear hcs
        go_wp2
        rw [he.out, hh.out]
        refine bodyPost_ret (v := .tuple #[.agg #[.int .i64 0, .int .i64 0, .int .i64 0, .int .i64 0, .int .u32 0, .int .u32 0], .int .i64 4]) (by simp [results, Try.results50, go_sem, k0, k1, k2, k3, k4, k5]) rfl ⟨rfl, ?_⟩
        exact below_set6 (below_drewN Hb2.out _) (Nat.le_refl _) _ _ _ _ _ _
  · have t0 : (er != 0) = true := by rw [bne_iff_ne]; exact hz
    have he := Lib.hid (show gtE zs = er by unfold gtE; rw [← Her.out, if_pos hz])
    have hh := Lib.hid (show (gtH zs).val = .agg #[.int .i64 0, .int .i64 0, .int .i64 0, .int .i64 0, .int .u32 0, .int .u32 0] by unfold gtH; rw [he.out, if_neg hz]; rfl)
    clear hz
    go_wp2
    rw [he.out, hh.out]
    refine bodyPost_ret (v := .tuple #[.agg #[.int .i64 0, .int .i64 0, .int .i64 0, .int .i64 0, .int .u32 0, .int .u32 0], .int .i64 er]) (by simp [results, Try.results50, go_sem, k0, k1, k2, k3, k4, k5]) rfl ⟨rfl, ?_⟩
    exact below_set6 Hb2.out (Nat.le_refl _) _ _ _ _ _ _

set_option maxHeartbeats 2000000 in
theorem part_any (A : Option Addr) (n c : Nat) (zs : List Int) (w : World) (hn : zs.length = n) (hl : n ≤ 1000000) (hR : Rd w A zs) :
    Calls Try.prog 104 #[.slice A n c] w fun e w' => e = .returned (.tuple #[(ptH zs).val, .int .i64 (ptE zs)]) ∧ Below w.heap.size w w' := by
  have hrd := read_any A n c zs 65535 (w.alloc (.cells #[.int .i64 0, .int .i64 0, .int .i64 0, .int .i64 0, .int .u32 0, .int .u32 0] 103)) hn hl (hR.alloc _) (by omega) (by omega)
  obtain ⟨er, her⟩ : ∃ er, er = rdE zs 65535 := ⟨_, rfl⟩
  obtain ⟨hv, hhv⟩ : ∃ hv, hv = rdH zs 65535 := ⟨_, rfl⟩
  rw [← her, ← hhv] at hrd
  have HF := Lib.hid hrd
  have Her := Lib.hid her
  have Hhv := Lib.hid hhv
  have HR := Lib.hid hR
  have Hn := Lib.hid hn
  clear hrd her hhv hR hn
  obtain ⟨d0, d1, d2, d3, d4, d5⟩ := hv
  go_enter Try.func104, Try.ntmps104
  go_wp2_with fail
  refine HF.out.mono ?_
  rintro e w1 ⟨rfl, hb1⟩
  rw [show (Hd.mk d0 d1 d2 d3 d4 d5).val = .agg #[.int .i64 d0, .int .i64 d1, .int .i64 d2, .int .i64 d3, .int .u32 d4, .int .u32 d5] from rfl]
  have bk := (Blk.new w 103 #[.int .i64 0, .int .i64 0, .int .i64 0, .int .i64 0, .int .u32 0, .int .u32 0]).below hb1
  have hs1 : w.heap.size + 1 ≤ w1.heap.size := by have := hb1.size; simpa using this
  have Hbk := Lib.hid bk
  have Hb1 := Lib.hid (show Below w.heap.size w w1 from ((Below.refl _ _).alloc (Nat.le_refl _) _).trans (hb1.mono (by simp)))
  clear hb1 bk HF
  go_upto_region 2 with fail
  obtain ⟨w2, hw2⟩ : ∃ w2, w2 = w1.alloc (.cells #[.int .i64 d0, .int .i64 d1, .int .i64 d2, .int .i64 d3, .int .u32 d4, .int .u32 d5] 103) := ⟨_, rfl⟩
  rw [← hw2]
  have bk2 : Blk w2 w.heap.size 103 #[.int .i64 0, .int .i64 0, .int .i64 0, .int .i64 0, .int .u32 0, .int .u32 0] := by rw [hw2]; exact Hbk.out.alloc _
  have bh2 : Blk w2 w1.heap.size 103 #[.int .i64 d0, .int .i64 d1, .int .i64 d2, .int .i64 d3, .int .u32 d4, .int .u32 d5] := by rw [hw2]; exact Blk.new w1 _ _
  have Hb2 := Lib.hid (show Below w.heap.size w w2 by rw [hw2]; exact Hb1.out.alloc Hb1.out.size _)
  have k0 := bk2.cell 0
  have k1 := bk2.cell 1
  have k2 := bk2.cell 2
  have k3 := bk2.cell 3
  have k4 := bk2.cell 4
  have k5 := bk2.cell 5
  have f0 := bk2.frozen 0
  have f1 := bk2.frozen 1
  have f2 := bk2.frozen 2
  have f3 := bk2.frozen 3
  have f4 := bk2.frozen 4
  have f5 := bk2.frozen 5
  have m0 := bh2.cell 0
  have m1 := bh2.cell 1
  have m2 := bh2.cell 2
  have m3 := bh2.cell 3
  have m4 := bh2.cell 4
  have m5 := bh2.cell 5
  simp only [List.getElem?_toArray, List.getElem?_cons_zero, List.getElem?_cons_succ] at k0 k1 k2 k3 k4 k5 m0 m1 m2 m3 m4 m5
  have hne : ¬ w.heap.size = w1.heap.size := by omega
  clear bk2 bh2 hw2 Hbk Hb1
  generalize w1.heap.size = p at *

  by_cases hz : er = 0
  · have hrd0 : rdE zs 65535 = 0 := by rw [← Her.out]; exact hz
    obtain ⟨q0, q1, q2, q3, q4, q5⟩ := rdE_zero zs 65535 hrd0
    have hfd : fld zs = ⟨d0, d1, d2, d3, d4, d5⟩ := by have := Hhv.out; unfold rdH at this; rw [hrd0, if_pos rfl] at this; exact this.symm
    rw [hfd] at q2 q3 q4 q5
    simp only at q2 q3 q4 q5
    rw [Hn.out] at q0 q3
    obtain ⟨sz, hsz⟩ : ∃ sz : Nat, (sz : Int) = d0 := ⟨d0.toNat, by omega⟩
    subst hsz
    have Hfld := Lib.hid hfd
    have Hrd0 := Lib.hid hrd0
    have HE := Lib.hid (show ptE zs = if G16 zs 6 % 16384 ≠ 0 then 5 else 0 by unfold ptE; rw [Hrd0.out, if_neg (by decide)])
    obtain rfl : er = 0 := hz
    clear hfd hrd0
    go_wp2_with fail
    refine (isPiece_any A n c zs _ Hn.out (by omega) hl (HR.out.below Hb2.out)).mono ?_
    rintro e w' ⟨rfl, qb, rfl⟩
    by_cases hp : G16 zs 6 % 16384 = 0
    · have t2 : (G16 zs 6 % 16384 != 0) = false := by simp [hp]
      have he := Lib.hid (show ptE zs = 0 by rw [HE.out, if_neg (by simp [hp])])
      have hh := Lib.hid (show (ptH zs).val = .agg #[.int .i64 (sz : Int), .int .i64 d1, .int .i64 d2, .int .i64 d3, .int .u32 d4, .int .u32 d5] by unfold ptH; rw [he.out, if_pos rfl, Hfld.out]; rfl)
      clear hp
      go_wp2
      rw [he.out, hh.out]
      refine bodyPost_ret (v := .tuple #[.agg #[.int .i64 (sz : Int), .int .i64 d1, .int .i64 d2, .int .i64 d3, .int .u32 d4, .int .u32 d5], .int .i64 0]) (by simp [results, Try.results104, go_sem, k0, k1, k2, k3, k4, k5]) rfl ⟨rfl, ?_⟩
      exact below_set6 (below_drewN Hb2.out _) (Nat.le_refl _) _ _ _ _ _ _
    · have t2 : (G16 zs 6 % 16384 != 0) = true := by rw [bne_iff_ne]; exact hp
      have he := Lib.hid (show ptE zs = 5 by rw [HE.out, if_pos hp])
      have hh := Lib.hid (show (ptH zs).val = .agg #[.int .i64 0, .int .i64 0, .int .i64 0, .int .i64 0, .int .u32 0, .int .u32 0] by unfold ptH; rw [he.out, if_neg (by decide)]; rfl)
      clear hp
      go_wp2
      rw [he.out, hh.out]
      refine bodyPost_ret (v := .tuple #[.agg #[.int .i64 0, .int .i64 0, .int .i64 0, .int .i64 0, .int .u32 0, .int .u32 0], .int .i64 5]) (by simp [results, Try.results104, go_sem, k0, k1, k2, k3, k4, k5]) rfl ⟨rfl, ?_⟩
      exact below_set6 (below_drewN Hb2.out _) (Nat.le_refl _) _ _ _ _ _ _
  · have t0 : (er != 0) = true := by rw [bne_iff_ne]; exact hz
    have he := Lib.hid (show ptE zs = er by unfold ptE; rw [← Her.out, if_pos hz])
    have hh := Lib.hid (show (ptH zs).val = .agg #[.int .i64 0, .int .i64 0, .int .i64 0, .int .i64 0, .int .u32 0, .int .u32 0] by unfold ptH; rw [he.out, if_neg hz]; rfl)
    clear hz
    go_wp2
    rw [he.out, hh.out]
    refine bodyPost_ret (v := .tuple #[.agg #[.int .i64 0, .int .i64 0, .int .i64 0, .int .i64 0, .int .u32 0, .int .u32 0], .int .i64 er]) (by simp [results, Try.results104, go_sem, k0, k1, k2, k3, k4, k5]) rfl ⟨rfl, ?_⟩
    exact below_set6 Hb2.out (Nat.le_refl _) _ _ _ _ _ _

end Go.Proofs.Ytbnlpidhbilenaa
