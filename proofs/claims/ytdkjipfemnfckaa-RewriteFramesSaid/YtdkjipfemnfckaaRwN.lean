/-
  Package fanlightref04: put, Free: which places of a frame may be changed. Conditions stand in each theorem.
-/
import Derived.Test.YtdkjipfemnfckaaRwM
namespace Go.Proofs.Ytdkjipfemnfckaa
open Go.RowKit Plain
set_option linter.unusedVariables false
set_option linter.unusedSimpArgs false
set_option maxRecDepth 100000
theorem sq_succ (a n : Nat) (v : Int) : sq a (n + 1) v = sq a n v ++ [(((a + n : Nat) : Int), v)] := by
  unfold sq; rw [List.range_succ, List.map_append]; rfl
set_option maxHeartbeats 2000000 in
theorem fput_any (b a n : Nat) (v : Int) (ks : List (Int × Int)) (w : World) (hM : MpV w b ks) (hn : n ≤ 4) (ha : a ≤ 1000000) (hf : ∀ i, i < n → noK ks (a + i)) :
    Calls Try.prog 40 #[.map (some b), .int .i64 a, .int .i64 n, .int .i64 v] w fun e w' => e = .returned (.tuple #[]) ∧ MpV w' b (ks ++ sq a n v) ∧ Keep [b] w w' := by
  have HM := Lib.hid hM
  have HF := Lib.hid hf
  clear hM hf
  go_enter Try.func40, Try.ntmps40
  go_wp2
  go_loopw [8] (fun s8 wr => ∃ i : Nat, s8 = .int .i64 i ∧ i ≤ n ∧ MpV wr b (ks ++ sq a i v) ∧ Keep [b] w wr) (fun i _ => n - (intOf i).toNat)
  case atStart => exact ⟨0, rfl, Nat.zero_le _, by unfold sq; simpa using HM.out, Keep.refl _ _⟩
  case round =>
    obtain ⟨i, rfl, hi, hm, hk⟩ := hrel
    have HK := Lib.hid hk
    by_cases hlt : i < n
    · have i0 : (i : Int) < (n : Int) := by omega
      have hfr : ∀ q ∈ ks ++ sq a i v, q.1 ≠ (a : Int) + (i : Int) := by
        have h1 : noK (ks ++ sq a i v) (a + i) := (noK_app _ _ _).2 ⟨HF.out i hlt, (noK_sq _ _ _ _).2 (Or.inr (Nat.le_refl _))⟩
        intro q hq
        have := h1 q hq
        omega
      obtain ⟨w2, hp, hm2, hk2⟩ := hm.put ((a : Int) + (i : Int)) v (by unfold I64; omega) hfr
      have HM2 := Lib.hid hm2
      have HK2 := Lib.hid (hk.trans hk2)
      clear hm hk hfr hm2 hk2 HM HK
      go_wp2
      go_roundw
      case rel => exact ⟨i + 1, by go_num, by omega, by rw [sq_succ, ← List.append_assoc]; simpa using HM2.out, HK2.out⟩
      case measure => simp [intOf]; omega
    · obtain rfl : i = n := by omega
      have HM2 := Lib.hid hm
      clear hm hk HM
      go_wp2
      go_end0
      exact ⟨rfl, HM2.out, HK.out⟩
theorem fput_at {b a n : Nat} {v a' n' : Int} {ks : List (Int × Int)} {w : World} (hM : MpV w b ks) (ha' : a' = (a : Int)) (hn' : n' = (n : Int)) (hn : n ≤ 4) (ha : a ≤ 1000000) (hf : ∀ i, i < n → noK ks (a + i)) :
    Calls Try.prog 40 #[.map (some b), .int .i64 a', .int .i64 n', .int .i64 v] w fun e w' => e = .returned (.tuple #[]) ∧ MpV w' b (ks ++ sq a n v) ∧ Keep [b] w w' := by
  subst ha' hn'
  exact fput_any b a n v ks w hM hn ha hf
theorem noK_two (k : Nat) : noK [(10, 3), (11, 3)] k ↔ (k ≠ 10 ∧ k ≠ 11) := by
  unfold noK
  constructor
  · intro h
    refine ⟨fun c => h (10, 3) (by simp) (by subst c; rfl), fun c => h (11, 3) (by simp) (by subst c; rfl)⟩
  · rintro ⟨h1, h2⟩ q hq
    simp at hq
    rcases hq with rfl | rfl
    · show (10 : Int) ≠ (k : Int); omega
    · show (11 : Int) ≠ (k : Int); omega
def freeL (S isz pos pl pt pl2 pt2 : Nat) (h3 ipr : Int) (er bare : Bool) : List (Int × Int) :=
  [(10, 3), (11, 3)] ++ sq pl 4 1 ++
  (if h3 = 17 then sq (S + pt) 2 2 ++ (if bare = true then [] else sq (S + 6) 2 3) else if h3 = 6 then sq (S + pt) 2 2 ++ sq (S + 16) 2 3 else if er = false then sq (S + 4) 2 2 ++ sq (S + 2) 2 3
   else sq (S + 2) 2 3 ++ sq (pos + pl2) 4 1 ++ sq (pos + 10) 2 3 ++ (if ipr = 17 then sq (pos + isz + pt2) 2 2 ++ sq (pos + isz + 6) 2 3 else if ipr = 6 then sq (pos + isz + pt2) 2 2 ++ sq (pos + isz + 16) 2 3 else if ipr = 1 then sq (pos + isz + 4) 2 2 ++ sq (pos + isz + 2) 2 3 else []))
def FreeOk (L : List (Int × Int)) (w : World) (r : Ending) (w' : World) : Prop := ∃ b, r = .returned (.map (some b)) ∧ MpV w' b L ∧ Below w.heap.size w w'
set_option maxHeartbeats 16000000 in
theorem free_core (S isz pos pl pt pl2 pt2 : Nat) (h1 h2 h3 h4 h5 p0 p1 p2 p3 p4 p5 : Int) (er : Bool) (p8 p9 ipr p11 p12 : Int) (bare ob : Bool) (w : World) (hS0 : 20 ≤ S) (hS1 : S ≤ 60)
    (hep : (ob = true ∧ pl = 12 ∧ pt = 0 ∧ pl2 = 16 ∧ pt2 = 2) ∨ (ob = false ∧ pl = 16 ∧ pt = 2 ∧ pl2 = 12 ∧ pt2 = 0)) (her : er = true → pos = S + 8 ∧ 20 ≤ isz ∧ isz ≤ 60) :
    Calls Try.prog 17 #[.agg #[.int .i64 S, .int .i64 h1, .int .i64 h2, .int .i64 h3, .int .u32 h4, .int .u32 h5], .agg #[.int .i64 p0, .int .u16 p1, .int .u16 p2, .int .i64 p3, .int .i64 p4, .int .i64 p5, .bool er, .int .i64 isz, .int .i64 p8, .int .i64 p9, .int .i64 ipr, .int .u32 p11, .int .u32 p12, .int .i64 pos, .bool bare], .bool ob] w (FreeOk (freeL S isz pos pl pt pl2 pt2 h3 ipr er bare) w) := by
  have hpl : 12 ≤ pl ∧ pl ≤ 16 ∧ 12 ≤ pl2 ∧ pl2 ≤ 16 ∧ pt ≤ 2 ∧ pt2 ≤ 2 := by omega
  have HEP := Lib.hid hep
  have HER := Lib.hid her
  clear hep her
  obtain ⟨L9, hL⟩ : ∃ x, freeL S isz pos pl pt pl2 pt2 h3 ipr er bare = x := ⟨_, rfl⟩
  rw [hL]
  have HL := Lib.hid hL
  clear hL
  have hmm := @run_makeMap Try.prog
  go_enter Try.func17, Try.ntmps17
  go_upto_region 1 with fail
  obtain ⟨w1, hw1⟩ : ∃ w1, w1 = (w.alloc (.cells #[.int .i64 S, .int .i64 h1, .int .i64 h2, .int .i64 h3, .int .u32 h4, .int .u32 h5] 35)).alloc (.cells #[.int .i64 p0, .int .u16 p1, .int .u16 p2, .int .i64 p3, .int .i64 p4, .int .i64 p5, .bool er, .int .i64 isz, .int .i64 p8, .int .i64 p9, .int .i64 ipr, .int .u32 p11, .int .u32 p12, .int .i64 pos, .bool bare] 39) := ⟨_, rfl⟩
  have HH := Lib.hid (show Blk w1 w.heap.size 35 #[.int .i64 S, .int .i64 h1, .int .i64 h2, .int .i64 h3, .int .u32 h4, .int .u32 h5] by rw [hw1]; exact (Blk.new w _ _).alloc _)
  have hp1 : Blk w1 (w.heap.size + 1) 39 #[.int .i64 p0, .int .u16 p1, .int .u16 p2, .int .i64 p3, .int .i64 p4, .int .i64 p5, .bool er, .int .i64 isz, .int .i64 p8, .int .i64 p9, .int .i64 ipr, .int .u32 p11, .int .u32 p12, .int .i64 pos, .bool bare] := by rw [hw1]; have := Blk.new (w.alloc (.cells #[.int .i64 S, .int .i64 h1, .int .i64 h2, .int .i64 h3, .int .u32 h4, .int .u32 h5] 35)) 39 #[.int .i64 p0, .int .u16 p1, .int .u16 p2, .int .i64 p3, .int .i64 p4, .int .i64 p5, .bool er, .int .i64 isz, .int .i64 p8, .int .i64 p9, .int .i64 ipr, .int .u32 p11, .int .u32 p12, .int .i64 pos, .bool bare]; rwa [World.size_alloc] at this
  have hB1 : Below w.heap.size w w1 := by rw [hw1]; exact bthen (ball _ _) (ball _ _)
  have hs1 : w1.heap.size = w.heap.size + 2 := by rw [hw1]; simp
  rw [← hw1]
  clear hw1
  obtain ⟨gh, hgh⟩ : ∃ x, x = w.heap.size := ⟨_, rfl⟩
  obtain ⟨gp, hgp⟩ : ∃ x, x = w.heap.size + 1 := ⟨_, rfl⟩
  rw [← hgp] at hp1
  rw [← hgp]
  rw [← hgh] at HH
  rw [← hgh]
  have HP := Lib.hid hp1
  have hbb : w.heap.size ≤ w1.heap.size := by omega
  have hbh : gh ≠ w1.heap.size := by omega
  have hbp : gp ≠ w1.heap.size := by omega
  have hM0 := MpV.made w1
  obtain ⟨wa, ha1, ha2, ha3⟩ := hM0.put 10 3 (by unfold I64; omega) (by simp)
  obtain ⟨wb, hb1, hb2, hb3⟩ := ha2.put 11 3 (by unfold I64; omega) (by simp)
  have hkk := ha3.trans hb3
  have HM := Lib.hid (show MpV wb w1.heap.size [(10, 3), (11, 3)] from hb2)
  have HHa := (HH.out.alloc (.map #[] 0))
  have HPa := (HP.out.alloc (.map #[] 0))
  have HH' := Lib.hid (hkk.blk HHa (by simpa using hbh))
  have HP' := Lib.hid (hkk.blk HPa (by simpa using hbp))
  have HB := Lib.hid (hkk.below (bthen hB1 (ball w1 (.map #[] 0))) (Nat.le_refl _) (by simpa using hbb))
  clear hp1 hB1 hs1 hgh hgp hM0 ha2 ha3 hb2 hb3 hkk HH HP HHa HPa
  have HH := HH'
  have HP := HP'
  clear HH' HP'
  go_upto_region 2 with fail
  clear ha1 hb1 hmm
  generalize w1.heap.size = b at *
  rcases HEP.out with ⟨rfl, e1, e2, e3, e4⟩ | ⟨rfl, e1, e2, e3, e4⟩
  · obtain ⟨k1, k2, k3, k4⟩ : pl ≤ 12 ∧ pt ≤ 0 ∧ 16 ≤ pl2 ∧ 2 ≤ pt2 := by omega
    clear e1 e2 e3 e4
    have y0 : wb.cell? ⟨gh, 0, none⟩ = some (.int .i64 S) := HH.out.cell 0
    have y3 : wb.cell? ⟨gh, 3, none⟩ = some (.int .i64 h3) := HH.out.cell 3
    have z6 : wb.cell? ⟨gp, 6, none⟩ = some (.bool _) := HP.out.cell 6
    have z7 : wb.cell? ⟨gp, 7, none⟩ = some (.int .i64 isz) := HP.out.cell 7
    have z10 : wb.cell? ⟨gp, 10, none⟩ = some (.int .i64 ipr) := HP.out.cell 10
    have z13 : wb.cell? ⟨gp, 13, none⟩ = some (.int .i64 pos) := HP.out.cell 13
    have z14 : wb.cell? ⟨gp, 14, none⟩ = some (.bool _) := HP.out.cell 14
    go_wp2_with fail
    refine (fput_at (a := pl) (n := 4) HM.out (by omega) rfl (by omega) (by omega) (by intro i hi; simp only [noK_app, noK_sq, noK_two]; omega)).mono ?_
    rintro r w10 ⟨rfl, hm, hk⟩
    have HM' := Lib.hid hm
    have HB' := Lib.hid (hk.below HB.out (Nat.le_refl _) (by simpa using hbb))
    have HH' := Lib.hid (hk.blk HH.out (by simpa using hbh))
    have HP' := Lib.hid (hk.blk HP.out (by simpa using hbp))
    clear hm hk HM HB HH HP y0 y3 z6 z7 z10 z13 z14
    have HM := HM'
    have HB := HB'
    have HH := HH'
    have HP := HP'
    clear HM' HB' HH' HP'
    have y0 : w10.cell? ⟨gh, 0, none⟩ = some (.int .i64 S) := HH.out.cell 0
    have y3 : w10.cell? ⟨gh, 3, none⟩ = some (.int .i64 h3) := HH.out.cell 3
    have z6 : w10.cell? ⟨gp, 6, none⟩ = some (.bool _) := HP.out.cell 6
    have z7 : w10.cell? ⟨gp, 7, none⟩ = some (.int .i64 isz) := HP.out.cell 7
    have z10 : w10.cell? ⟨gp, 10, none⟩ = some (.int .i64 ipr) := HP.out.cell 10
    have z13 : w10.cell? ⟨gp, 13, none⟩ = some (.int .i64 pos) := HP.out.cell 13
    have z14 : w10.cell? ⟨gp, 14, none⟩ = some (.bool _) := HP.out.cell 14
    by_cases c17 : h3 = 17
    · have t1 : (h3 == 17) = true := by simpa using c17
      go_wp2_with fail
      refine (fput_at (a := S + pt) (n := 2) HM.out (by omega) rfl (by omega) (by omega) (by intro i hi; simp only [noK_app, noK_sq, noK_two]; omega)).mono ?_
      rintro r w11 ⟨rfl, hm, hk⟩
      have HM' := Lib.hid hm
      have HB' := Lib.hid (hk.below HB.out (Nat.le_refl _) (by simpa using hbb))
      have HH' := Lib.hid (hk.blk HH.out (by simpa using hbh))
      have HP' := Lib.hid (hk.blk HP.out (by simpa using hbp))
      clear hm hk HM HB HH HP y0 y3 z6 z7 z10 z13 z14
      have HM := HM'
      have HB := HB'
      have HH := HH'
      have HP := HP'
      clear HM' HB' HH' HP'
      have y0 : w11.cell? ⟨gh, 0, none⟩ = some (.int .i64 S) := HH.out.cell 0
      have y3 : w11.cell? ⟨gh, 3, none⟩ = some (.int .i64 h3) := HH.out.cell 3
      have z6 : w11.cell? ⟨gp, 6, none⟩ = some (.bool _) := HP.out.cell 6
      have z7 : w11.cell? ⟨gp, 7, none⟩ = some (.int .i64 isz) := HP.out.cell 7
      have z10 : w11.cell? ⟨gp, 10, none⟩ = some (.int .i64 ipr) := HP.out.cell 10
      have z13 : w11.cell? ⟨gp, 13, none⟩ = some (.int .i64 pos) := HP.out.cell 13
      have z14 : w11.cell? ⟨gp, 14, none⟩ = some (.bool _) := HP.out.cell 14
      cases bare with
      | true =>
        have HX := Lib.hid (show MpV _ b L9 from by
          have hl := HL.out
          have hm := HM.out
          unfold freeL at hl
          rw [if_pos c17, if_pos rfl] at hl
          rw [← hl]
          simpa using hm)
        clear HL
        go_wp2
        go_ret
        exact ⟨b, rfl, HX.out, HB.out⟩
      | false =>
        go_wp2_with fail
        refine (fput_at (a := S + 6) (n := 2) HM.out (by omega) rfl (by omega) (by omega) (by intro i hi; simp only [noK_app, noK_sq, noK_two]; omega)).mono ?_
        rintro r w12 ⟨rfl, hm, hk⟩
        have HM' := Lib.hid hm
        have HB' := Lib.hid (hk.below HB.out (Nat.le_refl _) (by simpa using hbb))
        have HH' := Lib.hid (hk.blk HH.out (by simpa using hbh))
        have HP' := Lib.hid (hk.blk HP.out (by simpa using hbp))
        clear hm hk HM HB HH HP y0 y3 z6 z7 z10 z13 z14
        have HM := HM'
        have HB := HB'
        have HH := HH'
        have HP := HP'
        clear HM' HB' HH' HP'
        have y0 : w12.cell? ⟨gh, 0, none⟩ = some (.int .i64 S) := HH.out.cell 0
        have y3 : w12.cell? ⟨gh, 3, none⟩ = some (.int .i64 h3) := HH.out.cell 3
        have z6 : w12.cell? ⟨gp, 6, none⟩ = some (.bool _) := HP.out.cell 6
        have z7 : w12.cell? ⟨gp, 7, none⟩ = some (.int .i64 isz) := HP.out.cell 7
        have z10 : w12.cell? ⟨gp, 10, none⟩ = some (.int .i64 ipr) := HP.out.cell 10
        have z13 : w12.cell? ⟨gp, 13, none⟩ = some (.int .i64 pos) := HP.out.cell 13
        have z14 : w12.cell? ⟨gp, 14, none⟩ = some (.bool _) := HP.out.cell 14
        have HX := Lib.hid (show MpV _ b L9 from by
          have hl := HL.out
          have hm := HM.out
          unfold freeL at hl
          rw [if_pos c17, if_neg (by simp)] at hl
          rw [← hl]
          simpa using hm)
        clear HL
        go_wp2
        go_ret
        exact ⟨b, rfl, HX.out, HB.out⟩
    by_cases c6 : h3 = 6
    · have t1 : (h3 == 17) = false := by simpa using c17
      have t2 : (h3 == 6) = true := by simpa using c6
      go_wp2_with fail
      refine (fput_at (a := S + pt) (n := 2) HM.out (by omega) rfl (by omega) (by omega) (by intro i hi; simp only [noK_app, noK_sq, noK_two]; omega)).mono ?_
      rintro r w13 ⟨rfl, hm, hk⟩
      have HM' := Lib.hid hm
      have HB' := Lib.hid (hk.below HB.out (Nat.le_refl _) (by simpa using hbb))
      have HH' := Lib.hid (hk.blk HH.out (by simpa using hbh))
      have HP' := Lib.hid (hk.blk HP.out (by simpa using hbp))
      clear hm hk HM HB HH HP y0 y3 z6 z7 z10 z13 z14
      have HM := HM'
      have HB := HB'
      have HH := HH'
      have HP := HP'
      clear HM' HB' HH' HP'
      have y0 : w13.cell? ⟨gh, 0, none⟩ = some (.int .i64 S) := HH.out.cell 0
      have y3 : w13.cell? ⟨gh, 3, none⟩ = some (.int .i64 h3) := HH.out.cell 3
      have z6 : w13.cell? ⟨gp, 6, none⟩ = some (.bool _) := HP.out.cell 6
      have z7 : w13.cell? ⟨gp, 7, none⟩ = some (.int .i64 isz) := HP.out.cell 7
      have z10 : w13.cell? ⟨gp, 10, none⟩ = some (.int .i64 ipr) := HP.out.cell 10
      have z13 : w13.cell? ⟨gp, 13, none⟩ = some (.int .i64 pos) := HP.out.cell 13
      have z14 : w13.cell? ⟨gp, 14, none⟩ = some (.bool _) := HP.out.cell 14
      go_wp2_with fail
      refine (fput_at (a := S + 16) (n := 2) HM.out (by omega) rfl (by omega) (by omega) (by intro i hi; simp only [noK_app, noK_sq, noK_two]; omega)).mono ?_
      rintro r w14 ⟨rfl, hm, hk⟩
      have HM' := Lib.hid hm
      have HB' := Lib.hid (hk.below HB.out (Nat.le_refl _) (by simpa using hbb))
      have HH' := Lib.hid (hk.blk HH.out (by simpa using hbh))
      have HP' := Lib.hid (hk.blk HP.out (by simpa using hbp))
      clear hm hk HM HB HH HP y0 y3 z6 z7 z10 z13 z14
      have HM := HM'
      have HB := HB'
      have HH := HH'
      have HP := HP'
      clear HM' HB' HH' HP'
      have y0 : w14.cell? ⟨gh, 0, none⟩ = some (.int .i64 S) := HH.out.cell 0
      have y3 : w14.cell? ⟨gh, 3, none⟩ = some (.int .i64 h3) := HH.out.cell 3
      have z6 : w14.cell? ⟨gp, 6, none⟩ = some (.bool _) := HP.out.cell 6
      have z7 : w14.cell? ⟨gp, 7, none⟩ = some (.int .i64 isz) := HP.out.cell 7
      have z10 : w14.cell? ⟨gp, 10, none⟩ = some (.int .i64 ipr) := HP.out.cell 10
      have z13 : w14.cell? ⟨gp, 13, none⟩ = some (.int .i64 pos) := HP.out.cell 13
      have z14 : w14.cell? ⟨gp, 14, none⟩ = some (.bool _) := HP.out.cell 14
      have HX := Lib.hid (show MpV _ b L9 from by
        have hl := HL.out
        have hm := HM.out
        unfold freeL at hl
        rw [if_neg c17, if_pos c6] at hl
        rw [← hl]
        simpa using hm)
      clear HL
      go_wp2
      go_ret
      exact ⟨b, rfl, HX.out, HB.out⟩
    · have t1 : (h3 == 17) = false := by simpa using c17
      have t2 : (h3 == 6) = false := by simpa using c6
      cases er with
      | false =>
        go_wp2_with fail
        refine (fput_at (a := S + 4) (n := 2) HM.out (by omega) rfl (by omega) (by omega) (by intro i hi; simp only [noK_app, noK_sq, noK_two]; omega)).mono ?_
        rintro r w15 ⟨rfl, hm, hk⟩
        have HM' := Lib.hid hm
        have HB' := Lib.hid (hk.below HB.out (Nat.le_refl _) (by simpa using hbb))
        have HH' := Lib.hid (hk.blk HH.out (by simpa using hbh))
        have HP' := Lib.hid (hk.blk HP.out (by simpa using hbp))
        clear hm hk HM HB HH HP y0 y3 z6 z7 z10 z13 z14
        have HM := HM'
        have HB := HB'
        have HH := HH'
        have HP := HP'
        clear HM' HB' HH' HP'
        have y0 : w15.cell? ⟨gh, 0, none⟩ = some (.int .i64 S) := HH.out.cell 0
        have y3 : w15.cell? ⟨gh, 3, none⟩ = some (.int .i64 h3) := HH.out.cell 3
        have z6 : w15.cell? ⟨gp, 6, none⟩ = some (.bool _) := HP.out.cell 6
        have z7 : w15.cell? ⟨gp, 7, none⟩ = some (.int .i64 isz) := HP.out.cell 7
        have z10 : w15.cell? ⟨gp, 10, none⟩ = some (.int .i64 ipr) := HP.out.cell 10
        have z13 : w15.cell? ⟨gp, 13, none⟩ = some (.int .i64 pos) := HP.out.cell 13
        have z14 : w15.cell? ⟨gp, 14, none⟩ = some (.bool _) := HP.out.cell 14
        go_wp2_with fail
        refine (fput_at (a := S + 2) (n := 2) HM.out (by omega) rfl (by omega) (by omega) (by intro i hi; simp only [noK_app, noK_sq, noK_two]; omega)).mono ?_
        rintro r w16 ⟨rfl, hm, hk⟩
        have HM' := Lib.hid hm
        have HB' := Lib.hid (hk.below HB.out (Nat.le_refl _) (by simpa using hbb))
        have HH' := Lib.hid (hk.blk HH.out (by simpa using hbh))
        have HP' := Lib.hid (hk.blk HP.out (by simpa using hbp))
        clear hm hk HM HB HH HP y0 y3 z6 z7 z10 z13 z14
        have HM := HM'
        have HB := HB'
        have HH := HH'
        have HP := HP'
        clear HM' HB' HH' HP'
        have y0 : w16.cell? ⟨gh, 0, none⟩ = some (.int .i64 S) := HH.out.cell 0
        have y3 : w16.cell? ⟨gh, 3, none⟩ = some (.int .i64 h3) := HH.out.cell 3
        have z6 : w16.cell? ⟨gp, 6, none⟩ = some (.bool _) := HP.out.cell 6
        have z7 : w16.cell? ⟨gp, 7, none⟩ = some (.int .i64 isz) := HP.out.cell 7
        have z10 : w16.cell? ⟨gp, 10, none⟩ = some (.int .i64 ipr) := HP.out.cell 10
        have z13 : w16.cell? ⟨gp, 13, none⟩ = some (.int .i64 pos) := HP.out.cell 13
        have z14 : w16.cell? ⟨gp, 14, none⟩ = some (.bool _) := HP.out.cell 14
        have HX := Lib.hid (show MpV _ b L9 from by
          have hl := HL.out
          have hm := HM.out
          unfold freeL at hl
          rw [if_neg c17, if_neg c6, if_pos rfl] at hl
          rw [← hl]
          simpa using hm)
        clear HL
        go_wp2
        go_ret
        exact ⟨b, rfl, HX.out, HB.out⟩
      | true =>
        obtain ⟨r1, r2, r3, r4⟩ : pos ≤ S + 8 ∧ S + 8 ≤ pos ∧ 20 ≤ isz ∧ isz ≤ 60 := by have := HER.out rfl; omega
        go_wp2_with fail
        refine (fput_at (a := S + 2) (n := 2) HM.out (by omega) rfl (by omega) (by omega) (by intro i hi; simp only [noK_app, noK_sq, noK_two]; omega)).mono ?_
        rintro r w24 ⟨rfl, hm, hk⟩
        have HM' := Lib.hid hm
        have HB' := Lib.hid (hk.below HB.out (Nat.le_refl _) (by simpa using hbb))
        have HH' := Lib.hid (hk.blk HH.out (by simpa using hbh))
        have HP' := Lib.hid (hk.blk HP.out (by simpa using hbp))
        clear hm hk HM HB HH HP y0 y3 z6 z7 z10 z13 z14
        have HM := HM'
        have HB := HB'
        have HH := HH'
        have HP := HP'
        clear HM' HB' HH' HP'
        have y0 : w24.cell? ⟨gh, 0, none⟩ = some (.int .i64 S) := HH.out.cell 0
        have y3 : w24.cell? ⟨gh, 3, none⟩ = some (.int .i64 h3) := HH.out.cell 3
        have z6 : w24.cell? ⟨gp, 6, none⟩ = some (.bool _) := HP.out.cell 6
        have z7 : w24.cell? ⟨gp, 7, none⟩ = some (.int .i64 isz) := HP.out.cell 7
        have z10 : w24.cell? ⟨gp, 10, none⟩ = some (.int .i64 ipr) := HP.out.cell 10
        have z13 : w24.cell? ⟨gp, 13, none⟩ = some (.int .i64 pos) := HP.out.cell 13
        have z14 : w24.cell? ⟨gp, 14, none⟩ = some (.bool _) := HP.out.cell 14
        go_upto_region 7 with fail
        go_quiet (fail)
        have HM' := Lib.hid (HM.out.drewN nq)
        have HB' := Lib.hid (below_drewN HB.out nq)
        have HH' := Lib.hid (HH.out.drewN nq)
        have HP' := Lib.hid (HP.out.drewN nq)
        clear HM HB HH HP y0 y3 z6 z7 z10 z13 z14
        have HM := HM'
        have HB := HB'
        have HH := HH'
        have HP := HP'
        clear HM' HB' HH' HP'
        generalize World.drewN _ nq = w23 at *
        have y0 : w23.cell? ⟨gh, 0, none⟩ = some (.int .i64 S) := HH.out.cell 0
        have y3 : w23.cell? ⟨gh, 3, none⟩ = some (.int .i64 h3) := HH.out.cell 3
        have z6 : w23.cell? ⟨gp, 6, none⟩ = some (.bool _) := HP.out.cell 6
        have z7 : w23.cell? ⟨gp, 7, none⟩ = some (.int .i64 isz) := HP.out.cell 7
        have z10 : w23.cell? ⟨gp, 10, none⟩ = some (.int .i64 ipr) := HP.out.cell 10
        have z13 : w23.cell? ⟨gp, 13, none⟩ = some (.int .i64 pos) := HP.out.cell 13
        have z14 : w23.cell? ⟨gp, 14, none⟩ = some (.bool _) := HP.out.cell 14
        go_wp2_with fail
        refine (fput_at (a := pos + pl2) (n := 4) HM.out (by omega) rfl (by omega) (by omega) (by intro i hi; simp only [noK_app, noK_sq, noK_two]; omega)).mono ?_
        rintro r w25 ⟨rfl, hm, hk⟩
        have HM' := Lib.hid hm
        have HB' := Lib.hid (hk.below HB.out (Nat.le_refl _) (by simpa using hbb))
        have HH' := Lib.hid (hk.blk HH.out (by simpa using hbh))
        have HP' := Lib.hid (hk.blk HP.out (by simpa using hbp))
        clear hm hk HM HB HH HP y0 y3 z6 z7 z10 z13 z14
        have HM := HM'
        have HB := HB'
        have HH := HH'
        have HP := HP'
        clear HM' HB' HH' HP'
        have y0 : w25.cell? ⟨gh, 0, none⟩ = some (.int .i64 S) := HH.out.cell 0
        have y3 : w25.cell? ⟨gh, 3, none⟩ = some (.int .i64 h3) := HH.out.cell 3
        have z6 : w25.cell? ⟨gp, 6, none⟩ = some (.bool _) := HP.out.cell 6
        have z7 : w25.cell? ⟨gp, 7, none⟩ = some (.int .i64 isz) := HP.out.cell 7
        have z10 : w25.cell? ⟨gp, 10, none⟩ = some (.int .i64 ipr) := HP.out.cell 10
        have z13 : w25.cell? ⟨gp, 13, none⟩ = some (.int .i64 pos) := HP.out.cell 13
        have z14 : w25.cell? ⟨gp, 14, none⟩ = some (.bool _) := HP.out.cell 14
        go_wp2_with fail
        refine (fput_at (a := pos + 10) (n := 2) HM.out (by omega) rfl (by omega) (by omega) (by intro i hi; simp only [noK_app, noK_sq, noK_two]; omega)).mono ?_
        rintro r w26 ⟨rfl, hm, hk⟩
        have HM' := Lib.hid hm
        have HB' := Lib.hid (hk.below HB.out (Nat.le_refl _) (by simpa using hbb))
        have HH' := Lib.hid (hk.blk HH.out (by simpa using hbh))
        have HP' := Lib.hid (hk.blk HP.out (by simpa using hbp))
        clear hm hk HM HB HH HP y0 y3 z6 z7 z10 z13 z14
        have HM := HM'
        have HB := HB'
        have HH := HH'
        have HP := HP'
        clear HM' HB' HH' HP'
        have y0 : w26.cell? ⟨gh, 0, none⟩ = some (.int .i64 S) := HH.out.cell 0
        have y3 : w26.cell? ⟨gh, 3, none⟩ = some (.int .i64 h3) := HH.out.cell 3
        have z6 : w26.cell? ⟨gp, 6, none⟩ = some (.bool _) := HP.out.cell 6
        have z7 : w26.cell? ⟨gp, 7, none⟩ = some (.int .i64 isz) := HP.out.cell 7
        have z10 : w26.cell? ⟨gp, 10, none⟩ = some (.int .i64 ipr) := HP.out.cell 10
        have z13 : w26.cell? ⟨gp, 13, none⟩ = some (.int .i64 pos) := HP.out.cell 13
        have z14 : w26.cell? ⟨gp, 14, none⟩ = some (.bool _) := HP.out.cell 14
        by_cases d17 : ipr = 17
        · have t3 : (ipr == 17) = true := by simpa using d17
          go_wp2_with fail
          refine (fput_at (a := pos + isz + pt2) (n := 2) HM.out (by omega) rfl (by omega) (by omega) (by intro i hi; simp only [noK_app, noK_sq, noK_two]; omega)).mono ?_
          rintro r w17 ⟨rfl, hm, hk⟩
          have HM' := Lib.hid hm
          have HB' := Lib.hid (hk.below HB.out (Nat.le_refl _) (by simpa using hbb))
          have HH' := Lib.hid (hk.blk HH.out (by simpa using hbh))
          have HP' := Lib.hid (hk.blk HP.out (by simpa using hbp))
          clear hm hk HM HB HH HP y0 y3 z6 z7 z10 z13 z14
          have HM := HM'
          have HB := HB'
          have HH := HH'
          have HP := HP'
          clear HM' HB' HH' HP'
          have y0 : w17.cell? ⟨gh, 0, none⟩ = some (.int .i64 S) := HH.out.cell 0
          have y3 : w17.cell? ⟨gh, 3, none⟩ = some (.int .i64 h3) := HH.out.cell 3
          have z6 : w17.cell? ⟨gp, 6, none⟩ = some (.bool _) := HP.out.cell 6
          have z7 : w17.cell? ⟨gp, 7, none⟩ = some (.int .i64 isz) := HP.out.cell 7
          have z10 : w17.cell? ⟨gp, 10, none⟩ = some (.int .i64 ipr) := HP.out.cell 10
          have z13 : w17.cell? ⟨gp, 13, none⟩ = some (.int .i64 pos) := HP.out.cell 13
          have z14 : w17.cell? ⟨gp, 14, none⟩ = some (.bool _) := HP.out.cell 14
          go_wp2_with fail
          refine (fput_at (a := pos + isz + 6) (n := 2) HM.out (by omega) rfl (by omega) (by omega) (by intro i hi; simp only [noK_app, noK_sq, noK_two]; omega)).mono ?_
          rintro r w18 ⟨rfl, hm, hk⟩
          have HM' := Lib.hid hm
          have HB' := Lib.hid (hk.below HB.out (Nat.le_refl _) (by simpa using hbb))
          have HH' := Lib.hid (hk.blk HH.out (by simpa using hbh))
          have HP' := Lib.hid (hk.blk HP.out (by simpa using hbp))
          clear hm hk HM HB HH HP y0 y3 z6 z7 z10 z13 z14
          have HM := HM'
          have HB := HB'
          have HH := HH'
          have HP := HP'
          clear HM' HB' HH' HP'
          have y0 : w18.cell? ⟨gh, 0, none⟩ = some (.int .i64 S) := HH.out.cell 0
          have y3 : w18.cell? ⟨gh, 3, none⟩ = some (.int .i64 h3) := HH.out.cell 3
          have z6 : w18.cell? ⟨gp, 6, none⟩ = some (.bool _) := HP.out.cell 6
          have z7 : w18.cell? ⟨gp, 7, none⟩ = some (.int .i64 isz) := HP.out.cell 7
          have z10 : w18.cell? ⟨gp, 10, none⟩ = some (.int .i64 ipr) := HP.out.cell 10
          have z13 : w18.cell? ⟨gp, 13, none⟩ = some (.int .i64 pos) := HP.out.cell 13
          have z14 : w18.cell? ⟨gp, 14, none⟩ = some (.bool _) := HP.out.cell 14
          have HX := Lib.hid (show MpV _ b L9 from by
            have hl := HL.out
            have hm := HM.out
            unfold freeL at hl
            rw [if_neg c17, if_neg c6, if_neg (by simp), if_pos d17] at hl
            rw [← hl]
            simpa using hm)
          clear HL
          go_wp2
          go_ret
          exact ⟨b, rfl, HX.out, HB.out⟩
        by_cases d6 : ipr = 6
        · have t3 : (ipr == 17) = false := by simpa using d17
          have t4 : (ipr == 6) = true := by simpa using d6
          go_wp2_with fail
          refine (fput_at (a := pos + isz + pt2) (n := 2) HM.out (by omega) rfl (by omega) (by omega) (by intro i hi; simp only [noK_app, noK_sq, noK_two]; omega)).mono ?_
          rintro r w19 ⟨rfl, hm, hk⟩
          have HM' := Lib.hid hm
          have HB' := Lib.hid (hk.below HB.out (Nat.le_refl _) (by simpa using hbb))
          have HH' := Lib.hid (hk.blk HH.out (by simpa using hbh))
          have HP' := Lib.hid (hk.blk HP.out (by simpa using hbp))
          clear hm hk HM HB HH HP y0 y3 z6 z7 z10 z13 z14
          have HM := HM'
          have HB := HB'
          have HH := HH'
          have HP := HP'
          clear HM' HB' HH' HP'
          have y0 : w19.cell? ⟨gh, 0, none⟩ = some (.int .i64 S) := HH.out.cell 0
          have y3 : w19.cell? ⟨gh, 3, none⟩ = some (.int .i64 h3) := HH.out.cell 3
          have z6 : w19.cell? ⟨gp, 6, none⟩ = some (.bool _) := HP.out.cell 6
          have z7 : w19.cell? ⟨gp, 7, none⟩ = some (.int .i64 isz) := HP.out.cell 7
          have z10 : w19.cell? ⟨gp, 10, none⟩ = some (.int .i64 ipr) := HP.out.cell 10
          have z13 : w19.cell? ⟨gp, 13, none⟩ = some (.int .i64 pos) := HP.out.cell 13
          have z14 : w19.cell? ⟨gp, 14, none⟩ = some (.bool _) := HP.out.cell 14
          go_wp2_with fail
          refine (fput_at (a := pos + isz + 16) (n := 2) HM.out (by omega) rfl (by omega) (by omega) (by intro i hi; simp only [noK_app, noK_sq, noK_two]; omega)).mono ?_
          rintro r w20 ⟨rfl, hm, hk⟩
          have HM' := Lib.hid hm
          have HB' := Lib.hid (hk.below HB.out (Nat.le_refl _) (by simpa using hbb))
          have HH' := Lib.hid (hk.blk HH.out (by simpa using hbh))
          have HP' := Lib.hid (hk.blk HP.out (by simpa using hbp))
          clear hm hk HM HB HH HP y0 y3 z6 z7 z10 z13 z14
          have HM := HM'
          have HB := HB'
          have HH := HH'
          have HP := HP'
          clear HM' HB' HH' HP'
          have y0 : w20.cell? ⟨gh, 0, none⟩ = some (.int .i64 S) := HH.out.cell 0
          have y3 : w20.cell? ⟨gh, 3, none⟩ = some (.int .i64 h3) := HH.out.cell 3
          have z6 : w20.cell? ⟨gp, 6, none⟩ = some (.bool _) := HP.out.cell 6
          have z7 : w20.cell? ⟨gp, 7, none⟩ = some (.int .i64 isz) := HP.out.cell 7
          have z10 : w20.cell? ⟨gp, 10, none⟩ = some (.int .i64 ipr) := HP.out.cell 10
          have z13 : w20.cell? ⟨gp, 13, none⟩ = some (.int .i64 pos) := HP.out.cell 13
          have z14 : w20.cell? ⟨gp, 14, none⟩ = some (.bool _) := HP.out.cell 14
          have HX := Lib.hid (show MpV _ b L9 from by
            have hl := HL.out
            have hm := HM.out
            unfold freeL at hl
            rw [if_neg c17, if_neg c6, if_neg (by simp), if_neg d17, if_pos d6] at hl
            rw [← hl]
            simpa using hm)
          clear HL
          go_wp2
          go_ret
          exact ⟨b, rfl, HX.out, HB.out⟩
        by_cases d1 : ipr = 1
        · have t3 : (ipr == 17) = false := by simpa using d17
          have t4 : (ipr == 6) = false := by simpa using d6
          have t5 : (ipr == 1) = true := by simpa using d1
          go_wp2_with fail
          refine (fput_at (a := pos + isz + 4) (n := 2) HM.out (by omega) rfl (by omega) (by omega) (by intro i hi; simp only [noK_app, noK_sq, noK_two]; omega)).mono ?_
          rintro r w21 ⟨rfl, hm, hk⟩
          have HM' := Lib.hid hm
          have HB' := Lib.hid (hk.below HB.out (Nat.le_refl _) (by simpa using hbb))
          have HH' := Lib.hid (hk.blk HH.out (by simpa using hbh))
          have HP' := Lib.hid (hk.blk HP.out (by simpa using hbp))
          clear hm hk HM HB HH HP y0 y3 z6 z7 z10 z13 z14
          have HM := HM'
          have HB := HB'
          have HH := HH'
          have HP := HP'
          clear HM' HB' HH' HP'
          have y0 : w21.cell? ⟨gh, 0, none⟩ = some (.int .i64 S) := HH.out.cell 0
          have y3 : w21.cell? ⟨gh, 3, none⟩ = some (.int .i64 h3) := HH.out.cell 3
          have z6 : w21.cell? ⟨gp, 6, none⟩ = some (.bool _) := HP.out.cell 6
          have z7 : w21.cell? ⟨gp, 7, none⟩ = some (.int .i64 isz) := HP.out.cell 7
          have z10 : w21.cell? ⟨gp, 10, none⟩ = some (.int .i64 ipr) := HP.out.cell 10
          have z13 : w21.cell? ⟨gp, 13, none⟩ = some (.int .i64 pos) := HP.out.cell 13
          have z14 : w21.cell? ⟨gp, 14, none⟩ = some (.bool _) := HP.out.cell 14
          go_wp2_with fail
          refine (fput_at (a := pos + isz + 2) (n := 2) HM.out (by omega) rfl (by omega) (by omega) (by intro i hi; simp only [noK_app, noK_sq, noK_two]; omega)).mono ?_
          rintro r w22 ⟨rfl, hm, hk⟩
          have HM' := Lib.hid hm
          have HB' := Lib.hid (hk.below HB.out (Nat.le_refl _) (by simpa using hbb))
          have HH' := Lib.hid (hk.blk HH.out (by simpa using hbh))
          have HP' := Lib.hid (hk.blk HP.out (by simpa using hbp))
          clear hm hk HM HB HH HP y0 y3 z6 z7 z10 z13 z14
          have HM := HM'
          have HB := HB'
          have HH := HH'
          have HP := HP'
          clear HM' HB' HH' HP'
          have y0 : w22.cell? ⟨gh, 0, none⟩ = some (.int .i64 S) := HH.out.cell 0
          have y3 : w22.cell? ⟨gh, 3, none⟩ = some (.int .i64 h3) := HH.out.cell 3
          have z6 : w22.cell? ⟨gp, 6, none⟩ = some (.bool _) := HP.out.cell 6
          have z7 : w22.cell? ⟨gp, 7, none⟩ = some (.int .i64 isz) := HP.out.cell 7
          have z10 : w22.cell? ⟨gp, 10, none⟩ = some (.int .i64 ipr) := HP.out.cell 10
          have z13 : w22.cell? ⟨gp, 13, none⟩ = some (.int .i64 pos) := HP.out.cell 13
          have z14 : w22.cell? ⟨gp, 14, none⟩ = some (.bool _) := HP.out.cell 14
          have HX := Lib.hid (show MpV _ b L9 from by
            have hl := HL.out
            have hm := HM.out
            unfold freeL at hl
            rw [if_neg c17, if_neg c6, if_neg (by simp), if_neg d17, if_neg d6, if_pos d1] at hl
            rw [← hl]
            simpa using hm)
          clear HL
          go_wp2
          go_ret
          exact ⟨b, rfl, HX.out, HB.out⟩
        · have t3 : (ipr == 17) = false := by simpa using d17
          have t4 : (ipr == 6) = false := by simpa using d6
          have t5 : (ipr == 1) = false := by simpa using d1
          have HX := Lib.hid (show MpV _ b L9 from by
            have hl := HL.out
            have hm := HM.out
            unfold freeL at hl
            rw [if_neg c17, if_neg c6, if_neg (by simp), if_neg d17, if_neg d6, if_neg d1] at hl
            rw [← hl]
            simpa using hm)
          clear HL
          go_wp2
          go_ret
          exact ⟨b, rfl, HX.out, HB.out⟩
  · obtain ⟨k1, k2, k3, k4⟩ : 16 ≤ pl ∧ 2 ≤ pt ∧ pl2 ≤ 12 ∧ pt2 ≤ 0 := by omega
    clear e1 e2 e3 e4
    have y0 : wb.cell? ⟨gh, 0, none⟩ = some (.int .i64 S) := HH.out.cell 0
    have y3 : wb.cell? ⟨gh, 3, none⟩ = some (.int .i64 h3) := HH.out.cell 3
    have z6 : wb.cell? ⟨gp, 6, none⟩ = some (.bool _) := HP.out.cell 6
    have z7 : wb.cell? ⟨gp, 7, none⟩ = some (.int .i64 isz) := HP.out.cell 7
    have z10 : wb.cell? ⟨gp, 10, none⟩ = some (.int .i64 ipr) := HP.out.cell 10
    have z13 : wb.cell? ⟨gp, 13, none⟩ = some (.int .i64 pos) := HP.out.cell 13
    have z14 : wb.cell? ⟨gp, 14, none⟩ = some (.bool _) := HP.out.cell 14
    go_wp2_with fail
    refine (fput_at (a := pl) (n := 4) HM.out (by omega) rfl (by omega) (by omega) (by intro i hi; simp only [noK_app, noK_sq, noK_two]; omega)).mono ?_
    rintro r w27 ⟨rfl, hm, hk⟩
    have HM' := Lib.hid hm
    have HB' := Lib.hid (hk.below HB.out (Nat.le_refl _) (by simpa using hbb))
    have HH' := Lib.hid (hk.blk HH.out (by simpa using hbh))
    have HP' := Lib.hid (hk.blk HP.out (by simpa using hbp))
    clear hm hk HM HB HH HP y0 y3 z6 z7 z10 z13 z14
    have HM := HM'
    have HB := HB'
    have HH := HH'
    have HP := HP'
    clear HM' HB' HH' HP'
    have y0 : w27.cell? ⟨gh, 0, none⟩ = some (.int .i64 S) := HH.out.cell 0
    have y3 : w27.cell? ⟨gh, 3, none⟩ = some (.int .i64 h3) := HH.out.cell 3
    have z6 : w27.cell? ⟨gp, 6, none⟩ = some (.bool _) := HP.out.cell 6
    have z7 : w27.cell? ⟨gp, 7, none⟩ = some (.int .i64 isz) := HP.out.cell 7
    have z10 : w27.cell? ⟨gp, 10, none⟩ = some (.int .i64 ipr) := HP.out.cell 10
    have z13 : w27.cell? ⟨gp, 13, none⟩ = some (.int .i64 pos) := HP.out.cell 13
    have z14 : w27.cell? ⟨gp, 14, none⟩ = some (.bool _) := HP.out.cell 14
    by_cases c17 : h3 = 17
    · have t1 : (h3 == 17) = true := by simpa using c17
      go_wp2_with fail
      refine (fput_at (a := S + pt) (n := 2) HM.out (by omega) rfl (by omega) (by omega) (by intro i hi; simp only [noK_app, noK_sq, noK_two]; omega)).mono ?_
      rintro r w28 ⟨rfl, hm, hk⟩
      have HM' := Lib.hid hm
      have HB' := Lib.hid (hk.below HB.out (Nat.le_refl _) (by simpa using hbb))
      have HH' := Lib.hid (hk.blk HH.out (by simpa using hbh))
      have HP' := Lib.hid (hk.blk HP.out (by simpa using hbp))
      clear hm hk HM HB HH HP y0 y3 z6 z7 z10 z13 z14
      have HM := HM'
      have HB := HB'
      have HH := HH'
      have HP := HP'
      clear HM' HB' HH' HP'
      have y0 : w28.cell? ⟨gh, 0, none⟩ = some (.int .i64 S) := HH.out.cell 0
      have y3 : w28.cell? ⟨gh, 3, none⟩ = some (.int .i64 h3) := HH.out.cell 3
      have z6 : w28.cell? ⟨gp, 6, none⟩ = some (.bool _) := HP.out.cell 6
      have z7 : w28.cell? ⟨gp, 7, none⟩ = some (.int .i64 isz) := HP.out.cell 7
      have z10 : w28.cell? ⟨gp, 10, none⟩ = some (.int .i64 ipr) := HP.out.cell 10
      have z13 : w28.cell? ⟨gp, 13, none⟩ = some (.int .i64 pos) := HP.out.cell 13
      have z14 : w28.cell? ⟨gp, 14, none⟩ = some (.bool _) := HP.out.cell 14
      cases bare with
      | true =>
        have HX := Lib.hid (show MpV _ b L9 from by
          have hl := HL.out
          have hm := HM.out
          unfold freeL at hl
          rw [if_pos c17, if_pos rfl] at hl
          rw [← hl]
          simpa using hm)
        clear HL
        go_wp2
        go_ret
        exact ⟨b, rfl, HX.out, HB.out⟩
      | false =>
        go_wp2_with fail
        refine (fput_at (a := S + 6) (n := 2) HM.out (by omega) rfl (by omega) (by omega) (by intro i hi; simp only [noK_app, noK_sq, noK_two]; omega)).mono ?_
        rintro r w29 ⟨rfl, hm, hk⟩
        have HM' := Lib.hid hm
        have HB' := Lib.hid (hk.below HB.out (Nat.le_refl _) (by simpa using hbb))
        have HH' := Lib.hid (hk.blk HH.out (by simpa using hbh))
        have HP' := Lib.hid (hk.blk HP.out (by simpa using hbp))
        clear hm hk HM HB HH HP y0 y3 z6 z7 z10 z13 z14
        have HM := HM'
        have HB := HB'
        have HH := HH'
        have HP := HP'
        clear HM' HB' HH' HP'
        have y0 : w29.cell? ⟨gh, 0, none⟩ = some (.int .i64 S) := HH.out.cell 0
        have y3 : w29.cell? ⟨gh, 3, none⟩ = some (.int .i64 h3) := HH.out.cell 3
        have z6 : w29.cell? ⟨gp, 6, none⟩ = some (.bool _) := HP.out.cell 6
        have z7 : w29.cell? ⟨gp, 7, none⟩ = some (.int .i64 isz) := HP.out.cell 7
        have z10 : w29.cell? ⟨gp, 10, none⟩ = some (.int .i64 ipr) := HP.out.cell 10
        have z13 : w29.cell? ⟨gp, 13, none⟩ = some (.int .i64 pos) := HP.out.cell 13
        have z14 : w29.cell? ⟨gp, 14, none⟩ = some (.bool _) := HP.out.cell 14
        have HX := Lib.hid (show MpV _ b L9 from by
          have hl := HL.out
          have hm := HM.out
          unfold freeL at hl
          rw [if_pos c17, if_neg (by simp)] at hl
          rw [← hl]
          simpa using hm)
        clear HL
        go_wp2
        go_ret
        exact ⟨b, rfl, HX.out, HB.out⟩
    by_cases c6 : h3 = 6
    · have t1 : (h3 == 17) = false := by simpa using c17
      have t2 : (h3 == 6) = true := by simpa using c6
      go_wp2_with fail
      refine (fput_at (a := S + pt) (n := 2) HM.out (by omega) rfl (by omega) (by omega) (by intro i hi; simp only [noK_app, noK_sq, noK_two]; omega)).mono ?_
      rintro r w30 ⟨rfl, hm, hk⟩
      have HM' := Lib.hid hm
      have HB' := Lib.hid (hk.below HB.out (Nat.le_refl _) (by simpa using hbb))
      have HH' := Lib.hid (hk.blk HH.out (by simpa using hbh))
      have HP' := Lib.hid (hk.blk HP.out (by simpa using hbp))
      clear hm hk HM HB HH HP y0 y3 z6 z7 z10 z13 z14
      have HM := HM'
      have HB := HB'
      have HH := HH'
      have HP := HP'
      clear HM' HB' HH' HP'
      have y0 : w30.cell? ⟨gh, 0, none⟩ = some (.int .i64 S) := HH.out.cell 0
      have y3 : w30.cell? ⟨gh, 3, none⟩ = some (.int .i64 h3) := HH.out.cell 3
      have z6 : w30.cell? ⟨gp, 6, none⟩ = some (.bool _) := HP.out.cell 6
      have z7 : w30.cell? ⟨gp, 7, none⟩ = some (.int .i64 isz) := HP.out.cell 7
      have z10 : w30.cell? ⟨gp, 10, none⟩ = some (.int .i64 ipr) := HP.out.cell 10
      have z13 : w30.cell? ⟨gp, 13, none⟩ = some (.int .i64 pos) := HP.out.cell 13
      have z14 : w30.cell? ⟨gp, 14, none⟩ = some (.bool _) := HP.out.cell 14
      go_wp2_with fail
      refine (fput_at (a := S + 16) (n := 2) HM.out (by omega) rfl (by omega) (by omega) (by intro i hi; simp only [noK_app, noK_sq, noK_two]; omega)).mono ?_
      rintro r w31 ⟨rfl, hm, hk⟩
      have HM' := Lib.hid hm
      have HB' := Lib.hid (hk.below HB.out (Nat.le_refl _) (by simpa using hbb))
      have HH' := Lib.hid (hk.blk HH.out (by simpa using hbh))
      have HP' := Lib.hid (hk.blk HP.out (by simpa using hbp))
      clear hm hk HM HB HH HP y0 y3 z6 z7 z10 z13 z14
      have HM := HM'
      have HB := HB'
      have HH := HH'
      have HP := HP'
      clear HM' HB' HH' HP'
      have y0 : w31.cell? ⟨gh, 0, none⟩ = some (.int .i64 S) := HH.out.cell 0
      have y3 : w31.cell? ⟨gh, 3, none⟩ = some (.int .i64 h3) := HH.out.cell 3
      have z6 : w31.cell? ⟨gp, 6, none⟩ = some (.bool _) := HP.out.cell 6
      have z7 : w31.cell? ⟨gp, 7, none⟩ = some (.int .i64 isz) := HP.out.cell 7
      have z10 : w31.cell? ⟨gp, 10, none⟩ = some (.int .i64 ipr) := HP.out.cell 10
      have z13 : w31.cell? ⟨gp, 13, none⟩ = some (.int .i64 pos) := HP.out.cell 13
      have z14 : w31.cell? ⟨gp, 14, none⟩ = some (.bool _) := HP.out.cell 14
      have HX := Lib.hid (show MpV _ b L9 from by
        have hl := HL.out
        have hm := HM.out
        unfold freeL at hl
        rw [if_neg c17, if_pos c6] at hl
        rw [← hl]
        simpa using hm)
      clear HL
      go_wp2
      go_ret
      exact ⟨b, rfl, HX.out, HB.out⟩
    · have t1 : (h3 == 17) = false := by simpa using c17
      have t2 : (h3 == 6) = false := by simpa using c6
      cases er with
      | false =>
        go_wp2_with fail
        refine (fput_at (a := S + 4) (n := 2) HM.out (by omega) rfl (by omega) (by omega) (by intro i hi; simp only [noK_app, noK_sq, noK_two]; omega)).mono ?_
        rintro r w32 ⟨rfl, hm, hk⟩
        have HM' := Lib.hid hm
        have HB' := Lib.hid (hk.below HB.out (Nat.le_refl _) (by simpa using hbb))
        have HH' := Lib.hid (hk.blk HH.out (by simpa using hbh))
        have HP' := Lib.hid (hk.blk HP.out (by simpa using hbp))
        clear hm hk HM HB HH HP y0 y3 z6 z7 z10 z13 z14
        have HM := HM'
        have HB := HB'
        have HH := HH'
        have HP := HP'
        clear HM' HB' HH' HP'
        have y0 : w32.cell? ⟨gh, 0, none⟩ = some (.int .i64 S) := HH.out.cell 0
        have y3 : w32.cell? ⟨gh, 3, none⟩ = some (.int .i64 h3) := HH.out.cell 3
        have z6 : w32.cell? ⟨gp, 6, none⟩ = some (.bool _) := HP.out.cell 6
        have z7 : w32.cell? ⟨gp, 7, none⟩ = some (.int .i64 isz) := HP.out.cell 7
        have z10 : w32.cell? ⟨gp, 10, none⟩ = some (.int .i64 ipr) := HP.out.cell 10
        have z13 : w32.cell? ⟨gp, 13, none⟩ = some (.int .i64 pos) := HP.out.cell 13
        have z14 : w32.cell? ⟨gp, 14, none⟩ = some (.bool _) := HP.out.cell 14
        go_wp2_with fail
        refine (fput_at (a := S + 2) (n := 2) HM.out (by omega) rfl (by omega) (by omega) (by intro i hi; simp only [noK_app, noK_sq, noK_two]; omega)).mono ?_
        rintro r w33 ⟨rfl, hm, hk⟩
        have HM' := Lib.hid hm
        have HB' := Lib.hid (hk.below HB.out (Nat.le_refl _) (by simpa using hbb))
        have HH' := Lib.hid (hk.blk HH.out (by simpa using hbh))
        have HP' := Lib.hid (hk.blk HP.out (by simpa using hbp))
        clear hm hk HM HB HH HP y0 y3 z6 z7 z10 z13 z14
        have HM := HM'
        have HB := HB'
        have HH := HH'
        have HP := HP'
        clear HM' HB' HH' HP'
        have y0 : w33.cell? ⟨gh, 0, none⟩ = some (.int .i64 S) := HH.out.cell 0
        have y3 : w33.cell? ⟨gh, 3, none⟩ = some (.int .i64 h3) := HH.out.cell 3
        have z6 : w33.cell? ⟨gp, 6, none⟩ = some (.bool _) := HP.out.cell 6
        have z7 : w33.cell? ⟨gp, 7, none⟩ = some (.int .i64 isz) := HP.out.cell 7
        have z10 : w33.cell? ⟨gp, 10, none⟩ = some (.int .i64 ipr) := HP.out.cell 10
        have z13 : w33.cell? ⟨gp, 13, none⟩ = some (.int .i64 pos) := HP.out.cell 13
        have z14 : w33.cell? ⟨gp, 14, none⟩ = some (.bool _) := HP.out.cell 14
        have HX := Lib.hid (show MpV _ b L9 from by
          have hl := HL.out
          have hm := HM.out
          unfold freeL at hl
          rw [if_neg c17, if_neg c6, if_pos rfl] at hl
          rw [← hl]
          simpa using hm)
        clear HL
        go_wp2
        go_ret
        exact ⟨b, rfl, HX.out, HB.out⟩
      | true =>
        obtain ⟨r1, r2, r3, r4⟩ : pos ≤ S + 8 ∧ S + 8 ≤ pos ∧ 20 ≤ isz ∧ isz ≤ 60 := by have := HER.out rfl; omega
        go_wp2_with fail
        refine (fput_at (a := S + 2) (n := 2) HM.out (by omega) rfl (by omega) (by omega) (by intro i hi; simp only [noK_app, noK_sq, noK_two]; omega)).mono ?_
        rintro r w41 ⟨rfl, hm, hk⟩
        have HM' := Lib.hid hm
        have HB' := Lib.hid (hk.below HB.out (Nat.le_refl _) (by simpa using hbb))
        have HH' := Lib.hid (hk.blk HH.out (by simpa using hbh))
        have HP' := Lib.hid (hk.blk HP.out (by simpa using hbp))
        clear hm hk HM HB HH HP y0 y3 z6 z7 z10 z13 z14
        have HM := HM'
        have HB := HB'
        have HH := HH'
        have HP := HP'
        clear HM' HB' HH' HP'
        have y0 : w41.cell? ⟨gh, 0, none⟩ = some (.int .i64 S) := HH.out.cell 0
        have y3 : w41.cell? ⟨gh, 3, none⟩ = some (.int .i64 h3) := HH.out.cell 3
        have z6 : w41.cell? ⟨gp, 6, none⟩ = some (.bool _) := HP.out.cell 6
        have z7 : w41.cell? ⟨gp, 7, none⟩ = some (.int .i64 isz) := HP.out.cell 7
        have z10 : w41.cell? ⟨gp, 10, none⟩ = some (.int .i64 ipr) := HP.out.cell 10
        have z13 : w41.cell? ⟨gp, 13, none⟩ = some (.int .i64 pos) := HP.out.cell 13
        have z14 : w41.cell? ⟨gp, 14, none⟩ = some (.bool _) := HP.out.cell 14
        go_upto_region 7 with fail
        go_quiet (fail)
        have HM' := Lib.hid (HM.out.drewN nq)
        have HB' := Lib.hid (below_drewN HB.out nq)
        have HH' := Lib.hid (HH.out.drewN nq)
        have HP' := Lib.hid (HP.out.drewN nq)
        clear HM HB HH HP y0 y3 z6 z7 z10 z13 z14
        have HM := HM'
        have HB := HB'
        have HH := HH'
        have HP := HP'
        clear HM' HB' HH' HP'
        generalize World.drewN _ nq = w40 at *
        have y0 : w40.cell? ⟨gh, 0, none⟩ = some (.int .i64 S) := HH.out.cell 0
        have y3 : w40.cell? ⟨gh, 3, none⟩ = some (.int .i64 h3) := HH.out.cell 3
        have z6 : w40.cell? ⟨gp, 6, none⟩ = some (.bool _) := HP.out.cell 6
        have z7 : w40.cell? ⟨gp, 7, none⟩ = some (.int .i64 isz) := HP.out.cell 7
        have z10 : w40.cell? ⟨gp, 10, none⟩ = some (.int .i64 ipr) := HP.out.cell 10
        have z13 : w40.cell? ⟨gp, 13, none⟩ = some (.int .i64 pos) := HP.out.cell 13
        have z14 : w40.cell? ⟨gp, 14, none⟩ = some (.bool _) := HP.out.cell 14
        go_wp2_with fail
        refine (fput_at (a := pos + pl2) (n := 4) HM.out (by omega) rfl (by omega) (by omega) (by intro i hi; simp only [noK_app, noK_sq, noK_two]; omega)).mono ?_
        rintro r w42 ⟨rfl, hm, hk⟩
        have HM' := Lib.hid hm
        have HB' := Lib.hid (hk.below HB.out (Nat.le_refl _) (by simpa using hbb))
        have HH' := Lib.hid (hk.blk HH.out (by simpa using hbh))
        have HP' := Lib.hid (hk.blk HP.out (by simpa using hbp))
        clear hm hk HM HB HH HP y0 y3 z6 z7 z10 z13 z14
        have HM := HM'
        have HB := HB'
        have HH := HH'
        have HP := HP'
        clear HM' HB' HH' HP'
        have y0 : w42.cell? ⟨gh, 0, none⟩ = some (.int .i64 S) := HH.out.cell 0
        have y3 : w42.cell? ⟨gh, 3, none⟩ = some (.int .i64 h3) := HH.out.cell 3
        have z6 : w42.cell? ⟨gp, 6, none⟩ = some (.bool _) := HP.out.cell 6
        have z7 : w42.cell? ⟨gp, 7, none⟩ = some (.int .i64 isz) := HP.out.cell 7
        have z10 : w42.cell? ⟨gp, 10, none⟩ = some (.int .i64 ipr) := HP.out.cell 10
        have z13 : w42.cell? ⟨gp, 13, none⟩ = some (.int .i64 pos) := HP.out.cell 13
        have z14 : w42.cell? ⟨gp, 14, none⟩ = some (.bool _) := HP.out.cell 14
        go_wp2_with fail
        refine (fput_at (a := pos + 10) (n := 2) HM.out (by omega) rfl (by omega) (by omega) (by intro i hi; simp only [noK_app, noK_sq, noK_two]; omega)).mono ?_
        rintro r w43 ⟨rfl, hm, hk⟩
        have HM' := Lib.hid hm
        have HB' := Lib.hid (hk.below HB.out (Nat.le_refl _) (by simpa using hbb))
        have HH' := Lib.hid (hk.blk HH.out (by simpa using hbh))
        have HP' := Lib.hid (hk.blk HP.out (by simpa using hbp))
        clear hm hk HM HB HH HP y0 y3 z6 z7 z10 z13 z14
        have HM := HM'
        have HB := HB'
        have HH := HH'
        have HP := HP'
        clear HM' HB' HH' HP'
        have y0 : w43.cell? ⟨gh, 0, none⟩ = some (.int .i64 S) := HH.out.cell 0
        have y3 : w43.cell? ⟨gh, 3, none⟩ = some (.int .i64 h3) := HH.out.cell 3
        have z6 : w43.cell? ⟨gp, 6, none⟩ = some (.bool _) := HP.out.cell 6
        have z7 : w43.cell? ⟨gp, 7, none⟩ = some (.int .i64 isz) := HP.out.cell 7
        have z10 : w43.cell? ⟨gp, 10, none⟩ = some (.int .i64 ipr) := HP.out.cell 10
        have z13 : w43.cell? ⟨gp, 13, none⟩ = some (.int .i64 pos) := HP.out.cell 13
        have z14 : w43.cell? ⟨gp, 14, none⟩ = some (.bool _) := HP.out.cell 14
        by_cases d17 : ipr = 17
        · have t3 : (ipr == 17) = true := by simpa using d17
          go_wp2_with fail
          refine (fput_at (a := pos + isz + pt2) (n := 2) HM.out (by omega) rfl (by omega) (by omega) (by intro i hi; simp only [noK_app, noK_sq, noK_two]; omega)).mono ?_
          rintro r w34 ⟨rfl, hm, hk⟩
          have HM' := Lib.hid hm
          have HB' := Lib.hid (hk.below HB.out (Nat.le_refl _) (by simpa using hbb))
          have HH' := Lib.hid (hk.blk HH.out (by simpa using hbh))
          have HP' := Lib.hid (hk.blk HP.out (by simpa using hbp))
          clear hm hk HM HB HH HP y0 y3 z6 z7 z10 z13 z14
          have HM := HM'
          have HB := HB'
          have HH := HH'
          have HP := HP'
          clear HM' HB' HH' HP'
          have y0 : w34.cell? ⟨gh, 0, none⟩ = some (.int .i64 S) := HH.out.cell 0
          have y3 : w34.cell? ⟨gh, 3, none⟩ = some (.int .i64 h3) := HH.out.cell 3
          have z6 : w34.cell? ⟨gp, 6, none⟩ = some (.bool _) := HP.out.cell 6
          have z7 : w34.cell? ⟨gp, 7, none⟩ = some (.int .i64 isz) := HP.out.cell 7
          have z10 : w34.cell? ⟨gp, 10, none⟩ = some (.int .i64 ipr) := HP.out.cell 10
          have z13 : w34.cell? ⟨gp, 13, none⟩ = some (.int .i64 pos) := HP.out.cell 13
          have z14 : w34.cell? ⟨gp, 14, none⟩ = some (.bool _) := HP.out.cell 14
          go_wp2_with fail
          refine (fput_at (a := pos + isz + 6) (n := 2) HM.out (by omega) rfl (by omega) (by omega) (by intro i hi; simp only [noK_app, noK_sq, noK_two]; omega)).mono ?_
          rintro r w35 ⟨rfl, hm, hk⟩
          have HM' := Lib.hid hm
          have HB' := Lib.hid (hk.below HB.out (Nat.le_refl _) (by simpa using hbb))
          have HH' := Lib.hid (hk.blk HH.out (by simpa using hbh))
          have HP' := Lib.hid (hk.blk HP.out (by simpa using hbp))
          clear hm hk HM HB HH HP y0 y3 z6 z7 z10 z13 z14
          have HM := HM'
          have HB := HB'
          have HH := HH'
          have HP := HP'
          clear HM' HB' HH' HP'
          have y0 : w35.cell? ⟨gh, 0, none⟩ = some (.int .i64 S) := HH.out.cell 0
          have y3 : w35.cell? ⟨gh, 3, none⟩ = some (.int .i64 h3) := HH.out.cell 3
          have z6 : w35.cell? ⟨gp, 6, none⟩ = some (.bool _) := HP.out.cell 6
          have z7 : w35.cell? ⟨gp, 7, none⟩ = some (.int .i64 isz) := HP.out.cell 7
          have z10 : w35.cell? ⟨gp, 10, none⟩ = some (.int .i64 ipr) := HP.out.cell 10
          have z13 : w35.cell? ⟨gp, 13, none⟩ = some (.int .i64 pos) := HP.out.cell 13
          have z14 : w35.cell? ⟨gp, 14, none⟩ = some (.bool _) := HP.out.cell 14
          have HX := Lib.hid (show MpV _ b L9 from by
            have hl := HL.out
            have hm := HM.out
            unfold freeL at hl
            rw [if_neg c17, if_neg c6, if_neg (by simp), if_pos d17] at hl
            rw [← hl]
            simpa using hm)
          clear HL
          go_wp2
          go_ret
          exact ⟨b, rfl, HX.out, HB.out⟩
        by_cases d6 : ipr = 6
        · have t3 : (ipr == 17) = false := by simpa using d17
          have t4 : (ipr == 6) = true := by simpa using d6
          go_wp2_with fail
          refine (fput_at (a := pos + isz + pt2) (n := 2) HM.out (by omega) rfl (by omega) (by omega) (by intro i hi; simp only [noK_app, noK_sq, noK_two]; omega)).mono ?_
          rintro r w36 ⟨rfl, hm, hk⟩
          have HM' := Lib.hid hm
          have HB' := Lib.hid (hk.below HB.out (Nat.le_refl _) (by simpa using hbb))
          have HH' := Lib.hid (hk.blk HH.out (by simpa using hbh))
          have HP' := Lib.hid (hk.blk HP.out (by simpa using hbp))
          clear hm hk HM HB HH HP y0 y3 z6 z7 z10 z13 z14
          have HM := HM'
          have HB := HB'
          have HH := HH'
          have HP := HP'
          clear HM' HB' HH' HP'
          have y0 : w36.cell? ⟨gh, 0, none⟩ = some (.int .i64 S) := HH.out.cell 0
          have y3 : w36.cell? ⟨gh, 3, none⟩ = some (.int .i64 h3) := HH.out.cell 3
          have z6 : w36.cell? ⟨gp, 6, none⟩ = some (.bool _) := HP.out.cell 6
          have z7 : w36.cell? ⟨gp, 7, none⟩ = some (.int .i64 isz) := HP.out.cell 7
          have z10 : w36.cell? ⟨gp, 10, none⟩ = some (.int .i64 ipr) := HP.out.cell 10
          have z13 : w36.cell? ⟨gp, 13, none⟩ = some (.int .i64 pos) := HP.out.cell 13
          have z14 : w36.cell? ⟨gp, 14, none⟩ = some (.bool _) := HP.out.cell 14
          go_wp2_with fail
          refine (fput_at (a := pos + isz + 16) (n := 2) HM.out (by omega) rfl (by omega) (by omega) (by intro i hi; simp only [noK_app, noK_sq, noK_two]; omega)).mono ?_
          rintro r w37 ⟨rfl, hm, hk⟩
          have HM' := Lib.hid hm
          have HB' := Lib.hid (hk.below HB.out (Nat.le_refl _) (by simpa using hbb))
          have HH' := Lib.hid (hk.blk HH.out (by simpa using hbh))
          have HP' := Lib.hid (hk.blk HP.out (by simpa using hbp))
          clear hm hk HM HB HH HP y0 y3 z6 z7 z10 z13 z14
          have HM := HM'
          have HB := HB'
          have HH := HH'
          have HP := HP'
          clear HM' HB' HH' HP'
          have y0 : w37.cell? ⟨gh, 0, none⟩ = some (.int .i64 S) := HH.out.cell 0
          have y3 : w37.cell? ⟨gh, 3, none⟩ = some (.int .i64 h3) := HH.out.cell 3
          have z6 : w37.cell? ⟨gp, 6, none⟩ = some (.bool _) := HP.out.cell 6
          have z7 : w37.cell? ⟨gp, 7, none⟩ = some (.int .i64 isz) := HP.out.cell 7
          have z10 : w37.cell? ⟨gp, 10, none⟩ = some (.int .i64 ipr) := HP.out.cell 10
          have z13 : w37.cell? ⟨gp, 13, none⟩ = some (.int .i64 pos) := HP.out.cell 13
          have z14 : w37.cell? ⟨gp, 14, none⟩ = some (.bool _) := HP.out.cell 14
          have HX := Lib.hid (show MpV _ b L9 from by
            have hl := HL.out
            have hm := HM.out
            unfold freeL at hl
            rw [if_neg c17, if_neg c6, if_neg (by simp), if_neg d17, if_pos d6] at hl
            rw [← hl]
            simpa using hm)
          clear HL
          go_wp2
          go_ret
          exact ⟨b, rfl, HX.out, HB.out⟩
        by_cases d1 : ipr = 1
        · have t3 : (ipr == 17) = false := by simpa using d17
          have t4 : (ipr == 6) = false := by simpa using d6
          have t5 : (ipr == 1) = true := by simpa using d1
          go_wp2_with fail
          refine (fput_at (a := pos + isz + 4) (n := 2) HM.out (by omega) rfl (by omega) (by omega) (by intro i hi; simp only [noK_app, noK_sq, noK_two]; omega)).mono ?_
          rintro r w38 ⟨rfl, hm, hk⟩
          have HM' := Lib.hid hm
          have HB' := Lib.hid (hk.below HB.out (Nat.le_refl _) (by simpa using hbb))
          have HH' := Lib.hid (hk.blk HH.out (by simpa using hbh))
          have HP' := Lib.hid (hk.blk HP.out (by simpa using hbp))
          clear hm hk HM HB HH HP y0 y3 z6 z7 z10 z13 z14
          have HM := HM'
          have HB := HB'
          have HH := HH'
          have HP := HP'
          clear HM' HB' HH' HP'
          have y0 : w38.cell? ⟨gh, 0, none⟩ = some (.int .i64 S) := HH.out.cell 0
          have y3 : w38.cell? ⟨gh, 3, none⟩ = some (.int .i64 h3) := HH.out.cell 3
          have z6 : w38.cell? ⟨gp, 6, none⟩ = some (.bool _) := HP.out.cell 6
          have z7 : w38.cell? ⟨gp, 7, none⟩ = some (.int .i64 isz) := HP.out.cell 7
          have z10 : w38.cell? ⟨gp, 10, none⟩ = some (.int .i64 ipr) := HP.out.cell 10
          have z13 : w38.cell? ⟨gp, 13, none⟩ = some (.int .i64 pos) := HP.out.cell 13
          have z14 : w38.cell? ⟨gp, 14, none⟩ = some (.bool _) := HP.out.cell 14
          go_wp2_with fail
          refine (fput_at (a := pos + isz + 2) (n := 2) HM.out (by omega) rfl (by omega) (by omega) (by intro i hi; simp only [noK_app, noK_sq, noK_two]; omega)).mono ?_
          rintro r w39 ⟨rfl, hm, hk⟩
          have HM' := Lib.hid hm
          have HB' := Lib.hid (hk.below HB.out (Nat.le_refl _) (by simpa using hbb))
          have HH' := Lib.hid (hk.blk HH.out (by simpa using hbh))
          have HP' := Lib.hid (hk.blk HP.out (by simpa using hbp))
          clear hm hk HM HB HH HP y0 y3 z6 z7 z10 z13 z14
          have HM := HM'
          have HB := HB'
          have HH := HH'
          have HP := HP'
          clear HM' HB' HH' HP'
          have y0 : w39.cell? ⟨gh, 0, none⟩ = some (.int .i64 S) := HH.out.cell 0
          have y3 : w39.cell? ⟨gh, 3, none⟩ = some (.int .i64 h3) := HH.out.cell 3
          have z6 : w39.cell? ⟨gp, 6, none⟩ = some (.bool _) := HP.out.cell 6
          have z7 : w39.cell? ⟨gp, 7, none⟩ = some (.int .i64 isz) := HP.out.cell 7
          have z10 : w39.cell? ⟨gp, 10, none⟩ = some (.int .i64 ipr) := HP.out.cell 10
          have z13 : w39.cell? ⟨gp, 13, none⟩ = some (.int .i64 pos) := HP.out.cell 13
          have z14 : w39.cell? ⟨gp, 14, none⟩ = some (.bool _) := HP.out.cell 14
          have HX := Lib.hid (show MpV _ b L9 from by
            have hl := HL.out
            have hm := HM.out
            unfold freeL at hl
            rw [if_neg c17, if_neg c6, if_neg (by simp), if_neg d17, if_neg d6, if_pos d1] at hl
            rw [← hl]
            simpa using hm)
          clear HL
          go_wp2
          go_ret
          exact ⟨b, rfl, HX.out, HB.out⟩
        · have t3 : (ipr == 17) = false := by simpa using d17
          have t4 : (ipr == 6) = false := by simpa using d6
          have t5 : (ipr == 1) = false := by simpa using d1
          have HX := Lib.hid (show MpV _ b L9 from by
            have hl := HL.out
            have hm := HM.out
            unfold freeL at hl
            rw [if_neg c17, if_neg c6, if_neg (by simp), if_neg d17, if_neg d6, if_neg d1] at hl
            rw [← hl]
            simpa using hm)
          clear HL
          go_wp2
          go_ret
          exact ⟨b, rfl, HX.out, HB.out⟩
end Go.Proofs.Ytdkjipfemnfckaa
