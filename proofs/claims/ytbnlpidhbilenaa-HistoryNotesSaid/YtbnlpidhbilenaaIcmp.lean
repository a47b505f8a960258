/-
  Contract of part.getIcmp. Conditions stand in each theorem.
-/
import Derived.Test.YtbnlpidhbilenaaGJ
import Derived.StillTailTactics
import Derived.Deep.DeepCutAuto
import Derived.RegionTactic
import Derived.Deep.RegionHeld3
namespace Go.Proofs.Ytbnlpidhbilenaa
open Go.RowKit Plain
set_option linter.unusedVariables false
set_option linter.unusedSimpArgs false
set_option maxRecDepth 100000

/-- what getIcmp tells -/
def icE (zs : List Int) : Int :=
  if zs.length < 8 then 2 else if Cs zs ≠ 0 then 4 else if zs.getD 0 0 = 0 ∨ zs.getD 0 0 = 8 then (if zs.getD 1 0 ≠ 0 then 3 else 0)
  else if zs.getD 0 0 = 3 ∨ zs.getD 0 0 = 11 ∨ zs.getD 0 0 = 12 then erE (zs.drop 8) else 6
def icP (size : Int) (zs : List Int) : Pt :=
  if icE zs = 0 then (if zs.getD 0 0 = 0 ∨ zs.getD 0 0 = 8 then ⟨1, G16 zs 4, G16 zs 4, 0, zs.getD 0 0, zs.getD 1 0, false, hd0, 0, false⟩ else erP ⟨1, 0, 0, 0, zs.getD 0 0, zs.getD 1 0, false, hd0, size + 8, false⟩ (zs.drop 8)) else pt0
theorem Pt.mk_val (p : Pt) : ∃ p0 p1 p2 p3 p4 p5 p6 d0 d1 d2 d3 d4 d5 p7 p8, p.val = .agg #[.int .i64 p0, .int .u16 p1, .int .u16 p2, .int .i64 p3, .int .i64 p4, .int .i64 p5, .bool p6, .int .i64 d0, .int .i64 d1, .int .i64 d2, .int .i64 d3, .int .u32 d4, .int .u32 d5, .int .i64 p7, .bool p8] :=
  ⟨_, _, _, _, _, _, _, _, _, _, _, _, _, _, _, rfl⟩
theorem Blk.ne15 {w : World} {g m : Nat} {t : TypeId} {cs : Array Value} (h : Blk w g t cs) (hp : m ≠ g) (v0 v1 v2 v3 v4 v5 v6 v7 v8 v9 v10 v11 v12 v13 v14 : Value) : Blk ((((((((((((((((w).setCell ⟨m, 0, none⟩ v0).setCell ⟨m, 1, none⟩ v1).setCell ⟨m, 2, none⟩ v2).setCell ⟨m, 3, none⟩ v3).setCell ⟨m, 4, none⟩ v4).setCell ⟨m, 5, none⟩ v5).setCell ⟨m, 6, none⟩ v6).setCell ⟨m, 7, none⟩ v7).setCell ⟨m, 8, none⟩ v8).setCell ⟨m, 9, none⟩ v9).setCell ⟨m, 10, none⟩ v10).setCell ⟨m, 11, none⟩ v11).setCell ⟨m, 12, none⟩ v12).setCell ⟨m, 13, none⟩ v13).setCell ⟨m, 14, none⟩ v14) g t cs := (((((((((((((((h.ne (p := ⟨m, 0, none⟩) hp v0).ne (p := ⟨m, 1, none⟩) hp v1).ne (p := ⟨m, 2, none⟩) hp v2).ne (p := ⟨m, 3, none⟩) hp v3).ne (p := ⟨m, 4, none⟩) hp v4).ne (p := ⟨m, 5, none⟩) hp v5).ne (p := ⟨m, 6, none⟩) hp v6).ne (p := ⟨m, 7, none⟩) hp v7).ne (p := ⟨m, 8, none⟩) hp v8).ne (p := ⟨m, 9, none⟩) hp v9).ne (p := ⟨m, 10, none⟩) hp v10).ne (p := ⟨m, 11, none⟩) hp v11).ne (p := ⟨m, 12, none⟩) hp v12).ne (p := ⟨m, 13, none⟩) hp v13).ne (p := ⟨m, 14, none⟩) hp v14)
theorem Blk.sets {w : World} {g m : Nat} {t : TypeId} {cs : Array Value} (hm : m ≠ g) : ∀ (vs : List (Nat × Value)) {w : World}, Blk w g t cs → Blk (vs.foldl (fun w v => w.setCell ⟨m, v.1, none⟩ v.2) w) g t cs
  | [], _, h => h
  | v :: vs, _, h => Blk.sets (w := w) hm vs (h.ne (p := ⟨m, v.1, none⟩) hm v.2)
theorem below_sets {B : Nat} {w0 : World} {m : Nat} (hm : B ≤ m) : ∀ (vs : List (Nat × Value)) (w : World), Below B w0 w → Below B w0 (vs.foldl (fun w v => w.setCell ⟨m, v.1, none⟩ v.2) w)
  | [], w, h => h
  | v :: vs, w, h => below_sets hm vs _ (h.setCell (p := ⟨m, v.1, none⟩) hm v.2)
set_option maxHeartbeats 8000000 in
theorem getIcmp_any (d0 d1 d2 d3 d4 d5 : Int) (A : Option Addr) (n c : Nat) (zs : List Int) (w : World) (hn : zs.length = n) (hnc : n ≤ c) (hl : n ≤ 1000000) (hR : Rd w A zs) (s0 : 0 ≤ d0) (s1 : d0 ≤ 60) :
    Calls Try.prog 68 #[.agg #[.int .i64 d0, .int .i64 d1, .int .i64 d2, .int .i64 d3, .int .u32 d4, .int .u32 d5], .slice A n c] w fun e w' => e = .returned (.tuple #[(icP d0 zs).val, .int .i64 (icE zs)]) ∧ Below w.heap.size w w' := by
  have HR := Lib.hid hR
  have Hn := Lib.hid hn
  have rc := Cs_range zs hR.1
  have b0 := hR.1.getD 0
  have b1 := hR.1.getD 1
  have HP0 := Lib.hid (fun (hh : icE zs ≠ 0) => show (icP d0 zs).val = .agg #[.int .i64 0, .int .u16 0, .int .u16 0, .int .i64 0, .int .i64 0, .int .i64 0, .bool false, .int .i64 0, .int .i64 0, .int .i64 0, .int .i64 0, .int .u32 0, .int .u32 0, .int .i64 0, .bool false] by unfold icP; rw [if_neg hh]; rfl)
  clear hR hn
  go_enter Try.func68, Try.ntmps68
  go_upto_region 1 with fail
  obtain ⟨w1, hw1⟩ : ∃ w1, w1 = (w.alloc (.cells #[.int .i64 d0, .int .i64 d1, .int .i64 d2, .int .i64 d3, .int .u32 d4, .int .u32 d5] 103)).alloc (.cells #[.int .i64 0, .int .u16 0, .int .u16 0, .int .i64 0, .int .i64 0, .int .i64 0, .bool false, .int .i64 0, .int .i64 0, .int .i64 0, .int .i64 0, .int .u32 0, .int .u32 0, .int .i64 0, .bool false] 107) := ⟨_, rfl⟩
  have HBh := Lib.hid (show Blk w1 w.heap.size 103 #[.int .i64 d0, .int .i64 d1, .int .i64 d2, .int .i64 d3, .int .u32 d4, .int .u32 d5] by rw [hw1]; exact (Blk.new w _ _).alloc _)
  have hbr : Blk w1 (w.heap.size + 1) 107 #[.int .i64 0, .int .u16 0, .int .u16 0, .int .i64 0, .int .i64 0, .int .i64 0, .bool false, .int .i64 0, .int .i64 0, .int .i64 0, .int .i64 0, .int .u32 0, .int .u32 0, .int .i64 0, .bool false] := by rw [hw1]; have := Blk.new (w.alloc (.cells #[.int .i64 d0, .int .i64 d1, .int .i64 d2, .int .i64 d3, .int .u32 d4, .int .u32 d5] 103)) 107 #[.int .i64 0, .int .u16 0, .int .u16 0, .int .i64 0, .int .i64 0, .int .i64 0, .bool false, .int .i64 0, .int .i64 0, .int .i64 0, .int .i64 0, .int .u32 0, .int .u32 0, .int .i64 0, .bool false]; rwa [World.size_alloc] at this
  have HB1 := Lib.hid (show Below w.heap.size w w1 by rw [hw1]; exact bthen (ball _ _) (ball _ _))
  have HR1 := Lib.hid (HR.out.below HB1.out)
  rw [← hw1]
  clear hw1
  obtain ⟨gr, hgr⟩ : ∃ gr, gr = w.heap.size + 1 := ⟨_, rfl⟩
  have hgl : w.heap.size ≤ gr := by omega
  have hgn : ¬ w.heap.size = gr := by omega
  have hgn2 : ¬ gr = w.heap.size := by omega
  rw [← hgr] at hbr
  rw [← hgr]
  have HBr := Lib.hid hbr
  have hgw := hbr.lt
  clear hgr hbr
  by_cases h8 : n < 8
  · have i8 : (n : Int) < 8 := by omega
    have he := Lib.hid (show icE zs = 2 by unfold icE; rw [if_pos (by rw [Hn.out]; exact h8)])
    have hh := Lib.hid (HP0.out (by rw [he.out]; decide))
    go_wp2_with (first | ((with_reducible refine gd_st 107 4 ?_); refine wpList_st rfl 107 (.tmp 4) _ rfl _ _ rfl _ rfl (HBr.out) sPart.2 (#[.int .i64 0, .int .u16 0, .int .u16 0, .int .i64 0, .int .i64 0, .int .i64 0, .bool false, .int .i64 0, .int .i64 0, .int .i64 0, .int .i64 0, .int .u32 0, .int .u32 0, .int .i64 0, .bool false]) rfl (Nat.le_of_ble_eq_true rfl) rfl ?_; intro w9 hb9 hg9 hs9))
    rw [he.out, hh.out]
    exact bodyPost_ret (res_cell2 Try.results68 _ _ _ rfl rfl hb9 sPart) rfl ⟨rfl, bgrown (HB1.out) hg9 hgl⟩
  · have i8 : ¬ (n : Int) < 8 := by omega
    go_wp2_with fail
    refine (of_n A n c zs _ Hn.out hl HR1.out).mono ?_
    rintro e w' ⟨rfl, q, rfl⟩
    by_cases hcs : Cs zs = 0
    · have ecs : (Cs zs != 0) = false := by simp [hcs]
      have HE := Lib.hid (show icE zs = if zs.getD 0 0 = 0 ∨ zs.getD 0 0 = 8 then (if zs.getD 1 0 ≠ 0 then 3 else 0) else if zs.getD 0 0 = 3 ∨ zs.getD 0 0 = 11 ∨ zs.getD 0 0 = 12 then erE (zs.drop 8) else 6 by
        unfold icE; rw [if_neg (by rw [Hn.out]; exact h8), if_neg (by simp [hcs])])
      have HP := Lib.hid (fun (hh : icE zs = 0) => show icP d0 zs = if zs.getD 0 0 = 0 ∨ zs.getD 0 0 = 8 then ⟨1, G16 zs 4, G16 zs 4, 0, zs.getD 0 0, zs.getD 1 0, false, hd0, 0, false⟩ else erP ⟨1, 0, 0, 0, zs.getD 0 0, zs.getD 1 0, false, hd0, d0 + 8, false⟩ (zs.drop 8) by unfold icP; rw [if_pos hh])
      obtain ⟨b, off, rfl, hc⟩ := HR1.out.2 (by rw [Hn.out]; omega)
      have c0 : w1.cell? ⟨b, off, none⟩ = some (.int .u8 (zs.getD 0 0)) := hc 0 (by rw [Hn.out]; omega)
      have c1 := hc 1 (by rw [Hn.out]; omega)
      have i0 : 0 < n := by omega
      have i1 : (1 : Int) < (n : Int) := by omega
      generalize zs.getD 0 0 = x0 at *
      generalize zs.getD 1 0 = x1 at *
      have v0 : IntKind.i64.wrap x0 = x0 := by rw [IntKind.wrap_i64]; omega
      have v1 : IntKind.i64.wrap x1 = x1 := by rw [IntKind.wrap_i64]; omega
      clear hcs hc
      go_upto_region 5 with fail
      generalize hw2 : w1.drewN q = w2 at *
      have HB2 := Lib.hid (show Below w.heap.size w w2 by rw [← hw2]; exact below_drewN HB1.out q)
      have HBr2 := Lib.hid (show Blk w2 gr 107 #[.int .i64 0, .int .u16 0, .int .u16 0, .int .i64 0, .int .i64 0, .int .i64 0, .bool false, .int .i64 0, .int .i64 0, .int .i64 0, .int .i64 0, .int .u32 0, .int .u32 0, .int .i64 0, .bool false] by rw [← hw2]; exact HBr.out.drewN q)
      have HBh2 := Lib.hid (show Blk w2 w.heap.size 103 #[.int .i64 d0, .int .i64 d1, .int .i64 d2, .int .i64 d3, .int .u32 d4, .int .u32 d5] by rw [← hw2]; exact HBh.out.drewN q)
      have c0' : w2.cell? ⟨b, off, none⟩ = some (.int .u8 x0) := by rw [← hw2]; exact c0
      have c1' : w2.cell? ⟨b, off + 1, none⟩ = some (.int .u8 x1) := by rw [← hw2]; exact c1
      clear c0 c1 hw2
      go_cut [6] (fun s6 wx => s6 = .pointer (some ⟨w2.heap.size, 0, none⟩) ∧ Blk wx w2.heap.size 107 #[.int .i64 1, .int .u16 0, .int .u16 0, .int .i64 0, .int .i64 x0, .int .i64 x1, .bool false, .int .i64 0, .int .i64 0, .int .i64 0, .int .i64 0, .int .u32 0, .int .u32 0, .int .i64 0, .bool false] ∧ Below w2.heap.size w2 wx)
      case first =>
        have hbl := block_lt_of_cell c0'
        have ca0 : ∀ o : Obj, (w2.alloc o).cell? ⟨b, off, none⟩ = some (.int .u8 x0) := fun o => (World.cell?_alloc_lt w2 o ⟨b, off, none⟩ hbl).trans c0'
        have ca1 : ∀ o : Obj, (w2.alloc o).cell? ⟨b, off + 1, none⟩ = some (.int .u8 x1) := fun o => (World.cell?_alloc_lt w2 o ⟨b, off + 1, none⟩ hbl).trans c1'
        go_region
        go_wp2
        go_meet
        exact ⟨rfl, (Blk.new w2 _ _).drew, (ball w2 _).drew⟩
      case rest =>
        obtain ⟨rfl, hbp, hbel⟩ := hcut
        have HBp := Lib.hid hbp
        have HB3 := Lib.hid (bthen HB2.out hbel)
        have HBr3 := Lib.hid (HBr2.out.below hbel)
        have HBh3 := Lib.hid (HBh2.out.below hbel)
        have hpl : w.heap.size ≤ w2.heap.size := HB2.out.size
        have hr2 := HBr2.out.lt
        have hh2 := HBh2.out.lt
        have np1 : gr ≠ w2.heap.size := by omega
        have np3 : w.heap.size ≠ w2.heap.size := by omega
        generalize w2.heap.size = p at *
        clear hbp hbel c0' c1'
        have m4 : wc.cell? ⟨p, 4, none⟩ = some (.int .i64 x0) := HBp.out.cell 4
        have m5 : wc.cell? ⟨p, 5, none⟩ = some (.int .i64 x1) := HBp.out.cell 5
        have h0c : wc.cell? ⟨w.heap.size, 0, none⟩ = some (.int .i64 d0) := HBh3.out.cell 0
        go_upto_if 26 with fail
        go_cut [26] (fun s wx => ∃ tb : Bool, s = .bool tb ∧ (tb = true ↔ (x0 = 0 ∨ x0 = 8)) ∧ wx = wc)
        case first =>
          by_cases y0 : x0 = 0
          · have t0 : (x0 == 0) = true := by simp [y0]
            have TT := Lib.hid (show x0 = 0 ∨ x0 = 8 by simp [y0])
            clear y0
            go_wp2
            go_meet
            exact ⟨true, congrArg Value.bool (by first | rfl | assumption), ⟨fun _ => TT.out, fun _ => rfl⟩, rfl⟩
          · have t0 : (x0 == 0) = false := by simp [y0]
            by_cases y8 : x0 = 8
            · have t8 : (x0 == 8) = true := by simp [y8]
              have TT := Lib.hid (show x0 = 0 ∨ x0 = 8 by simp [y8])
              clear y0 y8
              go_wp2
              go_meet
              exact ⟨true, congrArg Value.bool (by first | rfl | assumption), ⟨fun _ => TT.out, fun _ => rfl⟩, rfl⟩
            · have t8 : (x0 == 8) = false := by simp [y8]
              have TT := Lib.hid (show ¬ (x0 = 0 ∨ x0 = 8) by simp [y0, y8])
              clear y0 y8
              go_wp2
              go_meet
              exact ⟨false, congrArg Value.bool (by first | rfl | assumption), ⟨fun h => Bool.noConfusion h, fun h => absurd h TT.out⟩, rfl⟩
        case rest =>
          obtain ⟨tb, rfl, htb, rfl⟩ := hcut
          cases tb
          rotate_left
          · have hk : x0 = 0 ∨ x0 = 8 := htb.1 rfl
            clear htb
            by_cases hx1 : x1 = 0
            · have tx : (x1 != 0) = false := by simp [hx1]
              have he := Lib.hid (show icE zs = 0 by rw [HE.out, if_pos hk, if_neg (by simp [hx1])])
              have hh := Lib.hid (show (icP d0 zs).val = .agg #[.int .i64 1, .int .u16 (G16 zs 4), .int .u16 (G16 zs 4), .int .i64 0, .int .i64 x0, .int .i64 x1, .bool false, .int .i64 0, .int .i64 0, .int .i64 0, .int .i64 0, .int .u32 0, .int .u32 0, .int .i64 0, .bool false] by rw [HP.out he.out, if_pos hk]; rfl)
              clear hx1 hk
              go_wp2_with (first | ((with_reducible refine gd_ld 107 6 ?_); refine wpList_ld rfl 107 (.tmp 6) rfl _ rfl (HBp.out) sPart ?_) | fail)
              refine (withNumber_any 1 0 0 0 x0 x1 false 0 0 0 0 0 0 0 false _ n c zs _ Hn.out (by omega) hl (HR.out.below HB3.out)).mono ?_
              rintro e w6 ⟨rfl, hb6⟩
              have HB6 := Lib.hid (bthen HB3.out hb6)
              have HBr6 := Lib.hid (HBr3.out.below hb6)
              clear hb6
              go_wp2_with (first | ((with_reducible refine gd_st 107 4 ?_); refine wpList_st rfl 107 (.tmp 4) _ rfl _ _ rfl _ rfl (HBr6.out) sPart.2 (#[.int .i64 1, .int .u16 (G16 zs 4), .int .u16 (G16 zs 4), .int .i64 0, .int .i64 x0, .int .i64 x1, .bool false, .int .i64 0, .int .i64 0, .int .i64 0, .int .i64 0, .int .u32 0, .int .u32 0, .int .i64 0, .bool false]) rfl (Nat.le_of_ble_eq_true rfl) rfl ?_; intro w9 hb9 hg9 hs9))
              rw [he.out, hh.out]
              exact bodyPost_ret (res_cell2 Try.results68 _ _ _ rfl rfl hb9 sPart) rfl ⟨rfl, bgrown (HB6.out) hg9 hgl⟩
            · have tx : (x1 != 0) = true := by simp [hx1]
              have he := Lib.hid (show icE zs = 3 by rw [HE.out, if_pos hk, if_pos hx1])
              have hh := Lib.hid (HP0.out (by rw [he.out]; decide))
              clear hx1 hk
              go_wp2_with (first | ((with_reducible refine gd_st 107 4 ?_); refine wpList_st rfl 107 (.tmp 4) _ rfl _ _ rfl _ rfl (HBr3.out) sPart.2 (#[.int .i64 0, .int .u16 0, .int .u16 0, .int .i64 0, .int .i64 0, .int .i64 0, .bool false, .int .i64 0, .int .i64 0, .int .i64 0, .int .i64 0, .int .u32 0, .int .u32 0, .int .i64 0, .bool false]) rfl (Nat.le_of_ble_eq_true rfl) rfl ?_; intro w9 hb9 hg9 hs9))
              rw [he.out, hh.out]
              exact bodyPost_ret (res_cell2 Try.results68 _ _ _ rfl rfl hb9 sPart) rfl ⟨rfl, bgrown (HB3.out) hg9 hgl⟩
          · have hk : ¬ (x0 = 0 ∨ x0 = 8) := fun h => by have := htb.2 h; cases this
            clear htb
            have HE2 := Lib.hid (show icE zs = if x0 = 3 ∨ x0 = 11 ∨ x0 = 12 then erE (zs.drop 8) else 6 by rw [HE.out, if_neg hk])
            have HP2 := Lib.hid (fun hh => (HP.out hh).trans (if_neg hk))
            clear hk
            go_upto_if 36 with fail
            go_cut [36] (fun s wx => ∃ tb : Bool, s = .bool tb ∧ (tb = true ↔ (x0 = 3 ∨ x0 = 11 ∨ x0 = 12)) ∧ wx = wc)
            case first =>
              by_cases y3 : x0 = 3
              · have t3 : (x0 == 3) = true := by simp [y3]
                have TT := Lib.hid (show x0 = 3 ∨ x0 = 11 ∨ x0 = 12 by simp [y3])
                clear y3
                go_wp2
                go_meet
                exact ⟨true, congrArg Value.bool (by first | rfl | assumption), ⟨fun _ => TT.out, fun _ => rfl⟩, rfl⟩
              · have t3 : (x0 == 3) = false := by simp [y3]
                by_cases y11 : x0 = 11
                · have t11 : (x0 == 11) = true := by simp [y11]
                  have TT := Lib.hid (show x0 = 3 ∨ x0 = 11 ∨ x0 = 12 by simp [y11])
                  clear y3 y11
                  go_wp2
                  go_meet
                  exact ⟨true, congrArg Value.bool (by first | rfl | assumption), ⟨fun _ => TT.out, fun _ => rfl⟩, rfl⟩
                · have t11 : (x0 == 11) = false := by simp [y11]
                  by_cases y12 : x0 = 12
                  · have t12 : (x0 == 12) = true := by simp [y12]
                    have TT := Lib.hid (show x0 = 3 ∨ x0 = 11 ∨ x0 = 12 by simp [y12])
                    clear y3 y11 y12
                    go_wp2
                    go_meet
                    exact ⟨true, congrArg Value.bool (by first | rfl | assumption), ⟨fun _ => TT.out, fun _ => rfl⟩, rfl⟩
                  · have t12 : (x0 == 12) = false := by simp [y12]
                    have TT := Lib.hid (show ¬ (x0 = 3 ∨ x0 = 11 ∨ x0 = 12) by simp [y3, y11, y12])
                    clear y3 y11 y12
                    go_wp2
                    go_meet
                    exact ⟨false, congrArg Value.bool (by first | rfl | assumption), ⟨fun h => Bool.noConfusion h, fun h => absurd h TT.out⟩, rfl⟩
            case rest =>
              obtain ⟨tb, rfl, htb, rfl⟩ := hcut
              cases tb
              rotate_left
              · have hk : x0 = 3 ∨ x0 = 11 ∨ x0 = 12 := htb.1 rfl
                clear htb
                have HE3 := Lib.hid (show icE zs = erE (zs.drop 8) by rw [HE2.out, if_pos hk])
                clear hk
                have v8 : IntKind.i64.wrap (d0 + 8) = d0 + 8 := by rw [IntKind.wrap_i64]; omega
                go_upto_region 16 with (first | ((with_reducible refine gd_st 3 43 ?_); refine wpList_st rfl 3 (.tmp 43) _ rfl _ _ rfl _ rfl (HBp.out) sInt (#[.int .i64 1, .int .u16 0, .int .u16 0, .int .i64 0, .int .i64 x0, .int .i64 x1, .bool false, .int .i64 0, .int .i64 0, .int .i64 0, .int .i64 0, .int .u32 0, .int .u32 0, .int .i64 (d0 + 8), .bool false]) rfl (Nat.le_of_ble_eq_true rfl) rfl ?_; intro w4 hb4 hg4 hs4))
                have HB4 := Lib.hid (bgrown HB3.out hg4 hpl)
                have HBr4 := Lib.hid (HBr3.out.grown hg4 np1)
                by_cases hc8 : c = 8
                · subst hc8
                  obtain rfl : n = 8 := by omega
                  have HB4p := Lib.hid hb4
                  skip
                  clear hg4 hs4 hb4
                  obtain ⟨e0, e1, e2, e3, e4, e5, e6, e7, e8, e9, e10, e11, e12, e13, e14, hev⟩ := Pt.mk_val (erP ⟨1, 0, 0, 0, x0, x1, false, hd0, d0 + 8, false⟩ (zs.drop 8))
                  have he := Lib.hid (HE3.out)
                  have hh := Lib.hid (show (icP d0 zs).val = .agg #[.int .i64 e0, .int .u16 e1, .int .u16 e2, .int .i64 e3, .int .i64 e4, .int .i64 e5, .bool e6, .int .i64 e7, .int .i64 e8, .int .i64 e9, .int .i64 e10, .int .u32 e11, .int .u32 e12, .int .i64 e13, .bool e14] by
                    rw [← hev]
                    by_cases hz : icE zs = 0
                    · rw [HP2.out hz]
                    · rw [HP0.out hz]; unfold erP; rw [if_neg (by rw [← HE3.out]; exact hz)]; rfl)
                  have hcall : ∀ W, Below w.heap.size w W → Calls Try.prog 94 #[.agg #[.int .i64 1, .int .u16 0, .int .u16 0, .int .i64 0, .int .i64 x0, .int .i64 x1, .bool false, .int .i64 0, .int .i64 0, .int .i64 0, .int .i64 0, .int .u32 0, .int .u32 0, .int .i64 (d0 + 8), .bool false], .slice (some ⟨b, off, none⟩) 0 0] W fun e w' => e = .returned (.tuple #[.agg #[.int .i64 e0, .int .u16 e1, .int .u16 e2, .int .i64 e3, .int .i64 e4, .int .i64 e5, .bool e6, .int .i64 e7, .int .i64 e8, .int .i64 e9, .int .i64 e10, .int .u32 e11, .int .u32 e12, .int .i64 e13, .bool e14], .int .i64 (erE (zs.drop 8))]) ∧ Below W.heap.size W w' := fun W hW => by
                    have := getError_any 1 0 0 0 x0 x1 false 0 0 0 0 0 0 (d0 + 8) false (some ⟨b, off, none⟩) 0 0 (zs.drop 8) W (by rw [List.length_drop, Hn.out]) (by omega) (by omega) (by rw [show zs.drop 8 = [] from List.drop_eq_nil_of_le (by rw [Hn.out]; omega)]; exact Rd.nil _ _)
                    rw [← hev]; exact this
                  have Hcall := Lib.hid hcall
                  clear hcall hev
                  have kr0 : ∀ W, Blk W p 107 #[.int .i64 1, .int .u16 0, .int .u16 0, .int .i64 0, .int .i64 x0, .int .i64 x1, .bool false, .int .i64 0, .int .i64 0, .int .i64 0, .int .i64 0, .int .u32 0, .int .u32 0, .int .i64 (d0 + 8), .bool false] → W.cell? ⟨p, 0, none⟩ = some (.int .i64 1) := fun W h => h.cell 0
                  have kr1 : ∀ W, Blk W p 107 #[.int .i64 1, .int .u16 0, .int .u16 0, .int .i64 0, .int .i64 x0, .int .i64 x1, .bool false, .int .i64 0, .int .i64 0, .int .i64 0, .int .i64 0, .int .u32 0, .int .u32 0, .int .i64 (d0 + 8), .bool false] → W.cell? ⟨p, 1, none⟩ = some (.int .u16 0) := fun W h => h.cell 1
                  have kr2 : ∀ W, Blk W p 107 #[.int .i64 1, .int .u16 0, .int .u16 0, .int .i64 0, .int .i64 x0, .int .i64 x1, .bool false, .int .i64 0, .int .i64 0, .int .i64 0, .int .i64 0, .int .u32 0, .int .u32 0, .int .i64 (d0 + 8), .bool false] → W.cell? ⟨p, 2, none⟩ = some (.int .u16 0) := fun W h => h.cell 2
                  have kr3 : ∀ W, Blk W p 107 #[.int .i64 1, .int .u16 0, .int .u16 0, .int .i64 0, .int .i64 x0, .int .i64 x1, .bool false, .int .i64 0, .int .i64 0, .int .i64 0, .int .i64 0, .int .u32 0, .int .u32 0, .int .i64 (d0 + 8), .bool false] → W.cell? ⟨p, 3, none⟩ = some (.int .i64 0) := fun W h => h.cell 3
                  have kr4 : ∀ W, Blk W p 107 #[.int .i64 1, .int .u16 0, .int .u16 0, .int .i64 0, .int .i64 x0, .int .i64 x1, .bool false, .int .i64 0, .int .i64 0, .int .i64 0, .int .i64 0, .int .u32 0, .int .u32 0, .int .i64 (d0 + 8), .bool false] → W.cell? ⟨p, 4, none⟩ = some (.int .i64 x0) := fun W h => h.cell 4
                  have kr5 : ∀ W, Blk W p 107 #[.int .i64 1, .int .u16 0, .int .u16 0, .int .i64 0, .int .i64 x0, .int .i64 x1, .bool false, .int .i64 0, .int .i64 0, .int .i64 0, .int .i64 0, .int .u32 0, .int .u32 0, .int .i64 (d0 + 8), .bool false] → W.cell? ⟨p, 5, none⟩ = some (.int .i64 x1) := fun W h => h.cell 5
                  have kr6 : ∀ W, Blk W p 107 #[.int .i64 1, .int .u16 0, .int .u16 0, .int .i64 0, .int .i64 x0, .int .i64 x1, .bool false, .int .i64 0, .int .i64 0, .int .i64 0, .int .i64 0, .int .u32 0, .int .u32 0, .int .i64 (d0 + 8), .bool false] → W.cell? ⟨p, 6, none⟩ = some (.bool false) := fun W h => h.cell 6
                  have kr7 : ∀ W, Blk W p 107 #[.int .i64 1, .int .u16 0, .int .u16 0, .int .i64 0, .int .i64 x0, .int .i64 x1, .bool false, .int .i64 0, .int .i64 0, .int .i64 0, .int .i64 0, .int .u32 0, .int .u32 0, .int .i64 (d0 + 8), .bool false] → W.cell? ⟨p, 7, none⟩ = some (.int .i64 0) := fun W h => h.cell 7
                  have kr8 : ∀ W, Blk W p 107 #[.int .i64 1, .int .u16 0, .int .u16 0, .int .i64 0, .int .i64 x0, .int .i64 x1, .bool false, .int .i64 0, .int .i64 0, .int .i64 0, .int .i64 0, .int .u32 0, .int .u32 0, .int .i64 (d0 + 8), .bool false] → W.cell? ⟨p, 8, none⟩ = some (.int .i64 0) := fun W h => h.cell 8
                  have kr9 : ∀ W, Blk W p 107 #[.int .i64 1, .int .u16 0, .int .u16 0, .int .i64 0, .int .i64 x0, .int .i64 x1, .bool false, .int .i64 0, .int .i64 0, .int .i64 0, .int .i64 0, .int .u32 0, .int .u32 0, .int .i64 (d0 + 8), .bool false] → W.cell? ⟨p, 9, none⟩ = some (.int .i64 0) := fun W h => h.cell 9
                  have kr10 : ∀ W, Blk W p 107 #[.int .i64 1, .int .u16 0, .int .u16 0, .int .i64 0, .int .i64 x0, .int .i64 x1, .bool false, .int .i64 0, .int .i64 0, .int .i64 0, .int .i64 0, .int .u32 0, .int .u32 0, .int .i64 (d0 + 8), .bool false] → W.cell? ⟨p, 10, none⟩ = some (.int .i64 0) := fun W h => h.cell 10
                  have kr11 : ∀ W, Blk W p 107 #[.int .i64 1, .int .u16 0, .int .u16 0, .int .i64 0, .int .i64 x0, .int .i64 x1, .bool false, .int .i64 0, .int .i64 0, .int .i64 0, .int .i64 0, .int .u32 0, .int .u32 0, .int .i64 (d0 + 8), .bool false] → W.cell? ⟨p, 11, none⟩ = some (.int .u32 0) := fun W h => h.cell 11
                  have kr12 : ∀ W, Blk W p 107 #[.int .i64 1, .int .u16 0, .int .u16 0, .int .i64 0, .int .i64 x0, .int .i64 x1, .bool false, .int .i64 0, .int .i64 0, .int .i64 0, .int .i64 0, .int .u32 0, .int .u32 0, .int .i64 (d0 + 8), .bool false] → W.cell? ⟨p, 12, none⟩ = some (.int .u32 0) := fun W h => h.cell 12
                  have kr13 : ∀ W, Blk W p 107 #[.int .i64 1, .int .u16 0, .int .u16 0, .int .i64 0, .int .i64 x0, .int .i64 x1, .bool false, .int .i64 0, .int .i64 0, .int .i64 0, .int .i64 0, .int .u32 0, .int .u32 0, .int .i64 (d0 + 8), .bool false] → W.cell? ⟨p, 13, none⟩ = some (.int .i64 (d0 + 8)) := fun W h => h.cell 13
                  have kr14 : ∀ W, Blk W p 107 #[.int .i64 1, .int .u16 0, .int .u16 0, .int .i64 0, .int .i64 x0, .int .i64 x1, .bool false, .int .i64 0, .int .i64 0, .int .i64 0, .int .i64 0, .int .u32 0, .int .u32 0, .int .i64 (d0 + 8), .bool false] → W.cell? ⟨p, 14, none⟩ = some (.bool false) := fun W h => h.cell 14
                  go_region_held3 (fun W => Blk W p 107 #[.int .i64 1, .int .u16 0, .int .u16 0, .int .i64 0, .int .i64 x0, .int .i64 x1, .bool false, .int .i64 0, .int .i64 0, .int .i64 0, .int .i64 0, .int .u32 0, .int .u32 0, .int .i64 (d0 + 8), .bool false])
                    (first | (with_reducible exact HB4p.out.drew) | (with_reducible exact Blk.below (by assumption) (by assumption)) | (with_reducible exact Blk.ne15 (by assumption) np1 _ _ _ _ _ _ _ _ _ _ _ _ _ _ _))
                    (first | (go_at_call 94; refine (Hcall.out _ HB4.out.drew).mono ?_; rintro e w6 ⟨rfl, hb6⟩; have hz6 := (HBr4.out.drew).below hb6; have z0 := hz6.cell 0; have z1 := hz6.cell 1; have z2 := hz6.cell 2; have z3 := hz6.cell 3; have z4 := hz6.cell 4; have z5 := hz6.cell 5; have z6 := hz6.cell 6; have z7 := hz6.cell 7; have z8 := hz6.cell 8; have z9 := hz6.cell 9; have z10 := hz6.cell 10; have z11 := hz6.cell 11; have z12 := hz6.cell 12; have z13 := hz6.cell 13; have z14 := hz6.cell 14; simp only [List.getElem?_toArray, List.getElem?_cons_zero, List.getElem?_cons_succ] at z0 z1 z2 z3 z4 z5 z6 z7 z8 z9 z10 z11 z12 z13 z14; have zf0 := hz6.frozen 0; have zf1 := hz6.frozen 1; have zf2 := hz6.frozen 2; have zf3 := hz6.frozen 3; have zf4 := hz6.frozen 4; have zf5 := hz6.frozen 5; have zf6 := hz6.frozen 6; have zf7 := hz6.frozen 7; have zf8 := hz6.frozen 8; have zf9 := hz6.frozen 9; have zf10 := hz6.frozen 10; have zf11 := hz6.frozen 11; have zf12 := hz6.frozen 12; have zf13 := hz6.frozen 13; have zf14 := hz6.frozen 14; clear hz6; have HB6 := Lib.hid (bthen HB4.out.drew hb6)))
                  go_wp2
                  rw [he.out, hh.out]
                  refine bodyPost_ret (v := .tuple #[.agg #[.int .i64 e0, .int .u16 e1, .int .u16 e2, .int .i64 e3, .int .i64 e4, .int .i64 e5, .bool e6, .int .i64 e7, .int .i64 e8, .int .i64 e9, .int .i64 e10, .int .u32 e11, .int .u32 e12, .int .i64 e13, .bool e14], .int .i64 (erE (zs.drop 8))]) (by simp [results, Try.results68, go_sem, z0, z1, z2, z3, z4, z5, z6, z7, z8, z9, z10, z11, z12, z13, z14]) rfl ⟨rfl, ?_⟩
                  exact below_sets hgl [(0, .int .i64 e0), (1, .int .u16 e1), (2, .int .u16 e2), (3, .int .i64 e3), (4, .int .i64 e4), (5, .int .i64 e5), (6, .bool e6), (7, .int .i64 e7), (8, .int .i64 e8), (9, .int .i64 e9), (10, .int .i64 e10), (11, .int .u32 e11), (12, .int .u32 e12), (13, .int .i64 e13), (14, .bool e14)] _ HB6.out
                · skip
                  have HB4p := Lib.hid hb4
                  have i8n : (8 : Int) ≤ (n : Int) := by omega
                  clear hg4 hs4 hb4
                  obtain ⟨e0, e1, e2, e3, e4, e5, e6, e7, e8, e9, e10, e11, e12, e13, e14, hev⟩ := Pt.mk_val (erP ⟨1, 0, 0, 0, x0, x1, false, hd0, d0 + 8, false⟩ (zs.drop 8))
                  have he := Lib.hid (HE3.out)
                  have hh := Lib.hid (show (icP d0 zs).val = .agg #[.int .i64 e0, .int .u16 e1, .int .u16 e2, .int .i64 e3, .int .i64 e4, .int .i64 e5, .bool e6, .int .i64 e7, .int .i64 e8, .int .i64 e9, .int .i64 e10, .int .u32 e11, .int .u32 e12, .int .i64 e13, .bool e14] by
                    rw [← hev]
                    by_cases hz : icE zs = 0
                    · rw [HP2.out hz]
                    · rw [HP0.out hz]; unfold erP; rw [if_neg (by rw [← HE3.out]; exact hz)]; rfl)
                  have hcall : ∀ W, Below w.heap.size w W → Calls Try.prog 94 #[.agg #[.int .i64 1, .int .u16 0, .int .u16 0, .int .i64 0, .int .i64 x0, .int .i64 x1, .bool false, .int .i64 0, .int .i64 0, .int .i64 0, .int .i64 0, .int .u32 0, .int .u32 0, .int .i64 (d0 + 8), .bool false], .slice (some ⟨b, off + 8, none⟩) (n - 8) (c - 8)] W fun e w' => e = .returned (.tuple #[.agg #[.int .i64 e0, .int .u16 e1, .int .u16 e2, .int .i64 e3, .int .i64 e4, .int .i64 e5, .bool e6, .int .i64 e7, .int .i64 e8, .int .i64 e9, .int .i64 e10, .int .u32 e11, .int .u32 e12, .int .i64 e13, .bool e14], .int .i64 (erE (zs.drop 8))]) ∧ Below W.heap.size W w' := fun W hW => by
                    have := getError_any 1 0 0 0 x0 x1 false 0 0 0 0 0 0 (d0 + 8) false (some ⟨b, off + 8, none⟩) (n - 8) (c - 8) (zs.drop 8) W (by rw [List.length_drop, Hn.out]) (by omega) (by omega) ((HR.out.below hW).dropAt 8)
                    rw [← hev]; exact this
                  have Hcall := Lib.hid hcall
                  clear hcall hev
                  have kr0 : ∀ W, Blk W p 107 #[.int .i64 1, .int .u16 0, .int .u16 0, .int .i64 0, .int .i64 x0, .int .i64 x1, .bool false, .int .i64 0, .int .i64 0, .int .i64 0, .int .i64 0, .int .u32 0, .int .u32 0, .int .i64 (d0 + 8), .bool false] → W.cell? ⟨p, 0, none⟩ = some (.int .i64 1) := fun W h => h.cell 0
                  have kr1 : ∀ W, Blk W p 107 #[.int .i64 1, .int .u16 0, .int .u16 0, .int .i64 0, .int .i64 x0, .int .i64 x1, .bool false, .int .i64 0, .int .i64 0, .int .i64 0, .int .i64 0, .int .u32 0, .int .u32 0, .int .i64 (d0 + 8), .bool false] → W.cell? ⟨p, 1, none⟩ = some (.int .u16 0) := fun W h => h.cell 1
                  have kr2 : ∀ W, Blk W p 107 #[.int .i64 1, .int .u16 0, .int .u16 0, .int .i64 0, .int .i64 x0, .int .i64 x1, .bool false, .int .i64 0, .int .i64 0, .int .i64 0, .int .i64 0, .int .u32 0, .int .u32 0, .int .i64 (d0 + 8), .bool false] → W.cell? ⟨p, 2, none⟩ = some (.int .u16 0) := fun W h => h.cell 2
                  have kr3 : ∀ W, Blk W p 107 #[.int .i64 1, .int .u16 0, .int .u16 0, .int .i64 0, .int .i64 x0, .int .i64 x1, .bool false, .int .i64 0, .int .i64 0, .int .i64 0, .int .i64 0, .int .u32 0, .int .u32 0, .int .i64 (d0 + 8), .bool false] → W.cell? ⟨p, 3, none⟩ = some (.int .i64 0) := fun W h => h.cell 3
                  have kr4 : ∀ W, Blk W p 107 #[.int .i64 1, .int .u16 0, .int .u16 0, .int .i64 0, .int .i64 x0, .int .i64 x1, .bool false, .int .i64 0, .int .i64 0, .int .i64 0, .int .i64 0, .int .u32 0, .int .u32 0, .int .i64 (d0 + 8), .bool false] → W.cell? ⟨p, 4, none⟩ = some (.int .i64 x0) := fun W h => h.cell 4
                  have kr5 : ∀ W, Blk W p 107 #[.int .i64 1, .int .u16 0, .int .u16 0, .int .i64 0, .int .i64 x0, .int .i64 x1, .bool false, .int .i64 0, .int .i64 0, .int .i64 0, .int .i64 0, .int .u32 0, .int .u32 0, .int .i64 (d0 + 8), .bool false] → W.cell? ⟨p, 5, none⟩ = some (.int .i64 x1) := fun W h => h.cell 5
                  have kr6 : ∀ W, Blk W p 107 #[.int .i64 1, .int .u16 0, .int .u16 0, .int .i64 0, .int .i64 x0, .int .i64 x1, .bool false, .int .i64 0, .int .i64 0, .int .i64 0, .int .i64 0, .int .u32 0, .int .u32 0, .int .i64 (d0 + 8), .bool false] → W.cell? ⟨p, 6, none⟩ = some (.bool false) := fun W h => h.cell 6
                  have kr7 : ∀ W, Blk W p 107 #[.int .i64 1, .int .u16 0, .int .u16 0, .int .i64 0, .int .i64 x0, .int .i64 x1, .bool false, .int .i64 0, .int .i64 0, .int .i64 0, .int .i64 0, .int .u32 0, .int .u32 0, .int .i64 (d0 + 8), .bool false] → W.cell? ⟨p, 7, none⟩ = some (.int .i64 0) := fun W h => h.cell 7
                  have kr8 : ∀ W, Blk W p 107 #[.int .i64 1, .int .u16 0, .int .u16 0, .int .i64 0, .int .i64 x0, .int .i64 x1, .bool false, .int .i64 0, .int .i64 0, .int .i64 0, .int .i64 0, .int .u32 0, .int .u32 0, .int .i64 (d0 + 8), .bool false] → W.cell? ⟨p, 8, none⟩ = some (.int .i64 0) := fun W h => h.cell 8
                  have kr9 : ∀ W, Blk W p 107 #[.int .i64 1, .int .u16 0, .int .u16 0, .int .i64 0, .int .i64 x0, .int .i64 x1, .bool false, .int .i64 0, .int .i64 0, .int .i64 0, .int .i64 0, .int .u32 0, .int .u32 0, .int .i64 (d0 + 8), .bool false] → W.cell? ⟨p, 9, none⟩ = some (.int .i64 0) := fun W h => h.cell 9
                  have kr10 : ∀ W, Blk W p 107 #[.int .i64 1, .int .u16 0, .int .u16 0, .int .i64 0, .int .i64 x0, .int .i64 x1, .bool false, .int .i64 0, .int .i64 0, .int .i64 0, .int .i64 0, .int .u32 0, .int .u32 0, .int .i64 (d0 + 8), .bool false] → W.cell? ⟨p, 10, none⟩ = some (.int .i64 0) := fun W h => h.cell 10
                  have kr11 : ∀ W, Blk W p 107 #[.int .i64 1, .int .u16 0, .int .u16 0, .int .i64 0, .int .i64 x0, .int .i64 x1, .bool false, .int .i64 0, .int .i64 0, .int .i64 0, .int .i64 0, .int .u32 0, .int .u32 0, .int .i64 (d0 + 8), .bool false] → W.cell? ⟨p, 11, none⟩ = some (.int .u32 0) := fun W h => h.cell 11
                  have kr12 : ∀ W, Blk W p 107 #[.int .i64 1, .int .u16 0, .int .u16 0, .int .i64 0, .int .i64 x0, .int .i64 x1, .bool false, .int .i64 0, .int .i64 0, .int .i64 0, .int .i64 0, .int .u32 0, .int .u32 0, .int .i64 (d0 + 8), .bool false] → W.cell? ⟨p, 12, none⟩ = some (.int .u32 0) := fun W h => h.cell 12
                  have kr13 : ∀ W, Blk W p 107 #[.int .i64 1, .int .u16 0, .int .u16 0, .int .i64 0, .int .i64 x0, .int .i64 x1, .bool false, .int .i64 0, .int .i64 0, .int .i64 0, .int .i64 0, .int .u32 0, .int .u32 0, .int .i64 (d0 + 8), .bool false] → W.cell? ⟨p, 13, none⟩ = some (.int .i64 (d0 + 8)) := fun W h => h.cell 13
                  have kr14 : ∀ W, Blk W p 107 #[.int .i64 1, .int .u16 0, .int .u16 0, .int .i64 0, .int .i64 x0, .int .i64 x1, .bool false, .int .i64 0, .int .i64 0, .int .i64 0, .int .i64 0, .int .u32 0, .int .u32 0, .int .i64 (d0 + 8), .bool false] → W.cell? ⟨p, 14, none⟩ = some (.bool false) := fun W h => h.cell 14
                  go_region_held3 (fun W => Blk W p 107 #[.int .i64 1, .int .u16 0, .int .u16 0, .int .i64 0, .int .i64 x0, .int .i64 x1, .bool false, .int .i64 0, .int .i64 0, .int .i64 0, .int .i64 0, .int .u32 0, .int .u32 0, .int .i64 (d0 + 8), .bool false])
                    (first | (with_reducible exact HB4p.out.drew) | (with_reducible exact Blk.below (by assumption) (by assumption)) | (with_reducible exact Blk.ne15 (by assumption) np1 _ _ _ _ _ _ _ _ _ _ _ _ _ _ _))
                    (first | (go_at_call 94; refine (Hcall.out _ HB4.out.drew).mono ?_; rintro e w6 ⟨rfl, hb6⟩; have hz6 := (HBr4.out.drew).below hb6; have z0 := hz6.cell 0; have z1 := hz6.cell 1; have z2 := hz6.cell 2; have z3 := hz6.cell 3; have z4 := hz6.cell 4; have z5 := hz6.cell 5; have z6 := hz6.cell 6; have z7 := hz6.cell 7; have z8 := hz6.cell 8; have z9 := hz6.cell 9; have z10 := hz6.cell 10; have z11 := hz6.cell 11; have z12 := hz6.cell 12; have z13 := hz6.cell 13; have z14 := hz6.cell 14; simp only [List.getElem?_toArray, List.getElem?_cons_zero, List.getElem?_cons_succ] at z0 z1 z2 z3 z4 z5 z6 z7 z8 z9 z10 z11 z12 z13 z14; have zf0 := hz6.frozen 0; have zf1 := hz6.frozen 1; have zf2 := hz6.frozen 2; have zf3 := hz6.frozen 3; have zf4 := hz6.frozen 4; have zf5 := hz6.frozen 5; have zf6 := hz6.frozen 6; have zf7 := hz6.frozen 7; have zf8 := hz6.frozen 8; have zf9 := hz6.frozen 9; have zf10 := hz6.frozen 10; have zf11 := hz6.frozen 11; have zf12 := hz6.frozen 12; have zf13 := hz6.frozen 13; have zf14 := hz6.frozen 14; clear hz6; have HB6 := Lib.hid (bthen HB4.out.drew hb6)))
                  go_wp2
                  rw [he.out, hh.out]
                  refine bodyPost_ret (v := .tuple #[.agg #[.int .i64 e0, .int .u16 e1, .int .u16 e2, .int .i64 e3, .int .i64 e4, .int .i64 e5, .bool e6, .int .i64 e7, .int .i64 e8, .int .i64 e9, .int .i64 e10, .int .u32 e11, .int .u32 e12, .int .i64 e13, .bool e14], .int .i64 (erE (zs.drop 8))]) (by simp [results, Try.results68, go_sem, z0, z1, z2, z3, z4, z5, z6, z7, z8, z9, z10, z11, z12, z13, z14]) rfl ⟨rfl, ?_⟩
                  exact below_sets hgl [(0, .int .i64 e0), (1, .int .u16 e1), (2, .int .u16 e2), (3, .int .i64 e3), (4, .int .i64 e4), (5, .int .i64 e5), (6, .bool e6), (7, .int .i64 e7), (8, .int .i64 e8), (9, .int .i64 e9), (10, .int .i64 e10), (11, .int .u32 e11), (12, .int .u32 e12), (13, .int .i64 e13), (14, .bool e14)] _ HB6.out
              · have hk : ¬ (x0 = 3 ∨ x0 = 11 ∨ x0 = 12) := fun h => by have := htb.2 h; cases this
                clear htb
                have he := Lib.hid (show icE zs = 6 by rw [HE2.out, if_neg hk])
                have hh := Lib.hid (HP0.out (by rw [he.out]; decide))
                clear hk
                go_wp2_with (first | ((with_reducible refine gd_st 107 4 ?_); refine wpList_st rfl 107 (.tmp 4) _ rfl _ _ rfl _ rfl (HBr3.out) sPart.2 (#[.int .i64 0, .int .u16 0, .int .u16 0, .int .i64 0, .int .i64 0, .int .i64 0, .bool false, .int .i64 0, .int .i64 0, .int .i64 0, .int .i64 0, .int .u32 0, .int .u32 0, .int .i64 0, .bool false]) rfl (Nat.le_of_ble_eq_true rfl) rfl ?_; intro w9 hb9 hg9 hs9))
                rw [he.out, hh.out]
                exact bodyPost_ret (res_cell2 Try.results68 _ _ _ rfl rfl hb9 sPart) rfl ⟨rfl, bgrown (HB3.out) hg9 hgl⟩
    · have ecs : (Cs zs != 0) = true := by simp [hcs]
      have he := Lib.hid (show icE zs = 4 by unfold icE; rw [if_neg (by rw [Hn.out]; exact h8), if_pos hcs])
      have hh := Lib.hid (HP0.out (by rw [he.out]; decide))
      go_wp2_with (first | ((with_reducible refine gd_st 107 4 ?_); refine wpList_st rfl 107 (.tmp 4) _ rfl _ _ rfl _ rfl (HBr.out.drewN q) sPart.2 (#[.int .i64 0, .int .u16 0, .int .u16 0, .int .i64 0, .int .i64 0, .int .i64 0, .bool false, .int .i64 0, .int .i64 0, .int .i64 0, .int .i64 0, .int .u32 0, .int .u32 0, .int .i64 0, .bool false]) rfl (Nat.le_of_ble_eq_true rfl) rfl ?_; intro w9 hb9 hg9 hs9))
      rw [he.out, hh.out]
      exact bodyPost_ret (res_cell2 Try.results68 _ _ _ rfl rfl hb9 sPart) rfl ⟨rfl, bgrown (below_drewN HB1.out q) hg9 hgl⟩
end Go.Proofs.Ytbnlpidhbilenaa
