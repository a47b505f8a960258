/-
  HistoryNotes: an event's end, as the document reckons it. Conditions stand in each theorem.
-/
import Derived.Test.YtbnlpidhbilenaaGQ
import Derived.Test.YtbnlpidhbilenaaHp2
import Derived.Test.YtbnlpidhbilenaaHt
namespace Go.Proofs.Ytbnlpidhbilenaa
open Go.RowKit Go.Deep Plain
set_option linter.unusedVariables false
set_option linter.unusedSimpArgs false
set_option maxRecDepth 100000
set_option maxHeartbeats 8000000 in
theorem rdone_any (b e : Int) (ends out : Bool) (fA : Option Addr) (fn fc : Nat) (tick port : Int) (aA : Option Addr) (an ac : Nat) (er pr po now : Int) (A : Option Addr) (n c : Nat) (zs : List Int) (err : Int) (w : World) (hn : zs.length = n) (hnc : n ≤ c) (hl : n ≤ 100000) (hR : Rd w A zs) :
    Calls Try.prog 18 #[.agg #[.int .i64 b, .int .i64 e, .bool ends, .bool out, .slice fA fn fc, .int .i64 tick, .int .i64 port, .slice aA an ac, .int .i64 er, .int .i64 pr, .int .i64 po], .int .i64 now, .slice A n c, .int .i64 err] w fun e1 w' => ∃ A5 c5, e1 = .returned (.agg #[.int .i64 b, .int .i64 now, .bool ends, .bool out, .slice fA fn fc, .int .i64 tick, .int .i64 (poF err out port zs), .slice A5 n c5, .int .i64 err, .int .i64 pr, .int .i64 po]) ∧ Rd w' A5 zs ∧ Below w.heap.size w w' ∧ (∀ p, A5 = some p → w.heap.size ≤ p.block) ∧ A5 ≠ none := by
  have hb1 := bthen (ball w (.cells #[.int .i64 b, .int .i64 e, .bool ends, .bool out, .slice fA fn fc, .int .i64 tick, .int .i64 port, .slice aA an ac, .int .i64 er, .int .i64 pr, .int .i64 po] 47)) (ball (w.alloc (.cells #[.int .i64 b, .int .i64 e, .bool ends, .bool out, .slice fA fn fc, .int .i64 tick, .int .i64 port, .slice aA an ac, .int .i64 er, .int .i64 pr, .int .i64 po] 47)) (.cells #[.int .i64 0, .int .i64 0, .bool false, .bool false, .slice none 0 0, .int .i64 0, .int .i64 0, .slice none 0 0, .int .i64 0, .int .i64 0, .int .i64 0] 47))
  have hx : Blk ((w.alloc (.cells #[.int .i64 b, .int .i64 e, .bool ends, .bool out, .slice fA fn fc, .int .i64 tick, .int .i64 port, .slice aA an ac, .int .i64 er, .int .i64 pr, .int .i64 po] 47)).alloc (.cells #[.int .i64 0, .int .i64 0, .bool false, .bool false, .slice none 0 0, .int .i64 0, .int .i64 0, .slice none 0 0, .int .i64 0, .int .i64 0, .int .i64 0] 47)) w.heap.size 47 #[.int .i64 b, .int .i64 e, .bool ends, .bool out, .slice fA fn fc, .int .i64 tick, .int .i64 port, .slice aA an ac, .int .i64 er, .int .i64 pr, .int .i64 po] := (Blk.new w _ _).alloc _
  have hz := Blk.new (w.alloc (.cells #[.int .i64 b, .int .i64 e, .bool ends, .bool out, .slice fA fn fc, .int .i64 tick, .int .i64 port, .slice aA an ac, .int .i64 er, .int .i64 pr, .int .i64 po] 47)) 47 #[.int .i64 0, .int .i64 0, .bool false, .bool false, .slice none 0 0, .int .i64 0, .int .i64 0, .slice none 0 0, .int .i64 0, .int .i64 0, .int .i64 0]
  rw [World.size_alloc] at hz
  obtain ⟨w1, hw1⟩ : ∃ w1, w1 = (w.alloc (.cells #[.int .i64 b, .int .i64 e, .bool ends, .bool out, .slice fA fn fc, .int .i64 tick, .int .i64 port, .slice aA an ac, .int .i64 er, .int .i64 pr, .int .i64 po] 47)).alloc (.cells #[.int .i64 0, .int .i64 0, .bool false, .bool false, .slice none 0 0, .int .i64 0, .int .i64 0, .slice none 0 0, .int .i64 0, .int .i64 0, .int .i64 0] 47) := ⟨_, rfl⟩
  rw [← hw1] at hb1 hx hz
  have HW := Lib.hid hw1
  have HSZ := Lib.hid (show w1.heap.size = w.heap.size + 2 by rw [hw1]; simp)
  have HX := Lib.hid hx
  have HZ := Lib.hid hz
  have HB1 := Lib.hid hb1
  have HR := Lib.hid hR
  have Hn := Lib.hid hn
  clear hw1 hx hz hb1 hR hn
  go_enter Try.func18, Try.ntmps18
  go_upto_region 1 with fail
  rw [← HW.out]
  go_upto_region 2 with (first
    | (at_builtin; refine wpList_app rfl (.tmp 10) (.tmp 11) rfl rfl (Own.empty (base := w1.heap.size) w1 (Nat.le_refl _)) zs rfl ((HR.out.below HB1.out).alloc _) Hn.out (by omega) (by simp) ?_; intro A5 c5 w5 ho5 hg5 hA5; have hg6 : (w1.alloc (.cells #[] 5)).grownBy w5 (some w1.heap.size) := hg5; have hx5 := Blk.grown (HX.out.alloc (.cells #[] 5)) hg6 (by have := HSZ.out; omega); have hz5 := Blk.grown (HZ.out.alloc (.cells #[] 5)) hg6 (by have := HSZ.out; omega); have hb5 : Below w.heap.size w w5 := (HB1.out.alloc (by have := HSZ.out; omega) _).grown hg6 (by have := HSZ.out; simp; omega) (fun k hk => by have := HSZ.out; cases hk; omega); have k1 := hx5.cell 1; have f1 := Blk.frozen hx5 1; have k7 := hx5.cell 7; have f7 := Blk.frozen hx5 7; have k8 := hx5.cell 8; have f8 := Blk.frozen hx5 8)
    | fail)
  have HPA := Lib.hid (show ∀ p, A5 = some p → w.heap.size + 1 < p.block from fun p hp => by
    have := HSZ.out
    rcases hA5 with h | h
    · rw [h] at hp; cases hp; show w.heap.size + 1 < w1.heap.size; omega
    · rw [h] at hp; cases hp; show w.heap.size + 1 < (w1.alloc _).heap.size; rw [World.size_alloc]; omega)
  have HNE := Lib.hid (show A5 ≠ none from fun h0 => by
    rcases hA5 with h | h
    · rw [h] at h0; cases h0
    · rw [h] at h0; cases h0)
  have hx6 := ((hx5.set 1 (.int .i64 now)).set 7 (.slice A5 n c5)).set 8 (.int .i64 err)
  have hz6 := ((hz5.ne (p := ⟨w.heap.size, 1, none⟩) (show w.heap.size ≠ w.heap.size + 1 by omega) (.int .i64 now)).ne (p := ⟨w.heap.size, 7, none⟩) (show w.heap.size ≠ w.heap.size + 1 by omega) (.slice A5 n c5)).ne (p := ⟨w.heap.size, 8, none⟩) (show w.heap.size ≠ w.heap.size + 1 by omega) (.int .i64 err)
  have hb6 := ((hb5.setCell (p := ⟨w.heap.size, 1, none⟩) (Nat.le_refl _) (.int .i64 now)).setCell (p := ⟨w.heap.size, 7, none⟩) (Nat.le_refl _) (.slice A5 n c5)).setCell (p := ⟨w.heap.size, 8, none⟩) (Nat.le_refl _) (.int .i64 err)
  have ho6 : Rd w5 A5 zs := ho5.rd
  have hr6 := rd_keep ho6 (bs := [w.heap.size]) ((((Keep.refl _ w5).setCell (p := ⟨w.heap.size, 1, none⟩) (.inl (by simp)) (.int .i64 now)).setCell (p := ⟨w.heap.size, 7, none⟩) (.inl (by simp)) (.slice A5 n c5)).setCell (p := ⟨w.heap.size, 8, none⟩) (.inl (by simp)) (.int .i64 err)) (fun p hp => by have := HPA.out p hp; simp; omega)
  clear k1 f1 k7 f7 k8 f8 hx5 hz5 hb5 hg5 hg6 hA5 ho5
  generalize ((w5.setCell ⟨w.heap.size, 1, none⟩ (.int .i64 now)).setCell ⟨w.heap.size, 7, none⟩ (.slice A5 n c5)).setCell ⟨w.heap.size, 8, none⟩ (.int .i64 err) = w6 at *
  have HX6 := Lib.hid (show Blk w6 w.heap.size 47 #[.int .i64 b, .int .i64 now, .bool ends, .bool out, .slice fA fn fc, .int .i64 tick, .int .i64 port, .slice A5 n c5, .int .i64 err, .int .i64 pr, .int .i64 po] from hx6)
  have HZ6 := Lib.hid hz6
  have HB6 := Lib.hid hb6
  have HR6 := Lib.hid hr6
  have k3 : w6.cell? ⟨w.heap.size, 3, none⟩ = some (.bool out) := hx6.cell 3
  have k6 : w6.cell? ⟨w.heap.size, 6, none⟩ = some (.int .i64 port) := hx6.cell 6
  have f6 := Blk.frozen hx6 6
  clear hx6 hz6 hb6 hr6
  by_cases e8 : err = 8
  · subst e8
    go_upto_region 8 with fail
    have HX8 := Lib.hid (HX6.out.set 6 (.int .i64 (-1)))
    have HZ8 := Lib.hid (HZ6.out.ne (p := ⟨w.heap.size, 6, none⟩) (show w.heap.size ≠ w.heap.size + 1 by omega) (.int .i64 (-1)))
    have HB8 := Lib.hid (HB6.out.setCell (p := ⟨w.heap.size, 6, none⟩) (Nat.le_refl _) (.int .i64 (-1)))
    have HR8 := Lib.hid (rd_keep HR6.out (bs := [w.heap.size]) ((Keep.refl _ w6).setCell (p := ⟨w.heap.size, 6, none⟩) (.inl (by simp)) (.int .i64 (-1))) (fun p hp => by have := HPA.out p hp; simp; omega))
    have HX9 := Lib.hid (show Blk _ w.heap.size 47 #[.int .i64 b, .int .i64 now, .bool ends, .bool out, .slice fA fn fc, .int .i64 tick, .int .i64 (-1), .slice A5 n c5, .int .i64 8, .int .i64 pr, .int .i64 po] from HX8.out)
    go_wp2_with (first | ((with_reducible refine gd_ld 47 4 ?_); refine wpList_ld rfl 47 (.tmp 4) rfl _ rfl (HX9.out) sEv ?_) | ((with_reducible refine gd_st 47 8 ?_); refine wpList_st rfl 47 (.tmp 8) _ rfl _ _ rfl _ rfl (HZ8.out) sEv.2 (#[.int .i64 b, .int .i64 now, .bool ends, .bool out, .slice fA fn fc, .int .i64 tick, .int .i64 (-1), .slice A5 n c5, .int .i64 8, .int .i64 pr, .int .i64 po]) rfl (Nat.le_of_ble_eq_true rfl) rfl ?_; intro w9 hb9 hg9 hs9) | fail)
    refine bodyPost_ret (res_cell1 Try.results18 _ _ rfl hb9 sEv) rfl (Exists.intro A5 (Exists.intro c5 (And.intro ?_ (And.intro (rd_keep HR8.out (bs := [w.heap.size + 1]) (Keep.of_grownO hg9 (fun g1 h1 => by cases h1; simp)) (fun p hp => by have := HPA.out p hp; simp; omega)) (And.intro (bgrown HB8.out hg9 (by omega)) (And.intro (fun p hp => by have := HPA.out p hp; omega) HNE.out))))))
    rfl
  by_cases e9 : err = 9
  · subst e9
    go_upto_region 8 with fail
    have HX8 := Lib.hid (HX6.out.set 6 (.int .i64 (-2)))
    have HZ8 := Lib.hid (HZ6.out.ne (p := ⟨w.heap.size, 6, none⟩) (show w.heap.size ≠ w.heap.size + 1 by omega) (.int .i64 (-2)))
    have HB8 := Lib.hid (HB6.out.setCell (p := ⟨w.heap.size, 6, none⟩) (Nat.le_refl _) (.int .i64 (-2)))
    have HR8 := Lib.hid (rd_keep HR6.out (bs := [w.heap.size]) ((Keep.refl _ w6).setCell (p := ⟨w.heap.size, 6, none⟩) (.inl (by simp)) (.int .i64 (-2))) (fun p hp => by have := HPA.out p hp; simp; omega))
    have HX9 := Lib.hid (show Blk _ w.heap.size 47 #[.int .i64 b, .int .i64 now, .bool ends, .bool out, .slice fA fn fc, .int .i64 tick, .int .i64 (-2), .slice A5 n c5, .int .i64 9, .int .i64 pr, .int .i64 po] from HX8.out)
    go_wp2_with (first | ((with_reducible refine gd_ld 47 4 ?_); refine wpList_ld rfl 47 (.tmp 4) rfl _ rfl (HX9.out) sEv ?_) | ((with_reducible refine gd_st 47 8 ?_); refine wpList_st rfl 47 (.tmp 8) _ rfl _ _ rfl _ rfl (HZ8.out) sEv.2 (#[.int .i64 b, .int .i64 now, .bool ends, .bool out, .slice fA fn fc, .int .i64 tick, .int .i64 (-2), .slice A5 n c5, .int .i64 9, .int .i64 pr, .int .i64 po]) rfl (Nat.le_of_ble_eq_true rfl) rfl ?_; intro w9 hb9 hg9 hs9) | fail)
    refine bodyPost_ret (res_cell1 Try.results18 _ _ rfl hb9 sEv) rfl (Exists.intro A5 (Exists.intro c5 (And.intro ?_ (And.intro (rd_keep HR8.out (bs := [w.heap.size + 1]) (Keep.of_grownO hg9 (fun g1 h1 => by cases h1; simp)) (fun p hp => by have := HPA.out p hp; simp; omega)) (And.intro (bgrown HB8.out hg9 (by omega)) (And.intro (fun p hp => by have := HPA.out p hp; omega) HNE.out))))))
    rfl
  have b8 : (err == 8) = false := by simpa using e8
  have b9 : (err == 9) = false := by simpa using e9
  by_cases e0 : err = 0
  · subst e0
    cases out with
    | true =>
      have HF := Lib.hid (show poF 0 true port zs = srcF zs by unfold poF; simp)
      have HO := Lib.hid (own16_any A n c zs w6 Hn.out hnc hl (HR.out.below HB6.out))
      have hx6f := fun (W : World) (h : Below w6.heap.size w6 W) => Blk.cell (HX6.out.below h) 6
      go_upto_region 8 with (go_at_call 46; refine (HO.out).mono ?_; rintro e1 w7 ⟨rfl, hb7⟩; have g6 := Blk.frozen (HX6.out.below hb7) 6; have h6 := Blk.cell (HX6.out.below hb7) 6)
      have HX8 := Lib.hid ((HX6.out.below hb7).set 6 (.int .i64 (srcF zs)))
      have HZ8 := Lib.hid ((HZ6.out.below hb7).ne (p := ⟨w.heap.size, 6, none⟩) (show w.heap.size ≠ w.heap.size + 1 by omega) (.int .i64 (srcF zs)))
      have HB8 := Lib.hid ((bthen HB6.out hb7).setCell (p := ⟨w.heap.size, 6, none⟩) (Nat.le_refl _) (.int .i64 (srcF zs)))
      have HR8 := Lib.hid (rd_keep (HR6.out.below hb7) (bs := [w.heap.size]) ((Keep.refl _ w7).setCell (p := ⟨w.heap.size, 6, none⟩) (.inl (by simp)) (.int .i64 (srcF zs))) (fun p hp => by have := HPA.out p hp; simp; omega))
      have HX9 := Lib.hid (show Blk _ w.heap.size 47 #[.int .i64 b, .int .i64 now, .bool ends, .bool true, .slice fA fn fc, .int .i64 tick, .int .i64 (srcF zs), .slice A5 n c5, .int .i64 0, .int .i64 pr, .int .i64 po] from HX8.out)
      go_wp2_with (first | ((with_reducible refine gd_ld 47 4 ?_); refine wpList_ld rfl 47 (.tmp 4) rfl _ rfl (HX9.out) sEv ?_) | ((with_reducible refine gd_st 47 8 ?_); refine wpList_st rfl 47 (.tmp 8) _ rfl _ _ rfl _ rfl (HZ8.out) sEv.2 (#[.int .i64 b, .int .i64 now, .bool ends, .bool true, .slice fA fn fc, .int .i64 tick, .int .i64 (srcF zs), .slice A5 n c5, .int .i64 0, .int .i64 pr, .int .i64 po]) rfl (Nat.le_of_ble_eq_true rfl) rfl ?_; intro w9 hb9 hg9 hs9) | fail)
      refine bodyPost_ret (res_cell1 Try.results18 _ _ rfl hb9 sEv) rfl (Exists.intro A5 (Exists.intro c5 (And.intro ?_ (And.intro (rd_keep HR8.out (bs := [w.heap.size + 1]) (Keep.of_grownO hg9 (fun g1 h1 => by cases h1; simp)) (fun p hp => by have := HPA.out p hp; simp; omega)) (And.intro (bgrown HB8.out hg9 (by omega)) (And.intro (fun p hp => by have := HPA.out p hp; omega) HNE.out))))))
      rw [HF.out]
    | false =>
      have HF := Lib.hid (show poF 0 false port zs = port by unfold poF; simp)
      go_upto_region 8 with fail
      have HX9 := Lib.hid (show Blk _ w.heap.size 47 #[.int .i64 b, .int .i64 now, .bool ends, .bool false, .slice fA fn fc, .int .i64 tick, .int .i64 (port), .slice A5 n c5, .int .i64 0, .int .i64 pr, .int .i64 po] from HX6.out)
      go_wp2_with (first | ((with_reducible refine gd_ld 47 4 ?_); refine wpList_ld rfl 47 (.tmp 4) rfl _ rfl (HX9.out) sEv ?_) | ((with_reducible refine gd_st 47 8 ?_); refine wpList_st rfl 47 (.tmp 8) _ rfl _ _ rfl _ rfl (HZ6.out) sEv.2 (#[.int .i64 b, .int .i64 now, .bool ends, .bool false, .slice fA fn fc, .int .i64 tick, .int .i64 (port), .slice A5 n c5, .int .i64 0, .int .i64 pr, .int .i64 po]) rfl (Nat.le_of_ble_eq_true rfl) rfl ?_; intro w9 hb9 hg9 hs9) | fail)
      refine bodyPost_ret (res_cell1 Try.results18 _ _ rfl hb9 sEv) rfl (Exists.intro A5 (Exists.intro c5 (And.intro ?_ (And.intro (rd_keep HR6.out (bs := [w.heap.size + 1]) (Keep.of_grownO hg9 (fun g1 h1 => by cases h1; simp)) (fun p hp => by have := HPA.out p hp; simp; omega)) (And.intro (bgrown HB6.out hg9 (by omega)) (And.intro (fun p hp => by have := HPA.out p hp; omega) HNE.out))))))
      rw [HF.out]
  · have b0 : (err == 0) = false := by simpa using e0
    have HF := Lib.hid (show poF err out port zs = port by unfold poF; rw [if_neg e8, if_neg e9, if_neg (fun h => e0 h.1)])
    clear e8 e9 e0
    go_upto_region 8 with fail
    have HX9 := Lib.hid (show Blk _ w.heap.size 47 #[.int .i64 b, .int .i64 now, .bool ends, .bool out, .slice fA fn fc, .int .i64 tick, .int .i64 (port), .slice A5 n c5, .int .i64 err, .int .i64 pr, .int .i64 po] from HX6.out)
    go_wp2_with (first | ((with_reducible refine gd_ld 47 4 ?_); refine wpList_ld rfl 47 (.tmp 4) rfl _ rfl (HX9.out) sEv ?_) | ((with_reducible refine gd_st 47 8 ?_); refine wpList_st rfl 47 (.tmp 8) _ rfl _ _ rfl _ rfl (HZ6.out) sEv.2 (#[.int .i64 b, .int .i64 now, .bool ends, .bool out, .slice fA fn fc, .int .i64 tick, .int .i64 (port), .slice A5 n c5, .int .i64 err, .int .i64 pr, .int .i64 po]) rfl (Nat.le_of_ble_eq_true rfl) rfl ?_; intro w9 hb9 hg9 hs9) | fail)
    refine bodyPost_ret (res_cell1 Try.results18 _ _ rfl hb9 sEv) rfl (Exists.intro A5 (Exists.intro c5 (And.intro ?_ (And.intro (rd_keep HR6.out (bs := [w.heap.size + 1]) (Keep.of_grownO hg9 (fun g1 h1 => by cases h1; simp)) (fun p hp => by have := HPA.out p hp; simp; omega)) (And.intro (bgrown HB6.out hg9 (by omega)) (And.intro (fun p hp => by have := HPA.out p hp; omega) HNE.out))))))
    rw [HF.out]
end Go.Proofs.Ytbnlpidhbilenaa
