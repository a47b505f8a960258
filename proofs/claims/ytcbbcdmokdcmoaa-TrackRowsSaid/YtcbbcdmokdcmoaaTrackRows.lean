/-
  TrackRows: its walk.
-/
import Derived.Test.YtcbbcdmokdcmoaaTrackNext
import Derived.Test.YtcbbcdmokdcmoaaTrackO
namespace Go.Proofs.Ytcbbcdmokdcmoaa
open Go.RowKit Plain
set_option linter.unusedVariables false
set_option maxRecDepth 100000
set_option linter.unusedSimpArgs false

theorem nxt6 (s : Int) (o : Bool) (f : Int) (h0 : 0 ≤ s) (h1 : s ≤ 4) : nxt 6 s o f = mv (flg f 2) (flg f 0) (flg f 1) (flg f 4) s o := by
  unfold nxt; rw [if_pos rfl, cnt_cnt s h0 h1]
theorem mv_range (r f y a : Bool) (s : Int) (o : Bool) (h0 : 0 ≤ s) (h1 : s ≤ 4) : 0 ≤ mv r f y a s o ∧ mv r f y a s o ≤ 4 := by
  unfold mv fin13
  repeat' split
  all_goals omega

/-- what the row's tests ask of a step -/
structure StepOk (s s' : Int) (o : Bool) (f : Int) : Prop where
  lo : 0 ≤ s'
  hi : s' ≤ 4
  rst : fv f 2 ≠ 0 → s' = 4
  shut : s = 4 → s' ≠ 4 → s' = 0 ∧ fv f 0 + fv f 1 + fv f 2 + fv f 4 = 2 ∧ o = true
  opn : s' = 1 → s ≠ 1 → o = false ∧ fv f 4 ≠ 0 ∧ s = 0
theorem stepOk (s : Int) (o : Bool) (f : Int) (h0 : 0 ≤ s) (h1 : s ≤ 4) : StepOk s (nxt 6 s o f) o f := by
  rw [nxt6 s o f h0 h1]
  have hr := mv_range (flg f 2) (flg f 0) (flg f 1) (flg f 4) s o h0 h1
  refine ⟨hr.1, hr.2, ?_, ?_, ?_⟩
  all_goals
    obtain rfl | rfl | rfl | rfl | rfl : s = 0 ∨ s = 1 ∨ s = 2 ∨ s = 3 ∨ s = 4 := by omega
    all_goals
      rcases fv_or f 0 with ⟨e0, g0⟩ | ⟨e0, g0⟩ <;> rcases fv_or f 1 with ⟨e1, g1⟩ | ⟨e1, g1⟩ <;> rcases fv_or f 2 with ⟨e2, g2⟩ | ⟨e2, g2⟩ <;> rcases fv_or f 4 with ⟨e4, g4⟩ | ⟨e4, g4⟩ <;> rw [g0, g1, g2, g4] <;> cases o <;> simp [e0, e1, e2, e4, mv, fin13]

/-- what is carried round the row -/
def RowsRel (w : World) (n : Nat) (s3 s4 s5 : Value) (wr : World) : Prop :=
  ∃ (j : Nat) (s : Int) (b : Bool), s3 = .int .i64 s ∧ s4 = .bool b ∧ s5 = .int .i64 j ∧ j ≤ n ∧ j ≤ 100 ∧ 0 ≤ s ∧ s ≤ 4 ∧ (b = true ↔ s = 4) ∧ Below w.heap.size w wr

set_option maxHeartbeats 8000000 in
theorem trackRows_walk (A : Option Addr) (n c : Nat) (V : Nat → Nat → Value) (w : World) (hnc : n ≤ c) (hm : c ≤ maxLen) (hR : RdS segK w A n V) :
    Calls Try.prog 5 #[.slice A n c] w fun e w' => e = .returned (.bool true) ∧ Below w.heap.size w w' := by
  unfold maxLen at hm
  have HR := Lib.hid hR
  clear hR
  go_enter Try.func5, Try.ntmps5
  go_wp2_with fail
  go_loopw [3, 4, 5] (fun s3 s4 s5 wr => RowsRel w n s3 s4 s5 wr) (fun _ _ i _ => 100 - (intOf i).toNat)
  case atStart => exact ⟨0, 0, false, rfl, rfl, rfl, by omega, by omega, by omega, by omega, by simp, Below.refl _ _⟩
  case round =>
    obtain ⟨j, s, b, rfl, rfl, rfl, hj, h100, hs0, hs4, hb, hB⟩ := hrel
    have HB := Lib.hid hB
    have Hb := Lib.hid hb
    have sr := hB.size
    clear hB hb
    by_cases hlt : j < n ∧ j < 100
    · obtain ⟨hlt, hlt2⟩ := hlt
      obtain ⟨bk, off, rfl, hbl, hcell⟩ := HR.out (by omega)
      obtain ⟨q0, o, hx0⟩ := hcell j hlt 0 _ rfl
      obtain ⟨q1, f, hx1, hw1⟩ := hcell j hlt 1 _ rfl
      rw [hx0] at q0
      rw [hx1] at q1
      have c0 := (HB.out.cell (p := ⟨bk, off + j * 2, none⟩) hbl).trans q0
      have c1 : wr.cell? ⟨bk, off + j * 2 + 1, none⟩ = some (.int .i64 f) := (HB.out.cell (p := ⟨bk, off + j * 2 + 1, none⟩) hbl).trans (by rw [Nat.add_assoc]; exact q1)
      clear hcell q0 q1 hx0 hx1 hw1
      go_upto_region 7 with fail
      have HS := Lib.hid (SgS.new wr o f)
      have HB2 := Lib.hid (bthen HB.out (ball wr (.cells #[.bool o, .int .i64 f] 23)))
      clear c0 c1
      generalize wr.alloc (.cells #[.bool o, .int .i64 f] 23) = w2 at *
      generalize wr.heap.size = g at *
      have k0 : w2.cell? ⟨g, 0, none⟩ = some (.bool o) := HS.out.b1.cell 0
      have k1 : w2.cell? ⟨g, 1, none⟩ = some (.int .i64 f) := HS.out.b1.cell 1
      have HN := Lib.hid (next_any 6 s o f)
      have HO := Lib.hid (stepOk s o f hs0 hs4)
      generalize nxt 6 s o f = t at *
      have t0 := HO.out.lo
      have t4 := HO.out.hi
      obtain ⟨rs, ers⟩ : ∃ x, (bits .and .i64 f 4 != 0) = x := ⟨_, rfl⟩
      obtain ⟨sy, esy⟩ : ∃ x, (bits .and .i64 f 23 == 2) = x := ⟨_, rfl⟩
      obtain ⟨ak, eak⟩ : ∃ x, (bits .and .i64 f 16 == 0) = x := ⟨_, rfl⟩
      have Hrs : Hid (rs = true → t = 4) := Lib.hid (fun h => HO.out.rst (by rw [← ers, bits4] at h; simpa using h))
      have Hshut : Hid (s = 4 → t ≠ 4 → t = 0 ∧ sy = true ∧ o = true) := Lib.hid (fun h h' => by
        obtain ⟨x1, x2, x3⟩ := HO.out.shut h h'
        refine ⟨x1, ?_, x3⟩
        rw [← esy, bits23]
        simp
        omega)
      have Hopn : Hid (t = 1 → s ≠ 1 → o = false ∧ ak = false ∧ s = 0) := Lib.hid (fun h h' => by
        obtain ⟨x1, x2, x3⟩ := HO.out.opn h h'
        refine ⟨x1, ?_, x3⟩
        rw [← eak, bits16]
        simpa using x2)
      have E1 := Lib.hid ers
      have E2 := Lib.hid esy
      have E3 := Lib.hid eak
      clear HO HS ers esy eak
      go_upto_region 9 with (go_at_call 8; (with_reducible refine (HN.out _).mono ?_); rintro e w' ⟨rfl, rfl⟩)
      have ers := E1.out
      have esy := E2.out
      have eak := E3.out
      go_quiet (fail)
      rename_i nq
      have HB3 := Lib.hid (below_drewN HB2.out nq)
      have k2 : (w2.drewN nq).cell? ⟨g, 0, none⟩ = some (.bool o) := k0
      have k3 : (w2.drewN nq).cell? ⟨g, 1, none⟩ = some (.int .i64 f) := k1
      clear k0 k1 HB2 HN E1 E2 E3
      generalize w2.drewN nq = w3 at *
      have d0 : decide (t < 0) = false := by simp; omega
      have d4 : decide (4 < t) = false := by simp; omega
      cases b
      · by_cases e1 : t = 1
        · have hr : rs = false := by
            cases rs
            · rfl
            · have := Hrs.out rfl; omega
          subst e1 hr
          by_cases e2 : s = 1
          · subst e2
            go_wp2
            go_roundw
            case rel => exact ⟨j + 1, _, _, rfl, rfl, by go_num, by omega, by omega, by omega, by omega, by simp, HB3.out⟩
            case measure => simp [intOf]; omega
          · obtain ⟨rfl, rfl, rfl⟩ := Hopn.out rfl e2
            clear e2
            go_wp2
            go_roundw
            case rel => exact ⟨j + 1, _, _, rfl, rfl, by go_num, by omega, by omega, by omega, by omega, by simp, HB3.out⟩
            case measure => simp [intOf]; omega
        · have g1 : (t == 1) = false := by simpa using e1
          by_cases e4 : t = 4
          · subst e4
            go_wp2
            all_goals
              go_roundw
              case rel => exact ⟨j + 1, _, _, rfl, rfl, by go_num, by omega, by omega, by omega, by omega, by simp, HB3.out⟩
              case measure => simp [intOf]; omega
          · have hr : rs = false := by
              cases rs
              · rfl
              · have := Hrs.out rfl; omega
            subst hr
            go_wp2
            all_goals
              go_roundw
              case rel => exact ⟨j + 1, _, _, rfl, rfl, by go_num, by omega, by omega, by omega, by omega, by simp, HB3.out⟩
              case measure => simp [intOf]; omega
      · obtain rfl : s = 4 := Hb.out.1 rfl
        by_cases e4 : t = 4
        · subst e4
          go_wp2
          all_goals
            go_roundw
            case rel => exact ⟨j + 1, _, _, rfl, rfl, by go_num, by omega, by omega, by omega, by omega, by simp, HB3.out⟩
            case measure => simp [intOf]; omega
        · have hr : rs = false := by
            cases rs
            · rfl
            · have := Hrs.out rfl; omega
          obtain ⟨rfl, rfl, rfl⟩ := Hshut.out rfl e4
          subst hr
          go_wp2
          all_goals
            go_roundw
            case rel => exact ⟨j + 1, _, _, rfl, rfl, by go_num, by omega, by omega, by omega, by omega, by simp, HB3.out⟩
            case measure => simp [intOf]; omega
    · by_cases h1 : j < n
      · have h2 : decide ((j : Int) < 100) = false := by simp; omega
        go_wp2_with (go_at_call 7; refine (opens_any _).mono ?_; rintro e w' ⟨rfl, rfl⟩)
        go_ret
        exact ⟨rfl, HB.out⟩
      · go_wp2_with (go_at_call 7; refine (opens_any _).mono ?_; rintro e w' ⟨rfl, rfl⟩)
        go_ret
        exact ⟨rfl, HB.out⟩
end Go.Proofs.Ytcbbcdmokdcmoaa
