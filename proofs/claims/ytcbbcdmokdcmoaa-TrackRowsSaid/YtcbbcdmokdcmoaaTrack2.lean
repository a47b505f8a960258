/-
  Package track: how long a binding lives, what renews and begins one, words; contracts of its calls and of the reference's. Conditions stand in each theorem.
-/
import Derived.Test.YtcbbcdmokdcmoaaTrack
namespace Go.Proofs.Ytcbbcdmokdcmoaa
open Go.RowKit Plain
set_option linter.unusedVariables false
set_option maxRecDepth 100000
set_option linter.unusedSimpArgs false

theorem ret_str {a b : ByteArray} (h : a = b) : Ending.returned (.string a) = .returned (.string b) := by rw [h]

def lifeOf (p s : Int) : Int := if p = 17 then 120 else if p = 1 then 60 else if p = 6 then (if s = 1 then 7440 else 240) else 0
def rnw (p : Int) (o : Bool) : Bool := if p = 6 then true else if p = 17 ∨ p = 1 then o else false
def bgn (p k f : Int) : Bool := if p = 17 then true else if p = 6 then (flg f 1 && !flg f 0 && !flg f 2 && !flg f 4) else if p = 1 then (k == 8) else false
def txt (s : Int) : ByteArray := if s = 0 then { data := #[111, 112, 101, 110, 105, 110, 103] } else if s = 1 then { data := #[111, 112, 101, 110] } else if s = 2 then { data := #[104, 97, 108, 102, 32, 111, 117, 116] } else if s = 3 then { data := #[104, 97, 108, 102, 32, 105, 110] } else { data := #[99, 108, 111, 115, 101, 100] }

theorem life_any (p s : Int) (w : World) : Calls Try.prog 10 #[.int .i64 p, .int .i64 s] w fun e w' => e = .returned (.int .i64 (lifeOf p s)) ∧ w = w' := by
  go_enter Try.func10, Try.ntmps10
  go_wp2
  all_goals
    go_ret
    refine ⟨ret_num ?_, rfl⟩
    unfold lifeOf
    simp_all
theorem rlife_any (p s : Int) (w : World) : Calls Try.prog 11 #[.int .i64 p, .int .i64 s] w fun e w' => e = .returned (.int .i64 (lifeOf p s)) ∧ w = w' := by
  go_enter Try.func11, Try.ntmps11
  go_wp2
  all_goals
    go_ret
    refine ⟨ret_num ?_, rfl⟩
    unfold lifeOf
    simp_all
theorem renews_any (p : Int) (o : Bool) (w : World) : Calls Try.prog 12 #[.int .i64 p, .bool o] w fun e w' => e = .returned (.bool (rnw p o)) ∧ w = w' := by
  go_enter Try.func12, Try.ntmps12
  go_wp2
  all_goals
    go_ret
    refine ⟨ret_bol ?_, rfl⟩
    unfold rnw
    simp_all
theorem rrenews_any (p : Int) (o : Bool) (w : World) : Calls Try.prog 13 #[.int .i64 p, .bool o] w fun e w' => e = .returned (.bool (rnw p o)) ∧ w = w' := by
  go_enter Try.func13, Try.ntmps13
  go_wp2
  all_goals
    go_ret
    refine ⟨ret_bol ?_, rfl⟩
    unfold rnw
    by_cases h1 : p = 1 <;> by_cases h17 : p = 17 <;> by_cases h6 : p = 6 <;> simp_all
theorem begins_any (p k f : Int) (w : World) : Calls Try.prog 14 #[.int .i64 p, .int .i64 k, .int .i64 f] w fun e w' => e = .returned (.bool (bgn p k f)) ∧ w = w' := by
  go_enter Try.func14, Try.ntmps14
  go_wp2
  all_goals
    go_ret
    refine ⟨ret_bol ?_, rfl⟩
    unfold bgn
    rcases fv_or f 0 with ⟨e0, g0⟩ | ⟨e0, g0⟩ <;> rcases fv_or f 1 with ⟨e1, g1⟩ | ⟨e1, g1⟩ <;> rcases fv_or f 2 with ⟨e2, g2⟩ | ⟨e2, g2⟩ <;> rcases fv_or f 4 with ⟨e4, g4⟩ | ⟨e4, g4⟩ <;> rw [g0, g1, g2, g4] <;> simp_all [bits23]
set_option maxHeartbeats 1000000 in
theorem rbegins_any (p k f : Int) (w : World) : Calls Try.prog 15 #[.int .i64 p, .int .i64 k, .int .i64 f] w fun e w' => e = .returned (.bool (bgn p k f)) ∧ w = w' := by
  have hn : Hid (bgn p k f = if p = 17 then true else if p = 6 then (flg f 1 && !flg f 0 && !flg f 2 && !flg f 4) else if p = 1 then (k == 8) else false) := Lib.hid rfl
  have h1 := Lib.hid (fun w => has_flg f 0 1 w (bits1 f))
  have h2 := Lib.hid (fun w => has_flg f 1 2 w (bits2 f))
  have h4 := Lib.hid (fun w => has_flg f 2 4 w (bits4 f))
  have h16 := Lib.hid (fun w => has_flg f 4 16 w (bits16 f))
  generalize flg f 0 = b1 at *
  generalize flg f 1 = b2 at *
  generalize flg f 2 = b4 at *
  generalize flg f 4 = b16 at *
  generalize bgn p k f = R at *
  go_enter Try.func15, Try.ntmps15
  go_wp2_with (first
      | (go_at_call 20; (with_reducible refine (h1.out _).mono ?_); rintro e w' ⟨rfl, rfl⟩)
      | (go_at_call 20; (with_reducible refine (h2.out _).mono ?_); rintro e w' ⟨rfl, rfl⟩)
      | (go_at_call 20; (with_reducible refine (h4.out _).mono ?_); rintro e w' ⟨rfl, rfl⟩)
      | (go_at_call 20; (with_reducible refine (h16.out _).mono ?_); rintro e w' ⟨rfl, rfl⟩))
  all_goals
    go_ret
    refine ⟨ret_bol ?_, rfl⟩
    rw [hn.out]
    clear hn h1 h2 h4 h16
    simp_all
theorem text_any (s : Int) (w : World) : Calls Try.prog 16 #[.int .i64 s] w fun e w' => e = .returned (.string (txt s)) ∧ w = w' := by
  go_enter Try.func16, Try.ntmps16
  go_wp2
  all_goals
    go_ret
    refine ⟨ret_str ?_, rfl⟩
    unfold txt
    simp_all
theorem rtext_any (s : Int) (w : World) : Calls Try.prog 17 #[.int .i64 s] w fun e w' => e = .returned (.string (txt s)) ∧ w = w' := by
  go_enter Try.func17, Try.ntmps17
  go_wp2
  all_goals
    go_ret
    refine ⟨ret_str ?_, rfl⟩
    unfold txt
    simp_all
theorem nxt_a : nxt 6 0 true 2 = 0 := by decide
theorem nxt_b : nxt 6 0 false 18 = 1 := by decide
theorem opens_any (w : World) : Calls Try.prog 7 #[] w fun e w' => e = .returned (.bool true) ∧ w = w' := by
  have h1 := Lib.hid (next_any 6 0 true 2)
  have h2 := Lib.hid (next_any 6 0 false 18)
  rw [nxt_a] at h1
  rw [nxt_b] at h2
  have h3 : Hid _ := Lib.hid (life_any 17 0)
  have h4 : Hid _ := Lib.hid (begins_any 6 0 2)
  have h5 : Hid _ := Lib.hid (text_any 1)
  rw [show lifeOf 17 0 = 120 by rfl] at h3
  rw [show bgn 6 0 2 = true by decide] at h4
  rw [show txt 1 = { data := #[111, 112, 101, 110] } by rfl] at h5
  go_enter Try.func7, Try.ntmps7
  go_wp2_with (first
    | (go_at_call 8; (with_reducible refine (h1.out _).mono ?_); rintro e w' ⟨rfl, rfl⟩)
    | (go_at_call 8; (with_reducible refine (h2.out _).mono ?_); rintro e w' ⟨rfl, rfl⟩)
    | (go_at_call 10; (with_reducible refine (h3.out _).mono ?_); rintro e w' ⟨rfl, rfl⟩)
    | (go_at_call 14; (with_reducible refine (h4.out _).mono ?_); rintro e w' ⟨rfl, rfl⟩)
    | (go_at_call 16; (with_reducible refine (h5.out _).mono ?_); rintro e w' ⟨rfl, rfl⟩))
  go_ret
  exact ⟨rfl, rfl⟩
end Go.Proofs.Ytcbbcdmokdcmoaa
