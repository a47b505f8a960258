/-
  Package track: how a connection stands, as a function of numbers; contracts of its calls and of the reference's. Conditions stand in each theorem.
-/
import Derived.Test.YtcbbcdmokdcmoaaStructs
import Derived.Laws.BitsAll
namespace Go.Proofs.Ytcbbcdmokdcmoaa
open Go.RowKit Plain
set_option linter.unusedVariables false
set_option maxRecDepth 100000
set_option linter.unusedSimpArgs false

theorem ret_num {k : IntKind} {a b : Int} (h : a = b) : Ending.returned (.int k a) = .returned (.int k b) := by rw [h]
theorem ret_bol {a b : Bool} (h : a = b) : Ending.returned (.bool a) = .returned (.bool b) := by rw [h]

/-- a flag, by its place -/
def flg (f : Int) (i : Nat) : Bool := (BitVec.ofInt 64 f).toNat.testBit i
def fv (f : Int) (i : Nat) : Nat := if flg f i then 2 ^ i else 0
theorem and_flg (f : Int) (i : Nat) : (BitVec.ofInt 64 f).toNat &&& 2 ^ i = fv f i := by
  unfold fv flg
  generalize (BitVec.ofInt 64 f).toNat = n
  refine Nat.eq_of_testBit_eq fun j => ?_
  rw [Nat.testBit_and, Nat.testBit_two_pow]
  by_cases h : i = j
  · subst h
    cases hn : n.testBit i <;> simp [hn, Nat.testBit_two_pow]
  · cases hn : n.testBit i <;> simp [hn, h, Nat.testBit_two_pow]
theorem fv_or (f : Int) (i : Nat) : fv f i = 0 ∧ flg f i = false ∨ fv f i = 2 ^ i ∧ flg f i = true := by
  unfold fv; cases flg f i <;> simp
theorem bits_nat (f : Int) (b : Nat) (hb : b < 256) : bits .and .i64 f (b : Int) = (((BitVec.ofInt 64 f).toNat &&& b : Nat) : Int) := by
  have hl : (BitVec.ofInt 64 f).toNat &&& b ≤ b := Nat.and_le_right
  have hB : (BitVec.ofInt 64 (b : Int)).toNat = b := by simp; omega
  show IntKind.i64.wrap ((BitVec.ofInt 64 f &&& BitVec.ofInt 64 (b : Int)).toNat : Nat) = _
  rw [BitVec.toNat_and, hB, IntKind.wrap_i64]
  omega
theorem bits1 (f : Int) : bits .and .i64 f 1 = fv f 0 := by rw [show (1 : Int) = ((2 ^ 0 : Nat) : Int) by rfl, bits_nat f _ (by decide), and_flg]
theorem bits2 (f : Int) : bits .and .i64 f 2 = fv f 1 := by rw [show (2 : Int) = ((2 ^ 1 : Nat) : Int) by rfl, bits_nat f _ (by decide), and_flg]
theorem bits4 (f : Int) : bits .and .i64 f 4 = fv f 2 := by rw [show (4 : Int) = ((2 ^ 2 : Nat) : Int) by rfl, bits_nat f _ (by decide), and_flg]
theorem bits16 (f : Int) : bits .and .i64 f 16 = fv f 4 := by rw [show (16 : Int) = ((2 ^ 4 : Nat) : Int) by rfl, bits_nat f _ (by decide), and_flg]
theorem bits18 (f : Int) : bits .and .i64 f 18 = fv f 1 + fv f 4 := by
  rw [show (18 : Int) = ((2 ^ 1 ||| 2 ^ 4 : Nat) : Int) by rfl, bits_nat f _ (by decide), Nat.and_or_distrib_left, and_flg, and_flg]
  rcases fv_or f 1 with ⟨h, _⟩ | ⟨h, _⟩ <;> rcases fv_or f 4 with ⟨h', _⟩ | ⟨h', _⟩ <;> rw [h, h'] <;> rfl
theorem bits23 (f : Int) : bits .and .i64 f 23 = fv f 0 + fv f 1 + fv f 2 + fv f 4 := by
  rw [show (23 : Int) = ((2 ^ 0 ||| 2 ^ 1 ||| 2 ^ 2 ||| 2 ^ 4 : Nat) : Int) by rfl, bits_nat f _ (by decide), Nat.and_or_distrib_left, Nat.and_or_distrib_left, Nat.and_or_distrib_left, and_flg, and_flg, and_flg, and_flg]
  rcases fv_or f 0 with ⟨h1, _⟩ | ⟨h1, _⟩ <;> rcases fv_or f 1 with ⟨h, _⟩ | ⟨h, _⟩ <;> rcases fv_or f 4 with ⟨h', _⟩ | ⟨h', _⟩ <;> rcases fv_or f 2 with ⟨h2, _⟩ | ⟨h2, _⟩ <;> rw [h, h', h1, h2] <;> rfl

def cnt (s : Int) : Int := if s < 0 ∨ 4 < s then 4 else s
theorem cnt_range (s : Int) : 0 ≤ cnt s ∧ cnt s ≤ 4 := by unfold cnt; split <;> omega
theorem cnt_cnt (s : Int) (h : 0 ≤ s) (h' : s ≤ 4) : cnt s = s := by unfold cnt; rw [if_neg (by omega)]
def fin13 (s : Int) (o : Bool) : Int := if s ≤ 1 then (if o then 2 else 3) else if s = 2 ∧ o = false then 4 else if s = 3 ∧ o = true then 4 else s
def mv (r f y a : Bool) (s : Int) (o : Bool) : Int :=
  if r then 4 else if f then fin13 s o else if y && !a && o && s == 4 then 0 else if a && !o && s == 0 then 1 else s
def nxt (p s : Int) (o : Bool) (f : Int) : Int := if p = 6 then mv (flg f 2) (flg f 0) (flg f 1) (flg f 4) (cnt s) o else 0

theorem counted_any (s : Int) (w : World) : Calls Try.prog 18 #[.int .i64 s] w fun e w' => e = .returned (.int .i64 (cnt s)) ∧ w = w' := by
  go_enter Try.func18, Try.ntmps18
  go_wp2
  all_goals
    go_ret
    refine ⟨ret_num ?_, rfl⟩
    unfold cnt
    first | rw [if_pos (by omega)] | rw [if_neg (by omega)]

theorem ended_any (s : Int) (o : Bool) (w : World) (h0 : 0 ≤ s) (h1 : s ≤ 4) : Calls Try.prog 19 #[.int .i64 s, .bool o] w fun e w' => e = .returned (.int .i64 (fin13 s o)) ∧ w = w' := by
  obtain rfl | rfl | rfl | rfl | rfl : s = 0 ∨ s = 1 ∨ s = 2 ∨ s = 3 ∨ s = 4 := by omega
  all_goals
    cases o
    all_goals
      go_enter Try.func19, Try.ntmps19
      go_wp2
      go_ret
      exact ⟨rfl, rfl⟩

theorem has_any (f b : Int) (x : Nat) (w : World) (h : bits .and .i64 f b = (x : Int)) : Calls Try.prog 20 #[.int .i64 f, .int .i64 b] w fun e w' => e = .returned (.bool (decide (x ≠ 0))) ∧ w = w' := by
  go_enter Try.func20, Try.ntmps20
  go_wp2
  go_ret
  refine ⟨ret_bol ?_, rfl⟩
  rw [Bool.eq_iff_iff]; simp
theorem has_flg (f : Int) (i : Nat) (b : Int) (w : World) (h : bits .and .i64 f b = (fv f i : Int)) : Calls Try.prog 20 #[.int .i64 f, .int .i64 b] w fun e w' => e = .returned (.bool (flg f i)) ∧ w = w' := by
  refine (has_any f b _ w h).mono ?_
  rintro e w' ⟨rfl, rfl⟩
  refine ⟨ret_bol ?_, rfl⟩
  rcases fv_or f i with ⟨h, h'⟩ | ⟨h, h'⟩ <;> rw [h, h'] <;> simp

theorem nxt_no (p s : Int) (o : Bool) (f : Int) (h : p ≠ 6) : nxt p s o f = 0 := by unfold nxt; rw [if_neg h]

set_option maxHeartbeats 2000000 in
theorem next_any (p s : Int) (o : Bool) (f : Int) (w : World) : Calls Try.prog 8 #[.int .i64 p, .int .i64 s, .bool o, .int .i64 f] w fun e w' => e = .returned (.int .i64 (nxt p s o f)) ∧ w = w' := by
  by_cases hp : p = 6
  · subst hp
    have hn : Hid (nxt 6 s o f = mv (flg f 2) (flg f 0) (flg f 1) (flg f 4) (cnt s) o) := Lib.hid (by unfold nxt; rw [if_pos rfl])
    have hc := Lib.hid (counted_any s)
    have hr := cnt_range s
    generalize cnt s = c at *
    generalize nxt 6 s o f = R at *
    obtain ⟨c0, c1⟩ := hr
    go_enter Try.func8, Try.ntmps8
    go_wp2_with (first | (go_at_call 18; refine (hc.out _).mono ?_; rintro e w' ⟨rfl, rfl⟩) | (go_at_call 19; refine (ended_any _ _ _ c0 c1).mono ?_; rintro e w' ⟨rfl, rfl⟩))
    all_goals
      go_ret
      refine ⟨ret_num ?_, rfl⟩
      rw [hn.out]
      clear hn hc
      rcases fv_or f 0 with ⟨e0, g0⟩ | ⟨e0, g0⟩ <;> rcases fv_or f 1 with ⟨e1, g1⟩ | ⟨e1, g1⟩ <;> rcases fv_or f 2 with ⟨e2, g2⟩ | ⟨e2, g2⟩ <;> rcases fv_or f 4 with ⟨e4, g4⟩ | ⟨e4, g4⟩ <;> rw [g0, g1, g2, g4] <;> simp_all [mv, bits1, bits4, bits16, bits18]
  · have hn := nxt_no p s o f hp
    rw [hn]
    clear hn
    go_enter Try.func8, Try.ntmps8
    go_wp2
    go_ret
    exact ⟨rfl, rfl⟩

theorem mv_fin (y a : Bool) (s : Int) (o : Bool) : mv false true y a s o = fin13 s o := rfl

set_option maxHeartbeats 4000000 in
theorem rnext_any (p s : Int) (o : Bool) (f : Int) (w : World) : Calls Try.prog 9 #[.int .i64 p, .int .i64 s, .bool o, .int .i64 f] w fun e w' => e = .returned (.int .i64 (nxt p s o f)) ∧ w = w' := by
  by_cases hp : p = 6
  · subst hp
    have hn : Hid (nxt 6 s o f = mv (flg f 2) (flg f 0) (flg f 1) (flg f 4) (cnt s) o) := Lib.hid (by unfold nxt; rw [if_pos rfl])
    have h1 := Lib.hid (fun w => has_flg f 0 1 w (bits1 f))
    have h2 := Lib.hid (fun w => has_flg f 1 2 w (bits2 f))
    have h4 := Lib.hid (fun w => has_flg f 2 4 w (bits4 f))
    have h16 := Lib.hid (fun w => has_flg f 4 16 w (bits16 f))
    have hr : Hid (cnt s = if s < 0 ∨ 4 < s then 4 else s) := Lib.hid rfl
    generalize flg f 0 = b1 at *
    generalize flg f 1 = b2 at *
    generalize flg f 2 = b4 at *
    generalize flg f 4 = b16 at *
    generalize cnt s = c at *
    generalize nxt 6 s o f = R at *
    go_enter Try.func9, Try.ntmps9
    go_wp2_with (first
      | (go_at_call 20; (with_reducible refine (h1.out _).mono ?_); rintro e w' ⟨rfl, rfl⟩)
      | (go_at_call 20; (with_reducible refine (h2.out _).mono ?_); rintro e w' ⟨rfl, rfl⟩)
      | (go_at_call 20; (with_reducible refine (h4.out _).mono ?_); rintro e w' ⟨rfl, rfl⟩)
      | (go_at_call 20; (with_reducible refine (h16.out _).mono ?_); rintro e w' ⟨rfl, rfl⟩))
    all_goals
      go_ret
      refine ⟨ret_num ?_, rfl⟩
      rw [hn.out]
      have hc := hr.out
      clear hn hr h1 h2 h4 h16
      first | rw [if_pos (by omega)] at hc | rw [if_neg (by omega)] at hc
      subst hc
      simp_all [mv, fin13]
      try omega
      try (intros; omega)
  · have hn := nxt_no p s o f hp
    rw [hn]
    clear hn
    go_enter Try.func9, Try.ntmps9
    go_wp2
    go_ret
    exact ⟨rfl, rfl⟩

end Go.Proofs.Ytcbbcdmokdcmoaa
