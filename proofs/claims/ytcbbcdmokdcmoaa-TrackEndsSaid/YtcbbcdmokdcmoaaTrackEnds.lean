/-
  TrackEnds: its walk.
-/
import Derived.Test.YtcbbcdmokdcmoaaTrackNext
import Derived.Test.YtcbbcdmokdcmoaaTrackO
namespace Go.Proofs.Ytcbbcdmokdcmoaa
open Go.RowKit Plain
set_option linter.unusedVariables false
set_option maxRecDepth 100000
set_option linter.unusedSimpArgs false

theorem ofInt_wrap (b : BitVec 64) : BitVec.ofInt 64 (IntKind.i64.wrap (b.toNat : Nat)) = b := by
  refine BitVec.eq_of_toNat_eq ?_
  rw [BitVec.toNat_ofInt, IntKind.wrap_i64]
  have := b.isLt
  omega
theorem flg_andNot (f : Int) (m : Int) (i : Nat) (hi : i < 64) (h : (BitVec.ofInt 64 m).getLsbD i = true) : flg (bits .andNot .i64 f m) i = false := by
  unfold flg
  show (BitVec.ofInt 64 (IntKind.i64.wrap ((BitVec.ofInt 64 f &&& ~~~ BitVec.ofInt 64 m).toNat : Nat))).toNat.testBit i = false
  rw [ofInt_wrap, BitVec.testBit_toNat]
  simp [hi, h]
theorem nxt_half (s : Int) (o : Bool) (v : Int) (hs : s = 2 ∧ (o = true ∨ flg v 0 = false) ∨ s = 3 ∧ (o = false ∨ flg v 0 = false)) (h2 : flg v 2 = false) : nxt 6 s o v = s := by
  unfold nxt
  rw [if_pos rfl, cnt_cnt s (by omega) (by omega), h2]
  rcases hs with ⟨rfl, h | h⟩ | ⟨rfl, h | h⟩ <;> rw [h] <;> cases flg v 0 <;> cases flg v 4 <;> cases flg v 1 <;> cases o <;> simp_all [mv, fin13]
theorem or_one (f : Int) : bits .or .i64 1 (bits .and .i64 f 16) = 1 ∨ bits .or .i64 1 (bits .and .i64 f 16) = 17 := by
  rw [bits16]
  rcases fv_or f 4 with ⟨h, _⟩ | ⟨h, _⟩ <;> rw [h]
  · exact Or.inl (by decide)
  · exact Or.inr (by decide)
theorem nxt_fst (o : Bool) (v : Int) (h : v = 1 ∨ v = 17) : nxt 6 1 o v = if o then 2 else 3 := by
  rcases h with rfl | rfl <;> cases o <;> decide
theorem nxt_lst (o : Bool) (v : Int) (h : v = 1 ∨ v = 17) : nxt 6 (if o then 2 else 3) (!o) v = 4 := by
  rcases h with rfl | rfl <;> cases o <;> decide

set_option maxHeartbeats 8000000 in
theorem trackEnds_true (A : Option Addr) (n c : Nat) (V : Nat → Nat → Value) (fl : Int) (w : World) (hnc : n ≤ c) (hm : c ≤ maxLen) (hR : RdS segK w A n V) :
    Calls Try.prog 6 #[.bool true, .slice A n c, .int .i64 fl] w fun e w' => e = .returned (.bool true) ∧ Below w.heap.size w w' := by
  unfold maxLen at hm
  have HR := Lib.hid hR
  clear hR
  obtain ⟨v, hv⟩ : ∃ v, bits .or .i64 1 (bits .and .i64 fl 16) = v := ⟨_, rfl⟩
  have hv1 : v = 1 ∨ v = 17 := by have := or_one fl; rw [hv] at this; exact this
  have H1 := Lib.hid (next_any 6 1 true v)
  have H2 := Lib.hid (next_any 6 2 false v)
  rw [show nxt 6 1 true v = 2 from nxt_fst true v hv1] at H1
  rw [show nxt 6 2 false v = 4 from nxt_lst true v hv1] at H2
  clear hv1
  go_enter Try.func6, Try.ntmps6
  go_wp2_with (go_at_call 8; (with_reducible refine (H1.out _).mono ?_); rintro e w' ⟨rfl, rfl⟩)
  go_loopw [7, 9] (fun s7 s9 wr => ∃ j : Nat, s7 = .int .i64 2 ∧ s9 = .int .i64 j ∧ j ≤ n ∧ j ≤ 50 ∧ Below w.heap.size w wr) (fun _ i _ => 50 - (intOf i).toNat)
  case atStart => exact ⟨0, rfl, rfl, by omega, by omega, Below.refl _ _⟩
  case round =>
    obtain ⟨j, rfl, rfl, hj, h50, hB⟩ := hrel
    have HB := Lib.hid hB
    have sr := hB.size
    clear hB
    by_cases hlt : j < n ∧ j < 50
    · obtain ⟨hlt, hlt2⟩ := hlt
      obtain ⟨bk, off, rfl, hbl, hcell⟩ := HR.out (by omega)
      obtain ⟨q0, o, hx0⟩ := hcell j hlt 0 _ rfl
      obtain ⟨q1, f, hx1, hw1⟩ := hcell j hlt 1 _ rfl
      rw [hx0] at q0
      rw [hx1] at q1
      have c0 := (HB.out.cell (p := ⟨bk, off + j * 2, none⟩) hbl).trans q0
      have c1 : wr.cell? ⟨bk, off + j * 2 + 1, none⟩ = some (.int .i64 f) := (HB.out.cell (p := ⟨bk, off + j * 2 + 1, none⟩) hbl).trans (by rw [Nat.add_assoc]; exact q1)
      clear hcell q0 q1 hx0 hx1 hw1
      go_upto_region 9 with fail
      have HS := Lib.hid (SgS.new wr o f)
      have HB2 := Lib.hid (bthen HB.out (ball wr (.cells #[.bool o, .int .i64 f] 23)))
      clear c0 c1
      generalize wr.alloc (.cells #[.bool o, .int .i64 f] 23) = w2 at *
      generalize wr.heap.size = g at *
      have k0 : w2.cell? ⟨g, 0, none⟩ = some (.bool o) := HS.out.b1.cell 0
      have k1 : w2.cell? ⟨g, 1, none⟩ = some (.int .i64 f) := HS.out.b1.cell 1
      clear HS
      cases o
      · have HN := Lib.hid (next_any 6 2 false (bits .andNot .i64 f 5))
        rw [nxt_half 2 false _ (Or.inl ⟨rfl, Or.inr (flg_andNot f 5 0 (by decide) (by decide))⟩) (flg_andNot f 5 2 (by decide) (by decide))] at HN
        go_wp2_with (go_at_call 8; (with_reducible refine (HN.out _).mono ?_); rintro e w' ⟨rfl, rfl⟩)
        go_roundw
        case rel => exact ⟨j + 1, rfl, by go_num, by omega, by omega, HB2.out⟩
        case measure => simp [intOf]; omega
      · have HN := Lib.hid (next_any 6 2 true (bits .andNot .i64 f 4))
        rw [nxt_half 2 true _ (Or.inl ⟨rfl, Or.inl rfl⟩) (flg_andNot f 4 2 (by decide) (by decide))] at HN
        go_wp2_with (go_at_call 8; (with_reducible refine (HN.out _).mono ?_); rintro e w' ⟨rfl, rfl⟩)
        go_roundw
        case rel => exact ⟨j + 1, rfl, by go_num, by omega, by omega, HB2.out⟩
        case measure => simp [intOf]; omega
    · by_cases h1 : j < n
      · have h2 : decide ((j : Int) < 50) = false := by simp; omega
        go_wp2_with (first | (go_at_call 7; refine (opens_any _).mono ?_; rintro e w' ⟨rfl, rfl⟩) | (go_at_call 8; (with_reducible refine (H2.out _).mono ?_); rintro e w' ⟨rfl, rfl⟩))
        go_ret
        exact ⟨rfl, HB.out⟩
      · go_wp2_with (first | (go_at_call 7; refine (opens_any _).mono ?_; rintro e w' ⟨rfl, rfl⟩) | (go_at_call 8; (with_reducible refine (H2.out _).mono ?_); rintro e w' ⟨rfl, rfl⟩))
        go_ret
        exact ⟨rfl, HB.out⟩

set_option maxHeartbeats 8000000 in
theorem trackEnds_false (A : Option Addr) (n c : Nat) (V : Nat → Nat → Value) (fl : Int) (w : World) (hnc : n ≤ c) (hm : c ≤ maxLen) (hR : RdS segK w A n V) :
    Calls Try.prog 6 #[.bool false, .slice A n c, .int .i64 fl] w fun e w' => e = .returned (.bool true) ∧ Below w.heap.size w w' := by
  unfold maxLen at hm
  have HR := Lib.hid hR
  clear hR
  obtain ⟨v, hv⟩ : ∃ v, bits .or .i64 1 (bits .and .i64 fl 16) = v := ⟨_, rfl⟩
  have hv1 : v = 1 ∨ v = 17 := by have := or_one fl; rw [hv] at this; exact this
  have H1 := Lib.hid (next_any 6 1 false v)
  have H2 := Lib.hid (next_any 6 3 true v)
  rw [show nxt 6 1 false v = 3 from nxt_fst false v hv1] at H1
  rw [show nxt 6 3 true v = 4 from nxt_lst false v hv1] at H2
  clear hv1
  go_enter Try.func6, Try.ntmps6
  go_wp2_with (go_at_call 8; (with_reducible refine (H1.out _).mono ?_); rintro e w' ⟨rfl, rfl⟩)
  go_loopw [7, 9] (fun s7 s9 wr => ∃ j : Nat, s7 = .int .i64 3 ∧ s9 = .int .i64 j ∧ j ≤ n ∧ j ≤ 50 ∧ Below w.heap.size w wr) (fun _ i _ => 50 - (intOf i).toNat)
  case atStart => exact ⟨0, rfl, rfl, by omega, by omega, Below.refl _ _⟩
  case round =>
    obtain ⟨j, rfl, rfl, hj, h50, hB⟩ := hrel
    have HB := Lib.hid hB
    have sr := hB.size
    clear hB
    by_cases hlt : j < n ∧ j < 50
    · obtain ⟨hlt, hlt2⟩ := hlt
      obtain ⟨bk, off, rfl, hbl, hcell⟩ := HR.out (by omega)
      obtain ⟨q0, o, hx0⟩ := hcell j hlt 0 _ rfl
      obtain ⟨q1, f, hx1, hw1⟩ := hcell j hlt 1 _ rfl
      rw [hx0] at q0
      rw [hx1] at q1
      have c0 := (HB.out.cell (p := ⟨bk, off + j * 2, none⟩) hbl).trans q0
      have c1 : wr.cell? ⟨bk, off + j * 2 + 1, none⟩ = some (.int .i64 f) := (HB.out.cell (p := ⟨bk, off + j * 2 + 1, none⟩) hbl).trans (by rw [Nat.add_assoc]; exact q1)
      clear hcell q0 q1 hx0 hx1 hw1
      go_upto_region 9 with fail
      have HS := Lib.hid (SgS.new wr o f)
      have HB2 := Lib.hid (bthen HB.out (ball wr (.cells #[.bool o, .int .i64 f] 23)))
      clear c0 c1
      generalize wr.alloc (.cells #[.bool o, .int .i64 f] 23) = w2 at *
      generalize wr.heap.size = g at *
      have k0 : w2.cell? ⟨g, 0, none⟩ = some (.bool o) := HS.out.b1.cell 0
      have k1 : w2.cell? ⟨g, 1, none⟩ = some (.int .i64 f) := HS.out.b1.cell 1
      clear HS
      cases o
      · have HN := Lib.hid (next_any 6 3 false (bits .andNot .i64 f 4))
        rw [nxt_half 3 false _ (Or.inr ⟨rfl, Or.inl rfl⟩) (flg_andNot f 4 2 (by decide) (by decide))] at HN
        go_wp2_with (go_at_call 8; (with_reducible refine (HN.out _).mono ?_); rintro e w' ⟨rfl, rfl⟩)
        go_roundw
        case rel => exact ⟨j + 1, rfl, by go_num, by omega, by omega, HB2.out⟩
        case measure => simp [intOf]; omega
      · have HN := Lib.hid (next_any 6 3 true (bits .andNot .i64 f 5))
        rw [nxt_half 3 true _ (Or.inr ⟨rfl, Or.inr (flg_andNot f 5 0 (by decide) (by decide))⟩) (flg_andNot f 5 2 (by decide) (by decide))] at HN
        go_wp2_with (go_at_call 8; (with_reducible refine (HN.out _).mono ?_); rintro e w' ⟨rfl, rfl⟩)
        go_roundw
        case rel => exact ⟨j + 1, rfl, by go_num, by omega, by omega, HB2.out⟩
        case measure => simp [intOf]; omega
    · by_cases h1 : j < n
      · have h2 : decide ((j : Int) < 50) = false := by simp; omega
        go_wp2_with (first | (go_at_call 7; refine (opens_any _).mono ?_; rintro e w' ⟨rfl, rfl⟩) | (go_at_call 8; (with_reducible refine (H2.out _).mono ?_); rintro e w' ⟨rfl, rfl⟩))
        go_ret
        exact ⟨rfl, HB.out⟩
      · go_wp2_with (first | (go_at_call 7; refine (opens_any _).mono ?_; rintro e w' ⟨rfl, rfl⟩) | (go_at_call 8; (with_reducible refine (H2.out _).mono ?_); rintro e w' ⟨rfl, rfl⟩))
        go_ret
        exact ⟨rfl, HB.out⟩

theorem trackEnds_walk (fst : Bool) (A : Option Addr) (n c : Nat) (V : Nat → Nat → Value) (fl : Int) (w : World) (hnc : n ≤ c) (hm : c ≤ maxLen) (hR : RdS segK w A n V) :
    Calls Try.prog 6 #[.bool fst, .slice A n c, .int .i64 fl] w fun e w' => e = .returned (.bool true) ∧ Below w.heap.size w w' := by
  cases fst
  · exact trackEnds_false A n c V fl w hnc hm hR
  · exact trackEnds_true A n c V fl w hnc hm hR
end Go.Proofs.Ytcbbcdmokdcmoaa
