/-
  Package place: Cas of Places. Conditions stand in each theorem.
-/
import Derived.Test.YtpiobdbaljkkpaaPlL
namespace Go.Proofs.Ytpiobdbaljkkpaa
open Go.RowKit Plain
set_option linter.unusedVariables false
set_option maxRecDepth 100000
set_option linter.unusedSimpArgs false

theorem may_can {o x : Wd} (h : o.may x = true) : o.can = true ∧ x.can = true := by
  unfold Wd.may at h; simp only [Bool.and_eq_true] at h; exact h.1
section
variable {w : World} {gp gc gn n : Nat} {l : List Int}
theorem pcas_out (h : PlB w gp gc gn n l) (i : Int) (hi : inC n i = false) (o x : Wd) :
    Calls Try.prog 24 #[.pointer (some ⟨gp, 0, none⟩), .int .i64 i, o.val, x.val] w fun e w' => e = .returned (.bool false) ∧ Below w.heap.size w w' := by
  obtain ⟨a, b, c, d⟩ := o
  obtain ⟨p, q, r, t⟩ := x
  simp only [Wd.v4]
  have HI := Lib.hid hi
  have H := Lib.hid ((h.alloc (.cells #[.int .i64 a, .int .i64 b, .int .i64 c, .int .i64 d] 62)).alloc (.cells #[.int .i64 p, .int .i64 q, .int .i64 r, .int .i64 t] 62))
  clear h hi
  go_enter Try.func24, Try.ntmps24
  go_wp2_with fail
  refine (phas_any H.out i).mono ?_
  rintro e w' ⟨rfl, rfl⟩
  rw [HI.out]
  go_wp2
  go_ret
  exact ⟨rfl, b2all w _ _⟩
theorem pcas_no (h : PlB w gp gc gn n l) (i : Nat) (hi : i < n) (o x : Wd) (hm : o.may x = false) :
    Calls Try.prog 24 #[.pointer (some ⟨gp, 0, none⟩), .int .i64 i, o.val, x.val] w fun e w' => e = .returned (.bool false) ∧ Below w.heap.size w w' := by
  have HM := Lib.hid (may_any o x)
  rw [hm] at HM
  obtain ⟨a, b, c, d⟩ := o
  obtain ⟨p, q, r, t⟩ := x
  simp only [Wd.v4] at HM ⊢
  have H := Lib.hid ((h.alloc (.cells #[.int .i64 a, .int .i64 b, .int .i64 c, .int .i64 d] 62)).alloc (.cells #[.int .i64 p, .int .i64 q, .int .i64 r, .int .i64 t] 62))
  clear h hm
  go_enter Try.func24, Try.ntmps24
  go_wp2_with fail
  refine (phas_any H.out i).mono ?_
  rintro e w' ⟨rfl, rfl⟩
  rw [inC_nat hi]
  go_wp2_with fail
  refine (HM.out _).mono ?_
  rintro e w2 ⟨rfl, hb⟩
  have HB := Lib.hid (bthen (b2all w _ _) hb)
  clear hb
  go_wp2
  go_ret
  exact ⟨rfl, HB.out⟩

set_option maxHeartbeats 4000000 in
theorem pcas_may (h : PlB w gp gc gn n l) (i : Nat) (hi : i < n) (o x : Wd) (hm : o.may x = true) (bb : Bool) (hbb : bb = decide (l.getD (2 * i) 0 = o.num)) :
    Calls Try.prog 24 #[.pointer (some ⟨gp, 0, none⟩), .int .i64 i, o.val, x.val] w fun e w' => e = .returned (.bool bb) ∧ PlB w' gp gc gn n (if bb then l.set (2 * i) x.num else l) ∧ Keep [gn] w w' := by
  obtain ⟨co, cx⟩ := may_can hm
  have HM := Lib.hid (may_any o x)
  have HPo := Lib.hid (pack_any o)
  have HPx := Lib.hid (pack_any x)
  rw [hm] at HM
  simp only [co, if_true] at HPo
  simp only [cx, if_true] at HPx
  have ro := num_range o co
  have rx := num_range x cx
  generalize o.num = no at *
  generalize x.num = nx at *
  obtain ⟨a, b, c, d⟩ := o
  obtain ⟨p, q, r, t⟩ := x
  simp only [Wd.v4] at HM HPo HPx ⊢
  have hmx := h.mx
  have hlt := h.lt
  have hn2 : gn ≠ gp := h.n2.symm
  have H := Lib.hid ((h.alloc (.cells #[.int .i64 a, .int .i64 b, .int .i64 c, .int .i64 d] 62)).alloc (.cells #[.int .i64 p, .int .i64 q, .int .i64 r, .int .i64 t] 62))
  have Hbb := Lib.hid hbb
  clear h hm co cx hbb
  go_enter Try.func24, Try.ntmps24
  go_wp2_with fail
  refine (phas_any H.out i).mono ?_
  rintro e w' ⟨rfl, rfl⟩
  rw [inC_nat hi]
  go_wp2_with fail
  refine (HM.out _).mono ?_
  rintro e w2 ⟨rfl, hb⟩
  have bk := Lib.hid (((Blk.new w 62 #[.int .i64 a, .int .i64 b, .int .i64 c, .int .i64 d]).alloc (.cells #[.int .i64 p, .int .i64 q, .int .i64 r, .int .i64 t] 62)).below hb)
  have bj := Lib.hid ((Blk.new (w.alloc (.cells #[.int .i64 a, .int .i64 b, .int .i64 c, .int .i64 d] 62)) 62 #[.int .i64 p, .int .i64 q, .int .i64 r, .int .i64 t]).below hb)
  rw [World.size_alloc] at bj
  have HB := Lib.hid (bthen (b2all w _ _) hb)
  have H2 := Lib.hid (H.out.below hb)
  obtain ⟨k0, k1, k2, k3⟩ := bk.out.c4
  clear hb H HM
  go_wp2_with fail
  refine (HPo.out _).mono ?_
  rintro e w3 ⟨rfl, hb⟩
  have bj3 := Lib.hid (bj.out.below hb)
  have HB3 := Lib.hid (bthen HB.out hb)
  have H3 := Lib.hid (H2.out.below hb)
  obtain ⟨j0, j1, j2, j3⟩ := bj3.out.c4
  clear hb HB H2 bk bj k0 k1 k2 k3 HPo
  go_wp2_with fail
  refine (HPx.out _).mono ?_
  rintro e w4 ⟨rfl, hb⟩
  have HB4 := Lib.hid (bthen HB3.out hb)
  have H4 := Lib.hid (H3.out.below hb)
  clear hb HB3 H3 bj3 j0 j1 j2 j3 HPx
  have c0 := H4.out.ptr
  go_upto_region 5 with fail
  by_cases hh : l.getD (2 * i) 0 = no
  · have hbt : bb = true := by rw [Hbb.out]; simpa using hh
    subst hbt
    have HC := Lib.hid (cas_yes (H4.out.drewN 1).cl (2 * i) (by omega) no nx hh)
    have HF := Lib.hid ((H4.out.drewN 1).set (2 * i) nx rx)
    have HK := Lib.hid (((Keep.of_below (bs := [gn]) HB4.out).drewN 1).setCell (p := ⟨gn, 2 * i, none⟩) (.inl (by simp)) (.int .u64 nx))
    clear hh Hbb
    go_region_held3 (fun W => W.cell? ⟨gp, 0, none⟩ = some (.pointer (some ⟨gc, 0, none⟩)))
      (first | go_keep | assumption | (exact (World.cell?_setCell_other _ _ _ _ (by simp <;> omega)).trans c0))
      (first
        | (go_at_call 62; refine (wordCell_any i (by omega) _).mono ?_; rintro e w' ⟨rfl, rfl⟩)
        | (go_at_call 64; refine (HC.out).mono ?_; rintro e w' ⟨rfl, hw⟩))
    all_goals trace_state
    all_goals
      first | subst hw | skip
      generalize (w4.drewN 1).setCell ⟨gn, 2 * i, none⟩ (Value.int IntKind.u64 nx) = w9 at *
      go_wp2
      go_ret
      exact ⟨rfl, by simpa using HF.out, HK.out⟩
  · have hbt : bb = false := by rw [Hbb.out]; simpa using hh
    subst hbt
    have HC := Lib.hid (cas_miss (H4.out.drewN 1).cl (2 * i) (by omega) no nx hh)
    have HF := Lib.hid (H4.out.drewN 1)
    have HK := Lib.hid ((Keep.of_below (bs := [gn]) HB4.out).drewN 1)
    clear hh Hbb
    go_region_held3 (fun W => W.cell? ⟨gp, 0, none⟩ = some (.pointer (some ⟨gc, 0, none⟩)))
      (first | go_keep | assumption | (exact (World.cell?_setCell_other _ _ _ _ (by simp <;> omega)).trans c0))
      (first
        | (go_at_call 62; refine (wordCell_any i (by omega) _).mono ?_; rintro e w' ⟨rfl, rfl⟩)
        | (go_at_call 64; refine (HC.out).mono ?_; rintro e w' ⟨rfl, rfl⟩))
    all_goals
      go_wp2
      go_ret
      exact ⟨rfl, by simpa using HF.out, HK.out⟩
end
end Go.Proofs.Ytpiobdbaljkkpaa
