/-
  Package place: May. Conditions stand in each theorem.
-/
import Derived.Test.YtpiobdbaljkkpaaPlB
namespace Go.Proofs.Ytpiobdbaljkkpaa
open Go.RowKit Plain
set_option linter.unusedVariables false
set_option maxRecDepth 100000
set_option linter.unusedSimpArgs false

def Wd.to (o : Wd) (s : Int) : Wd := ⟨s, o.gn, o.tr, o.sn⟩
def Wd.way (o x : Wd) : Bool :=
  if o.st = 0 then decide (x.st = 1) && decide (x.gn = (o.gn + 1) % 65536) else if o.st = 1 then decide (x = o.to 2) || decide (x = o.to 0)
  else if o.st = 2 then o.again x || decide (x = o.to 3) else decide (x = o.to 0)
def Wd.may (o x : Wd) : Bool := o.can && x.can && o.way x

theorem styW : Sty 62 4 := ⟨⟨_, Try.underlying62, rfl⟩, by unfold Siz; kernel_rfl⟩
theorem and_g0 (x : Int) (h0 : 0 ≤ x) (h1 : x ≤ 65536) : bits .and .i64 x 65535 = x % 65536 := by
  obtain ⟨a, rfl⟩ := Int.eq_ofNat_of_zero_le h0
  have ha : a < 2 ^ 64 := by omega
  show IntKind.i64.wrap ((BitVec.ofInt 64 (a : Int) &&& BitVec.ofInt 64 (65535 : Int)).toNat : Int) = _
  have e1 : (BitVec.ofInt 64 (a : Int)).toNat = a := by rw [BitVec.ofInt_natCast, BitVec.toNat_ofNat]; exact Nat.mod_eq_of_lt ha
  have e2 : (BitVec.ofInt 64 (65535 : Int)).toNat = 65535 := by decide
  have e3 : a &&& 65535 = a % 65536 := Nat.and_two_pow_sub_one_eq_mod a 16
  rw [BitVec.toNat_and, e1, e2, e3, IntKind.wrap_i64]
  omega
theorem and_g (x : Int) (h0 : 0 ≤ x) (h1 : x ≤ 65535) : bits .and .i64 (x + 1) 65535 = (x + 1) % 65536 := and_g0 _ (by omega) (by omega)

theorem Blk.c4 {w : World} {g : Nat} {t : TypeId} {x0 x1 x2 x3 : Value} (h : Blk w g t #[x0, x1, x2, x3]) : w.cell? ⟨g, 0, none⟩ = some x0 ∧ w.cell? ⟨g, 1, none⟩ = some x1 ∧ w.cell? ⟨g, 2, none⟩ = some x2 ∧ w.cell? ⟨g, 3, none⟩ = some x3 :=
  ⟨h.cell 0, h.cell 1, h.cell 2, h.cell 3⟩
set_option maxHeartbeats 4000000 in
theorem may_any (o x : Wd) (w : World) : Calls Try.prog 63 #[o.val, x.val] w fun e w' => e = .returned (.bool (o.may x)) ∧ Below w.heap.size w w' := by
  have hO := canBe_any o
  have hX := canBe_any x
  have hb2 := becomes_any o x 2
  have hb0 := becomes_any o x 0
  have hb3 := becomes_any o x 3
  have hag := seenAgain_any o x
  have hway : o.can = true → x.can = true → o.may x = o.way x := fun h1 h2 => by unfold Wd.may; rw [h1, h2]; rfl
  have hno1 : o.can = false → o.may x = false := fun h1 => by unfold Wd.may; rw [h1]; rfl
  have hno2 : x.can = false → o.may x = false := fun h1 => by unfold Wd.may; rw [h1, Bool.and_false]; rfl
  have hw' : o.way x = if o.st = 0 then decide (x.st = 1) && decide (x.gn = (o.gn + 1) % 65536) else if o.st = 1 then decide (x = ⟨2, o.gn, o.tr, o.sn⟩) || decide (x = ⟨0, o.gn, o.tr, o.sn⟩) else if o.st = 2 then o.again x || decide (x = ⟨3, o.gn, o.tr, o.sn⟩) else decide (x = ⟨0, o.gn, o.tr, o.sn⟩) := rfl
  have hgn : o.can = true → 0 ≤ o.gn ∧ o.gn ≤ 65535 := fun h => ((can_iff o).1 h).2.1
  generalize o.may x = m at *
  generalize o.way x = wy at *
  generalize o.again x = ag at *
  generalize o.can = oc at *
  generalize x.can = xc at *
  generalize decide (x = ⟨2, o.gn, o.tr, o.sn⟩) = t2 at *
  generalize decide (x = ⟨0, o.gn, o.tr, o.sn⟩) = t0 at *
  generalize decide (x = ⟨3, o.gn, o.tr, o.sn⟩) = t3 at *
  obtain ⟨a, b, c, d⟩ := o
  obtain ⟨p, q, r, t⟩ := x
  simp only [Wd.v4] at hO hX hb2 hb0 hb3 hag ⊢
  simp only at hw' hgn
  have HO := Lib.hid hO
  have HX := Lib.hid hX
  have H2 := Lib.hid hb2
  have H0 := Lib.hid hb0
  have H3 := Lib.hid hb3
  have HG := Lib.hid hag
  have HW := Lib.hid hway
  have HN1 := Lib.hid hno1
  have HN2 := Lib.hid hno2
  have HWY := Lib.hid hw'
  have HGN := Lib.hid hgn
  clear hO hX hb2 hb0 hb3 hag hway hno1 hno2 hw' hgn
  go_enter Try.func63, Try.ntmps63
  go_wp2_with fail
  refine (HO.out _).mono ?_
  rintro e w1 ⟨rfl, hb⟩
  have bk := Lib.hid (((Blk.new w 62 #[.int .i64 a, .int .i64 b, .int .i64 c, .int .i64 d]).alloc (.cells #[.int .i64 p, .int .i64 q, .int .i64 r, .int .i64 t] 62)).below hb)
  have bj := Lib.hid ((Blk.new (w.alloc (.cells #[.int .i64 a, .int .i64 b, .int .i64 c, .int .i64 d] 62)) 62 #[.int .i64 p, .int .i64 q, .int .i64 r, .int .i64 t]).below hb)
  rw [World.size_alloc] at bj
  have Hb := Lib.hid (bthen (b2all w _ _) hb)
  obtain ⟨k0, k1, k2, k3⟩ := bk.out.c4
  obtain ⟨j0, j1, j2, j3⟩ := bj.out.c4
  clear hb
  cases oc
  · obtain rfl := HN1.out rfl
    go_wp2
    go_ret
    exact ⟨rfl, Hb.out⟩
  have hbr := HGN.out rfl
  have HW1 := Lib.hid (HW.out rfl)
  clear HW HGN HN1
  go_wp2_with fail
  refine (HX.out _).mono ?_
  rintro e w2 ⟨rfl, hb⟩
  have bk2 := Lib.hid (bk.out.below hb)
  have bj2 := Lib.hid (bj.out.below hb)
  have Hb2 := Lib.hid (bthen Hb.out hb)
  clear hb bk bj Hb k0 k1 k2 k3 j0 j1 j2 j3
  obtain ⟨k0, k1, k2, k3⟩ := bk2.out.c4
  obtain ⟨j0, j1, j2, j3⟩ := bj2.out.c4
  cases xc
  · obtain rfl := HN2.out rfl
    go_wp2
    go_ret
    exact ⟨rfl, Hb2.out⟩
  obtain rfl := HW1.out rfl
  clear HW1 HN2
  have og := and_g b hbr.1 hbr.2
  by_cases c0 : a = 0
  · subst c0
    have hr : m = (decide (p = 1) && decide (q = (b + 1) % 65536)) := by rw [HWY.out, if_pos rfl]
    clear HWY
    by_cases e1 : p = 1
    · subst e1
      have Hr := Lib.hid hr
      clear hr
      go_wp2
      all_goals
        go_ret
        refine ⟨?_, Hb2.out⟩
        rw [Hr.out]
        simp [Bool.beq_eq_decide_eq]
    · have x1 : (p == 1) = false := by simpa using e1
      have Hr := Lib.hid hr
      clear hr
      go_wp2
      go_ret
      refine ⟨?_, Hb2.out⟩
      rw [Hr.out]
      simp [e1]
  have x0 : (a == 0) = false := by simpa using c0
  by_cases c1 : a = 1
  · subst c1
    have Hr := Lib.hid (show m = (t2 || t0) by rw [HWY.out, if_neg (by decide), if_pos rfl])
    clear HWY
    go_wp2_with fail
    refine (H2.out _).mono ?_
    rintro e w3 ⟨rfl, hb⟩
    have bk3 := Lib.hid (bk2.out.below hb)
    have bj3 := Lib.hid (bj2.out.below hb)
    have Hb3 := Lib.hid (bthen Hb2.out hb)
    clear hb k0 k1 k2 k3 j0 j1 j2 j3
    obtain ⟨k0, k1, k2, k3⟩ := bk3.out.c4
    obtain ⟨j0, j1, j2, j3⟩ := bj3.out.c4
    cases t2
    · go_wp2_with fail
      refine (H0.out _).mono ?_
      rintro e w4 ⟨rfl, hb⟩
      have Hb4 := Lib.hid (bthen Hb3.out hb)
      clear hb
      go_wp2
      go_ret
      exact ⟨by rw [Hr.out]; rfl, Hb4.out⟩
    · go_wp2
      go_ret
      exact ⟨by rw [Hr.out]; rfl, Hb3.out⟩
  have x1 : (a == 1) = false := by simpa using c1
  by_cases c2 : a = 2
  · subst c2
    have Hr := Lib.hid (show m = (ag || t3) by rw [HWY.out, if_neg (by decide), if_neg (by decide), if_pos rfl])
    clear HWY
    go_wp2_with fail
    refine (HG.out _).mono ?_
    rintro e w3 ⟨rfl, hb⟩
    have bk3 := Lib.hid (bk2.out.below hb)
    have bj3 := Lib.hid (bj2.out.below hb)
    have Hb3 := Lib.hid (bthen Hb2.out hb)
    clear hb k0 k1 k2 k3 j0 j1 j2 j3
    obtain ⟨k0, k1, k2, k3⟩ := bk3.out.c4
    obtain ⟨j0, j1, j2, j3⟩ := bj3.out.c4
    cases ag
    · go_wp2_with fail
      refine (H3.out _).mono ?_
      rintro e w4 ⟨rfl, hb⟩
      have Hb4 := Lib.hid (bthen Hb3.out hb)
      clear hb
      go_wp2
      go_ret
      exact ⟨by rw [Hr.out]; rfl, Hb4.out⟩
    · go_wp2
      go_ret
      exact ⟨by rw [Hr.out]; rfl, Hb3.out⟩
  have x2 : (a == 2) = false := by simpa using c2
  have Hr := Lib.hid (show m = t0 by rw [HWY.out, if_neg c0, if_neg c1, if_neg c2])
  clear HWY
  go_wp2_with fail
  refine (H0.out _).mono ?_
  rintro e w3 ⟨rfl, hb⟩
  have Hb3 := Lib.hid (bthen Hb2.out hb)
  clear hb k0 k1 k2 k3 j0 j1 j2 j3
  go_wp2
  go_ret
  exact ⟨by rw [Hr.out]; rfl, Hb3.out⟩
end Go.Proofs.Ytpiobdbaljkkpaa
