/-
  The reference's May (package place). Conditions stand in each theorem.
-/
import Derived.Test.YtpiobdbaljkkpaaPlM
import Derived.Test.YtpiobdbaljkkpaaPlR
namespace Go.Proofs.Ytpiobdbaljkkpaa
open Go.RowKit Plain
set_option linter.unusedVariables false
set_option maxRecDepth 100000
set_option linter.unusedSimpArgs false

def Wd.rway (o x : Wd) : Bool :=
  if o.st = 0 then decide (x.st = 1) && decide (x.gn = (o.gn + 1) % 65536) else if o.st = 1 then (decide (x.st = 2) || decide (x.st = 0)) && decide (x = o.to x.st)
  else if o.st = 2 then o.again x || (decide (x.st = 3) && decide (x = o.to x.st)) else decide (x.st = 0) && decide (x = o.to x.st)
theorem to_at (o x : Wd) (s : Int) : (decide (x.st = s) && decide (x = o.to x.st)) = decide (x = o.to s) := by
  by_cases h : x.st = s
  · simp [h]
  · have : ¬ x = o.to s := fun e => h (by rw [e]; rfl)
    simp [h, this]
theorem rway_eq (o x : Wd) : o.rway x = o.way x := by
  unfold Wd.rway Wd.way
  rw [Bool.and_or_distrib_right, to_at, to_at, to_at]

set_option maxHeartbeats 4000000 in
theorem rmay_any (o x : Wd) (w : World) : Calls Try.prog 31 #[o.val, x.val] w fun e w' => e = .returned (.bool (o.may x)) ∧ Below w.heap.size w w' := by
  have hO := rright_any o
  have hX := rright_any x
  have hway : o.can = true → x.can = true → o.may x = o.rway x := fun h1 h2 => by rw [rway_eq]; unfold Wd.may; rw [h1, h2]; rfl
  have hno1 : o.can = false → o.may x = false := fun h1 => by unfold Wd.may; rw [h1]; rfl
  have hno2 : x.can = false → o.may x = false := fun h1 => by unfold Wd.may; rw [h1, Bool.and_false]; rfl
  have hgn : o.can = true → 0 ≤ o.gn ∧ o.gn ≤ 65535 := fun h => ((can_iff o).1 h).2.1
  generalize o.may x = m at *
  generalize o.can = oc at *
  generalize x.can = xc at *
  obtain ⟨a, b, c, d⟩ := o
  obtain ⟨p, q, r, t⟩ := x
  simp only [Wd.v4] at hO hX ⊢
  simp only at hgn
  have HO := Lib.hid hO
  have HX := Lib.hid hX
  have HW := Lib.hid hway
  have HN1 := Lib.hid hno1
  have HN2 := Lib.hid hno2
  have HGN := Lib.hid hgn
  clear hO hX hway hno1 hno2 hgn
  go_enter Try.func31, Try.ntmps31
  go_wp2_with fail
  refine (HO.out _).mono ?_
  rintro e w1 ⟨rfl, hb⟩
  have bk := Lib.hid (((Blk.new w 78 #[.int .i64 a, .int .i64 b, .int .i64 c, .int .i64 d]).alloc (.cells #[.int .i64 p, .int .i64 q, .int .i64 r, .int .i64 t] 78)).below hb)
  have bj := Lib.hid ((Blk.new (w.alloc (.cells #[.int .i64 a, .int .i64 b, .int .i64 c, .int .i64 d] 78)) 78 #[.int .i64 p, .int .i64 q, .int .i64 r, .int .i64 t]).below hb)
  rw [World.size_alloc] at bj
  have Hb := Lib.hid (bthen (b2all w _ _) hb)
  obtain ⟨k0, k1, k2, k3⟩ := bk.out.c4
  obtain ⟨j0, j1, j2, j3⟩ := bj.out.c4
  clear hb
  cases oc
  · obtain rfl := HN1.out rfl
    go_wp2
    go_ret
    exact ⟨rfl, Hb.out⟩
  have hbr := HGN.out rfl
  have HW1 := Lib.hid (HW.out rfl)
  clear HW HGN HN1
  go_wp2_with fail
  refine (HX.out _).mono ?_
  rintro e w2 ⟨rfl, hb⟩
  have bk2 := Lib.hid (bk.out.below hb)
  have bj2 := Lib.hid (bj.out.below hb)
  have Hb2 := Lib.hid (bthen Hb.out hb)
  have hlt1 : w.heap.size < w2.heap.size := bk2.out.lt
  have hlt2 : w.heap.size + 1 < w2.heap.size := bj2.out.lt
  clear hb bk bj Hb k0 k1 k2 k3 j0 j1 j2 j3 HO HX
  obtain ⟨k0, k1, k2, k3⟩ := bk2.out.c4
  obtain ⟨j0, j1, j2, j3⟩ := bj2.out.c4
  cases xc
  · obtain rfl := HN2.out rfl
    go_wp2
    go_ret
    exact ⟨rfl, Hb2.out⟩
  have hr := HW1.out rfl
  clear HW1 HN2 bk2 bj2
  simp only [Wd.rway, Wd.to, Wd.again] at hr
  by_cases c0 : a = 0
  · subst c0
    by_cases e1 : p = 1
    · subst e1
      have Hr := Lib.hid hr
      clear hr
      go_wp2
      all_goals
        go_ret
        refine ⟨?_, Hb2.out.alloc Hb2.out.size _⟩
        rw [Hr.out]
        simp [*, Bool.beq_eq_decide_eq]
    · have x1 : (p == 1) = false := by simpa using e1
      have Hr := Lib.hid hr
      clear hr
      go_wp2
      go_ret
      refine ⟨?_, Hb2.out.alloc Hb2.out.size _⟩
      rw [Hr.out]
      simp [e1]
  have x0 : (a == 0) = false := by simpa using c0
  by_cases c1 : a = 1
  · subst c1
    by_cases e1 : p = 2
    · subst e1
      have Hr := Lib.hid hr
      clear hr
      go_wp2
      all_goals
        go_ret
        refine ⟨?_, Hb2.out.alloc Hb2.out.size _⟩
        rw [Hr.out]
        simp [*]
    · have y1 : (p == 2) = false := by simpa using e1
      by_cases e2 : p = 0
      · subst e2
        have Hr := Lib.hid hr
        clear hr
        go_wp2
        all_goals
          go_ret
          refine ⟨?_, Hb2.out.alloc Hb2.out.size _⟩
          rw [Hr.out]
          simp [*]
      · have y2 : (p == 0) = false := by simpa using e2
        have Hr := Lib.hid hr
        clear hr
        go_wp2
        go_ret
        refine ⟨?_, Hb2.out.alloc Hb2.out.size _⟩
        rw [Hr.out]
        simp [e1, e2]
  have x1 : (a == 1) = false := by simpa using c1
  by_cases c2 : a = 2
  · subst c2
    by_cases e1 : p = 2
    · subst e1
      by_cases e2 : q = b
      · subst e2
        by_cases e3 : d ≤ t
        · have y3 : decide (d ≤ t) = true := by simpa using e3
          have Hr := Lib.hid hr
          clear hr
          go_wp2
          go_ret
          refine ⟨?_, Hb2.out.alloc Hb2.out.size _⟩
          rw [Hr.out]
          simp [e3]
        · have y3 : decide (d ≤ t) = false := by simpa using e3
          have Hr := Lib.hid hr
          clear hr
          go_wp2
          go_ret
          refine ⟨?_, Hb2.out.alloc Hb2.out.size _⟩
          rw [Hr.out]
          simp [e3]
      · have y2 : (q == b) = false := by simpa using e2
        have Hr := Lib.hid hr
        clear hr
        go_wp2
        go_ret
        refine ⟨?_, Hb2.out.alloc Hb2.out.size _⟩
        rw [Hr.out]
        simp [e2]
    · have y1 : (p == 2) = false := by simpa using e1
      by_cases e2 : p = 3
      · subst e2
        have Hr := Lib.hid hr
        clear hr
        go_wp2
        all_goals
          go_ret
          refine ⟨?_, Hb2.out.alloc Hb2.out.size _⟩
          rw [Hr.out]
          simp [*]
      · have y2 : (p == 3) = false := by simpa using e2
        have Hr := Lib.hid hr
        clear hr
        go_wp2
        go_ret
        refine ⟨?_, Hb2.out.alloc Hb2.out.size _⟩
        rw [Hr.out]
        simp [e1, e2]
  have x2 : (a == 2) = false := by simpa using c2
  by_cases e1 : p = 0
  · subst e1
    have Hr := Lib.hid hr
    clear hr
    go_wp2
    all_goals
      go_ret
      refine ⟨?_, Hb2.out.alloc Hb2.out.size _⟩
      rw [Hr.out]
      simp [*]
  · have y1 : (p == 0) = false := by simpa using e1
    have Hr := Lib.hid hr
    clear hr
    go_wp2
    go_ret
    refine ⟨?_, Hb2.out.alloc Hb2.out.size _⟩
    rw [Hr.out]
    simp [c0, c1, c2, e1]
end Go.Proofs.Ytpiobdbaljkkpaa
