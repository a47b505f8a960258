/-
  EpochPinned: while a worker is pinned at an epoch the world goes on by one at most. Conditions stand in each theorem.
-/
import Derived.Test.YtkiiofaemladcaaEpochRests
import Derived.Deep.CutBlock
namespace Go.Proofs.Ytkiiofaemladcaa
open Go.RowKit Go.Deep Plain
set_option linter.unusedVariables false
set_option maxRecDepth 100000

def PStep (a n : Nat) (s : Sv) : Prop :=
  s.nx = 0 ∨ (s.nx = 4 ∧ s.ce = 1) ∨ (s.nx = 5 ∧ s.ce = 1 ∧ (s.ep = a ∨ s.ep = (a : Int) + 1)) ∨ (s.nx = 5 ∧ 2 ≤ s.ce ∧ s.ce ≤ n ∧ s.ep = a) ∨ (s.nx = 6 ∧ s.ep = a) ∨ (s.nx = 1 ∧ 2 ≤ s.ce ∧ s.ce ≤ n) ∨ ((s.nx = 2 ∨ s.nx = 3) ∧ 2 ≤ s.ce ∧ s.ce ≤ n ∧ (s.ep = a ∨ s.ep = (a : Int) + 1))
def PinI (a n : Nat) (l : List Int) : Prop := l.length = n + 1 ∧ (l.getD 0 0 = a ∨ l.getD 0 0 = (a : Int) + 1) ∧ l.getD 1 0 = (a : Int) + 1
theorem PStep.ok {a n : Nat} {s : Sv} (h : PStep a n s) (h2 : 2 ≤ n) : SvOk n s := by
  unfold PStep at h
  unfold SvOk
  omega
theorem getS (l : List Int) (i j : Nat) (v : Int) (hi : i < l.length) : (l.set i v).getD j 0 = if j = i then v else l.getD j 0 := by
  by_cases e : j = i
  · subst e; simp [List.getD, hi]
  · rw [if_neg e]; simp [List.getD, Ne.symm e]
theorem PinI.set {a n i : Nat} {l : List Int} (h : PinI a n l) (hi : 2 ≤ i) (hn : i ≤ n) (v : Int) : PinI a n (l.set i v) :=
  ⟨by rw [List.length_set]; exact h.1, by rw [getS _ _ _ _ (by rw [h.1]; omega), if_neg (by omega)]; exact h.2.1, by rw [getS _ _ _ _ (by rw [h.1]; omega), if_neg (by omega)]; exact h.2.2⟩
theorem m64_up {a : Nat} (ha : a ≤ 10) : m64 ((a : Int) + 1) = (a : Int) + 1 := by unfold m64; omega
theorem pin_step {a n : Nat} {l : List Int} {s : Sv} (h : PinI a n l) (hs : PStep a n s) (h2 : 2 ≤ n) (ha : a ≤ 10) : PinI a n (stp n l s).1 ∧ PStep a n (stp n l s).2 := by
  obtain ⟨nx, ep, ce, won⟩ := s
  have hm := m64_up ha
  obtain ⟨hl, hx, hp⟩ := h
  unfold PStep at hs
  simp only at hs
  rcases hs with rfl | ⟨rfl, rfl⟩ | ⟨rfl, rfl, he⟩ | ⟨rfl, c1, c2, rfl⟩ | ⟨rfl, rfl⟩ | ⟨rfl, c1, c2⟩ | ⟨rfl | rfl, c1, c2, he⟩
  · exact ⟨⟨hl, hx, hp⟩, .inl rfl⟩
  · exact ⟨⟨hl, hx, hp⟩, .inr (.inr (.inl ⟨rfl, rfl, hx⟩))⟩
  · unfold stp
    simp only [stepF]
    by_cases hk : l.getD 1 0 ≠ 0 ∧ l.getD 1 0 ≠ m64 (ep + 1)
    · rw [if_pos hk]
      exact ⟨⟨hl, hx, hp⟩, .inl rfl⟩
    · rw [if_neg hk, if_neg (by omega)]
      refine ⟨⟨hl, hx, hp⟩, .inr (.inr (.inr (.inl ⟨rfl, Nat.le_refl 2, h2, ?_⟩)))⟩
      rw [hp] at hk
      rcases he with e | e
      · exact e
      · exfalso
        apply hk
        rw [e]
        refine ⟨by omega, ?_⟩
        unfold m64; omega
  · unfold stp
    simp only [stepF]
    by_cases hk : l.getD ce 0 ≠ 0 ∧ l.getD ce 0 ≠ m64 ((a : Int) + 1)
    · rw [if_pos hk]
      exact ⟨⟨hl, hx, hp⟩, .inl rfl⟩
    · rw [if_neg hk]
      by_cases e : n + 1 ≤ ce + 1
      · rw [if_pos e]
        exact ⟨⟨hl, hx, hp⟩, .inr (.inr (.inr (.inr (.inl ⟨rfl, rfl⟩))))⟩
      · rw [if_neg e]
        exact ⟨⟨hl, hx, hp⟩, .inr (.inr (.inr (.inl ⟨rfl, by show 2 ≤ ce + 1; omega, by show ce + 1 ≤ n; omega, rfl⟩)))⟩
  · unfold stp
    simp only [stepF]
    by_cases e : l.getD 0 0 = (a : Int)
    · rw [if_pos e]
      refine ⟨⟨by rw [List.length_set]; exact hl, .inr ?_, ?_⟩, .inl rfl⟩
      · rw [getS _ _ _ _ (by omega), if_pos rfl, hm]
      · rw [getS _ _ _ _ (by omega), if_neg (by omega)]; exact hp
    · rw [if_neg e]
      exact ⟨⟨hl, hx, hp⟩, .inl rfl⟩
  · exact ⟨⟨hl, hx, hp⟩, .inr (.inr (.inr (.inr (.inr (.inr ⟨.inl rfl, c1, c2, hx⟩)))))⟩
  · exact ⟨PinI.set ⟨hl, hx, hp⟩ c1 c2 _, .inr (.inr (.inr (.inr (.inr (.inr ⟨.inr rfl, c1, c2, he⟩)))))⟩
  · unfold stp
    simp only [stepF]
    by_cases e : l.getD 0 0 = ep
    · rw [if_pos e]; exact ⟨⟨hl, hx, hp⟩, .inl rfl⟩
    · rw [if_neg e]; exact ⟨⟨hl, hx, hp⟩, .inr (.inr (.inr (.inr (.inr (.inl ⟨rfl, c1, c2⟩)))))⟩

theorem Sts.putN {w : World} {gl gc n : Nat} {P : Nat → Option Nat} {S : Nat → Sv} (h : Sts w gl gc n P S) {i : Nat} (hi : i < n) (s : Sv) : Sts (w.setCell ⟨gl, i, none⟩ (.pointer none)) gl gc n (upE P i none) (upE S i s) :=
  h.put hi none s (fun b hb => by cases hb)
theorem Sts.atN {w : World} {gl gc n : Nat} {P : Nat → Option Nat} {S : Nat → Sv} (h : Sts w gl gc n P S) {i : Nat} (hi : i < n) (hp : P i = none) : w.cell? ⟨gl, i, none⟩ = some (.pointer none) := by
  have := h.cell i hi
  rw [hp] at this
  exact this
theorem Sts.unpin {w w' : World} {gl ge gc gn gg n m : Nat} {P : Nat → Option Nat} {S : Nat → Sv} {l : List Int} (h : Sts w gl gc m P S) (he : EpB w ge gc gn gg n l) (hk : Keep [gn] w w') : Sts w' gl gc m P S := by
  obtain ⟨cs, hb⟩ := h.bl
  refine h.keep hk ?_ (fun i g hi hp => ?_)
  · simpa using blk_types hb he.cl.nu (by decide)
  · simpa using blk_types (h.st i g hi hp) he.cl.nu (by decide)
theorem Keep.one1 {w w' w0 : World} {B a : Nat} (hk : Keep [a] w w') (hb : Below B w0 w) (h0 : B ≤ w0.heap.size) (h1 : B ≤ a) : Below B w0 w' :=
  hk.below hb h0 (by simpa using h1)
theorem pinned0 {w : World} {ge gc gn gg n : Nat} {l : List Int} (h : EpB w ge gc gn gg n l) (h0 : 0 < n) (a : Nat) (hx : l.getD 1 0 = (a : Int) + 1) (ha : a ≤ 1000) :
    Calls Try.prog 14 #[.pointer (some ⟨ge, 0, none⟩), .int .i64 0] w fun e w' => e = .returned (.int .i64 a) ∧ ∃ q, w' = w.drewN q := by
  have hh := ePinned_any h 0 h0 (a + 1) (by rw [hx]; omega) (by omega)
  rw [show (((a + 1 : Nat) : Int) - 1) = (a : Int) by omega] at hh
  exact hh

/-- while 0 is pinned at a -/
def PinR (w : World) (ge gc gn gg gl n a : Nat) (wr : World) : Prop :=
  ∃ (l : List Int) (P : Nat → Option Nat) (S : Nat → Sv), EpB wr ge gc gn gg n l ∧ Sts wr gl gc n P S ∧ Below w.heap.size w wr ∧ PinI a n l ∧ ∀ k g, P k = some g → w.heap.size ≤ g ∧ PStep a n (S k)
/-- one goes on -/
def OneR (w : World) (ge gc gn gg gl n a K : Nat) (wr : World) : Prop :=
  ∃ (l : List Int) (P : Nat → Option Nat) (S : Nat → Sv), EpB wr ge gc gn gg n l ∧ Sts wr gl gc n P S ∧ Below w.heap.size w wr ∧ PinI a n l ∧ (∀ k g, P k = some g → w.heap.size ≤ g ∧ PStep a n (S k)) ∧ ∃ g, P K = some g
/-- a Pin of 0 that goes on alone -/
def pinS (a t : Nat) : Sv := if t = 0 then ⟨1, 0, 1, false⟩ else if t = 1 then ⟨2, a, 1, false⟩ else if t = 2 then ⟨3, a, 1, false⟩ else ⟨0, a, 1, false⟩
def pinL (n a t : Nat) : List Int := if t < 2 then l1 n a else (l1 n a).set 1 ((a : Int) + 1)
theorem pinL_0 (n a t : Nat) : (pinL n a t).getD 0 0 = (a : Int) := by
  unfold pinL l1
  split <;> simp [List.getD]
theorem pinL_1 (n a t : Nat) (h1 : 1 ≤ n) (ht : 2 ≤ t) : (pinL n a t).getD 1 0 = (a : Int) + 1 := by
  unfold pinL l1
  rw [if_neg (by omega)]
  obtain ⟨k, rfl⟩ : ∃ k, n = k + 1 := ⟨n - 1, by omega⟩
  simp [List.getD, List.replicate_succ]
theorem pinL_len (n a t : Nat) : (pinL n a t).length = n + 1 := by
  unfold pinL l1
  split <;> simp
theorem pinS_do {w : World} {ge gc gn gg n gs a : Nat} (t : Nat) (ht : t ≤ 2) (hn : 1 ≤ n) (h : EpB w ge gc gn gg n (pinL n a t)) (hs : StV w gs gc (pinS a t)) (ha : a ≤ 10) :
    Calls Try.prog 19 #[.pointer (some ⟨ge, 0, none⟩), .pointer (some ⟨gs, 0, none⟩)] w fun e w' => e = .returned (.bool (t == 2)) ∧ EpB w' ge gc gn gg n (pinL n a (t + 1)) ∧ StV w' gs gc (pinS a (t + 1)) ∧ Keep [gn, gs] w w' := by
  have hm := m64_up ha
  rcases (show t = 0 ∨ t = 1 ∨ t = 2 by omega) with rfl | rfl | rfl
  · have hd := stp_t h hs ⟨show (1 : Nat) ≤ 6 by omega, fun _ => by show 1 < n + 1; omega⟩
    have e : stp n (pinL n a 0) (pinS a 0) = (pinL n a 1, pinS a 1) := by
      show ((pinL n a 0), Sv.mk 2 ((pinL n a 0).getD 0 0) 1 false) = (pinL n a 1, pinS a 1)
      rw [pinL_0]; rfl
    rw [e] at hd
    exact hd
  · have hd := stp_t h hs ⟨show (2 : Nat) ≤ 6 by omega, fun _ => by show 1 < n + 1; omega⟩
    have e : stp n (pinL n a 1) (pinS a 1) = (pinL n a 2, pinS a 2) := by
      show ((pinL n a 1).set 1 (m64 ((a : Int) + 1)), Sv.mk 3 (a : Int) 1 false) = (pinL n a 2, pinS a 2)
      rw [hm]; rfl
    rw [e] at hd
    exact hd
  · have hd := stp_t h hs ⟨show (3 : Nat) ≤ 6 by omega, fun _ => by show 1 < n + 1; omega⟩
    have e : stp n (pinL n a 2) (pinS a 2) = (pinL n a 3, pinS a 3) := by
      unfold stp
      simp only [show pinS a 2 = ⟨3, (a : Int), 1, false⟩ from rfl, stepF]
      rw [if_pos (pinL_0 n a 2)]
      rfl
    rw [e] at hd
    exact hd
def PnR (w : World) (ge gc gn gg n gs a t : Nat) (wt : World) : Prop :=
  t ≤ 2 ∧ EpB wt ge gc gn gg n (pinL n a t) ∧ StV wt gs gc (pinS a t) ∧ Below w.heap.size w wt
/-- an Advance goes on alone -/
def GoR (w : World) (ge gc gn gg n gs x t : Nat) (l : List Int) (wt : World) : Prop :=
  t ≤ n + 1 ∧ EpB wt ge gc gn gg n l ∧ StV wt gs gc (adv n x t) ∧ Below w.heap.size w wt

def UnR (w : World) (ge gc gn gg n x k : Nat) (wt : World) : Prop :=
  1 ≤ k ∧ k ≤ n ∧ ∃ l : List Int, EpB wt ge gc gn gg n l ∧ Below w.heap.size w wt ∧ l.getD 0 0 = (x : Int) ∧ ∀ j, 1 ≤ j → j ≤ k → l.getD j 0 = 0
set_option maxHeartbeats 80000000 in
theorem epochPinned_walk (n0 h0 : Int) (A : Option Addr) (nz cz : Nat) (zs : List Int) (w : World) (hz : zs.length = nz) (hnc : nz ≤ cz) (hm : cz ≤ maxLen) (hR : RdN .i64 w A zs) :
    Calls Try.prog 5 #[.int .i64 n0, .int .i64 h0, .slice A nz cz] w fun e w' => e = .returned (.bool true) ∧ Below w.heap.size w w' := by
  have HM := Lib.hid hm
  unfold maxLen at hm
  have HZ := Lib.hid hz
  have HR := Lib.hid hR
  clear hz hR
  obtain ⟨K, hK, hKl⟩ := pickN n0 6 (by omega) (by omega)
  obtain ⟨a, hKa, hal⟩ := pickN h0 5 (by omega) (by omega)
  go_enter Try.func5, Try.ntmps5
  go_upto_region 2 with fail
  obtain ⟨n, hn⟩ : ∃ n : Nat, (n : Int) = 2 + (K : Int) := ⟨K + 2, by omega⟩
  rw [← hn]
  have hn1 : 2 ≤ n := by omega
  have hn2 : n ≤ 8 := by omega
  have ha4 : a ≤ 4 := by omega
  clear hK hn hKl hal
  go_upto_region 3 with (go_at_call 21; refine (eNew_any n (by omega) (by omega) w).mono ?_; rintro e w1 ⟨ge, gc, gn, gg, rfl, he, hbg, hB, s1, s2, s3, s4⟩)
  have HE := Lib.hid he
  have HB := Lib.hid hB
  have z1 := hB.size
  clear he hbg hB
  go_upto_region 5 with (go_at_call 12; refine (moves_any _).mono ?_; rintro e w2 ⟨rfl, hb⟩)
  have HE2 := Lib.hid (HE.out.below hb)
  have HB2 := Lib.hid (HB.out.trans (hb.mono z1))
  have z2 := HB2.out.size
  clear HE HB hb z1
  go_wp2
  go_loopw [10, 11, 12] (fun s10 s11 s12 wr => ∃ i : Nat, s10 = .int .i64 i ∧ i ≤ a ∧ EpB wr ge gc gn gg n (l1 n i) ∧ Below w.heap.size w wr) (fun i _ _ _ => a - (intOf i).toNat)
  case atStart => exact ⟨0, rfl, by omega, HE2.out, HB2.out⟩
  case round =>
    obtain ⟨i, rfl, hi, he, hB⟩ := hrel
    have HE := Lib.hid he
    have HB := Lib.hid hB
    have z3 := hB.size
    clear he hB HE2 HB2
    by_cases hlt : i < a
    · have dia : decide ((i : Int) < (a : Int)) = true := decide_eq_true (by omega)
      go_upto_region 9 with (go_at_call 26; refine (eAdvance_any HE.out).mono ?_; rintro e w5 ⟨rfl, hs, hb⟩)
      have HE3 := Lib.hid (HE.out.below hb)
      have HB3 := Lib.hid (HB.out.trans (hb.mono z3))
      have HS3 := Lib.hid (show StV w5 wr.heap.size gc (adv n i 0) from hs)
      clear hs hb HE HB
      generalize wr.heap.size = gs at *
      go_wp2
      go_loopw [12] (fun s12 wt => ∃ t : Nat, s12 = .int .i64 t ∧ GoR w ge gc gn gg n gs i t (l1 n i) wt) (fun t _ => n + 2 - (intOf t).toNat)
      case atStart => exact ⟨0, rfl, by omega, HE3.out, HS3.out, HB3.out⟩
      case round =>
        obtain ⟨t, rfl, ht, he, hs, hB⟩ := hrel
        have HE := Lib.hid he
        have HS := Lib.hid hs
        have HB := Lib.hid hB
        have HL := Lib.hid (show ∀ k, 1 ≤ k → k ≤ n → (l1 n i).getD k 0 = 0 ∨ (l1 n i).getD k 0 = m64 ((i : Int) + 1) from fun k h1 h2 => .inl (l1_at n i k h1))
        clear he hs hB HE3 HS3 HB3
        have t5 : (t : Int) < (n : Int) + 5 := by omega
        by_cases h1 : t ≤ n
        · go_wp2_with (go_at_call 19; refine (adv_do HE.out t HS.out rfl HL.out h1).mono ?_; rintro e w6 ⟨rfl, he4, hs4, hk4⟩)
          have HB4 := Lib.hid (hk4.two HB.out (Nat.le_refl _) s3 z3)
          go_roundw
          case rel => exact ⟨t + 1, by go_num, by omega, he4, hs4, HB4.out⟩
          case measure => simp [intOf]; omega
        · obtain rfl : t = n + 1 := by omega
          go_wp2_with (go_at_call 19; refine (adv_fin HE.out HS.out rfl).mono ?_; rintro e w6 ⟨rfl, he4, hs4, hk4⟩)
          have HB4 := Lib.hid (hk4.two HB.out (Nat.le_refl _) s3 z3)
          have el : (l1 n i).set 0 (m64 ((i : Int) + 1)) = l1 n (i + 1) := by
            have e : m64 ((i : Int) + 1) = ((i + 1 : Nat) : Int) := by unfold m64; omega
            rw [e]; rfl
          rw [el] at he4
          go_roundw
          case rel => exact ⟨i + 1, by go_num, by omega, he4, HB4.out⟩
          case measure => simp [intOf]; omega
    · have HIA := Lib.hid (show l1 n i = l1 n a by rw [show i = a by omega])
      have HEA := Lib.hid (show EpB wr ge gc gn gg n (l1 n a) by rw [← HIA.out]; exact HE.out)
      clear HIA HE
      go_upto_region 13 with (go_at_call 24; refine (ePin_any HEA.out 0 (by omega)).mono ?_; rintro e w5 ⟨rfl, hs, hb⟩)
      have HE3 := Lib.hid (HEA.out.below hb)
      have HB3 := Lib.hid (HB.out.trans (hb.mono z3))
      have HS3 := Lib.hid (show StV w5 wr.heap.size gc (pinS a 0) from hs)
      clear hs hb HEA HB hKa
      generalize wr.heap.size = gs at *
      go_wp2
      go_loopw [14] (fun s14 wt => ∃ t : Nat, s14 = .int .i64 t ∧ PnR w ge gc gn gg n gs a t wt) (fun t _ => 3 - (intOf t).toNat)
      case atStart => exact ⟨0, rfl, by omega, HE3.out, HS3.out, HB3.out⟩
      case round =>
        obtain ⟨t, rfl, ht, he, hs, hB⟩ := hrel
        have HE := Lib.hid he
        have HS := Lib.hid hs
        have HB := Lib.hid hB
        have z5 := hB.size
        have HD := Lib.hid (pinS_do t ht (by omega) he hs (by omega))
        clear he hs hB HE3 HS3 HB3
        by_cases h1 : t < 2
        · have e0 : (t == 2) = false := by simp; omega
          have HD2 := Lib.hid (by have h := HD.out; simp only [e0] at h; exact h)
          clear HD e0
          go_wp2_with (go_at_call 19; refine (HD2.out).mono ?_; rintro e w6 ⟨rfl, he4, hs4, hk4⟩)
          have HB4 := Lib.hid (hk4.two HB.out (Nat.le_refl _) s3 z3)
          go_roundw
          case rel => exact ⟨t + 1, by go_num, by omega, he4, hs4, HB4.out⟩
          case measure => simp [intOf]; omega
        · obtain rfl : t = 2 := by omega
          have HD2 := Lib.hid (by have h := HD.out; simp only [beq_self_eq_true] at h; exact h)
          clear HD
          go_upto_region 16 with (go_at_call 19; refine (HD2.out).mono ?_; rintro e w6 ⟨rfl, he4, hs4, hk4⟩)
          have HB4 := Lib.hid (hk4.two HB.out (Nat.le_refl _) s3 z3)
          have HE4 := Lib.hid he4
          have hl0 : (pinL n a 3).getD 0 0 = (a : Int) := pinL_0 n a 3
          have hl1 : (pinL n a 3).getD 1 0 = (a : Int) + 1 := pinL_1 n a 3 (by omega) (by omega)
          have HL0 := Lib.hid hl0
          have HL1 := Lib.hid hl1
          clear he4 hs4 hk4 HE HS HB HD2 hl0 hl1
          go_upto_region 19 with (first | (go_at_call 13; refine (eNow_any HE4.out a HL0.out (by omega)).mono ?_; rintro e w7 ⟨rfl, rfl⟩) | (go_at_call 14; refine (pinned0 HE4.out (by omega) a HL1.out (by omega)).mono ?_; rintro e w7 ⟨rfl, q, rfl⟩))
          have HE5 := Lib.hid (HE4.out.drewN q)
          have HB5 := Lib.hid (below_drewN HB4.out q)
          have z6 := HB5.out.size
          clear HE4 HB4 z3 z5
          generalize w6.drewN q = w7 at *
          have hmk := run_mkS n (by omega) w7
          go_upto_region 20 with fail
          clear hmk
          have er : (List.replicate n (Value.pointer none)).toArray = Array.replicate n (Value.pointer none) := by simp
          have HS6 := Lib.hid (Sts.made gc n w7 ⟨0, 0, 0, false⟩)
          have HE6 := Lib.hid (HE5.out.below (ball w7 (.cells (List.replicate n (Value.pointer none)).toArray 24)))
          have HB6 := Lib.hid (HB5.out.trans ((ball w7 (.cells (List.replicate n (Value.pointer none)).toArray 24)).mono z6))
          rw [er] at HS6 HE6 HB6
          clear HE5 HB5 er
          generalize w7.alloc (.cells (Array.replicate n (Value.pointer none)) 24) = w8 at *
          generalize w7.heap.size = gl at *
          have HPR := Lib.hid (show PinR w ge gc gn gg gl n a w8 from ⟨_, _, _, HE6.out, HS6.out, HB6.out, ⟨pinL_len n a 3, .inl HL0.out, HL1.out⟩, by simp⟩)
          have zgl := z6
          clear HE6 HS6 HB6 HL0 HL1 z6
          go_wp2
          go_loopw [17, 18] (fun s17 s18 wr => ∃ i : Nat, s17 = .int .i64 i ∧ i ≤ nz ∧ i ≤ 100 ∧ PinR w ge gc gn gg gl n a wr) (fun i _ _ => 100 - (intOf i).toNat)
          case atStart => exact ⟨0, rfl, by omega, by omega, HPR.out⟩
          case round =>
            obtain ⟨i, rfl, hi, hi1, hr⟩ := hrel
            have HR1 := Lib.hid hr
            clear hr HPR
            by_cases hlt : i < nz ∧ i < 100
            · obtain ⟨hl1, hl2⟩ := hlt
              obtain ⟨bk, off, rfl, hbl, hcell⟩ := HR.out.2 (by rw [HZ.out]; omega)
              have cj0 := hcell i (by rw [HZ.out]; exact hl1)
              obtain ⟨l, P, S, he, hs, hB, hpi, hps⟩ := HR1.out
              have cj := (hB.cell (p := ⟨bk, off + i, none⟩) hbl).trans cj0
              clear hcell
              generalize zs.getD i 0 = pk at *
              obtain ⟨K, hK, hKl⟩ := pickN pk ((n : Int) - 1) (by omega) (by omega)
              obtain ⟨k, hk⟩ : ∃ k : Nat, (k : Int) = 1 + (K : Int) := ⟨K + 1, by omega⟩
              have hk1 : 1 ≤ k := by omega
              have hkn : k < n := by omega
              have HE := Lib.hid he
              have HS := Lib.hid hs
              have HB := Lib.hid hB
              have HPI := Lib.hid hpi
              have HPS := Lib.hid hps
              have z8 := hB.size
              clear he hs hB hpi hps HR1
              go_upto_region 24 with fail
              rw [← hk]
              clear hK hk hKl
              have lgl := HS.out.lt
              cases hpk : P k with
              | some g =>
                have HO := Lib.hid (show OneR w ge gc gn gg gl n a k wr from ⟨l, P, S, HE.out, HS.out, HB.out, HPI.out, HPS.out, g, hpk⟩)
                have c0 := HS.out.at1 hkn hpk
                go_upto_region 28 with fail
                clear c0 hpk
                clear HE HS HB HPI HPS
                obtain ⟨l, P, S, he, hs, hB, hpi, hps, g, hpk⟩ := HO.out
                have hgp := hps k g hpk
                have hgB := hgp.1
                obtain ⟨hpi', hst'⟩ := pin_step hpi hgp.2 hn1 (by omega)
                have hd := stp_t he (hs.st k g hkn hpk) (hgp.2.ok hn1)
                have cg := hs.at1 hkn hpk
                have z9 := hB.size
                have HE := Lib.hid he
                have HS := Lib.hid hs
                have HB := Lib.hid hB
                have HPS := Lib.hid hps
                obtain ⟨l', hl'⟩ : ∃ l', l' = (stp n l (S k)).1 := ⟨_, rfl⟩
                obtain ⟨s', hs'⟩ : ∃ s', s' = (stp n l (S k)).2 := ⟨_, rfl⟩
                rw [← hl', ← hs'] at hd
                rw [← hl'] at hpi'
                rw [← hs'] at hst'
                have HPI := Lib.hid hpi'
                have HST := Lib.hid hst'
                clear he hs hB hpi hps hgp hpi' hst' hl' hs' HO
                by_cases h0 : s'.nx = 0
                · have e0 : (s'.nx == 0) = true := by simpa using h0
                  simp only [e0] at hd
                  have HD := Lib.hid hd
                  clear hd e0 h0
                  go_upto_region 29 with (go_at_call 19; refine (HD.out).mono ?_; rintro e w6 ⟨rfl, he6, hs6, hk6⟩)
                  have HS6 := Lib.hid (HS.out.did HE.out hkn hpk hk6 hs6)
                  have HB6 := Lib.hid (hk6.two HB.out (Nat.le_refl _) s3 hgB)
                  have HE6 := Lib.hid he6
                  have c6 := HS6.out.at1 hkn hpk
                  have f6 := HS6.out.free k
                  have HS7 := Lib.hid (HS6.out.putN hkn s')
                  have HE7 := Lib.hid (HE6.out.put HS6.out k (.pointer none))
                  have HB7 := Lib.hid (HB6.out.setCell (p := ⟨gl, k, none⟩) zgl (.pointer none))
                  have HUP := Lib.hid (eUnpin_any HE7.out k hkn)
                  have HPI7 := Lib.hid (HPI.out.set (show 2 ≤ k + 1 by omega) (by omega) 0)
                  clear he6 hs6 hk6 HE HS HB HD cg HPI
                  go_upto_region 30 with fail
                  clear c6 f6
                  generalize w6.setCell ⟨gl, k, none⟩ (.pointer none) = w7 at *
                  obtain ⟨x, hx, hxr⟩ : ∃ x : Nat, (l'.set (k + 1) 0).getD 0 0 = (x : Int) ∧ (x = a ∨ x = a + 1) := by
                    rcases HPI7.out.2.1 with e | e
                    · exact ⟨a, e, .inl rfl⟩
                    · exact ⟨a + 1, by rw [e]; omega, .inr rfl⟩
                  have HX := Lib.hid hx
                  go_upto_region 31 with (go_at_call 11; refine (HUP.out).mono ?_; rintro e w8 ⟨rfl, he8, hk8⟩)
                  have HE8 := Lib.hid he8
                  have HS8 := Lib.hid (HS7.out.unpin HE7.out hk8)
                  have HB8 := Lib.hid (hk8.one1 HB7.out (Nat.le_refl _) s3)
                  have b1 : decide ((x : Int) < (a : Int)) = false := decide_eq_false (by omega)
                  have b2 : decide ((a : Int) + 1 < (x : Int)) = false := decide_eq_false (by omega)
                  have b3 : decide (x < a) = false := decide_eq_false (by omega)
                  have b4 : decide (a + 1 < x) = false := decide_eq_false (by omega)
                  have hx5 : x ≤ 1000 := by omega
                  clear he8 hk8 HE7 HS7 HB7 hx HUP hxr
                  go_wp2_with (first | (go_at_call 13; refine (eNow_any HE8.out x HX.out (by omega)).mono ?_; rintro e w9 ⟨rfl, rfl⟩) | (go_at_call 14; refine (pinned0 HE8.out (by omega) a HPI7.out.2.2 (by omega)).mono ?_; rintro e w9 ⟨rfl, q9, rfl⟩))
                  go_roundw
                  case rel =>
                    refine ⟨i + 1, by go_num, by omega, by omega, _, _, _, HE8.out.drewN _, HS8.out.drewN _, below_drewN HB8.out _, HPI7.out, fun j b hb => ?_⟩
                    by_cases e : j = k
                    · subst e; rw [upE_same] at hb; cases hb
                    · rw [upE_ne _ _ e] at hb
                      rw [upE_ne _ _ e, upE_ne _ _ e]
                      exact HPS.out j b hb
                  case measure => simp [intOf]; omega
                · have e0 : (s'.nx == 0) = false := by simpa using h0
                  simp only [e0] at hd
                  have HD := Lib.hid hd
                  clear hd e0 h0
                  obtain ⟨x, hx, hxr⟩ : ∃ x : Nat, l'.getD 0 0 = (x : Int) ∧ (x = a ∨ x = a + 1) := by
                    rcases HPI.out.2.1 with e | e
                    · exact ⟨a, e, .inl rfl⟩
                    · exact ⟨a + 1, by rw [e]; omega, .inr rfl⟩
                  have HX := Lib.hid hx
                  have b1 : decide ((x : Int) < (a : Int)) = false := decide_eq_false (by omega)
                  have b2 : decide ((a : Int) + 1 < (x : Int)) = false := decide_eq_false (by omega)
                  have b3 : decide (x < a) = false := decide_eq_false (by omega)
                  have b4 : decide (a + 1 < x) = false := decide_eq_false (by omega)
                  have hx5 : x ≤ 1000 := by omega
                  clear hx hxr
                  go_upto_region 31 with (go_at_call 19; refine (HD.out).mono ?_; rintro e w6 ⟨rfl, he6, hs6, hk6⟩)
                  have HS8 := Lib.hid (HS.out.did HE.out hkn hpk hk6 hs6)
                  have HB8 := Lib.hid (hk6.two HB.out (Nat.le_refl _) s3 hgB)
                  have HE8 := Lib.hid he6
                  clear he6 hs6 hk6 HE HS HB HD cg
                  go_wp2_with (first | (go_at_call 13; refine (eNow_any HE8.out x HX.out (by omega)).mono ?_; rintro e w9 ⟨rfl, rfl⟩) | (go_at_call 14; refine (pinned0 HE8.out (by omega) a HPI.out.2.2 (by omega)).mono ?_; rintro e w9 ⟨rfl, q9, rfl⟩))
                  go_roundw
                  case rel =>
                    refine ⟨i + 1, by go_num, by omega, by omega, _, _, _, HE8.out.drewN _, HS8.out.drewN _, below_drewN HB8.out _, HPI.out, fun j b hb => ?_⟩
                    by_cases e : j = k
                    · subst e; rw [upE_same]; exact ⟨(HPS.out j b hb).1, HST.out⟩
                    · rw [upE_ne _ _ e]; exact HPS.out j b hb
                  case measure => simp [intOf]; omega
              | none =>
                have c0 := HS.out.atN hkn hpk
                go_upto_region 26 with (go_at_call 26; refine (eAdvance_any HE.out).mono ?_; rintro e w4 ⟨rfl, hs4, hb4⟩; have c4 := (HS.out.below hb4).cell k hkn; have f4 := (HS.out.below hb4).free k)
                have HSA := Lib.hid (HS.out.below hb4)
                have hnew : ∀ j, j < n → P j ≠ some wr.heap.size := fun j hj hpj => by have := (HS.out.st j _ hj hpj).lt; omega
                have HS5 := Lib.hid (HSA.out.put1 hkn wr.heap.size (adv n 0 0) hs4 hnew)
                have HE5 := Lib.hid ((HE.out.below hb4).put HSA.out k (.pointer (some ⟨wr.heap.size, 0, none⟩)))
                have HB5 := Lib.hid ((HB.out.trans (hb4.mono z8)).setCell (p := ⟨gl, k, none⟩) zgl (.pointer (some ⟨wr.heap.size, 0, none⟩)))
                have cj5 := (HB5.out.cell (p := ⟨bk, off + i, none⟩) hbl).trans cj0
                have z5 := HB5.out.size
                have lg5 := HS5.out.lt
                have HP5 := Lib.hid (show ∀ j b, upE P k (some wr.heap.size) j = some b → w.heap.size ≤ b ∧ PStep a n (upE S k (adv n 0 0) j) from fun j b hb => by
                  by_cases e : j = k
                  · subst e
                    rw [upE_same] at hb ⊢
                    injection hb with hb
                    exact ⟨by omega, .inr (.inl ⟨rfl, rfl⟩)⟩
                  · rw [upE_ne _ _ e] at hb ⊢
                    exact HPS.out j b hb)
                clear hs4 hb4 c4 f4 HSA hnew HE HS HB c0 HPS cj
                generalize w4.setCell ⟨gl, k, none⟩ (.pointer (some ⟨wr.heap.size, 0, none⟩)) = w5 at *
                generalize wr.heap.size = g at *
                by_cases h3 : pk.tmod 3 = 0
                · have t3 : (pk.tmod 3 == 0) = true := by simp [h3]
                  clear h3
                  go_upto_region 28 with (go_at_call 24; refine (ePin_any HE5.out k hkn).mono ?_; rintro e w4' ⟨rfl, hs4, hb4⟩; have c4 := (HS5.out.below hb4).cell k hkn; have f4 := (HS5.out.below hb4).free k)
                  have HSA := Lib.hid (HS5.out.below hb4)
                  have hnew : ∀ j, j < n → upE P k (some g) j ≠ some w5.heap.size := fun j hj hpj => by have := (HS5.out.st j _ hj hpj).lt; omega
                  have HS6 := Lib.hid (HSA.out.put1 hkn w5.heap.size ⟨1, 0, k + 1, false⟩ hs4 hnew)
                  have HE6 := Lib.hid ((HE5.out.below hb4).put HSA.out k (.pointer (some ⟨w5.heap.size, 0, none⟩)))
                  have HB6 := Lib.hid ((HB5.out.trans (hb4.mono z5)).setCell (p := ⟨gl, k, none⟩) zgl (.pointer (some ⟨w5.heap.size, 0, none⟩)))
                  have HO := Lib.hid (show OneR w ge gc gn gg gl n a k (w4'.setCell ⟨gl, k, none⟩ (.pointer (some ⟨w5.heap.size, 0, none⟩))) from ⟨l, _, _, HE6.out, HS6.out, HB6.out, HPI.out, fun j b hb => by
                    by_cases e : j = k
                    · subst e
                      rw [upE_same] at hb ⊢
                      injection hb with hb
                      exact ⟨by omega, .inr (.inr (.inr (.inr (.inr (.inl ⟨rfl, by show 2 ≤ j + 1; omega, by show j + 1 ≤ n; omega⟩)))))⟩
                    · rw [upE_ne _ _ e] at hb ⊢
                      exact HP5.out j b hb, _, upE_same _ _ _⟩)
                  clear hs4 hb4 c4 f4 HSA hnew HS6 HE6 HB6 HE5 HS5 HB5 HP5 cj5 lg5 z5
                  generalize w4'.setCell ⟨gl, k, none⟩ (.pointer (some ⟨w5.heap.size, 0, none⟩)) = w7 at *
                  generalize w5.heap.size = g7 at *
                  have HE := HO
                  have HS := HO
                  have HB := HO
                  have HPS := HO
                  clear HPI
                  have HPI := HO
                  clear HE HS HB HPI HPS
                  obtain ⟨l, P, S, he, hs, hB, hpi, hps, g, hpk⟩ := HO.out
                  have hgp := hps k g hpk
                  have hgB := hgp.1
                  obtain ⟨hpi', hst'⟩ := pin_step hpi hgp.2 hn1 (by omega)
                  have hd := stp_t he (hs.st k g hkn hpk) (hgp.2.ok hn1)
                  have cg := hs.at1 hkn hpk
                  have z9 := hB.size
                  have HE := Lib.hid he
                  have HS := Lib.hid hs
                  have HB := Lib.hid hB
                  have HPS := Lib.hid hps
                  obtain ⟨l', hl'⟩ : ∃ l', l' = (stp n l (S k)).1 := ⟨_, rfl⟩
                  obtain ⟨s', hs'⟩ : ∃ s', s' = (stp n l (S k)).2 := ⟨_, rfl⟩
                  rw [← hl', ← hs'] at hd
                  rw [← hl'] at hpi'
                  rw [← hs'] at hst'
                  have HPI := Lib.hid hpi'
                  have HST := Lib.hid hst'
                  clear he hs hB hpi hps hgp hpi' hst' hl' hs' HO
                  by_cases h0 : s'.nx = 0
                  · have e0 : (s'.nx == 0) = true := by simpa using h0
                    simp only [e0] at hd
                    have HD := Lib.hid hd
                    clear hd e0 h0
                    go_upto_region 29 with (go_at_call 19; refine (HD.out).mono ?_; rintro e w6 ⟨rfl, he6, hs6, hk6⟩)
                    have HS6 := Lib.hid (HS.out.did HE.out hkn hpk hk6 hs6)
                    have HB6 := Lib.hid (hk6.two HB.out (Nat.le_refl _) s3 hgB)
                    have HE6 := Lib.hid he6
                    have c6 := HS6.out.at1 hkn hpk
                    have f6 := HS6.out.free k
                    have HS7 := Lib.hid (HS6.out.putN hkn s')
                    have HE7 := Lib.hid (HE6.out.put HS6.out k (.pointer none))
                    have HB7 := Lib.hid (HB6.out.setCell (p := ⟨gl, k, none⟩) zgl (.pointer none))
                    have HUP := Lib.hid (eUnpin_any HE7.out k hkn)
                    have HPI7 := Lib.hid (HPI.out.set (show 2 ≤ k + 1 by omega) (by omega) 0)
                    clear he6 hs6 hk6 HE HS HB HD cg HPI
                    go_upto_region 30 with fail
                    clear c6 f6
                    generalize w6.setCell ⟨gl, k, none⟩ (.pointer none) = w7 at *
                    obtain ⟨x, hx, hxr⟩ : ∃ x : Nat, (l'.set (k + 1) 0).getD 0 0 = (x : Int) ∧ (x = a ∨ x = a + 1) := by
                      rcases HPI7.out.2.1 with e | e
                      · exact ⟨a, e, .inl rfl⟩
                      · exact ⟨a + 1, by rw [e]; omega, .inr rfl⟩
                    have HX := Lib.hid hx
                    go_upto_region 31 with (go_at_call 11; refine (HUP.out).mono ?_; rintro e w8 ⟨rfl, he8, hk8⟩)
                    have HE8 := Lib.hid he8
                    have HS8 := Lib.hid (HS7.out.unpin HE7.out hk8)
                    have HB8 := Lib.hid (hk8.one1 HB7.out (Nat.le_refl _) s3)
                    have b1 : decide ((x : Int) < (a : Int)) = false := decide_eq_false (by omega)
                    have b2 : decide ((a : Int) + 1 < (x : Int)) = false := decide_eq_false (by omega)
                    have b3 : decide (x < a) = false := decide_eq_false (by omega)
                    have b4 : decide (a + 1 < x) = false := decide_eq_false (by omega)
                    have hx5 : x ≤ 1000 := by omega
                    clear he8 hk8 HE7 HS7 HB7 hx HUP hxr
                    go_wp2_with (first | (go_at_call 13; refine (eNow_any HE8.out x HX.out (by omega)).mono ?_; rintro e w9 ⟨rfl, rfl⟩) | (go_at_call 14; refine (pinned0 HE8.out (by omega) a HPI7.out.2.2 (by omega)).mono ?_; rintro e w9 ⟨rfl, q9, rfl⟩))
                    go_roundw
                    case rel =>
                      refine ⟨i + 1, by go_num, by omega, by omega, _, _, _, HE8.out.drewN _, HS8.out.drewN _, below_drewN HB8.out _, HPI7.out, fun j b hb => ?_⟩
                      by_cases e : j = k
                      · subst e; rw [upE_same] at hb; cases hb
                      · rw [upE_ne _ _ e] at hb
                        rw [upE_ne _ _ e, upE_ne _ _ e]
                        exact HPS.out j b hb
                    case measure => simp [intOf]; omega
                  · have e0 : (s'.nx == 0) = false := by simpa using h0
                    simp only [e0] at hd
                    have HD := Lib.hid hd
                    clear hd e0 h0
                    obtain ⟨x, hx, hxr⟩ : ∃ x : Nat, l'.getD 0 0 = (x : Int) ∧ (x = a ∨ x = a + 1) := by
                      rcases HPI.out.2.1 with e | e
                      · exact ⟨a, e, .inl rfl⟩
                      · exact ⟨a + 1, by rw [e]; omega, .inr rfl⟩
                    have HX := Lib.hid hx
                    have b1 : decide ((x : Int) < (a : Int)) = false := decide_eq_false (by omega)
                    have b2 : decide ((a : Int) + 1 < (x : Int)) = false := decide_eq_false (by omega)
                    have b3 : decide (x < a) = false := decide_eq_false (by omega)
                    have b4 : decide (a + 1 < x) = false := decide_eq_false (by omega)
                    have hx5 : x ≤ 1000 := by omega
                    clear hx hxr
                    go_upto_region 31 with (go_at_call 19; refine (HD.out).mono ?_; rintro e w6 ⟨rfl, he6, hs6, hk6⟩)
                    have HS8 := Lib.hid (HS.out.did HE.out hkn hpk hk6 hs6)
                    have HB8 := Lib.hid (hk6.two HB.out (Nat.le_refl _) s3 hgB)
                    have HE8 := Lib.hid he6
                    clear he6 hs6 hk6 HE HS HB HD cg
                    go_wp2_with (first | (go_at_call 13; refine (eNow_any HE8.out x HX.out (by omega)).mono ?_; rintro e w9 ⟨rfl, rfl⟩) | (go_at_call 14; refine (pinned0 HE8.out (by omega) a HPI.out.2.2 (by omega)).mono ?_; rintro e w9 ⟨rfl, q9, rfl⟩))
                    go_roundw
                    case rel =>
                      refine ⟨i + 1, by go_num, by omega, by omega, _, _, _, HE8.out.drewN _, HS8.out.drewN _, below_drewN HB8.out _, HPI.out, fun j b hb => ?_⟩
                      by_cases e : j = k
                      · subst e; rw [upE_same]; exact ⟨(HPS.out j b hb).1, HST.out⟩
                      · rw [upE_ne _ _ e]; exact HPS.out j b hb
                    case measure => simp [intOf]; omega
                · have t3 : (pk.tmod 3 == 0) = false := by simp [h3]
                  clear h3
                  have HO := Lib.hid (show OneR w ge gc gn gg gl n a k w5 from ⟨l, _, _, HE5.out, HS5.out, HB5.out, HPI.out, HP5.out, _, upE_same _ _ _⟩)
                  go_upto_region 28 with fail
                  clear HE5 HS5 HB5 HP5 cj5 lg5 z5
                  have HE := HO
                  have HS := HO
                  have HB := HO
                  have HPS := HO
                  clear HPI
                  have HPI := HO
                  clear HE HS HB HPI HPS
                  obtain ⟨l, P, S, he, hs, hB, hpi, hps, g, hpk⟩ := HO.out
                  have hgp := hps k g hpk
                  have hgB := hgp.1
                  obtain ⟨hpi', hst'⟩ := pin_step hpi hgp.2 hn1 (by omega)
                  have hd := stp_t he (hs.st k g hkn hpk) (hgp.2.ok hn1)
                  have cg := hs.at1 hkn hpk
                  have z9 := hB.size
                  have HE := Lib.hid he
                  have HS := Lib.hid hs
                  have HB := Lib.hid hB
                  have HPS := Lib.hid hps
                  obtain ⟨l', hl'⟩ : ∃ l', l' = (stp n l (S k)).1 := ⟨_, rfl⟩
                  obtain ⟨s', hs'⟩ : ∃ s', s' = (stp n l (S k)).2 := ⟨_, rfl⟩
                  rw [← hl', ← hs'] at hd
                  rw [← hl'] at hpi'
                  rw [← hs'] at hst'
                  have HPI := Lib.hid hpi'
                  have HST := Lib.hid hst'
                  clear he hs hB hpi hps hgp hpi' hst' hl' hs' HO
                  by_cases h0 : s'.nx = 0
                  · have e0 : (s'.nx == 0) = true := by simpa using h0
                    simp only [e0] at hd
                    have HD := Lib.hid hd
                    clear hd e0 h0
                    go_upto_region 29 with (go_at_call 19; refine (HD.out).mono ?_; rintro e w6 ⟨rfl, he6, hs6, hk6⟩)
                    have HS6 := Lib.hid (HS.out.did HE.out hkn hpk hk6 hs6)
                    have HB6 := Lib.hid (hk6.two HB.out (Nat.le_refl _) s3 hgB)
                    have HE6 := Lib.hid he6
                    have c6 := HS6.out.at1 hkn hpk
                    have f6 := HS6.out.free k
                    have HS7 := Lib.hid (HS6.out.putN hkn s')
                    have HE7 := Lib.hid (HE6.out.put HS6.out k (.pointer none))
                    have HB7 := Lib.hid (HB6.out.setCell (p := ⟨gl, k, none⟩) zgl (.pointer none))
                    have HUP := Lib.hid (eUnpin_any HE7.out k hkn)
                    have HPI7 := Lib.hid (HPI.out.set (show 2 ≤ k + 1 by omega) (by omega) 0)
                    clear he6 hs6 hk6 HE HS HB HD cg HPI
                    go_upto_region 30 with fail
                    clear c6 f6
                    generalize w6.setCell ⟨gl, k, none⟩ (.pointer none) = w7 at *
                    obtain ⟨x, hx, hxr⟩ : ∃ x : Nat, (l'.set (k + 1) 0).getD 0 0 = (x : Int) ∧ (x = a ∨ x = a + 1) := by
                      rcases HPI7.out.2.1 with e | e
                      · exact ⟨a, e, .inl rfl⟩
                      · exact ⟨a + 1, by rw [e]; omega, .inr rfl⟩
                    have HX := Lib.hid hx
                    go_upto_region 31 with (go_at_call 11; refine (HUP.out).mono ?_; rintro e w8 ⟨rfl, he8, hk8⟩)
                    have HE8 := Lib.hid he8
                    have HS8 := Lib.hid (HS7.out.unpin HE7.out hk8)
                    have HB8 := Lib.hid (hk8.one1 HB7.out (Nat.le_refl _) s3)
                    have b1 : decide ((x : Int) < (a : Int)) = false := decide_eq_false (by omega)
                    have b2 : decide ((a : Int) + 1 < (x : Int)) = false := decide_eq_false (by omega)
                    have b3 : decide (x < a) = false := decide_eq_false (by omega)
                    have b4 : decide (a + 1 < x) = false := decide_eq_false (by omega)
                    have hx5 : x ≤ 1000 := by omega
                    clear he8 hk8 HE7 HS7 HB7 hx HUP hxr
                    go_wp2_with (first | (go_at_call 13; refine (eNow_any HE8.out x HX.out (by omega)).mono ?_; rintro e w9 ⟨rfl, rfl⟩) | (go_at_call 14; refine (pinned0 HE8.out (by omega) a HPI7.out.2.2 (by omega)).mono ?_; rintro e w9 ⟨rfl, q9, rfl⟩))
                    go_roundw
                    case rel =>
                      refine ⟨i + 1, by go_num, by omega, by omega, _, _, _, HE8.out.drewN _, HS8.out.drewN _, below_drewN HB8.out _, HPI7.out, fun j b hb => ?_⟩
                      by_cases e : j = k
                      · subst e; rw [upE_same] at hb; cases hb
                      · rw [upE_ne _ _ e] at hb
                        rw [upE_ne _ _ e, upE_ne _ _ e]
                        exact HPS.out j b hb
                    case measure => simp [intOf]; omega
                  · have e0 : (s'.nx == 0) = false := by simpa using h0
                    simp only [e0] at hd
                    have HD := Lib.hid hd
                    clear hd e0 h0
                    obtain ⟨x, hx, hxr⟩ : ∃ x : Nat, l'.getD 0 0 = (x : Int) ∧ (x = a ∨ x = a + 1) := by
                      rcases HPI.out.2.1 with e | e
                      · exact ⟨a, e, .inl rfl⟩
                      · exact ⟨a + 1, by rw [e]; omega, .inr rfl⟩
                    have HX := Lib.hid hx
                    have b1 : decide ((x : Int) < (a : Int)) = false := decide_eq_false (by omega)
                    have b2 : decide ((a : Int) + 1 < (x : Int)) = false := decide_eq_false (by omega)
                    have b3 : decide (x < a) = false := decide_eq_false (by omega)
                    have b4 : decide (a + 1 < x) = false := decide_eq_false (by omega)
                    have hx5 : x ≤ 1000 := by omega
                    clear hx hxr
                    go_upto_region 31 with (go_at_call 19; refine (HD.out).mono ?_; rintro e w6 ⟨rfl, he6, hs6, hk6⟩)
                    have HS8 := Lib.hid (HS.out.did HE.out hkn hpk hk6 hs6)
                    have HB8 := Lib.hid (hk6.two HB.out (Nat.le_refl _) s3 hgB)
                    have HE8 := Lib.hid he6
                    clear he6 hs6 hk6 HE HS HB HD cg
                    go_wp2_with (first | (go_at_call 13; refine (eNow_any HE8.out x HX.out (by omega)).mono ?_; rintro e w9 ⟨rfl, rfl⟩) | (go_at_call 14; refine (pinned0 HE8.out (by omega) a HPI.out.2.2 (by omega)).mono ?_; rintro e w9 ⟨rfl, q9, rfl⟩))
                    go_roundw
                    case rel =>
                      refine ⟨i + 1, by go_num, by omega, by omega, _, _, _, HE8.out.drewN _, HS8.out.drewN _, below_drewN HB8.out _, HPI.out, fun j b hb => ?_⟩
                      by_cases e : j = k
                      · subst e; rw [upE_same]; exact ⟨(HPS.out j b hb).1, HST.out⟩
                      · rw [upE_ne _ _ e]; exact HPS.out j b hb
                    case measure => simp [intOf]; omega
            · go_upto_region 21 with fail
              go_cut [88] (fun s88 wx => s88 = .bool false ∧ wx = wr)
              case first =>
                go_wp2
                all_goals (go_meet; exact ⟨by first | rfl | (simp; omega), rfl⟩)
              case rest =>
                obtain ⟨rfl, rfl⟩ := hcut
                obtain ⟨l, P, S, he, hs, hB, hpi, hps⟩ := HR1.out
                obtain ⟨x, hx, hx5⟩ : ∃ x : Nat, l.getD 0 0 = (x : Int) ∧ x ≤ 5 := by
                  rcases hpi.2.1 with e | e
                  · exact ⟨a, e, by omega⟩
                  · exact ⟨a + 1, by rw [e]; omega, by omega⟩
                have HUP := Lib.hid (eUnpin_any he 0 (by omega))
                have HB := Lib.hid hB
                have hlen := hpi.1
                have HL1 := Lib.hid (show (l.set 1 0).getD 0 0 = (x : Int) ∧ ∀ j, 1 ≤ j → j ≤ 1 → (l.set 1 0).getD j 0 = 0 from ⟨by rw [getS _ _ _ _ (by omega), if_neg (by omega)]; exact hx, fun j h1 h2 => by rw [getS _ _ _ _ (by omega), if_pos (by omega)]⟩)
                clear he hs hB hpi hps hx HR1 hlen
                go_upto_region 34 with (go_at_call 11; refine (HUP.out).mono ?_; rintro e w5 ⟨rfl, he5, hk5⟩)
                have HE5 := Lib.hid he5
                have HB5 := Lib.hid (hk5.one1 HB.out (Nat.le_refl _) s3)
                clear he5 hk5 HB HUP
                go_wp2
                go_loopw [19] (fun s19 wt => ∃ k : Nat, s19 = .int .i64 k ∧ UnR w ge gc gn gg n x k wt) (fun k _ => n - (intOf k).toNat)
                case atStart => exact ⟨1, rfl, by omega, by omega, _, HE5.out, HB5.out, HL1.out.1, HL1.out.2⟩
                case round =>
                  obtain ⟨k, rfl, hk1, hkn', l2, he, hB, hx, hz⟩ := hrel
                  have HE := Lib.hid he
                  have HB := Lib.hid hB
                  have HX := Lib.hid hx
                  have HZ2 := Lib.hid hz
                  have z5 := hB.size
                  clear he hB hx hz HE5 HB5 HL1
                  by_cases hkn : k < n
                  · have HUP := Lib.hid (eUnpin_any HE.out k hkn)
                    go_wp2_with (go_at_call 11; refine (HUP.out).mono ?_; rintro e w6 ⟨rfl, he6, hk6⟩)
                    have HB6 := Lib.hid (hk6.one1 HB.out (Nat.le_refl _) s3)
                    have hlen := HE.out.cl.len
                    go_roundw
                    case rel =>
                      refine ⟨k + 1, by go_num, by omega, by omega, _, he6, HB6.out, by rw [getS _ _ _ _ (by omega), if_neg (by omega)]; exact HX.out, fun j h1 h2 => ?_⟩
                      rw [getS _ _ _ _ (by omega)]
                      split
                      · rfl
                      · exact HZ2.out j h1 (by omega)
                    case measure => simp [intOf]; omega
                  · have hkk : n ≤ k := by omega
                    have HL := Lib.hid (show ∀ j, 1 ≤ j → j ≤ n → l2.getD j 0 = 0 ∨ l2.getD j 0 = m64 ((x : Int) + 1) from fun j h1 h2 => .inl (HZ2.out j h1 (by omega)))
                    have HNW := Lib.hid (eNow_any HE.out x HX.out (by omega))
                    go_upto_region 40 with (first | (go_at_call 13; refine (HNW.out).mono ?_; rintro e w5 ⟨rfl, rfl⟩) | (go_at_call 26; refine (eAdvance_any HE.out).mono ?_; rintro e w6 ⟨rfl, hs, hb⟩))
                    have HE3 := Lib.hid (HE.out.below hb)
                    have HB3 := Lib.hid (HB.out.trans (hb.mono z5))
                    have HS3 := Lib.hid (show StV w6 wr.heap.size gc (adv n x 0) from hs)
                    clear hs hb HE HB HNW
                    generalize wr.heap.size = gs at *
                    go_wp2
                    go_loopw [22] (fun s22 wt => ∃ t : Nat, s22 = .int .i64 t ∧ GoR w ge gc gn gg n gs x t l2 wt) (fun t _ => n + 2 - (intOf t).toNat)
                    case atStart => exact ⟨0, rfl, by omega, HE3.out, HS3.out, HB3.out⟩
                    case round =>
                      obtain ⟨t, rfl, ht, he, hs, hB⟩ := hrel
                      have HE := Lib.hid he
                      have HS := Lib.hid hs
                      have HB := Lib.hid hB
                      clear he hs hB HE3 HS3 HB3
                      have t5 : (t : Int) < (n : Int) + 5 := by omega
                      by_cases h1 : t ≤ n
                      · go_wp2_with (go_at_call 19; refine (adv_do HE.out t HS.out HX.out HL.out h1).mono ?_; rintro e w7 ⟨rfl, he4, hs4, hk4⟩)
                        have HB4 := Lib.hid (hk4.two HB.out (Nat.le_refl _) s3 z5)
                        go_roundw
                        case rel => exact ⟨t + 1, by go_num, by omega, he4, hs4, HB4.out⟩
                        case measure => simp [intOf]; omega
                      · obtain rfl : t = n + 1 := by omega
                        go_upto_region 43 with (go_at_call 19; refine (adv_fin HE.out HS.out HX.out).mono ?_; rintro e w7 ⟨rfl, he4, hs4, hk4⟩)
                        have HB4 := Lib.hid (hk4.two HB.out (Nat.le_refl _) s3 z5)
                        have HE4 := Lib.hid he4
                        have HS4 := Lib.hid hs4
                        have hlen := HE.out.cl.len
                        have HX4 := Lib.hid (show (l2.set 0 (m64 ((x : Int) + 1))).getD 0 0 = ((x + 1 : Nat) : Int) by rw [getS _ _ _ _ (by omega), if_pos rfl]; unfold m64; omega)
                        have HP4 := Lib.hid (show (l2.set 0 (m64 ((x : Int) + 1))).getD (0 + 1) 0 = ((0 : Nat) : Int) by rw [getS _ _ _ _ (by omega), if_neg (by omega)]; exact HZ2.out 1 (by omega) (by omega))
                        clear he4 hs4 hk4 HE HS HB hlen
                        go_wp2_with (first | (go_at_call 20; refine (adv_won 0 HS4.out).mono ?_; rintro e w8 ⟨rfl, rfl⟩) | (go_at_call 13; refine (eNow_any HE4.out (x + 1) HX4.out (by omega)).mono ?_; rintro e w8 ⟨rfl, rfl⟩) | (go_at_call 14; refine (ePinned_any HE4.out 0 (by omega) 0 HP4.out (by omega)).mono ?_; rintro e w8 ⟨rfl, q8, rfl⟩))
                        go_ret
                        exact ⟨rfl, below_drewN HB4.out _⟩
end Go.Proofs.Ytkiiofaemladcaa
