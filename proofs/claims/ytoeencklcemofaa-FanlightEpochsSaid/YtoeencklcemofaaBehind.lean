/-
  Contracts of part.behind and part.Echo. Conditions stand in each theorem.
-/
import Derived.Test.YtoeencklcemofaaPGet
import Derived.Test.YtoeencklcemofaaPutY
import Derived.StillTailTactics
import Derived.Deep.DeepCutAuto
namespace Go.Proofs.Ytoeencklcemofaa
open Go.RowKit Plain
set_option linter.unusedVariables false
set_option maxRecDepth 100000

/-- so many noughts, and at most 1400 bytes behind them -/
def bh (s : Nat) (ys : List Int) : List Int := List.replicate s 0 ++ ys.take 1400

set_option maxHeartbeats 2000000 in
theorem behind_any (s : Nat) (hs0 : 0 < s) (hs : s ≤ 60) (A : Option Addr) (n c : Nat) (ys : List Int) (w : World) (hn : ys.length = n) (hnc : n ≤ c) (hl : n ≤ 1000000) (hR : Rd w A ys) :
    Calls Try.prog 69 #[.int .i64 s, .slice A n c] w fun e w' => ∃ g u, e = .returned (.slice (some ⟨g, 0, none⟩) (s + u) (s + u)) ∧ u = min n 1400 ∧ Own w' w.heap.size (some ⟨g, 0, none⟩) (s + u) (s + u) (bh s ys) ∧ Below w.heap.size w w' := by
  have Hn := Lib.hid hn
  have HR := Lib.hid hR
  obtain ⟨u, hu⟩ : ∃ u, u = min n 1400 := ⟨_, rfl⟩
  have hu1 : u ≤ n := by omega
  have hu2 : u ≤ 1400 := by omega
  have HU := Lib.hid hu
  clear hn hR hu
  go_enter Try.func69, Try.ntmps69
  go_upto_region 1 with fail
  go_cut [5] (fun s5 wx => s5 = .int .i64 u ∧ w = wx)
  case first =>
    by_cases h : n ≤ 1400
    · have h' : (n : Int) ≤ 1400 := by omega
      have e : (u : Int) = (n : Int) := by have := HU.out; omega
      have HE := Lib.hid e
      clear e
      go_wp2
      go_meet
      exact ⟨by rw [HE.out], rfl⟩
    · have h' : (1400 : Int) < (n : Int) := by omega
      have e : (u : Int) = 1400 := by have := HU.out; omega
      have HE := Lib.hid e
      clear e
      go_wp2
      go_meet
      exact ⟨by rw [HE.out], rfl⟩
  case rest =>
    obtain ⟨rfl, rfl⟩ := hcut
    have Hyl := Lib.hid (show (ys.take 1400).length = u by rw [List.length_take, Hn.out, HU.out]; omega)
    have HRy := Lib.hid (HR.out.take 1400)
    have i1 : (u : Int) ≤ (c : Int) := by omega
    go_upto_region 3 with (refine wpList_mk rfl (.tmp 12) (.tmp 12) rfl w.heap.size ((s : Int) + (u : Int)) ((s : Int) + (u : Int)) (s + u) rfl rfl (by omega) (by omega) (by omega) (Nat.le_refl _) ?_; intro w1 ho hg)
    have hb := (Below.refl w.heap.size w).grown hg (Nat.le_refl _) (fun k hk => by cases hk)
    have HO := Lib.hid ho
    have HB := Lib.hid hb
    clear ho hg hb
    have HRw := Lib.hid (HRy.out.below HB.out)
    have i2 : (s : Int) ≤ ((s + u : Nat) : Int) := by omega
    by_cases hu0 : u = 0
    · subst hu0
      go_still_tail 6, (by kernel_rfl)
      change wpList _ _ _ _ _ w1.drew
      have HO2 := Lib.hid (show Own w1.drew w.heap.size (some ⟨w.heap.size, 0, none⟩) s s (List.replicate s 0) from HO.out.drewN 1)
      have HB2 := Lib.hid (show Below w.heap.size w w1.drew from HB.out.drew)
      have HR2 := Lib.hid (show Rd w1.drew A (ys.take 1400) from HRw.out.drew)
      clear HO HB HRw
      generalize w1.drew = w2 at *
      with_reducible refine wpList_cpy rfl (.tmp 16) (.tmp 19) rfl w.heap.size w.heap.size s s _ (ys.take 1400) HO2.out (some ⟨w.heap.size, 0, none⟩) A _ 0 c rfl rfl (by omega) (fun h => absurd h (by omega)) HR2.out Hyl.out w.heap.size w HB2.out (Nat.le_refl _) ?_
      intro w3 ho3 hb3
      have HO3 := Lib.hid (show Own w3 w.heap.size (some ⟨w.heap.size, 0, none⟩) s s (bh s ys) by
        have e : (List.replicate s (0 : Int)).take s = List.replicate s 0 := by rw [List.take_replicate]; congr 1; omega
        rw [e] at ho3; exact ho3)
      have HB3 := Lib.hid hb3
      clear ho3 hb3
      go_wp2
      go_ret
      exact ⟨w.heap.size, 0, rfl, HU.out, HO3.out, HB3.out⟩
    · have cm : ¬ s + u = s := by omega
      have i3 : (s : Int) ≤ (s : Int) + (u : Int) := by omega
      have i4 : s ≤ s + u := by omega
      have i5 : s + u - s = u := by omega
      have i6 : (0 : Int) ≤ (s : Int) := by omega
      go_still_tail 6, (by kernel_rfl)
      change wpList _ _ _ _ _ w1.drew
      have HO2 := Lib.hid (show Own w1.drew w.heap.size (some ⟨w.heap.size, 0, none⟩) (s + u) (s + u) (List.replicate (s + u) 0) from HO.out.drewN 1)
      have HB2 := Lib.hid (show Below w.heap.size w w1.drew from HB.out.drew)
      have HR2 := Lib.hid (show Rd w1.drew A (ys.take 1400) from HRw.out.drew)
      clear HO HB HRw
      generalize w1.drew = w2 at *
      with_reducible refine wpList_cpy rfl (.tmp 16) (.tmp 19) rfl w.heap.size w.heap.size (s + u) s _ (ys.take 1400) HO2.out (some ⟨w.heap.size, s, none⟩) A _ u c rfl rfl (by omega) (fun _ => rfl) HR2.out Hyl.out w.heap.size w HB2.out (Nat.le_refl _) ?_
      intro w3 ho3 hb3
      have HO3 := Lib.hid (show Own w3 w.heap.size (some ⟨w.heap.size, 0, none⟩) (s + u) (s + u) (bh s ys) by
        have e : (List.replicate (s + u) (0 : Int)).take s = List.replicate s 0 := by rw [List.take_replicate]; congr 1; omega
        rw [e] at ho3; exact ho3)
      have HB3 := Lib.hid hb3
      clear ho3 hb3
      go_wp2
      go_ret
      exact ⟨w.heap.size, u, rfl, HU.out, HO3.out, HB3.out⟩

def ecL (k id : Int) (ys : List Int) : List Int := P16 (P16 ((bh 8 ys).set 0 k) 4 id) 2 (Cs (P16 ((bh 8 ys).set 0 k) 4 id))

theorem bh_len (s : Nat) (ys : List Int) (n u : Nat) (hn : ys.length = n) (hu : u = min n 1400) : (bh s ys).length = s + u := by
  unfold bh; rw [List.length_append, List.length_replicate, List.length_take, hn, hu]; omega

set_option maxHeartbeats 2000000 in
theorem echo_any (reply : Bool) (k : Int) (hk : k = if reply then 0 else 8) (id : Int) (h0 : 0 ≤ id) (h1 : id ≤ 65535) (A : Option Addr) (n c : Nat) (ys : List Int) (w : World) (hn : ys.length = n) (hnc : n ≤ c) (hl : n ≤ 1000000) (hR : Rd w A ys) :
    Calls Try.prog 38 #[.bool reply, .int .u16 id, .slice A n c] w fun e w' => ∃ g u, e = .returned (.slice (some ⟨g, 0, none⟩) (8 + u) (8 + u)) ∧ u = min n 1400 ∧ Own w' w.heap.size (some ⟨g, 0, none⟩) (8 + u) (8 + u) (ecL k id ys) ∧ Below w.heap.size w w' := by
  have Hn := Lib.hid hn
  have HR := Lib.hid hR
  have HK := Lib.hid hk
  clear hn hR hk
  go_enter Try.func38, Try.ntmps38
  go_wp2_with fail
  refine (behind_any 8 (by omega) (by omega) A n c ys w Hn.out hnc hl HR.out).mono ?_
  rintro e w1 ⟨g, u, rfl, hu, ho, hb⟩
  have HU := Lib.hid hu
  have hu2 : u ≤ 1400 := by omega
  have hgb : w.heap.size ≤ g := by rcases ho.form with ⟨h, _⟩ | ⟨g2, h, hg, _⟩; cases h; injection h with h; injection h with h; omega
  have HO := Lib.hid ho
  have HB := Lib.hid hb
  have c0 := ho.at (k := 0) (by omega)
  have f0 := ho.free 0
  clear hu ho hb
  go_upto_region 3 with fail
  have HO1 := Lib.hid (HO.out.set 0 8 (by omega) (by omega))
  have HB1 := Lib.hid (HB.out.setCell (p := ⟨g, 0, none⟩) hgb (.int .u8 8))
  clear c0 f0 HO HB
  generalize w1.setCell ⟨g, 0, none⟩ (.int .u8 8) = w2 at *
  go_upto_if 12 with fail
  go_cut [6] (fun s6 wx => s6 = .slice none 0 0 ∧ Own wx w.heap.size (some ⟨g, 0, none⟩) (8 + u) (8 + u) ((bh 8 ys).set 0 k) ∧ Below w.heap.size w wx)
  case first =>
    cases reply
    · go_wp2
      go_meet
      exact ⟨rfl, by rw [HK.out]; exact HO1.out, HB1.out⟩
    · have c0 := HO1.out.at (k := 0) (by omega)
      have f0 := HO1.out.free 0
      go_wp2
      go_meet
      refine ⟨rfl, ?_, HB1.out.setCell (p := ⟨g, 0, none⟩) hgb _⟩
      have := HO1.out.set 0 0 (by omega) (by omega)
      rw [List.set_set] at this
      rw [HK.out]; exact this
  case rest =>
    obtain ⟨rfl, ho, hb⟩ := hcut
    have HO2 := Lib.hid ho
    have HB2 := Lib.hid hb
    clear ho hb HO1 HB1
    go_wp2_with fail
    refine (put16_any g (8 + u) (8 + u) w.heap.size _ 4 id 4 _ rfl (by omega) (by omega) h0 h1 HO2.out).mono ?_
    rintro e w3 ⟨rfl, hL⟩
    obtain ⟨L3, hL3⟩ : ∃ L, L = P16 ((bh 8 ys).set 0 k) 4 id := ⟨_, rfl⟩
    have HO3 := Lib.hid (show Own w3 w.heap.size (some ⟨g, 0, none⟩) (8 + u) (8 + u) L3 by rw [hL3]; exact hL.own)
    have HB3 := Lib.hid (hL.below HB2.out hgb HB2.out.size)
    have HL3 := Lib.hid hL3
    clear hL HO2 HB2 hL3
    go_wp2_with fail
    refine (of_n (some ⟨g, 0, none⟩) (8 + u) (8 + u) _ _ HO3.out.len (by omega) HO3.out.rd).mono ?_
    rintro e w4 ⟨rfl, q, rfl⟩
    have hcs := Cs_range _ HO3.out.byt
    obtain ⟨x, hx⟩ : ∃ x, x = Cs L3 := ⟨_, rfl⟩
    rw [← hx] at hcs
    rw [← hx]
    have HX := Lib.hid hx
    clear hx
    go_wp2_with fail
    refine (put16_any g (8 + u) (8 + u) w.heap.size L3 2 x 2 _ rfl (by omega) (by omega) hcs.1 hcs.2 (HO3.out.drewN q)).mono ?_
    rintro e w5 ⟨rfl, hL⟩
    have HO5 := Lib.hid (show Own w5 w.heap.size (some ⟨g, 0, none⟩) (8 + u) (8 + u) (ecL k id ys) by
      have := hL.own
      rw [HX.out, HL3.out] at this
      exact this)
    have HB5 := Lib.hid (hL.below (below_drewN HB3.out q) hgb HB3.out.size)
    clear hL HO3 HB3 hcs
    go_wp2
    go_ret
    exact ⟨g, u, rfl, HU.out, HO5.out, HB5.out⟩
end Go.Proofs.Ytoeencklcemofaa
