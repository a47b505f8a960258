/-
  Several small texts in one: Behind, Pseudo, Lay, Win. Conditions stand in each theorem.
-/
import Derived.Test.YtdkjipfemnfckaaPGet
import Derived.Test.YtdkjipfemnfckaaGF
import Derived.StillTailTactics
import Derived.Deep.DeepCutAuto
import Derived.Test.YtdkjipfemnfckaaGD
namespace Go.Proofs.Ytdkjipfemnfckaa
open Go.RowKit Plain
set_option linter.unusedVariables false
set_option maxRecDepth 100000

/-- so many noughts, and at most 1400 bytes behind them -/
def bh (s : Nat) (ys : List Int) : List Int := List.replicate s 0 ++ ys.take 1400

set_option maxHeartbeats 2000000 in
theorem behind_any (s : Nat) (hs0 : 0 < s) (hs : s ≤ 60) (A : Option Addr) (n c : Nat) (ys : List Int) (w : World) (hn : ys.length = n) (hnc : n ≤ c) (hl : n ≤ 1000000) (hR : Rd w A ys) :
    Calls Try.prog 64 #[.int .i64 s, .slice A n c] w fun e w' => ∃ g u, e = .returned (.slice (some ⟨g, 0, none⟩) (s + u) (s + u)) ∧ u = min n 1400 ∧ Own w' w.heap.size (some ⟨g, 0, none⟩) (s + u) (s + u) (bh s ys) ∧ Below w.heap.size w w' := by
  have Hn := Lib.hid hn
  have HR := Lib.hid hR
  obtain ⟨u, hu⟩ : ∃ u, u = min n 1400 := ⟨_, rfl⟩
  have hu1 : u ≤ n := by omega
  have hu2 : u ≤ 1400 := by omega
  have HU := Lib.hid hu
  clear hn hR hu
  go_enter Try.func64, Try.ntmps64
  go_upto_region 1 with fail
  go_cut [5] (fun s5 wx => s5 = .int .i64 u ∧ w = wx)
  case first =>
    by_cases h : n ≤ 1400
    · have h' : (n : Int) ≤ 1400 := by omega
      have e : (u : Int) = (n : Int) := by have := HU.out; omega
      have HE := Lib.hid e
      clear e
      go_wp2
      go_meet
      exact ⟨by rw [HE.out], rfl⟩
    · have h' : (1400 : Int) < (n : Int) := by omega
      have e : (u : Int) = 1400 := by have := HU.out; omega
      have HE := Lib.hid e
      clear e
      go_wp2
      go_meet
      exact ⟨by rw [HE.out], rfl⟩
  case rest =>
    obtain ⟨rfl, rfl⟩ := hcut
    have Hyl := Lib.hid (show (ys.take 1400).length = u by rw [List.length_take, Hn.out, HU.out]; omega)
    have HRy := Lib.hid (HR.out.take 1400)
    have i1 : (u : Int) ≤ (c : Int) := by omega
    go_upto_region 3 with (refine wpList_mk rfl (.tmp 12) (.tmp 12) rfl w.heap.size ((s : Int) + (u : Int)) ((s : Int) + (u : Int)) (s + u) rfl rfl (by omega) (by omega) (by omega) (Nat.le_refl _) ?_; intro w1 ho hg)
    have hb := (Below.refl w.heap.size w).grown hg (Nat.le_refl _) (fun k hk => by cases hk)
    have HO := Lib.hid ho
    have HB := Lib.hid hb
    clear ho hg hb
    have HRw := Lib.hid (HRy.out.below HB.out)
    have i2 : (s : Int) ≤ ((s + u : Nat) : Int) := by omega
    by_cases hu0 : u = 0
    · subst hu0
      go_still_tail 6, (by kernel_rfl)
      change wpList _ _ _ _ _ w1.drew
      have HO2 := Lib.hid (show Own w1.drew w.heap.size (some ⟨w.heap.size, 0, none⟩) s s (List.replicate s 0) from HO.out.drewN 1)
      have HB2 := Lib.hid (show Below w.heap.size w w1.drew from HB.out.drew)
      have HR2 := Lib.hid (show Rd w1.drew A (ys.take 1400) from HRw.out.drew)
      clear HO HB HRw
      generalize w1.drew = w2 at *
      with_reducible refine wpList_cpy rfl (.tmp 16) (.tmp 19) rfl w.heap.size w.heap.size s s _ (ys.take 1400) HO2.out (some ⟨w.heap.size, 0, none⟩) A _ 0 c rfl rfl (by omega) (fun h => absurd h (by omega)) HR2.out Hyl.out w.heap.size w HB2.out (Nat.le_refl _) ?_
      intro w3 ho3 hb3
      have HO3 := Lib.hid (show Own w3 w.heap.size (some ⟨w.heap.size, 0, none⟩) s s (bh s ys) by
        have e : (List.replicate s (0 : Int)).take s = List.replicate s 0 := by rw [List.take_replicate]; congr 1; omega
        rw [e] at ho3; exact ho3)
      have HB3 := Lib.hid hb3
      clear ho3 hb3
      go_wp2
      go_ret
      exact ⟨w.heap.size, 0, rfl, HU.out, HO3.out, HB3.out⟩
    · have cm : ¬ s + u = s := by omega
      have i3 : (s : Int) ≤ (s : Int) + (u : Int) := by omega
      have i4 : s ≤ s + u := by omega
      have i5 : s + u - s = u := by omega
      have i6 : (0 : Int) ≤ (s : Int) := by omega
      go_still_tail 6, (by kernel_rfl)
      change wpList _ _ _ _ _ w1.drew
      have HO2 := Lib.hid (show Own w1.drew w.heap.size (some ⟨w.heap.size, 0, none⟩) (s + u) (s + u) (List.replicate (s + u) 0) from HO.out.drewN 1)
      have HB2 := Lib.hid (show Below w.heap.size w w1.drew from HB.out.drew)
      have HR2 := Lib.hid (show Rd w1.drew A (ys.take 1400) from HRw.out.drew)
      clear HO HB HRw
      generalize w1.drew = w2 at *
      with_reducible refine wpList_cpy rfl (.tmp 16) (.tmp 19) rfl w.heap.size w.heap.size (s + u) s _ (ys.take 1400) HO2.out (some ⟨w.heap.size, s, none⟩) A _ u c rfl rfl (by omega) (fun _ => rfl) HR2.out Hyl.out w.heap.size w HB2.out (Nat.le_refl _) ?_
      intro w3 ho3 hb3
      have HO3 := Lib.hid (show Own w3 w.heap.size (some ⟨w.heap.size, 0, none⟩) (s + u) (s + u) (bh s ys) by
        have e : (List.replicate (s + u) (0 : Int)).take s = List.replicate s 0 := by rw [List.take_replicate]; congr 1; omega
        rw [e] at ho3; exact ho3)
      have HB3 := Lib.hid hb3
      clear ho3 hb3
      go_wp2
      go_ret
      exact ⟨w.heap.size, u, rfl, HU.out, HO3.out, HB3.out⟩

def ecL (k id : Int) (ys : List Int) : List Int := P16 (P16 ((bh 8 ys).set 0 k) 4 id) 2 (Cs (P16 ((bh 8 ys).set 0 k) 4 id))

theorem bh_len (s : Nat) (ys : List Int) (n u : Nat) (hn : ys.length = n) (hu : u = min n 1400) : (bh s ys).length = s + u := by
  unfold bh; rw [List.length_append, List.length_replicate, List.length_take, hn, hu]; omega

end Go.Proofs.Ytdkjipfemnfckaa

namespace Go.Proofs.Ytdkjipfemnfckaa
open Go.RowKit Plain
set_option linter.unusedVariables false
set_option linter.unusedSimpArgs false
set_option maxRecDepth 100000

def w2l (n : Int) : List Int := [n / 256 % 256, n % 256]
def w4l (x : Int) : List Int := [x / 16777216, x / 65536 % 256, x / 256 % 256, x % 256]
theorem w2l_by (n : Int) : By (w2l n) := by
  unfold w2l
  exact By.mk (by omega) (by omega) (By.mk (by omega) (by omega) By.nil)
theorem w4l_by (x : Int) (h0 : 0 ≤ x) (h1 : x ≤ 4294967295) : By (w4l x) := by
  unfold w4l
  exact By.mk (by omega) (by omega) (By.mk (by omega) (by omega) (By.mk (by omega) (by omega) (By.mk (by omega) (by omega) By.nil)))

theorem wide_any (x : Int) (w : World) (h0 : 0 ≤ x) (h1 : x ≤ 4294967295) :
    Calls Try.prog 59 #[.int .u32 x] w fun e w' => e = .returned (.slice (some ⟨w.heap.size, 0, none⟩) 4 4) ∧ Own w' w.heap.size (some ⟨w.heap.size, 0, none⟩) 4 4 (w4l x) ∧ Below w.heap.size w w' := by
  go_enter Try.func59, Try.ntmps59
  go_wp2
  go_ret
  exact ⟨rfl, Own.lit w (Nat.le_refl _) (w4l x) (w4l_by x h0 h1) 4 rfl (by omega) _ rfl, ball _ _⟩
theorem word_any (n : Int) (w : World) (h0 : 0 ≤ n) (h1 : n ≤ 1000000) :
    Calls Try.prog 60 #[.int .i64 n] w fun e w' => e = .returned (.slice (some ⟨w.heap.size, 0, none⟩) 2 2) ∧ Own w' w.heap.size (some ⟨w.heap.size, 0, none⟩) 2 2 (w2l n) ∧ Below w.heap.size w w' := by
  have e1 : IntKind.u8.wrap (n / 256) = n / 256 % 256 := IntKind.wrap_u8 _
  have e2 : IntKind.u8.wrap n = n % 256 := IntKind.wrap_u8 _
  go_enter Try.func60, Try.ntmps60
  go_wp2
  go_ret
  exact ⟨rfl, Own.lit w (Nat.le_refl _) (w2l n) (w2l_by n) 2 rfl (by omega) _ rfl, ball _ _⟩

def psL (src dst pr : Int) (zs : List Int) : List Int := w4l src ++ w4l dst ++ [0, pr] ++ w2l (zs.length : Int) ++ zs
theorem psL_cs (src dst pr : Int) (zs : List Int) (hz : By zs) (s0 : 0 ≤ src) (s1 : src ≤ 4294967295) (d0 : 0 ≤ dst) (d1 : dst ≤ 4294967295) (p0 : 0 ≤ pr) (p1 : pr ≤ 255) : Cs (psL src dst pr zs) = Ps src dst pr zs := by
  have t := tot_append (w4l src ++ w4l dst ++ [0, pr] ++ w2l (zs.length : Int)) zs (by simp [w4l, w2l])
  unfold Cs Ps psL
  rw [t]
  congr 2
  simp only [w4l, w2l, List.cons_append, List.nil_append, tot]
  omega

set_option maxHeartbeats 4000000 in
theorem pseudo_any (src dst pr : Int) (A : Option Addr) (n c : Nat) (zs : List Int) (w : World) (hn : zs.length = n) (hl : n ≤ 100000) (hR : Rd w A zs) (s0 : 0 ≤ src) (s1 : src ≤ 4294967295) (d0 : 0 ≤ dst) (d1 : dst ≤ 4294967295) (p0 : 0 ≤ pr) (p1 : pr ≤ 255) :
    Calls Try.prog 38 #[.int .u32 src, .int .u32 dst, .int .i64 pr, .slice A n c] w fun e w' => e = .returned (.int .u16 (Ps src dst pr zs)) ∧ Below w.heap.size w w' := by
  have HR := Lib.hid hR
  have Hn := Lib.hid hn
  have Hps := Lib.hid (psL_cs src dst pr zs hR.1 s0 s1 d0 d1 p0 p1)
  have e1 : IntKind.u8.wrap pr = pr := by rw [IntKind.wrap_u8]; omega
  clear hR hn
  go_enter Try.func38, Try.ntmps38
  go_wp2_with fail
  refine (wide_any src _ s0 s1).mono ?_
  rintro e w1 ⟨rfl, ho1, hb1⟩
  have HB1 := Lib.hid hb1
  have HO1 := Lib.hid ho1
  have hs1 := hb1.size
  clear ho1 hb1
  go_wp2_with fail
  refine (wide_any dst _ d0 d1).mono ?_
  rintro e w2 ⟨rfl, ho2, hb2⟩
  have HB2 := Lib.hid (bthen HB1.out hb2)
  have HO2 := Lib.hid (HO1.out.below hb2)
  have HR2 := Lib.hid ho2.rd
  have hs2 := (bthen HB1.out hb2).size
  clear ho2 hb2
  generalize w1.heap.size = p1' at *
  go_wp2_with (first | (at_builtin; refine wpList_app rfl (.tmp 11) (.tmp 13) rfl rfl HO2.out (w4l dst) rfl HR2.out rfl (by omega) hs2 ?_; intro A3 c3 w3 ho3 hg3 hA3; have HO3 := Lib.hid ho3; have HB3 := Lib.hid (below_app HB2.out hg3 HO2.out (Nat.le_refl _) hs2); have hs3 := HB3.out.size; clear ho3 hg3 hA3) | (at_builtin; refine wpList_app rfl (.tmp 14) (.tmp 17) rfl rfl (HO3.out.alloc _) [0, pr] rfl (Rd.newM w3 _ _ [0, pr] (By.mk (by omega) (by omega) (By.mk (by omega) (by omega) By.nil)) _ rfl) rfl (by omega) (bthen HB3.out (ball w3 _)).size ?_; intro A4 c4 w4 ho4 hg4 hA4; have HO4 := Lib.hid ho4; have HB4 := Lib.hid (below_app (bthen HB3.out (ball w3 _)) hg4 (HO3.out.alloc _) (Nat.le_refl _) (bthen HB3.out (ball w3 _)).size); have hs4 := HB4.out.size; clear ho4 hg4 hA4))
  refine (word_any (n : Int) _ (by omega) (by omega)).mono ?_
  rintro e w5 ⟨rfl, ho5, hb5⟩
  have HB5 := Lib.hid (bthen HB4.out hb5)
  have HO5 := Lib.hid (HO4.out.below hb5)
  have HR5 := Lib.hid ho5.rd
  have hs5 := (bthen HB4.out hb5).size
  clear ho5 hb5
  go_wp2_with (first | (at_builtin; refine wpList_app rfl (.tmp 18) (.tmp 21) rfl rfl HO5.out (w2l (n : Int)) rfl HR5.out rfl (by omega) hs5 ?_; intro A6 c6 w6 ho6 hg6 hA6; have HO6 := Lib.hid ho6; have HB6 := Lib.hid (below_app HB5.out hg6 HO5.out (Nat.le_refl _) hs5); have hs6 := HB6.out.size; clear ho6 hg6 hA6) | (at_builtin; refine wpList_app rfl (.tmp 23) (.tmp 24) rfl rfl HO6.out zs rfl (HR.out.below HB6.out) Hn.out (by omega) hs6 ?_; intro A7 c7 w7 ho7 hg7 hA7; have HO7 := Lib.hid ho7; have HB7 := Lib.hid (below_app HB6.out hg7 HO6.out (Nat.le_refl _) hs6); clear ho7 hg7 hA7))
  have Hz := Lib.hid (show w4l src ++ w4l dst ++ [0, pr] ++ w2l (n : Int) ++ zs = psL src dst pr zs by unfold psL; rw [Hn.out])
  refine (refOf_n _ (4 + 4 + 2 + 2 + n) c7 _ _ HO7.out.len (by omega) HO7.out.rd).mono ?_
  rintro e w' ⟨rfl, rfl⟩
  rw [Hz.out, Hps.out]
  go_wp2
  go_ret
  exact ⟨rfl, HB7.out⟩
end Go.Proofs.Ytdkjipfemnfckaa

namespace Go.Proofs.Ytdkjipfemnfckaa
open Go.RowKit Plain
set_option linter.unusedVariables false
set_option linter.unusedSimpArgs false
set_option maxRecDepth 100000

def ud0 (f t : Int) (L : List Int) : List Int := w2l f ++ w2l t ++ w2l (8 + (L.length : Int)) ++ [0, 0] ++ L
def no0 (x : Int) : Int := if x = 0 then 65535 else x
def udL (s d f t : Int) (L : List Int) : List Int := P16 (ud0 f t L) 6 (no0 (Ps s d 17 (ud0 f t L)))
def tc0 (f t fl : Int) (L : List Int) : List Int := w2l f ++ w2l t ++ [0, 0, 0, 0, 0, 0, 0, 0, 80, fl, 32, 0, 0, 0, 0, 0] ++ L
def tcL (s d f t fl : Int) (L : List Int) : List Int := P16 (tc0 f t fl L) 16 (Ps s d 6 (tc0 f t fl L))
def ic0 (k c id : Int) (L : List Int) : List Int := [k, c, 0, 0] ++ w2l id ++ [0, 0] ++ L
def icL (k c id : Int) (L : List Int) : List Int := P16 (ic0 k c id L) 2 (Cs (ic0 k c id L))

theorem P16_len (zs : List Int) (i : Nat) (v : Int) : (P16 zs i v).length = zs.length := by unfold P16; simp
theorem P16_by {zs : List Int} (h : By zs) (i : Nat) (v : Int) (h0 : 0 ≤ v) (h1 : v ≤ 65535) : By (P16 zs i v) := by
  unfold P16; exact (h.set i _ (by omega) (by omega)).set (i + 1) _ (by omega) (by omega)
theorem getD_set_ne (l : List Int) (i j : Nat) (x : Int) (h : i ≠ j) : (l.set i x).getD j 0 = l.getD j 0 := by simp [List.getD, List.getElem?_set_ne h]
theorem getD_set_eq (l : List Int) (i : Nat) (x : Int) (h : i < l.length) : (l.set i x).getD i 0 = x := by simp [List.getD, h]
theorem P16_other (zs : List Int) (i j : Nat) (v : Int) (h1 : j ≠ i) (h2 : j ≠ i + 1) : (P16 zs i v).getD j 0 = zs.getD j 0 := by
  unfold P16; rw [getD_set_ne _ _ _ _ (Ne.symm h2), getD_set_ne _ _ _ _ (Ne.symm h1)]
theorem P16_g16 (zs : List Int) (i : Nat) (v : Int) (h : i + 1 < zs.length) : G16 (P16 zs i v) i = v := by
  unfold G16 P16
  rw [getD_set_ne _ _ _ _ (by omega), getD_set_eq _ _ _ (by omega), getD_set_eq _ _ _ (by simpa using h)]
  omega
theorem P16_g16_ne (zs : List Int) (i j : Nat) (v : Int) (h1 : j ≠ i) (h2 : j ≠ i + 1) (h3 : j + 1 ≠ i) : G16 (P16 zs i v) j = G16 zs j := by
  unfold G16
  rw [P16_other _ _ _ _ h1 h2, P16_other _ _ _ _ h3 (by omega)]
theorem P16_tot (zs : List Int) (i : Nat) (v : Int) (he : i % 2 = 0) (h : i + 1 < zs.length) : tot (P16 zs i v) = tot zs + v - G16 zs i := by
  unfold P16
  rw [tot_set _ _ _ (by simpa using h), tot_set _ _ _ (by omega), if_pos he, if_neg (by omega), getD_set_ne _ _ _ _ (by omega)]
  unfold G16
  omega
theorem P16_P16 (zs : List Int) (i : Nat) (u v : Int) : P16 (P16 zs i u) i v = P16 zs i v := by
  unfold P16
  rw [List.set_comm _ _ (show i + 1 ≠ i by omega), List.set_set, List.set_set]
theorem no0_range (x : Int) (h0 : 0 ≤ x) (h1 : x ≤ 65535) : 1 ≤ no0 x ∧ no0 x ≤ 65535 := by unfold no0; split <;> omega

theorem ud0_len (f t : Int) (L : List Int) : (ud0 f t L).length = 8 + L.length := by unfold ud0 w2l; simp; omega
theorem ud0_by (f t : Int) {L : List Int} (h : By L) : By (ud0 f t L) := by
  unfold ud0
  exact ((((w2l_by f).app (w2l_by t)).app (w2l_by _)).app (By.mk (by omega) (by omega) (By.mk (by omega) (by omega) By.nil))).app h
theorem tc0_len (f t fl : Int) (L : List Int) : (tc0 f t fl L).length = 20 + L.length := by unfold tc0 w2l; simp; omega
theorem tc0_by (f t fl : Int) {L : List Int} (h : By L) (f0 : 0 ≤ fl) (f1 : fl ≤ 255) : By (tc0 f t fl L) := by
  unfold tc0
  refine (((w2l_by f).app (w2l_by t)).app ?_).app h
  intro x hx
  simp at hx
  omega
theorem ic0_len (k c id : Int) (L : List Int) : (ic0 k c id L).length = 8 + L.length := by unfold ic0 w2l; simp; omega
theorem ic0_by (k c id : Int) {L : List Int} (h : By L) (k0 : 0 ≤ k) (k1 : k ≤ 255) (c0 : 0 ≤ c) (c1 : c ≤ 255) : By (ic0 k c id L) := by
  unfold ic0
  refine ((By.app ?_ (w2l_by id)).app ?_).app h
  · intro x hx
    simp at hx
    omega
  · intro x hx
    simp at hx
    omega
theorem ud0_g (f t : Int) (L : List Int) (f0 : 0 ≤ f) (f1 : f ≤ 65535) (t0 : 0 ≤ t) (t1 : t ≤ 65535) (hl : L.length ≤ 1400) : G16 (ud0 f t L) 0 = f ∧ G16 (ud0 f t L) 2 = t ∧ G16 (ud0 f t L) 4 = 8 + (L.length : Int) ∧ G16 (ud0 f t L) 6 = 0 := by
  unfold G16 ud0 w2l
  simp [List.getD]
  omega
theorem tc0_g (f t fl : Int) (L : List Int) (f0 : 0 ≤ f) (f1 : f ≤ 65535) (t0 : 0 ≤ t) (t1 : t ≤ 65535) : G16 (tc0 f t fl L) 0 = f ∧ G16 (tc0 f t fl L) 2 = t ∧ (tc0 f t fl L).getD 12 0 = 80 ∧ (tc0 f t fl L).getD 13 0 = fl ∧ G16 (tc0 f t fl L) 16 = 0 := by
  unfold G16 tc0 w2l
  simp [List.getD]
  omega
theorem ic0_g (k c id : Int) (L : List Int) (i0 : 0 ≤ id) (i1 : id ≤ 65535) : (ic0 k c id L).getD 0 0 = k ∧ (ic0 k c id L).getD 1 0 = c ∧ G16 (ic0 k c id L) 4 = id ∧ G16 (ic0 k c id L) 2 = 0 := by
  unfold G16 ic0 w2l
  simp [List.getD]
  omega

/-- what stands ahead in the sum -/
def Px (s d pr : Int) (n : Nat) : Int := s / 65536 + s % 65536 + d / 65536 + d % 65536 + (pr + (n : Int) % 65536)
theorem Ps_px (s d pr : Int) (zs : List Int) : Ps s d pr zs = 65535 - F (Px s d pr zs.length + tot zs) := rfl
theorem Px_pos (s d pr : Int) (n : Nat) (s0 : 0 ≤ s) (d0 : 0 ≤ d) (p0 : 0 < pr) : 0 < Px s d pr n := by unfold Px; omega
theorem Ps_P16 (s d pr : Int) (zs : List Int) (i : Nat) (v : Int) (he : i % 2 = 0) (h : i + 1 < zs.length) (hz : G16 zs i = 0) : Ps s d pr (P16 zs i v) = 65535 - F (Px s d pr zs.length + tot zs + v) := by
  rw [Ps_px, P16_len, P16_tot zs i v he h, hz]; congr 2; omega
theorem F_full (X : Int) (h : 0 < X) : F X = 65535 ↔ X % 65535 = 0 := by unfold F; split <;> omega
/-- which sums are right -/
theorem right_iff (X v : Int) (hX : 0 < X) (h0 : 0 < v) (h1 : v ≤ 65535) : F (X + v) = 65535 ↔ v = no0 (65535 - F X) := by
  rw [F_full _ (by omega)]
  unfold no0 F
  split <;> split <;> omega
theorem udL_len (s d f t : Int) (L : List Int) : (udL s d f t L).length = 8 + L.length := by unfold udL; rw [P16_len, ud0_len]
theorem udL_by (s d f t : Int) {L : List Int} (h : By L) (s0 : 0 ≤ s) (d0 : 0 ≤ d) : By (udL s d f t L) := by
  have r := Ps_range s d 17 _ (ud0_by f t h) s0 d0 (by decide)
  have r' := no0_range _ r.1 r.2
  exact P16_by (ud0_by f t h) _ _ (by omega) r'.2
theorem tcL_len (s d f t fl : Int) (L : List Int) : (tcL s d f t fl L).length = 20 + L.length := by unfold tcL; rw [P16_len, tc0_len]
theorem tcL_by (s d f t fl : Int) {L : List Int} (h : By L) (s0 : 0 ≤ s) (d0 : 0 ≤ d) (f0 : 0 ≤ fl) (f1 : fl ≤ 255) : By (tcL s d f t fl L) := by
  have r := Ps_range s d 6 _ (tc0_by f t fl h f0 f1) s0 d0 (by decide)
  exact P16_by (tc0_by f t fl h f0 f1) _ _ r.1 r.2
theorem icL_len (k c id : Int) (L : List Int) : (icL k c id L).length = 8 + L.length := by unfold icL; rw [P16_len, ic0_len]
theorem icL_by (k c id : Int) {L : List Int} (h : By L) (k0 : 0 ≤ k) (k1 : k ≤ 255) (c0 : 0 ≤ c) (c1 : c ≤ 255) : By (icL k c id L) := by
  have r := Cs_range _ (ic0_by k c id h k0 k1 c0 c1)
  exact P16_by (ic0_by k c id h k0 k1 c0 c1) _ _ r.1 r.2
end Go.Proofs.Ytdkjipfemnfckaa

namespace Go.Proofs.Ytdkjipfemnfckaa
open Go.RowKit Plain
set_option linter.unusedVariables false
set_option maxRecDepth 100000

/-- n bytes from off on -/
def win (L : List Int) (off n : Nat) : List Int := (L.drop off).take n
theorem win_len (L : List Int) (off n : Nat) (h : off + n ≤ L.length) : (win L off n).length = n := by
  unfold win; rw [List.length_take, List.length_drop]; omega
theorem win_getD (L : List Int) (off n k : Nat) (h : k < n) : (win L off n).getD k 0 = L.getD (off + k) 0 := by
  unfold win; rw [getD_take _ _ _ h, getD_drop]
theorem win_by {L : List Int} (h : By L) (off n : Nat) : By (win L off n) := (h.drop off).take n
theorem win_g16 (L : List Int) (off n i : Nat) (h : i + 1 < n) : G16 (win L off n) i = G16 L (off + i) := by
  unfold G16; rw [win_getD _ _ _ _ (by omega), win_getD _ _ _ _ h]; rfl
theorem win_g32 (L : List Int) (off n i : Nat) (h : i + 3 < n) : G32 (win L off n) i = G32 L (off + i) := by
  unfold G32; rw [win_g16 _ _ _ _ (by omega), win_g16 _ _ _ _ (by omega)]; rfl
section
variable {w : World} {base g N C : Nat} {L : List Int}
theorem Own.win (hO : Own w base (some ⟨g, 0, none⟩) N C L) (off n : Nat) (h : off + n ≤ N) : Rd w (some ⟨g, off, none⟩) (win L off n) := by
  have hl := hO.len
  refine ⟨win_by hO.byt off n, fun _ => ⟨g, off, rfl, fun k hk => ?_⟩⟩
  rw [win_len _ _ _ (by omega)] at hk
  rw [win_getD _ _ _ _ hk]
  exact hO.at (k := off + k) (by omega)
theorem get16_at (off n c : Nat) (a : Int) (i : Nat) (ha : a = (i : Int)) (hi : i + 1 < n) (h : off + n ≤ N) (hN : N ≤ 1000000) (hO : Own w base (some ⟨g, 0, none⟩) N C L) :
    Calls Try.prog 70 #[.slice (some ⟨g, off, none⟩) n c, .int .i64 a] w fun e w' => e = .returned (.int .u16 (G16 L (off + i))) ∧ ∃ q, w' = w.drewN q := by
  have := get16_any (some ⟨g, off, none⟩) n c (Go.Proofs.Ytdkjipfemnfckaa.win L off n) a i w (win_len _ _ _ (by rw [hO.len]; exact h)) ha hi (by omega) (hO.win off n h)
  rw [win_g16 _ _ _ _ hi] at this
  exact this
theorem get32_at (off n c : Nat) (a : Int) (i : Nat) (ha : a = (i : Int)) (hi : i + 3 < n) (h : off + n ≤ N) (hN : N ≤ 1000000) (hO : Own w base (some ⟨g, 0, none⟩) N C L) :
    Calls Try.prog 81 #[.slice (some ⟨g, off, none⟩) n c, .int .i64 a] w fun e w' => e = .returned (.int .u32 (G32 L (off + i))) ∧ ∃ q, w' = w.drewN q := by
  have := get32_any (some ⟨g, off, none⟩) n c (Go.Proofs.Ytdkjipfemnfckaa.win L off n) a i w (win_len _ _ _ (by rw [hO.len]; exact h)) ha hi (by omega) (hO.win off n h)
  rw [win_g32 _ _ _ _ hi] at this
  exact this
theorem put16_at (off n c : Nat) (a v : Int) (i : Nat) (ha : a = (i : Int)) (hi : i + 1 < n) (h : off + n ≤ N) (hN : N ≤ 1000000) (hv0 : 0 ≤ v) (hv1 : v ≤ 65535) (hO : Own w base (some ⟨g, 0, none⟩) N C L) :
    Calls Try.prog 62 #[.slice (some ⟨g, off, none⟩) n c, .int .i64 a, .int .u16 v] w fun e w' => e = .returned (.tuple #[]) ∧ Laid w w' base g N C (P16 L (off + i) v) := by
  subst ha
  have c0 := hO.at (k := off + i) (by omega)
  have c1 : w.cell? ⟨g, off + (i + 1), none⟩ = _ := hO.at (k := off + i + 1) (by omega)
  have f0 := hO.free (off + i)
  have f1 : w.frozen? ⟨g, off + (i + 1), none⟩ = false := hO.free (off + i + 1)
  have i0 : (i : Int) < (n : Int) := by omega
  have i1 : (i : Int) + 1 < (n : Int) := by omega
  have h1 := hO.set (off + i) (v / 256) (by omega) (by omega)
  have h2 := h1.set (off + i + 1) (v % 256) (by omega) (by omega)
  have g1 := (hO.row.stored (off + i) (.int .u8 (v / 256))).2
  have g2 := (h1.row.stored (off + i + 1) (.int .u8 (v % 256))).2
  have HL := Lib.hid (show Laid w ((w.setCell ⟨g, off + i, none⟩ (.int .u8 (v / 256))).setCell ⟨g, off + (i + 1), none⟩ (.int .u8 (v % 256))) base g N C (P16 L (off + i) v) from ⟨h2, g1.trans g2⟩)
  clear h1 h2 g1 g2 hO
  go_enter Try.func62, Try.ntmps62
  go_wp2
  go_end0
  exact ⟨rfl, HL.out⟩
theorem put32_at (off n c : Nat) (a v : Int) (i : Nat) (ha : a = (i : Int)) (hi : i + 3 < n) (h : off + n ≤ N) (hN : N ≤ 1000000) (hv0 : 0 ≤ v) (hv1 : v ≤ 4294967295) (hO : Own w base (some ⟨g, 0, none⟩) N C L) :
    Calls Try.prog 63 #[.slice (some ⟨g, off, none⟩) n c, .int .i64 a, .int .u32 v] w fun e w' => e = .returned (.tuple #[]) ∧ Laid w w' base g N C (P32 L (off + i) v) := by
  have HO := Lib.hid hO
  have Ha := Lib.hid ha
  have hab : 0 ≤ a ∧ a ≤ 1000000 := by omega
  clear hO ha
  go_enter Try.func63, Try.ntmps63
  go_wp2_with fail
  refine (put16_at off n c a (v / 65536) i Ha.out (by omega) h hN (by omega) (by omega) HO.out).mono ?_
  rintro e w1 ⟨rfl, hL⟩
  have HL := Lib.hid hL
  clear hL
  go_wp2_with fail
  refine (put16_at off n c (a + 2) (v % 65536) (i + 2) (by rw [Ha.out]; omega) (by omega) h hN (by omega) (by omega) HL.out.own).mono ?_
  rintro e w2 ⟨rfl, hL2⟩
  have HL2 := Lib.hid (show Laid w w2 base g N C (P32 L (off + i) v) from ⟨hL2.own, HL.out.grow.trans hL2.grow⟩)
  clear hL2
  go_wp2
  go_end0
  exact ⟨rfl, HL2.out⟩
end
end Go.Proofs.Ytdkjipfemnfckaa
