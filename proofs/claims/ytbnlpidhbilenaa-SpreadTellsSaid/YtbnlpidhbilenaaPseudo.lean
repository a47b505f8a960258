/-
  Contracts of the reference fanlightref03: word, wide, Pseudo (the sum of UDP and TCP). Conditions stand in each theorem.
-/
import Derived.Test.YtbnlpidhbilenaaPart
import Derived.Test.YtbnlpidhbilenaaPut
namespace Go.Proofs.Ytbnlpidhbilenaa
open Go.RowKit Plain
set_option linter.unusedVariables false
set_option linter.unusedSimpArgs false
set_option maxRecDepth 100000

def w2l (n : Int) : List Int := [n / 256 % 256, n % 256]
def w4l (x : Int) : List Int := [x / 16777216, x / 65536 % 256, x / 256 % 256, x % 256]
theorem w2l_by (n : Int) : By (w2l n) := by
  unfold w2l
  exact By.mk (by omega) (by omega) (By.mk (by omega) (by omega) By.nil)
theorem w4l_by (x : Int) (h0 : 0 ≤ x) (h1 : x ≤ 4294967295) : By (w4l x) := by
  unfold w4l
  exact By.mk (by omega) (by omega) (By.mk (by omega) (by omega) (By.mk (by omega) (by omega) (By.mk (by omega) (by omega) By.nil)))

theorem wide_any (x : Int) (w : World) (h0 : 0 ≤ x) (h1 : x ≤ 4294967295) :
    Calls Try.prog 74 #[.int .u32 x] w fun e w' => e = .returned (.slice (some ⟨w.heap.size, 0, none⟩) 4 4) ∧ Own w' w.heap.size (some ⟨w.heap.size, 0, none⟩) 4 4 (w4l x) ∧ Below w.heap.size w w' := by
  go_enter Try.func74, Try.ntmps74
  go_wp2
  go_ret
  exact ⟨rfl, Own.lit w (Nat.le_refl _) (w4l x) (w4l_by x h0 h1) 4 rfl (by omega) _ rfl, ball _ _⟩
theorem word_any (n : Int) (w : World) (h0 : 0 ≤ n) (h1 : n ≤ 1000000) :
    Calls Try.prog 75 #[.int .i64 n] w fun e w' => e = .returned (.slice (some ⟨w.heap.size, 0, none⟩) 2 2) ∧ Own w' w.heap.size (some ⟨w.heap.size, 0, none⟩) 2 2 (w2l n) ∧ Below w.heap.size w w' := by
  have e1 : IntKind.u8.wrap (n / 256) = n / 256 % 256 := IntKind.wrap_u8 _
  have e2 : IntKind.u8.wrap n = n % 256 := IntKind.wrap_u8 _
  go_enter Try.func75, Try.ntmps75
  go_wp2
  go_ret
  exact ⟨rfl, Own.lit w (Nat.le_refl _) (w2l n) (w2l_by n) 2 rfl (by omega) _ rfl, ball _ _⟩

def psL (src dst pr : Int) (zs : List Int) : List Int := w4l src ++ w4l dst ++ [0, pr] ++ w2l (zs.length : Int) ++ zs
theorem psL_cs (src dst pr : Int) (zs : List Int) (hz : By zs) (s0 : 0 ≤ src) (s1 : src ≤ 4294967295) (d0 : 0 ≤ dst) (d1 : dst ≤ 4294967295) (p0 : 0 ≤ pr) (p1 : pr ≤ 255) : Cs (psL src dst pr zs) = Ps src dst pr zs := by
  have t := tot_append (w4l src ++ w4l dst ++ [0, pr] ++ w2l (zs.length : Int)) zs (by simp [w4l, w2l])
  unfold Cs Ps psL
  rw [t]
  congr 2
  simp only [w4l, w2l, List.cons_append, List.nil_append, tot]
  omega

set_option maxHeartbeats 4000000 in
theorem pseudo_any (src dst pr : Int) (A : Option Addr) (n c : Nat) (zs : List Int) (w : World) (hn : zs.length = n) (hl : n ≤ 100000) (hR : Rd w A zs) (s0 : 0 ≤ src) (s1 : src ≤ 4294967295) (d0 : 0 ≤ dst) (d1 : dst ≤ 4294967295) (p0 : 0 ≤ pr) (p1 : pr ≤ 255) :
    Calls Try.prog 59 #[.int .u32 src, .int .u32 dst, .int .i64 pr, .slice A n c] w fun e w' => e = .returned (.int .u16 (Ps src dst pr zs)) ∧ Below w.heap.size w w' := by
  have HR := Lib.hid hR
  have Hn := Lib.hid hn
  have Hps := Lib.hid (psL_cs src dst pr zs hR.1 s0 s1 d0 d1 p0 p1)
  have e1 : IntKind.u8.wrap pr = pr := by rw [IntKind.wrap_u8]; omega
  clear hR hn
  go_enter Try.func59, Try.ntmps59
  go_wp2_with fail
  refine (wide_any src _ s0 s1).mono ?_
  rintro e w1 ⟨rfl, ho1, hb1⟩
  have HB1 := Lib.hid hb1
  have HO1 := Lib.hid ho1
  have hs1 := hb1.size
  clear ho1 hb1
  go_wp2_with fail
  refine (wide_any dst _ d0 d1).mono ?_
  rintro e w2 ⟨rfl, ho2, hb2⟩
  have HB2 := Lib.hid (bthen HB1.out hb2)
  have HO2 := Lib.hid (HO1.out.below hb2)
  have HR2 := Lib.hid ho2.rd
  have hs2 := (bthen HB1.out hb2).size
  clear ho2 hb2
  generalize w1.heap.size = p1' at *
  go_wp2_with (first | (at_builtin; refine wpList_app rfl (.tmp 11) (.tmp 13) rfl rfl HO2.out (w4l dst) rfl HR2.out rfl (by omega) hs2 ?_; intro A3 c3 w3 ho3 hg3 hA3; have HO3 := Lib.hid ho3; have HB3 := Lib.hid (below_app HB2.out hg3 HO2.out (Nat.le_refl _) hs2); have hs3 := HB3.out.size; clear ho3 hg3 hA3) | (at_builtin; refine wpList_app rfl (.tmp 14) (.tmp 17) rfl rfl (HO3.out.alloc _) [0, pr] rfl (Rd.newM w3 _ _ [0, pr] (By.mk (by omega) (by omega) (By.mk (by omega) (by omega) By.nil)) _ rfl) rfl (by omega) (bthen HB3.out (ball w3 _)).size ?_; intro A4 c4 w4 ho4 hg4 hA4; have HO4 := Lib.hid ho4; have HB4 := Lib.hid (below_app (bthen HB3.out (ball w3 _)) hg4 (HO3.out.alloc _) (Nat.le_refl _) (bthen HB3.out (ball w3 _)).size); have hs4 := HB4.out.size; clear ho4 hg4 hA4))
  refine (word_any (n : Int) _ (by omega) (by omega)).mono ?_
  rintro e w5 ⟨rfl, ho5, hb5⟩
  have HB5 := Lib.hid (bthen HB4.out hb5)
  have HO5 := Lib.hid (HO4.out.below hb5)
  have HR5 := Lib.hid ho5.rd
  have hs5 := (bthen HB4.out hb5).size
  clear ho5 hb5
  go_wp2_with (first | (at_builtin; refine wpList_app rfl (.tmp 18) (.tmp 21) rfl rfl HO5.out (w2l (n : Int)) rfl HR5.out rfl (by omega) hs5 ?_; intro A6 c6 w6 ho6 hg6 hA6; have HO6 := Lib.hid ho6; have HB6 := Lib.hid (below_app HB5.out hg6 HO5.out (Nat.le_refl _) hs5); have hs6 := HB6.out.size; clear ho6 hg6 hA6) | (at_builtin; refine wpList_app rfl (.tmp 23) (.tmp 24) rfl rfl HO6.out zs rfl (HR.out.below HB6.out) Hn.out (by omega) hs6 ?_; intro A7 c7 w7 ho7 hg7 hA7; have HO7 := Lib.hid ho7; have HB7 := Lib.hid (below_app HB6.out hg7 HO6.out (Nat.le_refl _) hs6); clear ho7 hg7 hA7))
  have Hz := Lib.hid (show w4l src ++ w4l dst ++ [0, pr] ++ w2l (n : Int) ++ zs = psL src dst pr zs by unfold psL; rw [Hn.out])
  refine (refOf_n _ (4 + 4 + 2 + 2 + n) c7 _ _ HO7.out.len (by omega) HO7.out.rd).mono ?_
  rintro e w' ⟨rfl, rfl⟩
  rw [Hz.out, Hps.out]
  go_wp2
  go_ret
  exact ⟨rfl, HB7.out⟩
end Go.Proofs.Ytbnlpidhbilenaa
