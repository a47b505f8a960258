/-
  Package fanlightlaw04: same. Conditions stand in each theorem.
-/
import Derived.Test.YtdkjipfemnfckaaRwN
import Derived.Test.YtdkjipfemnfckaaRef2
import Derived.Test.YtdkjipfemnfckaaRGet
namespace Go.Proofs.Ytdkjipfemnfckaa
open Go.RowKit Plain
set_option linter.unusedVariables false
set_option linter.unusedSimpArgs false
set_option maxRecDepth 1000000
/-- what an index reads in such a map -/
def lkV (ks : List (Int × Int)) (m : Int) : Int := match ks.find? (fun q => q.1 == m) with
  | some q => q.2
  | none => 0
theorem MpV.lk {w : World} {b : Nat} {ks : List (Int × Int)} (h : MpV w b ks) (m : Int) (hm : I64 m) : (Instr.lookup 42 (.map (some b)) (.int .i64 m) false).run Try.prog w = .ok (.int .i64 (lkV ks m)) w := by
  obtain ⟨x, h1, h2⟩ := h.look m hm
  have : lkV ks m = x := by
    unfold lkV
    cases hf : ks.find? (fun q => q.1 == m) with
    | none =>
      rcases h2 with ⟨h2, _⟩ | h2
      · exact h2.symm
      · have := List.find?_eq_none.1 hf _ h2
        simp at this
    | some q =>
      have hq := List.mem_of_find?_eq_some hf
      have hq2 : q.1 = m := by have := List.find?_some hf; simpa using this
      rcases h2 with ⟨_, h3⟩ | h3
      · exact absurd hq2 (h3 q hq)
      · rw [h.nd q (m, x) hq h3 hq2]
  rw [this]
  exact h1
theorem lkV_zero {ks : List (Int × Int)} (hz : ∀ q ∈ ks, q.2 ≠ 0) (k : Nat) (h : lkV ks (k : Int) = 0) : noK ks k := by
  intro q hq hc
  unfold lkV at h
  cases hf : ks.find? (fun q => q.1 == (k : Int)) with
  | none =>
    have := List.find?_eq_none.1 hf _ hq
    simp [hc] at this
  | some r =>
    rw [hf] at h
    exact hz r (List.mem_of_find?_eq_some hf) h
theorem lkV_mem {ks : List (Int × Int)} (k : Int) (h : lkV ks k ≠ 0) : (k, lkV ks k) ∈ ks := by
  unfold lkV at h ⊢
  cases hf : ks.find? (fun q => q.1 == k) with
  | none => rw [hf] at h; exact absurd rfl h
  | some r =>
    have hq2 : r.1 = k := by have := List.find?_some hf; simpa using this
    have := List.mem_of_find?_eq_some hf
    simp only
    rw [← hq2]
    exact this
theorem sq_nz (a n : Nat) (v : Int) (hv : v ≠ 0) : ∀ q ∈ sq a n v, q.2 ≠ 0 := by
  intro q hq
  obtain ⟨i, _, rfl⟩ := List.mem_map.1 hq
  exact hv
theorem nz_app {a b : List (Int × Int)} (h1 : ∀ q ∈ a, q.2 ≠ 0) (h2 : ∀ q ∈ b, q.2 ≠ 0) : ∀ q ∈ a ++ b, q.2 ≠ 0 := fun q hq => (List.mem_append.1 hq).elim (h1 q) (h2 q)
theorem freeL_nz (S isz pos pl pt pl2 pt2 : Nat) (h3 ipr : Int) (er bare : Bool) : ∀ q ∈ freeL S isz pos pl pt pl2 pt2 h3 ipr er bare, q.2 ≠ 0 := by
  unfold freeL
  refine nz_app (nz_app (by simp) (sq_nz _ _ _ (by omega))) ?_
  repeat' split
  all_goals (repeat' (first | refine nz_app ?_ ?_ | exact sq_nz _ _ _ (by omega) | (intro q hq; simp at hq; done)))
/-- while it is looked at: heads, parts, the map, both frames -/
structure StS (w : World) (g1 g2 g3 g4 b : Nat) (c1 c2 c3 c4 : Array Value) (ks : List (Int × Int)) (A1 A2 : Option Addr) (zs ys : List Int) (W : World) : Prop where
  k1 : Blk W g1 35 c1
  k2 : Blk W g2 39 c2
  k3 : Blk W g3 35 c3
  k4 : Blk W g4 39 c4
  m : MpV W b ks
  r1 : Rd W A1 zs
  r2 : Rd W A2 ys
  bel : Below w.heap.size w W
theorem StS.below {w W W' : World} {g1 g2 g3 g4 b : Nat} {c1 c2 c3 c4 : Array Value} {ks : List (Int × Int)} {A1 A2 : Option Addr} {zs ys : List Int} (h : StS w g1 g2 g3 g4 b c1 c2 c3 c4 ks A1 A2 zs ys W) (hb : Below W.heap.size W W') : StS w g1 g2 g3 g4 b c1 c2 c3 c4 ks A1 A2 zs ys W' :=
  ⟨h.k1.below hb, h.k2.below hb, h.k3.below hb, h.k4.below hb, h.m.below hb, h.r1.below hb, h.r2.below hb, bthen h.bel hb⟩
set_option maxHeartbeats 16000000 in
theorem same_core0 (S N isz pos n1 n2 m1 m2 : Nat) (h2 h3 h4 h5 A P p0 p1 p2 fl kd cd p8 p9 p10 p11 p12 y0 y1 y2 y7 y8 y9 y10 y11 y12 y13 : Int) (er bare : Bool) (A1 A2 : Option Addr) (zs ys : List Int) (w : World)
    (hn1 : zs.length = n1) (hn2 : ys.length = n2) (hc1 : n1 ≤ m1) (hc2 : n2 ≤ m2) (hl1 : n1 ≤ 100000) (hN : n2 = N) (hNz : N ≤ n1) (hN20 : 20 ≤ N) (hcm : m1 ≤ 9223372036854775807) (hcm2 : m2 ≤ 9223372036854775807) (hpn : er = true → pos + isz ≤ N) (hR1 : Rd w A1 zs) (hR2 : Rd w A2 ys) (hS0 : 20 ≤ S) (hS1 : S ≤ 60)
    (hg1 : gtE zs = 0 ∧ gtH zs = ⟨S, N, h2, h3, h4, h5⟩) (hg2 : gtE ys = 0 ∧ gtH ys = ⟨S, N, h2, h3, A, h5⟩) (s0 : 0 ≤ h4) (s1 : h4 ≤ 4294967295) (t0 : 0 ≤ h5) (t1 : h5 ≤ 4294967295) (n0 : 0 ≤ A) (n1' : A ≤ 4294967295)
    (hp1 : pgE ⟨S, N, h2, h3, h4, h5⟩ zs = 0 ∧ pgP ⟨S, N, h2, h3, h4, h5⟩ zs = ⟨p0, p1, p2, fl, kd, cd, er, ⟨isz, p8, p9, p10, p11, p12⟩, pos, bare⟩) (hp2 : pgE ⟨S, N, h2, h3, A, h5⟩ ys = 0 ∧ pgP ⟨S, N, h2, h3, A, h5⟩ ys = ⟨y0, y1, y2, fl, kd, cd, er, ⟨y7, y8, y9, y10, y11, y12⟩, y13, bare⟩)
    (her : er = true → pos = S + 8 ∧ 20 ≤ isz ∧ isz ≤ 60)
    (hoth : ∀ k, k < N → noK (freeL S isz pos 12 0 16 2 h3 p10 er bare) k → ys.getD k 0 = zs.getD k 0) (hpl : er = false → y1 = P ∧ (y2 = p2 ∨ h3 = 1)) (herr : er = true → y13 = (pos : Int) ∧ y7 = (isz : Int) ∧ y10 = p10 ∧ y12 = A ∧ y11 = p11 ∧ Cs ((ys.drop pos).take isz) % 65535 = Cs ((zs.drop pos).take isz) % 65535 ∧ (p10 = 1 → y1 = P) ∧ (p10 ≠ 1 → y2 = P ∧ y1 = p1)) :
    Calls Try.prog 14 #[.slice A1 n1 m1, .slice A2 n2 m2, .bool true, .int .u32 A, .int .u16 P] w fun r w' => r = .returned (.bool true) ∧ Below w.heap.size w w' := by
  have hG1 := fun (W : World) (hR : Rd W A1 zs) => refGet_any A1 n1 m1 zs W hn1 hc1 (by omega) hR
  rw [hg1.1, hg1.2] at hG1
  have HG1 := Lib.hid hG1
  have hG2 := fun (W : World) (hR : Rd W A2 ys) => refGet_any A2 n2 m2 ys W hn2 hc2 (by omega) hR
  rw [hg2.1, hg2.2] at hG2
  have HG2 := Lib.hid hG2
  have hP1 := fun (W : World) (hR : Rd W A1 zs) => rget_any S N h2 h3 h4 h5 A1 n1 m1 zs W hn1 hc1 hl1 hR s0 s1 t0 t1
  rw [hp1.1, hp1.2] at hP1
  have HP1 := Lib.hid hP1
  have hP2 := fun (W : World) (hR : Rd W A2 ys) => rget_any S N h2 h3 A h5 A2 n2 m2 ys W hn2 hc2 (by omega) hR (by omega) (by omega) (by omega) (by omega)
  rw [hp2.1, hp2.2] at hP2
  have HP2 := Lib.hid hP2
  have HN1 := Lib.hid hn1
  have HN2 := Lib.hid hn2
  have HER := Lib.hid her
  have HOT := Lib.hid hoth
  have HPL := Lib.hid hpl
  have HRR := Lib.hid herr
  have hN1 : n2 ≤ N := by omega
  have hN2 : N ≤ n2 := by omega
  clear hG1 hG2 hP1 hP2 hn1 hn2 her hoth hpl herr hg1 hg2 hp1 hp2
  subst hN
  clear hN1 hN2
  obtain ⟨b1, o1, rfl, _⟩ := hR1.2 (by have := HN1.out; omega)
  obtain ⟨b2, o2, rfl, _⟩ := hR2.2 (by have := HN2.out; omega)
  go_enter Try.func14, Try.ntmps14
  go_wp2_with fail
  refine (HG1.out _ hR1).mono ?_
  rintro r w1 ⟨rfl, hb1⟩
  rw [show (Hd.mk (S : Int) (n2 : Int) h2 h3 h4 h5).val = .agg #[.int .i64 S, .int .i64 n2, .int .i64 h2, .int .i64 h3, .int .u32 h4, .int .u32 h5] from rfl]
  have HB1 := Lib.hid hb1
  clear hb1 HG1
  go_upto_region 2 with fail
  have KA := Lib.hid (Blk.new w1 35 #[.int .i64 S, .int .i64 n2, .int .i64 h2, .int .i64 h3, .int .u32 h4, .int .u32 h5])
  have HB2 := Lib.hid (bthen HB1.out (ball w1 (.cells #[.int .i64 S, .int .i64 n2, .int .i64 h2, .int .i64 h3, .int .u32 h4, .int .u32 h5] 35)))
  clear HB1
  generalize w1.alloc (.cells #[.int .i64 S, .int .i64 n2, .int .i64 h2, .int .i64 h3, .int .u32 h4, .int .u32 h5] 35) = w2 at *
  generalize w1.heap.size = g1 at *
  go_wp2_with (first | ((with_reducible refine gd_ld 35 11 ?_); refine wpList_ld rfl 35 (.tmp 11) rfl _ rfl (KA.out) sRHead ?_) | fail)
  refine (HP1.out _ (hR1.below HB2.out)).mono ?_
  rintro r w3 ⟨rfl, hb3⟩
  rw [show (Pt.mk p0 p1 p2 fl kd cd er ⟨isz, p8, p9, p10, p11, p12⟩ pos bare).val = .agg #[.int .i64 p0, .int .u16 p1, .int .u16 p2, .int .i64 fl, .int .i64 kd, .int .i64 cd, .bool er, .int .i64 isz, .int .i64 p8, .int .i64 p9, .int .i64 p10, .int .u32 p11, .int .u32 p12, .int .i64 pos, .bool bare] from rfl]
  have HB3 := Lib.hid (bthen HB2.out hb3)
  have KA3 := Lib.hid (KA.out.below hb3)
  clear hb3 HP1 HB2 KA
  go_upto_region 3 with fail
  have KB := Lib.hid (Blk.new w3 39 #[.int .i64 p0, .int .u16 p1, .int .u16 p2, .int .i64 fl, .int .i64 kd, .int .i64 cd, .bool er, .int .i64 isz, .int .i64 p8, .int .i64 p9, .int .i64 p10, .int .u32 p11, .int .u32 p12, .int .i64 pos, .bool bare])
  have KA4 := Lib.hid (KA3.out.alloc (.cells #[.int .i64 p0, .int .u16 p1, .int .u16 p2, .int .i64 fl, .int .i64 kd, .int .i64 cd, .bool er, .int .i64 isz, .int .i64 p8, .int .i64 p9, .int .i64 p10, .int .u32 p11, .int .u32 p12, .int .i64 pos, .bool bare] 39))
  have HB4 := Lib.hid (bthen HB3.out (ball w3 (.cells #[.int .i64 p0, .int .u16 p1, .int .u16 p2, .int .i64 fl, .int .i64 kd, .int .i64 cd, .bool er, .int .i64 isz, .int .i64 p8, .int .i64 p9, .int .i64 p10, .int .u32 p11, .int .u32 p12, .int .i64 pos, .bool bare] 39)))
  clear HB3 KA3
  generalize w3.alloc (.cells #[.int .i64 p0, .int .u16 p1, .int .u16 p2, .int .i64 fl, .int .i64 kd, .int .i64 cd, .bool er, .int .i64 isz, .int .i64 p8, .int .i64 p9, .int .i64 p10, .int .u32 p11, .int .u32 p12, .int .i64 pos, .bool bare] 39) = w4 at *
  generalize w3.heap.size = g2 at *
  go_wp2_with fail
  refine (HG2.out _ (hR2.below HB4.out)).mono ?_
  rintro r w5 ⟨rfl, hb5⟩
  rw [show (Hd.mk (S : Int) (n2 : Int) h2 h3 A h5).val = .agg #[.int .i64 S, .int .i64 n2, .int .i64 h2, .int .i64 h3, .int .u32 A, .int .u32 h5] from rfl]
  have HB5 := Lib.hid (bthen HB4.out hb5)
  have KA5 := Lib.hid (KA4.out.below hb5)
  have KB5 := Lib.hid (KB.out.below hb5)
  clear hb5 HG2 HB4 KA4 KB
  go_upto_region 4 with fail
  have KC := Lib.hid (Blk.new w5 35 #[.int .i64 S, .int .i64 n2, .int .i64 h2, .int .i64 h3, .int .u32 A, .int .u32 h5])
  have KA6 := Lib.hid (KA5.out.alloc (.cells #[.int .i64 S, .int .i64 n2, .int .i64 h2, .int .i64 h3, .int .u32 A, .int .u32 h5] 35))
  have KB6 := Lib.hid (KB5.out.alloc (.cells #[.int .i64 S, .int .i64 n2, .int .i64 h2, .int .i64 h3, .int .u32 A, .int .u32 h5] 35))
  have HB6 := Lib.hid (bthen HB5.out (ball w5 (.cells #[.int .i64 S, .int .i64 n2, .int .i64 h2, .int .i64 h3, .int .u32 A, .int .u32 h5] 35)))
  clear HB5 KA5 KB5
  generalize w5.alloc (.cells #[.int .i64 S, .int .i64 n2, .int .i64 h2, .int .i64 h3, .int .u32 A, .int .u32 h5] 35) = w6 at *
  generalize w5.heap.size = g3 at *
  go_wp2_with (first | ((with_reducible refine gd_ld 35 15 ?_); refine wpList_ld rfl 35 (.tmp 15) rfl _ rfl (KC.out) sRHead ?_) | fail)
  refine (HP2.out _ (hR2.below HB6.out)).mono ?_
  rintro r w7 ⟨rfl, hb7⟩
  rw [show (Pt.mk y0 y1 y2 fl kd cd er ⟨y7, y8, y9, y10, y11, y12⟩ y13 bare).val = .agg #[.int .i64 y0, .int .u16 y1, .int .u16 y2, .int .i64 fl, .int .i64 kd, .int .i64 cd, .bool er, .int .i64 y7, .int .i64 y8, .int .i64 y9, .int .i64 y10, .int .u32 y11, .int .u32 y12, .int .i64 y13, .bool bare] from rfl]
  have HB7 := Lib.hid (bthen HB6.out hb7)
  have KA7 := Lib.hid (KA6.out.below hb7)
  have KB7 := Lib.hid (KB6.out.below hb7)
  have KC7 := Lib.hid (KC.out.below hb7)
  clear hb7 HP2 HB6 KA6 KB6 KC
  go_upto_region 5 with fail
  have KD8 := Lib.hid (Blk.new w7 39 #[.int .i64 y0, .int .u16 y1, .int .u16 y2, .int .i64 fl, .int .i64 kd, .int .i64 cd, .bool er, .int .i64 y7, .int .i64 y8, .int .i64 y9, .int .i64 y10, .int .u32 y11, .int .u32 y12, .int .i64 y13, .bool bare])
  have KA8 := Lib.hid (KA7.out.alloc (.cells #[.int .i64 y0, .int .u16 y1, .int .u16 y2, .int .i64 fl, .int .i64 kd, .int .i64 cd, .bool er, .int .i64 y7, .int .i64 y8, .int .i64 y9, .int .i64 y10, .int .u32 y11, .int .u32 y12, .int .i64 y13, .bool bare] 39))
  have KB8 := Lib.hid (KB7.out.alloc (.cells #[.int .i64 y0, .int .u16 y1, .int .u16 y2, .int .i64 fl, .int .i64 kd, .int .i64 cd, .bool er, .int .i64 y7, .int .i64 y8, .int .i64 y9, .int .i64 y10, .int .u32 y11, .int .u32 y12, .int .i64 y13, .bool bare] 39))
  have KC8 := Lib.hid (KC7.out.alloc (.cells #[.int .i64 y0, .int .u16 y1, .int .u16 y2, .int .i64 fl, .int .i64 kd, .int .i64 cd, .bool er, .int .i64 y7, .int .i64 y8, .int .i64 y9, .int .i64 y10, .int .u32 y11, .int .u32 y12, .int .i64 y13, .bool bare] 39))
  have HB8 := Lib.hid (bthen HB7.out (ball w7 (.cells #[.int .i64 y0, .int .u16 y1, .int .u16 y2, .int .i64 fl, .int .i64 kd, .int .i64 cd, .bool er, .int .i64 y7, .int .i64 y8, .int .i64 y9, .int .i64 y10, .int .u32 y11, .int .u32 y12, .int .i64 y13, .bool bare] 39)))
  clear HB7 KA7 KB7 KC7
  generalize w7.alloc (.cells #[.int .i64 y0, .int .u16 y1, .int .u16 y2, .int .i64 fl, .int .i64 kd, .int .i64 cd, .bool er, .int .i64 y7, .int .i64 y8, .int .i64 y9, .int .i64 y10, .int .u32 y11, .int .u32 y12, .int .i64 y13, .bool bare] 39) = w8 at *
  generalize w7.heap.size = g4 at *
  have a0 : w8.cell? ⟨g1, 0, none⟩ = some (.int .i64 S) := KA8.out.cell 0
  have a1 : w8.cell? ⟨g1, 1, none⟩ = some (.int .i64 n2) := KA8.out.cell 1
  have a2 : w8.cell? ⟨g1, 2, none⟩ = some (.int .i64 h2) := KA8.out.cell 2
  have a3 : w8.cell? ⟨g1, 3, none⟩ = some (.int .i64 h3) := KA8.out.cell 3
  have a4 : w8.cell? ⟨g1, 4, none⟩ = some (.int .u32 h4) := KA8.out.cell 4
  have a5 : w8.cell? ⟨g1, 5, none⟩ = some (.int .u32 h5) := KA8.out.cell 5
  have c0 : w8.cell? ⟨g3, 0, none⟩ = some (.int .i64 S) := KC8.out.cell 0
  have c1 : w8.cell? ⟨g3, 1, none⟩ = some (.int .i64 n2) := KC8.out.cell 1
  have c2 : w8.cell? ⟨g3, 2, none⟩ = some (.int .i64 h2) := KC8.out.cell 2
  have c3 : w8.cell? ⟨g3, 3, none⟩ = some (.int .i64 h3) := KC8.out.cell 3
  have c4 : w8.cell? ⟨g3, 4, none⟩ = some (.int .u32 A) := KC8.out.cell 4
  have c5 : w8.cell? ⟨g3, 5, none⟩ = some (.int .u32 h5) := KC8.out.cell 5
  have b1 : w8.cell? ⟨g2, 1, none⟩ = some (.int .u16 p1) := KB8.out.cell 1
  have b2 : w8.cell? ⟨g2, 2, none⟩ = some (.int .u16 p2) := KB8.out.cell 2
  have b3 : w8.cell? ⟨g2, 3, none⟩ = some (.int .i64 fl) := KB8.out.cell 3
  have b4 : w8.cell? ⟨g2, 4, none⟩ = some (.int .i64 kd) := KB8.out.cell 4
  have b5 : w8.cell? ⟨g2, 5, none⟩ = some (.int .i64 cd) := KB8.out.cell 5
  have b6 : w8.cell? ⟨g2, 6, none⟩ = some (.bool _) := KB8.out.cell 6
  have b7 : w8.cell? ⟨g2, 7, none⟩ = some (.int .i64 isz) := KB8.out.cell 7
  have b10 : w8.cell? ⟨g2, 10, none⟩ = some (.int .i64 p10) := KB8.out.cell 10
  have b11 : w8.cell? ⟨g2, 11, none⟩ = some (.int .u32 p11) := KB8.out.cell 11
  have b12 : w8.cell? ⟨g2, 12, none⟩ = some (.int .u32 p12) := KB8.out.cell 12
  have b13 : w8.cell? ⟨g2, 13, none⟩ = some (.int .i64 pos) := KB8.out.cell 13
  have b14 : w8.cell? ⟨g2, 14, none⟩ = some (.bool _) := KB8.out.cell 14
  have d1 : w8.cell? ⟨g4, 1, none⟩ = some (.int .u16 y1) := KD8.out.cell 1
  have d2 : w8.cell? ⟨g4, 2, none⟩ = some (.int .u16 y2) := KD8.out.cell 2
  have d3 : w8.cell? ⟨g4, 3, none⟩ = some (.int .i64 fl) := KD8.out.cell 3
  have d4 : w8.cell? ⟨g4, 4, none⟩ = some (.int .i64 kd) := KD8.out.cell 4
  have d5 : w8.cell? ⟨g4, 5, none⟩ = some (.int .i64 cd) := KD8.out.cell 5
  have d6 : w8.cell? ⟨g4, 6, none⟩ = some (.bool _) := KD8.out.cell 6
  have d7 : w8.cell? ⟨g4, 7, none⟩ = some (.int .i64 y7) := KD8.out.cell 7
  have d10 : w8.cell? ⟨g4, 10, none⟩ = some (.int .i64 y10) := KD8.out.cell 10
  have d11 : w8.cell? ⟨g4, 11, none⟩ = some (.int .u32 y11) := KD8.out.cell 11
  have d12 : w8.cell? ⟨g4, 12, none⟩ = some (.int .u32 y12) := KD8.out.cell 12
  have d13 : w8.cell? ⟨g4, 13, none⟩ = some (.int .i64 y13) := KD8.out.cell 13
  have d14 : w8.cell? ⟨g4, 14, none⟩ = some (.bool _) := KD8.out.cell 14
  go_upto_region 7 with fail
  clear a0 a1 a2 a3 a4 a5 c0 c1 c2 c3 c4 c5 b1 b2 b3 b4 b5 b6 b7 b10 b11 b12 b13 b14 d1 d2 d3 d4 d5 d6 d7 d10 d11 d12 d13 d14
  go_wp2_with (first | ((with_reducible refine gd_ld 35 11 ?_); refine wpList_ld rfl 35 (.tmp 11) rfl _ rfl (KA8.out) sRHead ?_) | ((with_reducible refine gd_ld 39 13 ?_); refine wpList_ld rfl 39 (.tmp 13) rfl _ rfl (KB8.out) sRPart ?_) | fail)
  refine (free_core S isz pos 12 0 16 2 n2 h2 h3 h4 h5 p0 p1 p2 fl kd cd er p8 p9 p10 p11 p12 bare true _ hS0 hS1 (Or.inl ⟨rfl, rfl, rfl, rfl, rfl⟩) HER.out).mono ?_
  rintro r w9 ⟨b, rfl, hm, hb⟩
  have HS9 := Lib.hid (show StS w g1 g2 g3 g4 b #[.int .i64 S, .int .i64 n2, .int .i64 h2, .int .i64 h3, .int .u32 h4, .int .u32 h5] #[.int .i64 p0, .int .u16 p1, .int .u16 p2, .int .i64 fl, .int .i64 kd, .int .i64 cd, .bool er, .int .i64 isz, .int .i64 p8, .int .i64 p9, .int .i64 p10, .int .u32 p11, .int .u32 p12, .int .i64 pos, .bool bare] #[.int .i64 S, .int .i64 n2, .int .i64 h2, .int .i64 h3, .int .u32 A, .int .u32 h5] #[.int .i64 y0, .int .u16 y1, .int .u16 y2, .int .i64 fl, .int .i64 kd, .int .i64 cd, .bool er, .int .i64 y7, .int .i64 y8, .int .i64 y9, .int .i64 y10, .int .u32 y11, .int .u32 y12, .int .i64 y13, .bool bare] (freeL S isz pos 12 0 16 2 h3 p10 er bare) (some ⟨b1, o1, none⟩) (some ⟨b2, o2, none⟩) zs ys w9 from
    ⟨KA8.out.below hb, KB8.out.below hb, KC8.out.below hb, KD8.out.below hb, hm, (hR1.below HB8.out).below hb, (hR2.below HB8.out).below hb, bthen HB8.out hb⟩)
  clear hm hb KA8 KB8 KC8 KD8 HB8
  obtain ⟨FK, hFK⟩ : ∃ x, freeL S isz pos 12 0 16 2 h3 p10 er bare = x := ⟨_, rfl⟩
  rw [hFK] at HS9 HOT
  have hnz : ∀ q ∈ FK, q.2 ≠ 0 := by rw [← hFK]; exact freeL_nz _ _ _ _ _ _ _ _ _ _ _
  have HNZ := Lib.hid hnz
  clear hFK hnz
  go_wp2
  go_loopw [20] (fun s20 wt => ∃ k : Nat, s20 = .int .i64 k ∧ k ≤ n2 ∧ StS w g1 g2 g3 g4 b #[.int .i64 S, .int .i64 n2, .int .i64 h2, .int .i64 h3, .int .u32 h4, .int .u32 h5] #[.int .i64 p0, .int .u16 p1, .int .u16 p2, .int .i64 fl, .int .i64 kd, .int .i64 cd, .bool er, .int .i64 isz, .int .i64 p8, .int .i64 p9, .int .i64 p10, .int .u32 p11, .int .u32 p12, .int .i64 pos, .bool bare] #[.int .i64 S, .int .i64 n2, .int .i64 h2, .int .i64 h3, .int .u32 A, .int .u32 h5] #[.int .i64 y0, .int .u16 y1, .int .u16 y2, .int .i64 fl, .int .i64 kd, .int .i64 cd, .bool er, .int .i64 y7, .int .i64 y8, .int .i64 y9, .int .i64 y10, .int .u32 y11, .int .u32 y12, .int .i64 y13, .bool bare] FK (some ⟨b1, o1, none⟩) (some ⟨b2, o2, none⟩) zs ys wt) (fun k _ => n2 - (intOf k).toNat)
  case atStart => exact ⟨0, rfl, by omega, HS9.out⟩
  case round =>
    obtain ⟨k, rfl, hk, hs⟩ := hrel
    have HS := Lib.hid hs
    clear hs HS9
    by_cases hlt : k < n2
    · have i0 : (k : Int) < (n2 : Int) := by omega
      have i1 : (k : Int) < (n1 : Int) := by omega
      obtain ⟨x, hx⟩ : ∃ x, lkV FK (k : Int) = x := ⟨_, rfl⟩
      have rl : ∀ W, StS w g1 g2 g3 g4 b #[.int .i64 S, .int .i64 n2, .int .i64 h2, .int .i64 h3, .int .u32 h4, .int .u32 h5] #[.int .i64 p0, .int .u16 p1, .int .u16 p2, .int .i64 fl, .int .i64 kd, .int .i64 cd, .bool er, .int .i64 isz, .int .i64 p8, .int .i64 p9, .int .i64 p10, .int .u32 p11, .int .u32 p12, .int .i64 pos, .bool bare] #[.int .i64 S, .int .i64 n2, .int .i64 h2, .int .i64 h3, .int .u32 A, .int .u32 h5] #[.int .i64 y0, .int .u16 y1, .int .u16 y2, .int .i64 fl, .int .i64 kd, .int .i64 cd, .bool er, .int .i64 y7, .int .i64 y8, .int .i64 y9, .int .i64 y10, .int .u32 y11, .int .u32 y12, .int .i64 y13, .bool bare] FK (some ⟨b1, o1, none⟩) (some ⟨b2, o2, none⟩) zs ys W → (Instr.lookup 42 (.map (some b)) (.int .i64 k) false).run Try.prog W = .ok (.int .i64 x) W := fun W h => by rw [← hx]; exact h.m.lk _ (by unfold I64; omega)
      by_cases hx0 : x = 0
      · subst hx0
        as_aux_lemma =>
          have hno := HOT.out k hlt (lkV_zero HNZ.out k hx)
          obtain ⟨v, hv⟩ : ∃ v, zs.getD k 0 = v := ⟨_, rfl⟩
          have hl1 := HN1.out
          have hl2 := HN2.out
          have r1 : ∀ W, StS w g1 g2 g3 g4 b #[.int .i64 S, .int .i64 n2, .int .i64 h2, .int .i64 h3, .int .u32 h4, .int .u32 h5] #[.int .i64 p0, .int .u16 p1, .int .u16 p2, .int .i64 fl, .int .i64 kd, .int .i64 cd, .bool er, .int .i64 isz, .int .i64 p8, .int .i64 p9, .int .i64 p10, .int .u32 p11, .int .u32 p12, .int .i64 pos, .bool bare] #[.int .i64 S, .int .i64 n2, .int .i64 h2, .int .i64 h3, .int .u32 A, .int .u32 h5] #[.int .i64 y0, .int .u16 y1, .int .u16 y2, .int .i64 fl, .int .i64 kd, .int .i64 cd, .bool er, .int .i64 y7, .int .i64 y8, .int .i64 y9, .int .i64 y10, .int .u32 y11, .int .u32 y12, .int .i64 y13, .bool bare] FK (some ⟨b1, o1, none⟩) (some ⟨b2, o2, none⟩) zs ys W → W.cell? ⟨b1, o1 + k, none⟩ = some (.int .u8 v) := fun W h => by rw [← hv]; exact h.r1.getAt k (by omega)
          have r2 : ∀ W, StS w g1 g2 g3 g4 b #[.int .i64 S, .int .i64 n2, .int .i64 h2, .int .i64 h3, .int .u32 h4, .int .u32 h5] #[.int .i64 p0, .int .u16 p1, .int .u16 p2, .int .i64 fl, .int .i64 kd, .int .i64 cd, .bool er, .int .i64 isz, .int .i64 p8, .int .i64 p9, .int .i64 p10, .int .u32 p11, .int .u32 p12, .int .i64 pos, .bool bare] #[.int .i64 S, .int .i64 n2, .int .i64 h2, .int .i64 h3, .int .u32 A, .int .u32 h5] #[.int .i64 y0, .int .u16 y1, .int .u16 y2, .int .i64 fl, .int .i64 kd, .int .i64 cd, .bool er, .int .i64 y7, .int .i64 y8, .int .i64 y9, .int .i64 y10, .int .u32 y11, .int .u32 y12, .int .i64 y13, .bool bare] FK (some ⟨b1, o1, none⟩) (some ⟨b2, o2, none⟩) zs ys W → W.cell? ⟨b2, o2 + k, none⟩ = some (.int .u8 v) := fun W h => by rw [← hv, ← hno]; exact h.r2.getAt k (by omega)
          clear hno hv hx hl1 hl2
          go_upto_region 11 with fail
          refine wp_region_held_drew (S := (fun W => StS w g1 g2 g3 g4 b #[.int .i64 S, .int .i64 n2, .int .i64 h2, .int .i64 h3, .int .u32 h4, .int .u32 h5] #[.int .i64 p0, .int .u16 p1, .int .u16 p2, .int .i64 fl, .int .i64 kd, .int .i64 cd, .bool er, .int .i64 isz, .int .i64 p8, .int .i64 p9, .int .i64 p10, .int .u32 p11, .int .u32 p12, .int .i64 pos, .bool bare] #[.int .i64 S, .int .i64 n2, .int .i64 h2, .int .i64 h3, .int .u32 A, .int .u32 h5] #[.int .i64 y0, .int .u16 y1, .int .u16 y2, .int .i64 fl, .int .i64 kd, .int .i64 cd, .bool er, .int .i64 y7, .int .i64 y8, .int .i64 y9, .int .i64 y10, .int .u32 y11, .int .u32 y12, .int .i64 y13, .bool bare] FK (some ⟨b1, o1, none⟩) (some ⟨b2, o2, none⟩) zs ys W)) (by kernel_rfl) (HS.out.below (bdrew _)) (fun hHeld => ?_)
          refine wpAnyH_take (i := 0) (oi := ⟨some 147, _, _, _, _, _⟩) (v := ?tvu0) rfl (by kernel_rfl) (by kernel_rfl) (by kernel_rfl) (fun _ _ _ h => h) (Or.inl ⟨by kernel_rfl, ?tyu0⟩) (by assumption) ?tru0
          case tyu0 => (intro w hSw; first | (go_simp; done) | (go_simp; with_reducible rfl))
          case' tru0 => try simp only [Act.put, List.setIfInBounds_toArray, List.set_cons_zero, List.set_cons_succ]
          refine wpAnyH_take (i := 1) (oi := ⟨some 148, _, _, _, _, _⟩) (v := ?tvu1) rfl (by kernel_rfl) (by kernel_rfl) (by kernel_rfl) (fun _ _ _ h => h) (Or.inl ⟨by kernel_rfl, ?tyu1⟩) (by assumption) ?tru1
          case tyu1 => (intro w hSw; first | (go_simp; done) | (go_simp; with_reducible rfl))
          case' tru1 => try simp only [Act.put, List.setIfInBounds_toArray, List.set_cons_zero, List.set_cons_succ]
          refine wpAnyH_take (i := 2) (oi := ⟨some 149, _, _, _, _, _⟩) (v := ?tvu2) rfl (by kernel_rfl) (by kernel_rfl) (by kernel_rfl) (fun _ _ _ h => h) (Or.inl ⟨by kernel_rfl, ?tyu2⟩) (by assumption) ?tru2
          case tyu2 => (intro w hSw; first | (go_simp; done) | (go_simp; with_reducible rfl))
          case' tru2 => try simp only [Act.put, List.setIfInBounds_toArray, List.set_cons_zero, List.set_cons_succ]
          refine wpAnyH_take (i := 3) (oi := ⟨some 150, _, _, _, _, _⟩) (v := ?tvu3) rfl (by kernel_rfl) (by kernel_rfl) (by kernel_rfl) (fun _ _ _ h => h) (Or.inl ⟨by kernel_rfl, ?tyu3⟩) (by assumption) ?tru3
          case tyu3 => (intro w hSw; first | (go_simp; done) | (go_simp; with_reducible rfl))
          case' tru3 => try simp only [Act.put, List.setIfInBounds_toArray, List.set_cons_zero, List.set_cons_succ]
          refine wpAnyH_take (i := 4) (oi := ⟨some 151, _, _, _, _, _⟩) (v := ?tvu4) rfl (by kernel_rfl) (by kernel_rfl) (by kernel_rfl) (fun _ _ _ h => h) (Or.inl ⟨by kernel_rfl, ?tyu4⟩) (by assumption) ?tru4
          case tyu4 => (intro w hSw; first | (go_simp; done) | (go_simp; with_reducible rfl))
          case' tru4 => try simp only [Act.put, List.setIfInBounds_toArray, List.set_cons_zero, List.set_cons_succ]
          refine wpAnyH_take (i := 5) (oi := ⟨some 152, _, _, _, _, _⟩) (v := ?tvu5) rfl (by kernel_rfl) (by kernel_rfl) (by kernel_rfl) (fun _ _ _ h => h) (Or.inl ⟨by kernel_rfl, ?tyu5⟩) (by assumption) ?tru5
          case tyu5 => (intro w hSw; first | (go_simp; done) | (go_simp; with_reducible rfl))
          case' tru5 => try simp only [Act.put, List.setIfInBounds_toArray, List.set_cons_zero, List.set_cons_succ]
          refine wpAnyH_take (i := 6) (oi := ⟨some 153, _, _, _, _, _⟩) (v := ?tvu6) rfl (by kernel_rfl) (by kernel_rfl) (by kernel_rfl) (fun _ _ _ h => h) (Or.inl ⟨by kernel_rfl, ?tyu6⟩) (by assumption) ?tru6
          case tyu6 => (intro w hSw; first | (go_simp; done) | (go_simp; with_reducible rfl))
          case' tru6 => try simp only [Act.put, List.setIfInBounds_toArray, List.set_cons_zero, List.set_cons_succ]
          refine wpAnyH_take (i := 7) (oi := ⟨some 154, _, _, _, _, _⟩) (v := ?tvu7) rfl (by kernel_rfl) (by kernel_rfl) (by kernel_rfl) (fun _ _ _ h => h) (Or.inl ⟨by kernel_rfl, ?tyu7⟩) (by assumption) ?tru7
          case tyu7 => (intro w hSw; first | (go_simp; done) | (go_simp; with_reducible rfl))
          case' tru7 => try simp only [Act.put, List.setIfInBounds_toArray, List.set_cons_zero, List.set_cons_succ]
          refine wpAnyH_take (i := 8) (oi := ⟨some 155, _, _, _, _, _⟩) (v := ?tvu8) rfl (by kernel_rfl) (by kernel_rfl) (by kernel_rfl) (fun _ _ _ h => h) (Or.inl ⟨by kernel_rfl, ?tyu8⟩) (by assumption) ?tru8
          case tyu8 => (intro w hSw; first | (go_simp; done) | (go_simp; with_reducible rfl))
          case' tru8 => try simp only [Act.put, List.setIfInBounds_toArray, List.set_cons_zero, List.set_cons_succ]
          refine wpAnyH_take (i := 9) (oi := ⟨some 156, _, _, _, _, _⟩) (v := ?tvu9) rfl (by kernel_rfl) (by kernel_rfl) (by kernel_rfl) (fun _ _ _ h => h) (Or.inl ⟨by kernel_rfl, ?tyu9⟩) (by assumption) ?tru9
          case tyu9 => (intro w hSw; first | (go_simp; done) | (go_simp; with_reducible rfl))
          case' tru9 => try simp only [Act.put, List.setIfInBounds_toArray, List.set_cons_zero, List.set_cons_succ]
          refine wpAnyH_take (i := 10) (oi := ⟨some 157, _, _, _, _, _⟩) (v := ?tvu10) rfl (by kernel_rfl) (by kernel_rfl) (by kernel_rfl) (fun _ _ _ h => h) (Or.inl ⟨by kernel_rfl, ?tyu10⟩) (by assumption) ?tru10
          case tyu10 => (intro w hSw; first | (go_simp; done) | (go_simp; with_reducible rfl))
          case' tru10 => try simp only [Act.put, List.setIfInBounds_toArray, List.set_cons_zero, List.set_cons_succ]
          refine wpAnyH_take (i := 11) (oi := ⟨some 158, _, _, _, _, _⟩) (v := ?tvu11) rfl (by kernel_rfl) (by kernel_rfl) (by kernel_rfl) (fun _ _ _ h => h) (Or.inl ⟨by kernel_rfl, ?tyu11⟩) (by assumption) ?tru11
          case tyu11 => (intro w hSw; first | (go_simp; done) | (go_simp; with_reducible rfl))
          case' tru11 => try simp only [Act.put, List.setIfInBounds_toArray, List.set_cons_zero, List.set_cons_succ]
          refine wpAnyH_take (i := 12) (oi := ⟨some 159, _, _, _, _, _⟩) (v := ?tvu12) rfl (by kernel_rfl) (by kernel_rfl) (by kernel_rfl) (fun _ _ _ h => h) (Or.inl ⟨by kernel_rfl, ?tyu12⟩) (by assumption) ?tru12
          case tyu12 => (intro w hSw; first | (go_simp; done) | (go_simp; with_reducible rfl))
          case' tru12 => try simp only [Act.put, List.setIfInBounds_toArray, List.set_cons_zero, List.set_cons_succ]
          refine wpAnyH_take (i := 13) (oi := ⟨some 160, _, _, _, _, _⟩) (v := ?tvu13) rfl (by kernel_rfl) (by kernel_rfl) (by kernel_rfl) (fun _ _ _ h => h) (Or.inl ⟨by kernel_rfl, ?tyu13⟩) (by assumption) ?tru13
          case tyu13 => (intro w hSw; first | (go_simp; done) | (go_simp; with_reducible rfl))
          case' tru13 => try simp only [Act.put, List.setIfInBounds_toArray, List.set_cons_zero, List.set_cons_succ]
          refine wpAnyH_take (i := 14) (oi := ⟨some 161, _, _, _, _, _⟩) (v := ?tvu14) rfl (by kernel_rfl) (by kernel_rfl) (by kernel_rfl) (fun _ _ _ h => h) (Or.inl ⟨by kernel_rfl, ?tyu14⟩) (by assumption) ?tru14
          case tyu14 => (intro w hSw; first | (go_simp; done) | (go_simp; with_reducible rfl))
          case' tru14 => try simp only [Act.put, List.setIfInBounds_toArray, List.set_cons_zero, List.set_cons_succ]
          refine wpAnyH_done (by kernel_rfl) ?_ _
          have HS' := Lib.hid hHeld
          clear hHeld HS rl r1 r2
          go_wp2
          go_roundw
          case rel => exact ⟨k + 1, by go_num, by omega, HS'.out⟩
          case measure => simp [intOf]; omega
      · have x1 : (x == 0) = false := by simpa using hx0
        as_aux_lemma =>
          clear hx hx0
          go_upto_region 11 with fail
          refine wp_region_held_drew (S := (fun W => StS w g1 g2 g3 g4 b #[.int .i64 S, .int .i64 n2, .int .i64 h2, .int .i64 h3, .int .u32 h4, .int .u32 h5] #[.int .i64 p0, .int .u16 p1, .int .u16 p2, .int .i64 fl, .int .i64 kd, .int .i64 cd, .bool er, .int .i64 isz, .int .i64 p8, .int .i64 p9, .int .i64 p10, .int .u32 p11, .int .u32 p12, .int .i64 pos, .bool bare] #[.int .i64 S, .int .i64 n2, .int .i64 h2, .int .i64 h3, .int .u32 A, .int .u32 h5] #[.int .i64 y0, .int .u16 y1, .int .u16 y2, .int .i64 fl, .int .i64 kd, .int .i64 cd, .bool er, .int .i64 y7, .int .i64 y8, .int .i64 y9, .int .i64 y10, .int .u32 y11, .int .u32 y12, .int .i64 y13, .bool bare] FK (some ⟨b1, o1, none⟩) (some ⟨b2, o2, none⟩) zs ys W)) (by kernel_rfl) (HS.out.below (bdrew _)) (fun hHeld => ?_)
          refine wpAnyH_take (i := 0) (oi := ⟨some 147, _, _, _, _, _⟩) (v := ?tvv0) rfl (by kernel_rfl) (by kernel_rfl) (by kernel_rfl) (fun _ _ _ h => h) (Or.inl ⟨by kernel_rfl, ?tyv0⟩) (by assumption) ?trv0
          case tyv0 => (intro w hSw; first | (go_simp; done) | (go_simp; with_reducible rfl))
          case' trv0 => try simp only [Act.put, List.setIfInBounds_toArray, List.set_cons_zero, List.set_cons_succ]
          refine wpAnyH_take (i := 1) (oi := ⟨some 148, _, _, _, _, _⟩) (v := ?tvv1) rfl (by kernel_rfl) (by kernel_rfl) (by kernel_rfl) (fun _ _ _ h => h) (Or.inl ⟨by kernel_rfl, ?tyv1⟩) (by assumption) ?trv1
          case tyv1 => (intro w hSw; first | (go_simp; done) | (go_simp; with_reducible rfl))
          case' trv1 => try simp only [Act.put, List.setIfInBounds_toArray, List.set_cons_zero, List.set_cons_succ]
          refine wpAnyH_take (i := 2) (oi := ⟨some 149, _, _, _, _, _⟩) (v := ?tvv2) rfl (by kernel_rfl) (by kernel_rfl) (by kernel_rfl) (fun _ _ _ h => h) (Or.inl ⟨by kernel_rfl, ?tyv2⟩) (by assumption) ?trv2
          case tyv2 => (intro w hSw; first | (go_simp; done) | (go_simp; with_reducible rfl))
          case' trv2 => try simp only [Act.put, List.setIfInBounds_toArray, List.set_cons_zero, List.set_cons_succ]
          refine wpAnyH_take (i := 3) (oi := ⟨some 150, _, _, _, _, _⟩) (v := ?tvv3) rfl (by kernel_rfl) (by kernel_rfl) (by kernel_rfl) (fun _ _ _ h => h) (Or.inl ⟨by kernel_rfl, ?tyv3⟩) (by assumption) ?trv3
          case tyv3 => (intro w hSw; first | (go_simp; done) | (go_simp; with_reducible rfl))
          case' trv3 => try simp only [Act.put, List.setIfInBounds_toArray, List.set_cons_zero, List.set_cons_succ]
          refine wpAnyH_take (i := 4) (oi := ⟨some 151, _, _, _, _, _⟩) (v := ?tvv4) rfl (by kernel_rfl) (by kernel_rfl) (by kernel_rfl) (fun _ _ _ h => h) (Or.inl ⟨by kernel_rfl, ?tyv4⟩) (by assumption) ?trv4
          case tyv4 => (intro w hSw; first | (go_simp; done) | (go_simp; with_reducible rfl))
          case' trv4 => try simp only [Act.put, List.setIfInBounds_toArray, List.set_cons_zero, List.set_cons_succ]
          refine wpAnyH_take (i := 5) (oi := ⟨some 152, _, _, _, _, _⟩) (v := undef) rfl (by kernel_rfl) (by kernel_rfl) (by kernel_rfl) (fun _ _ _ h => h) (Or.inr ⟨by kernel_rfl, rfl⟩) (by assumption) ?_
          try simp only [Act.put, List.setIfInBounds_toArray, List.set_cons_zero, List.set_cons_succ]
          refine wpAnyH_take (i := 6) (oi := ⟨some 153, _, _, _, _, _⟩) (v := undef) rfl (by kernel_rfl) (by kernel_rfl) (by kernel_rfl) (fun _ _ _ h => h) (Or.inr ⟨by kernel_rfl, rfl⟩) (by assumption) ?_
          try simp only [Act.put, List.setIfInBounds_toArray, List.set_cons_zero, List.set_cons_succ]
          refine wpAnyH_take (i := 7) (oi := ⟨some 154, _, _, _, _, _⟩) (v := undef) rfl (by kernel_rfl) (by kernel_rfl) (by kernel_rfl) (fun _ _ _ h => h) (Or.inr ⟨by kernel_rfl, rfl⟩) (by assumption) ?_
          try simp only [Act.put, List.setIfInBounds_toArray, List.set_cons_zero, List.set_cons_succ]
          refine wpAnyH_take (i := 8) (oi := ⟨some 155, _, _, _, _, _⟩) (v := undef) rfl (by kernel_rfl) (by kernel_rfl) (by kernel_rfl) (fun _ _ _ h => h) (Or.inr ⟨by kernel_rfl, rfl⟩) (by assumption) ?_
          try simp only [Act.put, List.setIfInBounds_toArray, List.set_cons_zero, List.set_cons_succ]
          refine wpAnyH_take (i := 9) (oi := ⟨some 156, _, _, _, _, _⟩) (v := undef) rfl (by kernel_rfl) (by kernel_rfl) (by kernel_rfl) (fun _ _ _ h => h) (Or.inr ⟨by kernel_rfl, rfl⟩) (by assumption) ?_
          try simp only [Act.put, List.setIfInBounds_toArray, List.set_cons_zero, List.set_cons_succ]
          refine wpAnyH_take (i := 10) (oi := ⟨some 157, _, _, _, _, _⟩) (v := undef) rfl (by kernel_rfl) (by kernel_rfl) (by kernel_rfl) (fun _ _ _ h => h) (Or.inr ⟨by kernel_rfl, rfl⟩) (by assumption) ?_
          try simp only [Act.put, List.setIfInBounds_toArray, List.set_cons_zero, List.set_cons_succ]
          refine wpAnyH_take (i := 11) (oi := ⟨some 158, _, _, _, _, _⟩) (v := undef) rfl (by kernel_rfl) (by kernel_rfl) (by kernel_rfl) (fun _ _ _ h => h) (Or.inr ⟨by kernel_rfl, rfl⟩) (by assumption) ?_
          try simp only [Act.put, List.setIfInBounds_toArray, List.set_cons_zero, List.set_cons_succ]
          refine wpAnyH_take (i := 12) (oi := ⟨some 159, _, _, _, _, _⟩) (v := undef) rfl (by kernel_rfl) (by kernel_rfl) (by kernel_rfl) (fun _ _ _ h => h) (Or.inr ⟨by kernel_rfl, rfl⟩) (by assumption) ?_
          try simp only [Act.put, List.setIfInBounds_toArray, List.set_cons_zero, List.set_cons_succ]
          refine wpAnyH_take (i := 13) (oi := ⟨some 160, _, _, _, _, _⟩) (v := undef) rfl (by kernel_rfl) (by kernel_rfl) (by kernel_rfl) (fun _ _ _ h => h) (Or.inr ⟨by kernel_rfl, rfl⟩) (by assumption) ?_
          try simp only [Act.put, List.setIfInBounds_toArray, List.set_cons_zero, List.set_cons_succ]
          refine wpAnyH_take (i := 14) (oi := ⟨some 161, _, _, _, _, _⟩) (v := ?tvv14) rfl (by kernel_rfl) (by kernel_rfl) (by kernel_rfl) (fun _ _ _ h => h) (Or.inl ⟨by kernel_rfl, ?tyv14⟩) (by assumption) ?trv14
          case tyv14 => (intro w hSw; first | (go_simp; done) | (go_simp; with_reducible rfl))
          case' trv14 => try simp only [Act.put, List.setIfInBounds_toArray, List.set_cons_zero, List.set_cons_succ]
          refine wpAnyH_done (by kernel_rfl) ?_ _
          have HS' := Lib.hid hHeld
          clear hHeld HS rl x1
          go_wp2
          go_roundw
          case rel => exact ⟨k + 1, by go_num, by omega, HS'.out⟩
          case measure => simp [intOf]; omega
    · obtain rfl : n2 = k := by omega
      as_aux_lemma =>
        have hN1L := HN1.out
        have hN2L := HN2.out
        clear HOT HNZ hlt hk
        have rlA3 : ∀ W, StS w g1 g2 g3 g4 b #[.int .i64 S, .int .i64 n2, .int .i64 h2, .int .i64 h3, .int .u32 h4, .int .u32 h5] #[.int .i64 p0, .int .u16 p1, .int .u16 p2, .int .i64 fl, .int .i64 kd, .int .i64 cd, .bool er, .int .i64 isz, .int .i64 p8, .int .i64 p9, .int .i64 p10, .int .u32 p11, .int .u32 p12, .int .i64 pos, .bool bare] #[.int .i64 S, .int .i64 n2, .int .i64 h2, .int .i64 h3, .int .u32 A, .int .u32 h5] #[.int .i64 y0, .int .u16 y1, .int .u16 y2, .int .i64 fl, .int .i64 kd, .int .i64 cd, .bool er, .int .i64 y7, .int .i64 y8, .int .i64 y9, .int .i64 y10, .int .u32 y11, .int .u32 y12, .int .i64 y13, .bool bare] FK (some ⟨b1, o1, none⟩) (some ⟨b2, o2, none⟩) zs ys W → W.cell? ⟨g1, 3, none⟩ = some (.int .i64 h3) := fun W h => h.k1.cell 3
        have rlA4 : ∀ W, StS w g1 g2 g3 g4 b #[.int .i64 S, .int .i64 n2, .int .i64 h2, .int .i64 h3, .int .u32 h4, .int .u32 h5] #[.int .i64 p0, .int .u16 p1, .int .u16 p2, .int .i64 fl, .int .i64 kd, .int .i64 cd, .bool er, .int .i64 isz, .int .i64 p8, .int .i64 p9, .int .i64 p10, .int .u32 p11, .int .u32 p12, .int .i64 pos, .bool bare] #[.int .i64 S, .int .i64 n2, .int .i64 h2, .int .i64 h3, .int .u32 A, .int .u32 h5] #[.int .i64 y0, .int .u16 y1, .int .u16 y2, .int .i64 fl, .int .i64 kd, .int .i64 cd, .bool er, .int .i64 y7, .int .i64 y8, .int .i64 y9, .int .i64 y10, .int .u32 y11, .int .u32 y12, .int .i64 y13, .bool bare] FK (some ⟨b1, o1, none⟩) (some ⟨b2, o2, none⟩) zs ys W → W.cell? ⟨g1, 4, none⟩ = some (.int .u32 h4) := fun W h => h.k1.cell 4
        have rlA5 : ∀ W, StS w g1 g2 g3 g4 b #[.int .i64 S, .int .i64 n2, .int .i64 h2, .int .i64 h3, .int .u32 h4, .int .u32 h5] #[.int .i64 p0, .int .u16 p1, .int .u16 p2, .int .i64 fl, .int .i64 kd, .int .i64 cd, .bool er, .int .i64 isz, .int .i64 p8, .int .i64 p9, .int .i64 p10, .int .u32 p11, .int .u32 p12, .int .i64 pos, .bool bare] #[.int .i64 S, .int .i64 n2, .int .i64 h2, .int .i64 h3, .int .u32 A, .int .u32 h5] #[.int .i64 y0, .int .u16 y1, .int .u16 y2, .int .i64 fl, .int .i64 kd, .int .i64 cd, .bool er, .int .i64 y7, .int .i64 y8, .int .i64 y9, .int .i64 y10, .int .u32 y11, .int .u32 y12, .int .i64 y13, .bool bare] FK (some ⟨b1, o1, none⟩) (some ⟨b2, o2, none⟩) zs ys W → W.cell? ⟨g1, 5, none⟩ = some (.int .u32 h5) := fun W h => h.k1.cell 5
        have rlC4 : ∀ W, StS w g1 g2 g3 g4 b #[.int .i64 S, .int .i64 n2, .int .i64 h2, .int .i64 h3, .int .u32 h4, .int .u32 h5] #[.int .i64 p0, .int .u16 p1, .int .u16 p2, .int .i64 fl, .int .i64 kd, .int .i64 cd, .bool er, .int .i64 isz, .int .i64 p8, .int .i64 p9, .int .i64 p10, .int .u32 p11, .int .u32 p12, .int .i64 pos, .bool bare] #[.int .i64 S, .int .i64 n2, .int .i64 h2, .int .i64 h3, .int .u32 A, .int .u32 h5] #[.int .i64 y0, .int .u16 y1, .int .u16 y2, .int .i64 fl, .int .i64 kd, .int .i64 cd, .bool er, .int .i64 y7, .int .i64 y8, .int .i64 y9, .int .i64 y10, .int .u32 y11, .int .u32 y12, .int .i64 y13, .bool bare] FK (some ⟨b1, o1, none⟩) (some ⟨b2, o2, none⟩) zs ys W → W.cell? ⟨g3, 4, none⟩ = some (.int .u32 A) := fun W h => h.k3.cell 4
        have rlC5 : ∀ W, StS w g1 g2 g3 g4 b #[.int .i64 S, .int .i64 n2, .int .i64 h2, .int .i64 h3, .int .u32 h4, .int .u32 h5] #[.int .i64 p0, .int .u16 p1, .int .u16 p2, .int .i64 fl, .int .i64 kd, .int .i64 cd, .bool er, .int .i64 isz, .int .i64 p8, .int .i64 p9, .int .i64 p10, .int .u32 p11, .int .u32 p12, .int .i64 pos, .bool bare] #[.int .i64 S, .int .i64 n2, .int .i64 h2, .int .i64 h3, .int .u32 A, .int .u32 h5] #[.int .i64 y0, .int .u16 y1, .int .u16 y2, .int .i64 fl, .int .i64 kd, .int .i64 cd, .bool er, .int .i64 y7, .int .i64 y8, .int .i64 y9, .int .i64 y10, .int .u32 y11, .int .u32 y12, .int .i64 y13, .bool bare] FK (some ⟨b1, o1, none⟩) (some ⟨b2, o2, none⟩) zs ys W → W.cell? ⟨g3, 5, none⟩ = some (.int .u32 h5) := fun W h => h.k3.cell 5
        have rlB1 : ∀ W, StS w g1 g2 g3 g4 b #[.int .i64 S, .int .i64 n2, .int .i64 h2, .int .i64 h3, .int .u32 h4, .int .u32 h5] #[.int .i64 p0, .int .u16 p1, .int .u16 p2, .int .i64 fl, .int .i64 kd, .int .i64 cd, .bool er, .int .i64 isz, .int .i64 p8, .int .i64 p9, .int .i64 p10, .int .u32 p11, .int .u32 p12, .int .i64 pos, .bool bare] #[.int .i64 S, .int .i64 n2, .int .i64 h2, .int .i64 h3, .int .u32 A, .int .u32 h5] #[.int .i64 y0, .int .u16 y1, .int .u16 y2, .int .i64 fl, .int .i64 kd, .int .i64 cd, .bool er, .int .i64 y7, .int .i64 y8, .int .i64 y9, .int .i64 y10, .int .u32 y11, .int .u32 y12, .int .i64 y13, .bool bare] FK (some ⟨b1, o1, none⟩) (some ⟨b2, o2, none⟩) zs ys W → W.cell? ⟨g2, 1, none⟩ = some (.int .u16 p1) := fun W h => h.k2.cell 1
        have rlB2 : ∀ W, StS w g1 g2 g3 g4 b #[.int .i64 S, .int .i64 n2, .int .i64 h2, .int .i64 h3, .int .u32 h4, .int .u32 h5] #[.int .i64 p0, .int .u16 p1, .int .u16 p2, .int .i64 fl, .int .i64 kd, .int .i64 cd, .bool er, .int .i64 isz, .int .i64 p8, .int .i64 p9, .int .i64 p10, .int .u32 p11, .int .u32 p12, .int .i64 pos, .bool bare] #[.int .i64 S, .int .i64 n2, .int .i64 h2, .int .i64 h3, .int .u32 A, .int .u32 h5] #[.int .i64 y0, .int .u16 y1, .int .u16 y2, .int .i64 fl, .int .i64 kd, .int .i64 cd, .bool er, .int .i64 y7, .int .i64 y8, .int .i64 y9, .int .i64 y10, .int .u32 y11, .int .u32 y12, .int .i64 y13, .bool bare] FK (some ⟨b1, o1, none⟩) (some ⟨b2, o2, none⟩) zs ys W → W.cell? ⟨g2, 2, none⟩ = some (.int .u16 p2) := fun W h => h.k2.cell 2
        have rlB6 : ∀ W, StS w g1 g2 g3 g4 b #[.int .i64 S, .int .i64 n2, .int .i64 h2, .int .i64 h3, .int .u32 h4, .int .u32 h5] #[.int .i64 p0, .int .u16 p1, .int .u16 p2, .int .i64 fl, .int .i64 kd, .int .i64 cd, .bool er, .int .i64 isz, .int .i64 p8, .int .i64 p9, .int .i64 p10, .int .u32 p11, .int .u32 p12, .int .i64 pos, .bool bare] #[.int .i64 S, .int .i64 n2, .int .i64 h2, .int .i64 h3, .int .u32 A, .int .u32 h5] #[.int .i64 y0, .int .u16 y1, .int .u16 y2, .int .i64 fl, .int .i64 kd, .int .i64 cd, .bool er, .int .i64 y7, .int .i64 y8, .int .i64 y9, .int .i64 y10, .int .u32 y11, .int .u32 y12, .int .i64 y13, .bool bare] FK (some ⟨b1, o1, none⟩) (some ⟨b2, o2, none⟩) zs ys W → W.cell? ⟨g2, 6, none⟩ = some (.bool er) := fun W h => h.k2.cell 6
        have rlB7 : ∀ W, StS w g1 g2 g3 g4 b #[.int .i64 S, .int .i64 n2, .int .i64 h2, .int .i64 h3, .int .u32 h4, .int .u32 h5] #[.int .i64 p0, .int .u16 p1, .int .u16 p2, .int .i64 fl, .int .i64 kd, .int .i64 cd, .bool er, .int .i64 isz, .int .i64 p8, .int .i64 p9, .int .i64 p10, .int .u32 p11, .int .u32 p12, .int .i64 pos, .bool bare] #[.int .i64 S, .int .i64 n2, .int .i64 h2, .int .i64 h3, .int .u32 A, .int .u32 h5] #[.int .i64 y0, .int .u16 y1, .int .u16 y2, .int .i64 fl, .int .i64 kd, .int .i64 cd, .bool er, .int .i64 y7, .int .i64 y8, .int .i64 y9, .int .i64 y10, .int .u32 y11, .int .u32 y12, .int .i64 y13, .bool bare] FK (some ⟨b1, o1, none⟩) (some ⟨b2, o2, none⟩) zs ys W → W.cell? ⟨g2, 7, none⟩ = some (.int .i64 isz) := fun W h => h.k2.cell 7
        have rlB10 : ∀ W, StS w g1 g2 g3 g4 b #[.int .i64 S, .int .i64 n2, .int .i64 h2, .int .i64 h3, .int .u32 h4, .int .u32 h5] #[.int .i64 p0, .int .u16 p1, .int .u16 p2, .int .i64 fl, .int .i64 kd, .int .i64 cd, .bool er, .int .i64 isz, .int .i64 p8, .int .i64 p9, .int .i64 p10, .int .u32 p11, .int .u32 p12, .int .i64 pos, .bool bare] #[.int .i64 S, .int .i64 n2, .int .i64 h2, .int .i64 h3, .int .u32 A, .int .u32 h5] #[.int .i64 y0, .int .u16 y1, .int .u16 y2, .int .i64 fl, .int .i64 kd, .int .i64 cd, .bool er, .int .i64 y7, .int .i64 y8, .int .i64 y9, .int .i64 y10, .int .u32 y11, .int .u32 y12, .int .i64 y13, .bool bare] FK (some ⟨b1, o1, none⟩) (some ⟨b2, o2, none⟩) zs ys W → W.cell? ⟨g2, 10, none⟩ = some (.int .i64 p10) := fun W h => h.k2.cell 10
        have rlB11 : ∀ W, StS w g1 g2 g3 g4 b #[.int .i64 S, .int .i64 n2, .int .i64 h2, .int .i64 h3, .int .u32 h4, .int .u32 h5] #[.int .i64 p0, .int .u16 p1, .int .u16 p2, .int .i64 fl, .int .i64 kd, .int .i64 cd, .bool er, .int .i64 isz, .int .i64 p8, .int .i64 p9, .int .i64 p10, .int .u32 p11, .int .u32 p12, .int .i64 pos, .bool bare] #[.int .i64 S, .int .i64 n2, .int .i64 h2, .int .i64 h3, .int .u32 A, .int .u32 h5] #[.int .i64 y0, .int .u16 y1, .int .u16 y2, .int .i64 fl, .int .i64 kd, .int .i64 cd, .bool er, .int .i64 y7, .int .i64 y8, .int .i64 y9, .int .i64 y10, .int .u32 y11, .int .u32 y12, .int .i64 y13, .bool bare] FK (some ⟨b1, o1, none⟩) (some ⟨b2, o2, none⟩) zs ys W → W.cell? ⟨g2, 11, none⟩ = some (.int .u32 p11) := fun W h => h.k2.cell 11
        have rlB12 : ∀ W, StS w g1 g2 g3 g4 b #[.int .i64 S, .int .i64 n2, .int .i64 h2, .int .i64 h3, .int .u32 h4, .int .u32 h5] #[.int .i64 p0, .int .u16 p1, .int .u16 p2, .int .i64 fl, .int .i64 kd, .int .i64 cd, .bool er, .int .i64 isz, .int .i64 p8, .int .i64 p9, .int .i64 p10, .int .u32 p11, .int .u32 p12, .int .i64 pos, .bool bare] #[.int .i64 S, .int .i64 n2, .int .i64 h2, .int .i64 h3, .int .u32 A, .int .u32 h5] #[.int .i64 y0, .int .u16 y1, .int .u16 y2, .int .i64 fl, .int .i64 kd, .int .i64 cd, .bool er, .int .i64 y7, .int .i64 y8, .int .i64 y9, .int .i64 y10, .int .u32 y11, .int .u32 y12, .int .i64 y13, .bool bare] FK (some ⟨b1, o1, none⟩) (some ⟨b2, o2, none⟩) zs ys W → W.cell? ⟨g2, 12, none⟩ = some (.int .u32 p12) := fun W h => h.k2.cell 12
        have rlB13 : ∀ W, StS w g1 g2 g3 g4 b #[.int .i64 S, .int .i64 n2, .int .i64 h2, .int .i64 h3, .int .u32 h4, .int .u32 h5] #[.int .i64 p0, .int .u16 p1, .int .u16 p2, .int .i64 fl, .int .i64 kd, .int .i64 cd, .bool er, .int .i64 isz, .int .i64 p8, .int .i64 p9, .int .i64 p10, .int .u32 p11, .int .u32 p12, .int .i64 pos, .bool bare] #[.int .i64 S, .int .i64 n2, .int .i64 h2, .int .i64 h3, .int .u32 A, .int .u32 h5] #[.int .i64 y0, .int .u16 y1, .int .u16 y2, .int .i64 fl, .int .i64 kd, .int .i64 cd, .bool er, .int .i64 y7, .int .i64 y8, .int .i64 y9, .int .i64 y10, .int .u32 y11, .int .u32 y12, .int .i64 y13, .bool bare] FK (some ⟨b1, o1, none⟩) (some ⟨b2, o2, none⟩) zs ys W → W.cell? ⟨g2, 13, none⟩ = some (.int .i64 pos) := fun W h => h.k2.cell 13
        have rlD1 : ∀ W, StS w g1 g2 g3 g4 b #[.int .i64 S, .int .i64 n2, .int .i64 h2, .int .i64 h3, .int .u32 h4, .int .u32 h5] #[.int .i64 p0, .int .u16 p1, .int .u16 p2, .int .i64 fl, .int .i64 kd, .int .i64 cd, .bool er, .int .i64 isz, .int .i64 p8, .int .i64 p9, .int .i64 p10, .int .u32 p11, .int .u32 p12, .int .i64 pos, .bool bare] #[.int .i64 S, .int .i64 n2, .int .i64 h2, .int .i64 h3, .int .u32 A, .int .u32 h5] #[.int .i64 y0, .int .u16 y1, .int .u16 y2, .int .i64 fl, .int .i64 kd, .int .i64 cd, .bool er, .int .i64 y7, .int .i64 y8, .int .i64 y9, .int .i64 y10, .int .u32 y11, .int .u32 y12, .int .i64 y13, .bool bare] FK (some ⟨b1, o1, none⟩) (some ⟨b2, o2, none⟩) zs ys W → W.cell? ⟨g4, 1, none⟩ = some (.int .u16 y1) := fun W h => h.k4.cell 1
        have rlD2 : ∀ W, StS w g1 g2 g3 g4 b #[.int .i64 S, .int .i64 n2, .int .i64 h2, .int .i64 h3, .int .u32 h4, .int .u32 h5] #[.int .i64 p0, .int .u16 p1, .int .u16 p2, .int .i64 fl, .int .i64 kd, .int .i64 cd, .bool er, .int .i64 isz, .int .i64 p8, .int .i64 p9, .int .i64 p10, .int .u32 p11, .int .u32 p12, .int .i64 pos, .bool bare] #[.int .i64 S, .int .i64 n2, .int .i64 h2, .int .i64 h3, .int .u32 A, .int .u32 h5] #[.int .i64 y0, .int .u16 y1, .int .u16 y2, .int .i64 fl, .int .i64 kd, .int .i64 cd, .bool er, .int .i64 y7, .int .i64 y8, .int .i64 y9, .int .i64 y10, .int .u32 y11, .int .u32 y12, .int .i64 y13, .bool bare] FK (some ⟨b1, o1, none⟩) (some ⟨b2, o2, none⟩) zs ys W → W.cell? ⟨g4, 2, none⟩ = some (.int .u16 y2) := fun W h => h.k4.cell 2
        have rlD7 : ∀ W, StS w g1 g2 g3 g4 b #[.int .i64 S, .int .i64 n2, .int .i64 h2, .int .i64 h3, .int .u32 h4, .int .u32 h5] #[.int .i64 p0, .int .u16 p1, .int .u16 p2, .int .i64 fl, .int .i64 kd, .int .i64 cd, .bool er, .int .i64 isz, .int .i64 p8, .int .i64 p9, .int .i64 p10, .int .u32 p11, .int .u32 p12, .int .i64 pos, .bool bare] #[.int .i64 S, .int .i64 n2, .int .i64 h2, .int .i64 h3, .int .u32 A, .int .u32 h5] #[.int .i64 y0, .int .u16 y1, .int .u16 y2, .int .i64 fl, .int .i64 kd, .int .i64 cd, .bool er, .int .i64 y7, .int .i64 y8, .int .i64 y9, .int .i64 y10, .int .u32 y11, .int .u32 y12, .int .i64 y13, .bool bare] FK (some ⟨b1, o1, none⟩) (some ⟨b2, o2, none⟩) zs ys W → W.cell? ⟨g4, 7, none⟩ = some (.int .i64 y7) := fun W h => h.k4.cell 7
        have rlD11 : ∀ W, StS w g1 g2 g3 g4 b #[.int .i64 S, .int .i64 n2, .int .i64 h2, .int .i64 h3, .int .u32 h4, .int .u32 h5] #[.int .i64 p0, .int .u16 p1, .int .u16 p2, .int .i64 fl, .int .i64 kd, .int .i64 cd, .bool er, .int .i64 isz, .int .i64 p8, .int .i64 p9, .int .i64 p10, .int .u32 p11, .int .u32 p12, .int .i64 pos, .bool bare] #[.int .i64 S, .int .i64 n2, .int .i64 h2, .int .i64 h3, .int .u32 A, .int .u32 h5] #[.int .i64 y0, .int .u16 y1, .int .u16 y2, .int .i64 fl, .int .i64 kd, .int .i64 cd, .bool er, .int .i64 y7, .int .i64 y8, .int .i64 y9, .int .i64 y10, .int .u32 y11, .int .u32 y12, .int .i64 y13, .bool bare] FK (some ⟨b1, o1, none⟩) (some ⟨b2, o2, none⟩) zs ys W → W.cell? ⟨g4, 11, none⟩ = some (.int .u32 y11) := fun W h => h.k4.cell 11
        have rlD12 : ∀ W, StS w g1 g2 g3 g4 b #[.int .i64 S, .int .i64 n2, .int .i64 h2, .int .i64 h3, .int .u32 h4, .int .u32 h5] #[.int .i64 p0, .int .u16 p1, .int .u16 p2, .int .i64 fl, .int .i64 kd, .int .i64 cd, .bool er, .int .i64 isz, .int .i64 p8, .int .i64 p9, .int .i64 p10, .int .u32 p11, .int .u32 p12, .int .i64 pos, .bool bare] #[.int .i64 S, .int .i64 n2, .int .i64 h2, .int .i64 h3, .int .u32 A, .int .u32 h5] #[.int .i64 y0, .int .u16 y1, .int .u16 y2, .int .i64 fl, .int .i64 kd, .int .i64 cd, .bool er, .int .i64 y7, .int .i64 y8, .int .i64 y9, .int .i64 y10, .int .u32 y11, .int .u32 y12, .int .i64 y13, .bool bare] FK (some ⟨b1, o1, none⟩) (some ⟨b2, o2, none⟩) zs ys W → W.cell? ⟨g4, 12, none⟩ = some (.int .u32 y12) := fun W h => h.k4.cell 12
        have rlD13 : ∀ W, StS w g1 g2 g3 g4 b #[.int .i64 S, .int .i64 n2, .int .i64 h2, .int .i64 h3, .int .u32 h4, .int .u32 h5] #[.int .i64 p0, .int .u16 p1, .int .u16 p2, .int .i64 fl, .int .i64 kd, .int .i64 cd, .bool er, .int .i64 isz, .int .i64 p8, .int .i64 p9, .int .i64 p10, .int .u32 p11, .int .u32 p12, .int .i64 pos, .bool bare] #[.int .i64 S, .int .i64 n2, .int .i64 h2, .int .i64 h3, .int .u32 A, .int .u32 h5] #[.int .i64 y0, .int .u16 y1, .int .u16 y2, .int .i64 fl, .int .i64 kd, .int .i64 cd, .bool er, .int .i64 y7, .int .i64 y8, .int .i64 y9, .int .i64 y10, .int .u32 y11, .int .u32 y12, .int .i64 y13, .bool bare] FK (some ⟨b1, o1, none⟩) (some ⟨b2, o2, none⟩) zs ys W → W.cell? ⟨g4, 13, none⟩ = some (.int .i64 y13) := fun W h => h.k4.cell 13
        go_upto_region 13 with fail
        refine wp_region_held_drew (S := (fun W => StS w g1 g2 g3 g4 b #[.int .i64 S, .int .i64 n2, .int .i64 h2, .int .i64 h3, .int .u32 h4, .int .u32 h5] #[.int .i64 p0, .int .u16 p1, .int .u16 p2, .int .i64 fl, .int .i64 kd, .int .i64 cd, .bool er, .int .i64 isz, .int .i64 p8, .int .i64 p9, .int .i64 p10, .int .u32 p11, .int .u32 p12, .int .i64 pos, .bool bare] #[.int .i64 S, .int .i64 n2, .int .i64 h2, .int .i64 h3, .int .u32 A, .int .u32 h5] #[.int .i64 y0, .int .u16 y1, .int .u16 y2, .int .i64 fl, .int .i64 kd, .int .i64 cd, .bool er, .int .i64 y7, .int .i64 y8, .int .i64 y9, .int .i64 y10, .int .u32 y11, .int .u32 y12, .int .i64 y13, .bool bare] FK (some ⟨b1, o1, none⟩) (some ⟨b2, o2, none⟩) zs ys W)) (by kernel_rfl) (HS.out.below (bdrew _)) (fun hHeld => ?_)
        refine wpAnyH_take (i := 0) (oi := ⟨some 162, _, _, _, _, _⟩) (v := ?tvx0) rfl (by kernel_rfl) (by kernel_rfl) (by kernel_rfl) (fun _ _ _ h => h) (Or.inl ⟨by kernel_rfl, ?tyx0⟩) (by assumption) ?trx0
        case tyx0 => (intro w hSw; first | (go_simp; done) | (go_simp; with_reducible rfl))
        case' trx0 => try simp only [Act.put, List.setIfInBounds_toArray, List.set_cons_zero, List.set_cons_succ]
        refine wpAnyH_take (i := 1) (oi := ⟨some 163, _, _, _, _, _⟩) (v := ?tvx1) rfl (by kernel_rfl) (by kernel_rfl) (by kernel_rfl) (fun _ _ _ h => h) (Or.inl ⟨by kernel_rfl, ?tyx1⟩) (by assumption) ?trx1
        case tyx1 => (intro w hSw; first | (go_simp; done) | (go_simp; with_reducible rfl))
        case' trx1 => try simp only [Act.put, List.setIfInBounds_toArray, List.set_cons_zero, List.set_cons_succ]
        refine wpAnyH_take (i := 2) (oi := ⟨some 164, _, _, _, _, _⟩) (v := ?tvx2) rfl (by kernel_rfl) (by kernel_rfl) (by kernel_rfl) (fun _ _ _ h => h) (Or.inl ⟨by kernel_rfl, ?tyx2⟩) (by assumption) ?trx2
        case tyx2 => (intro w hSw; first | (go_simp; done) | (go_simp; with_reducible rfl))
        case' trx2 => try simp only [Act.put, List.setIfInBounds_toArray, List.set_cons_zero, List.set_cons_succ]
        refine wpAnyH_take (i := 3) (oi := ⟨some 165, _, _, _, _, _⟩) (v := ?tvx3) rfl (by kernel_rfl) (by kernel_rfl) (by kernel_rfl) (fun _ _ _ h => h) (Or.inl ⟨by kernel_rfl, ?tyx3⟩) (by assumption) ?trx3
        case tyx3 => (intro w hSw; first | (go_simp; done) | (go_simp; with_reducible rfl))
        case' trx3 => try simp only [Act.put, List.setIfInBounds_toArray, List.set_cons_zero, List.set_cons_succ]
        refine wpAnyH_take (i := 4) (oi := ⟨some 166, _, _, _, _, _⟩) (v := ?tvx4) rfl (by kernel_rfl) (by kernel_rfl) (by kernel_rfl) (fun _ _ _ h => h) (Or.inl ⟨by kernel_rfl, ?tyx4⟩) (by assumption) ?trx4
        case tyx4 => (intro w hSw; first | (go_simp; done) | (go_simp; with_reducible rfl))
        case' trx4 => try simp only [Act.put, List.setIfInBounds_toArray, List.set_cons_zero, List.set_cons_succ]
        refine wpAnyH_take (i := 5) (oi := ⟨some 167, _, _, _, _, _⟩) (v := ?tvx5) rfl (by kernel_rfl) (by kernel_rfl) (by kernel_rfl) (fun _ _ _ h => h) (Or.inl ⟨by kernel_rfl, ?tyx5⟩) (by assumption) ?trx5
        case tyx5 => (intro w hSw; first | (go_simp; done) | (go_simp; with_reducible rfl))
        case' trx5 => try simp only [Act.put, List.setIfInBounds_toArray, List.set_cons_zero, List.set_cons_succ]
        refine wpAnyH_take (i := 6) (oi := ⟨some 168, _, _, _, _, _⟩) (v := ?tvx6) rfl (by kernel_rfl) (by kernel_rfl) (by kernel_rfl) (fun _ _ _ h => h) (Or.inl ⟨by kernel_rfl, ?tyx6⟩) (by assumption) ?trx6
        case tyx6 => (intro w hSw; first | (go_simp; done) | (go_simp; with_reducible rfl))
        case' trx6 => try simp only [Act.put, List.setIfInBounds_toArray, List.set_cons_zero, List.set_cons_succ]
        refine wpAnyH_take (i := 7) (oi := ⟨some 169, _, _, _, _, _⟩) (v := ?tvx7) rfl (by kernel_rfl) (by kernel_rfl) (by kernel_rfl) (fun _ _ _ h => h) (Or.inl ⟨by kernel_rfl, ?tyx7⟩) (by assumption) ?trx7
        case tyx7 => (intro w hSw; first | (go_simp; done) | (go_simp; with_reducible rfl))
        case' trx7 => try simp only [Act.put, List.setIfInBounds_toArray, List.set_cons_zero, List.set_cons_succ]
        refine wpAnyH_take (i := 8) (oi := ⟨some 170, _, _, _, _, _⟩) (v := ?tvx8) rfl (by kernel_rfl) (by kernel_rfl) (by kernel_rfl) (fun _ _ _ h => h) (Or.inl ⟨by kernel_rfl, ?tyx8⟩) (by assumption) ?trx8
        case tyx8 => (intro w hSw; first | (go_simp; done) | (go_simp; with_reducible rfl))
        case' trx8 => try simp only [Act.put, List.setIfInBounds_toArray, List.set_cons_zero, List.set_cons_succ]
        refine wpAnyH_take (i := 9) (oi := ⟨some 171, _, _, _, _, _⟩) (v := ?tvx9) rfl (by kernel_rfl) (by kernel_rfl) (by kernel_rfl) (fun _ _ _ h => h) (Or.inl ⟨by kernel_rfl, ?tyx9⟩) (by assumption) ?trx9
        case tyx9 => (intro w hSw; first | (go_simp; done) | (go_simp; with_reducible rfl))
        case' trx9 => try simp only [Act.put, List.setIfInBounds_toArray, List.set_cons_zero, List.set_cons_succ]
        refine wpAnyH_take (i := 10) (oi := ⟨some 21, _, _, _, _, _⟩) (v := ?tvx10) rfl (by kernel_rfl) (by kernel_rfl) (by kernel_rfl) (fun _ _ _ h => h) (Or.inl ⟨by kernel_rfl, ?tyx10⟩) (by assumption) ?trx10
        case tyx10 => (intro w hSw; first | (go_simp; done) | (go_simp; with_reducible rfl))
        case' trx10 => try simp only [Act.put, List.setIfInBounds_toArray, List.set_cons_zero, List.set_cons_succ]
        refine wpAnyH_take (i := 11) (oi := ⟨some 22, _, _, _, _, _⟩) (v := ?tvx11) rfl (by kernel_rfl) (by kernel_rfl) (by kernel_rfl) (fun _ _ _ h => h) (Or.inl ⟨by kernel_rfl, ?tyx11⟩) (by assumption) ?trx11
        case tyx11 => (intro w hSw; first | (go_simp; done) | (go_simp; with_reducible rfl))
        case' trx11 => try simp only [Act.put, List.setIfInBounds_toArray, List.set_cons_zero, List.set_cons_succ]
        refine wpAnyH_take (i := 12) (oi := ⟨some 23, _, _, _, _, _⟩) (v := ?tvx12) rfl (by kernel_rfl) (by kernel_rfl) (by kernel_rfl) (fun _ _ _ h => h) (Or.inl ⟨by kernel_rfl, ?tyx12⟩) (by assumption) ?trx12
        case tyx12 => (intro w hSw; first | (go_simp; done) | (go_simp; with_reducible rfl))
        case' trx12 => try simp only [Act.put, List.setIfInBounds_toArray, List.set_cons_zero, List.set_cons_succ]
        refine wpAnyH_take (i := 13) (oi := ⟨some 24, _, _, _, _, _⟩) (v := ?tvx13) rfl (by kernel_rfl) (by kernel_rfl) (by kernel_rfl) (fun _ _ _ h => h) (Or.inl ⟨by kernel_rfl, ?tyx13⟩) (by assumption) ?trx13
        case tyx13 => (intro w hSw; first | (go_simp; done) | (go_simp; with_reducible rfl))
        case' trx13 => try simp only [Act.put, List.setIfInBounds_toArray, List.set_cons_zero, List.set_cons_succ]
        refine wpAnyH_done (by kernel_rfl) ?_ _
        have HS13 := Lib.hid hHeld
        clear hHeld HS
        go_upto_region 14 with fail
        refine wp_region_held_drew (S := (fun W => StS w g1 g2 g3 g4 b #[.int .i64 S, .int .i64 n2, .int .i64 h2, .int .i64 h3, .int .u32 h4, .int .u32 h5] #[.int .i64 p0, .int .u16 p1, .int .u16 p2, .int .i64 fl, .int .i64 kd, .int .i64 cd, .bool er, .int .i64 isz, .int .i64 p8, .int .i64 p9, .int .i64 p10, .int .u32 p11, .int .u32 p12, .int .i64 pos, .bool bare] #[.int .i64 S, .int .i64 n2, .int .i64 h2, .int .i64 h3, .int .u32 A, .int .u32 h5] #[.int .i64 y0, .int .u16 y1, .int .u16 y2, .int .i64 fl, .int .i64 kd, .int .i64 cd, .bool er, .int .i64 y7, .int .i64 y8, .int .i64 y9, .int .i64 y10, .int .u32 y11, .int .u32 y12, .int .i64 y13, .bool bare] FK (some ⟨b1, o1, none⟩) (some ⟨b2, o2, none⟩) zs ys W)) (by kernel_rfl) (HS13.out.below (bdrew _)) (fun hHeld => ?_)
        refine wpAnyH_take (i := 0) (oi := ⟨some 172, _, _, _, _, _⟩) (v := ?tvy0) rfl (by kernel_rfl) (by kernel_rfl) (by kernel_rfl) (fun _ _ _ h => h) (Or.inl ⟨by kernel_rfl, ?tyy0⟩) (by assumption) ?try0
        case tyy0 => (intro w hSw; first | (go_simp; done) | (go_simp; with_reducible rfl))
        case' try0 => try simp only [Act.put, List.setIfInBounds_toArray, List.set_cons_zero, List.set_cons_succ]
        refine wpAnyH_take (i := 1) (oi := ⟨some 173, _, _, _, _, _⟩) (v := ?tvy1) rfl (by kernel_rfl) (by kernel_rfl) (by kernel_rfl) (fun _ _ _ h => h) (Or.inl ⟨by kernel_rfl, ?tyy1⟩) (by assumption) ?try1
        case tyy1 => (intro w hSw; first | (go_simp; done) | (go_simp; with_reducible rfl))
        case' try1 => try simp only [Act.put, List.setIfInBounds_toArray, List.set_cons_zero, List.set_cons_succ]
        refine wpAnyH_take (i := 2) (oi := ⟨some 174, _, _, _, _, _⟩) (v := ?tvy2) rfl (by kernel_rfl) (by kernel_rfl) (by kernel_rfl) (fun _ _ _ h => h) (Or.inl ⟨by kernel_rfl, ?tyy2⟩) (by assumption) ?try2
        case tyy2 => (intro w hSw; first | (go_simp; done) | (go_simp; with_reducible rfl))
        case' try2 => try simp only [Act.put, List.setIfInBounds_toArray, List.set_cons_zero, List.set_cons_succ]
        refine wpAnyH_take (i := 3) (oi := ⟨some 175, _, _, _, _, _⟩) (v := ?tvy3) rfl (by kernel_rfl) (by kernel_rfl) (by kernel_rfl) (fun _ _ _ h => h) (Or.inl ⟨by kernel_rfl, ?tyy3⟩) (by assumption) ?try3
        case tyy3 => (intro w hSw; first | (go_simp; done) | (go_simp; with_reducible rfl))
        case' try3 => try simp only [Act.put, List.setIfInBounds_toArray, List.set_cons_zero, List.set_cons_succ]
        refine wpAnyH_take (i := 4) (oi := ⟨some 176, _, _, _, _, _⟩) (v := ?tvy4) rfl (by kernel_rfl) (by kernel_rfl) (by kernel_rfl) (fun _ _ _ h => h) (Or.inl ⟨by kernel_rfl, ?tyy4⟩) (by assumption) ?try4
        case tyy4 => (intro w hSw; first | (go_simp; done) | (go_simp; with_reducible rfl))
        case' try4 => try simp only [Act.put, List.setIfInBounds_toArray, List.set_cons_zero, List.set_cons_succ]
        refine wpAnyH_take (i := 5) (oi := ⟨some 177, _, _, _, _, _⟩) (v := ?tvy5) rfl (by kernel_rfl) (by kernel_rfl) (by kernel_rfl) (fun _ _ _ h => h) (Or.inl ⟨by kernel_rfl, ?tyy5⟩) (by assumption) ?try5
        case tyy5 => (intro w hSw; first | (go_simp; done) | (go_simp; with_reducible rfl))
        case' try5 => try simp only [Act.put, List.setIfInBounds_toArray, List.set_cons_zero, List.set_cons_succ]
        refine wpAnyH_take (i := 6) (oi := ⟨some 178, _, _, _, _, _⟩) (v := ?tvy6) rfl (by kernel_rfl) (by kernel_rfl) (by kernel_rfl) (fun _ _ _ h => h) (Or.inl ⟨by kernel_rfl, ?tyy6⟩) (by assumption) ?try6
        case tyy6 => (intro w hSw; first | (go_simp; done) | (go_simp; with_reducible rfl))
        case' try6 => try simp only [Act.put, List.setIfInBounds_toArray, List.set_cons_zero, List.set_cons_succ]
        refine wpAnyH_take (i := 7) (oi := ⟨some 179, _, _, _, _, _⟩) (v := ?tvy7) rfl (by kernel_rfl) (by kernel_rfl) (by kernel_rfl) (fun _ _ _ h => h) (Or.inl ⟨by kernel_rfl, ?tyy7⟩) (by assumption) ?try7
        case tyy7 => (intro w hSw; first | (go_simp; done) | (go_simp; with_reducible rfl))
        case' try7 => try simp only [Act.put, List.setIfInBounds_toArray, List.set_cons_zero, List.set_cons_succ]
        refine wpAnyH_take (i := 8) (oi := ⟨some 25, _, _, _, _, _⟩) (v := ?tvy8) rfl (by kernel_rfl) (by kernel_rfl) (by kernel_rfl) (fun _ _ _ h => h) (Or.inl ⟨by kernel_rfl, ?tyy8⟩) (by assumption) ?try8
        case tyy8 => (intro w hSw; first | (go_simp; done) | (go_simp; with_reducible rfl))
        case' try8 => try simp only [Act.put, List.setIfInBounds_toArray, List.set_cons_zero, List.set_cons_succ]
        refine wpAnyH_take (i := 9) (oi := ⟨some 26, _, _, _, _, _⟩) (v := ?tvy9) rfl (by kernel_rfl) (by kernel_rfl) (by kernel_rfl) (fun _ _ _ h => h) (Or.inl ⟨by kernel_rfl, ?tyy9⟩) (by assumption) ?try9
        case tyy9 => (intro w hSw; first | (go_simp; done) | (go_simp; with_reducible rfl))
        case' try9 => try simp only [Act.put, List.setIfInBounds_toArray, List.set_cons_zero, List.set_cons_succ]
        refine wpAnyH_take (i := 10) (oi := ⟨some 27, _, _, _, _, _⟩) (v := ?tvy10) rfl (by kernel_rfl) (by kernel_rfl) (by kernel_rfl) (fun _ _ _ h => h) (Or.inl ⟨by kernel_rfl, ?tyy10⟩) (by assumption) ?try10
        case tyy10 => (intro w hSw; first | (go_simp; done) | (go_simp; with_reducible rfl))
        case' try10 => try simp only [Act.put, List.setIfInBounds_toArray, List.set_cons_zero, List.set_cons_succ]
        refine wpAnyH_take (i := 11) (oi := ⟨some 28, _, _, _, _, _⟩) (v := ?tvy11) rfl (by kernel_rfl) (by kernel_rfl) (by kernel_rfl) (fun _ _ _ h => h) (Or.inl ⟨by kernel_rfl, ?tyy11⟩) (by assumption) ?try11
        case tyy11 => (intro w hSw; first | (go_simp; done) | (go_simp; with_reducible rfl))
        case' try11 => try simp only [Act.put, List.setIfInBounds_toArray, List.set_cons_zero, List.set_cons_succ]
        refine wpAnyH_done (by kernel_rfl) ?_ _
        have HS14 := Lib.hid hHeld
        clear hHeld HS13
        have hHeld := HS14.out
        cases er with
        | false =>
          as_aux_lemma =>
            obtain ⟨hy, hy2⟩ := HPL.out rfl
            clear HPL HRR HER hpn
            subst hy
            rcases hy2 with hy2 | hy2
            · subst hy2
              go_wp2
              go_ret
              exact ⟨rfl, hHeld.bel⟩
            · subst hy2
              have HT := Lib.hid hHeld
              by_cases hyp : y2 = p2
              · subst hyp
                go_wp2
                go_ret
                exact ⟨rfl, HT.out.bel⟩
              · have b1 : (y2 == p2) = false := by simpa using hyp
                clear hyp
                go_wp2
                go_ret
                exact ⟨rfl, HT.out.bel⟩
        | true =>
          as_aux_lemma =>
            obtain ⟨e1, e2, e3, e4, e5, e6, e7, e8⟩ := HRR.out rfl
            clear HPL HRR
            subst e1 e2
            have e3' := e3.symm
            subst e3'
            have e4' := e4.symm
            subst e4'
            have e5' := e5.symm
            subst e5'
            clear e3 e4 e5
            have HE6 := Lib.hid e6
            have HE7 := Lib.hid e7
            have HE8 := Lib.hid e8
            clear e6 e7 e8
            have hp0 := hpn rfl
            obtain ⟨hr1, hr2, hr3⟩ := HER.out rfl
            clear hpn HER
            have hle1 : (pos : Int) ≤ (pos : Int) + (isz : Int) := by omega
            have hle2 : (pos : Int) + (isz : Int) ≤ (m1 : Int) := by omega
            have hle3 : (pos : Int) + (isz : Int) ≤ (m2 : Int) := by omega
            have hle0 : (0 : Int) ≤ (pos : Int) := by omega
            have hlt1 : (pos : Int) < (m1 : Int) := by omega
            have hlt2 : (pos : Int) < (m2 : Int) := by omega
            have hlenq : ((pos : Int) + (isz : Int)).toNat - pos = isz := by omega
            have hne1 : ¬ m1 = pos := by omega
            have hne2 : ¬ m2 = pos := by omega
            have wr1 : IntKind.i64.wrap ((pos : Int) + (isz : Int)) = (pos : Int) + (isz : Int) := by rw [IntKind.wrap_i64]; omega
            clear hr1
            go_upto_region 22 with fail
            have HS20 := Lib.hid hHeld
            clear hHeld
            refine wp_region_held_drew (S := (fun W => StS w g1 g2 g3 g4 b #[.int .i64 S, .int .i64 n2, .int .i64 h2, .int .i64 h3, .int .u32 h4, .int .u32 h5] #[.int .i64 p0, .int .u16 p1, .int .u16 p2, .int .i64 fl, .int .i64 kd, .int .i64 cd, .bool true, .int .i64 isz, .int .i64 p8, .int .i64 p9, .int .i64 p10, .int .u32 p11, .int .u32 p12, .int .i64 pos, .bool bare] #[.int .i64 S, .int .i64 n2, .int .i64 h2, .int .i64 h3, .int .u32 A, .int .u32 h5] #[.int .i64 y0, .int .u16 y1, .int .u16 y2, .int .i64 fl, .int .i64 kd, .int .i64 cd, .bool true, .int .i64 isz, .int .i64 y8, .int .i64 y9, .int .i64 p10, .int .u32 p11, .int .u32 A, .int .i64 pos, .bool bare] FK (some ⟨b1, o1, none⟩) (some ⟨b2, o2, none⟩) zs ys W)) (by kernel_rfl) (HS20.out.below (bdrew _)) (fun hHeld => ?_)
            refine wpAnyH_take (i := 0) (oi := ⟨some 224, _, _, _, _, _⟩) (v := ?tvz0) rfl (by kernel_rfl) (by kernel_rfl) (by kernel_rfl) (fun _ _ _ h => h) (Or.inl ⟨by kernel_rfl, ?tyz0⟩) (by assumption) ?trz0
            case tyz0 => (intro w hSw; first | (go_simp; done) | (go_simp; with_reducible rfl))
            case' trz0 => try simp only [Act.put, List.setIfInBounds_toArray, List.set_cons_zero, List.set_cons_succ]
            refine wpAnyH_take (i := 1) (oi := ⟨some 225, _, _, _, _, _⟩) (v := ?tvz1) rfl (by kernel_rfl) (by kernel_rfl) (by kernel_rfl) (fun _ _ _ h => h) (Or.inl ⟨by kernel_rfl, ?tyz1⟩) (by assumption) ?trz1
            case tyz1 => (intro w hSw; first | (go_simp; done) | (go_simp; with_reducible rfl))
            case' trz1 => try simp only [Act.put, List.setIfInBounds_toArray, List.set_cons_zero, List.set_cons_succ]
            refine wpAnyH_take (i := 2) (oi := ⟨some 226, _, _, _, _, _⟩) (v := ?tvz2) rfl (by kernel_rfl) (by kernel_rfl) (by kernel_rfl) (fun _ _ _ h => h) (Or.inl ⟨by kernel_rfl, ?tyz2⟩) (by assumption) ?trz2
            case tyz2 => (intro w hSw; first | (go_simp; done) | (go_simp; with_reducible rfl))
            case' trz2 => try simp only [Act.put, List.setIfInBounds_toArray, List.set_cons_zero, List.set_cons_succ]
            refine wpAnyH_take (i := 3) (oi := ⟨some 227, _, _, _, _, _⟩) (v := ?tvz3) rfl (by kernel_rfl) (by kernel_rfl) (by kernel_rfl) (fun _ _ _ h => h) (Or.inl ⟨by kernel_rfl, ?tyz3⟩) (by assumption) ?trz3
            case tyz3 => (intro w hSw; first | (go_simp; done) | (go_simp; with_reducible rfl))
            case' trz3 => try simp only [Act.put, List.setIfInBounds_toArray, List.set_cons_zero, List.set_cons_succ]
            refine wpAnyH_take (i := 4) (oi := ⟨some 228, _, _, _, _, _⟩) (v := ?tvz4) rfl (by kernel_rfl) (by kernel_rfl) (by kernel_rfl) (fun _ _ _ h => h) (Or.inl ⟨by kernel_rfl, ?tyz4⟩) (by assumption) ?trz4
            case tyz4 => (intro w hSw; first | (go_simp; done) | (go_simp; with_reducible rfl))
            case' trz4 => try simp only [Act.put, List.setIfInBounds_toArray, List.set_cons_zero, List.set_cons_succ]
            refine wpAnyH_take (i := 5) (oi := ⟨some 229, _, _, _, _, _⟩) (v := ?tvz5) rfl (by kernel_rfl) (by kernel_rfl) (by kernel_rfl) (fun _ _ _ h => h) (Or.inl ⟨by kernel_rfl, ?tyz5⟩) (by assumption) ?trz5
            case tyz5 => (intro w hSw; first | (go_simp; done) | (go_simp; with_reducible rfl))
            case' trz5 => try simp only [Act.put, List.setIfInBounds_toArray, List.set_cons_zero, List.set_cons_succ]
            refine wpAnyH_take (i := 6) (oi := ⟨some 230, _, _, _, _, _⟩) (v := ?tvz6) rfl (by kernel_rfl) (by kernel_rfl) (by kernel_rfl) (fun _ _ _ h => h) (Or.inl ⟨by kernel_rfl, ?tyz6⟩) (by assumption) ?trz6
            case tyz6 => (intro w hSw; first | (go_simp; done) | (go_simp; with_reducible rfl))
            case' trz6 => try simp only [Act.put, List.setIfInBounds_toArray, List.set_cons_zero, List.set_cons_succ]
            refine wpAnyH_take (i := 7) (oi := ⟨some 231, _, _, _, _, _⟩) (v := ?tvz7) rfl (by kernel_rfl) (by kernel_rfl) (by kernel_rfl) (fun _ _ _ h => h) (Or.inl ⟨by kernel_rfl, ?tyz7⟩) (by assumption) ?trz7
            case tyz7 => (intro w hSw; first | (go_simp; done) | (go_simp; with_reducible rfl))
            case' trz7 => try simp only [Act.put, List.setIfInBounds_toArray, List.set_cons_zero, List.set_cons_succ]
            refine wpAnyH_take (i := 8) (oi := ⟨some 232, _, _, _, _, _⟩) (v := ?tvz8) rfl (by kernel_rfl) (by kernel_rfl) (by kernel_rfl) (fun _ _ _ h => h) (Or.inl ⟨by kernel_rfl, ?tyz8⟩) (by assumption) ?trz8
            case tyz8 => (intro w hSw; first | (go_simp; done) | (go_simp; with_reducible rfl))
            case' trz8 => try simp only [Act.put, List.setIfInBounds_toArray, List.set_cons_zero, List.set_cons_succ]
            refine wpAnyH_take (i := 9) (oi := ⟨some 233, _, _, _, _, _⟩) (v := ?tvz9) rfl (by kernel_rfl) (by kernel_rfl) (by kernel_rfl) (fun _ _ _ h => h) (Or.inl ⟨by kernel_rfl, ?tyz9⟩) (by assumption) ?trz9
            case tyz9 => (intro w hSw; first | (go_simp; done) | (go_simp; with_reducible rfl))
            case' trz9 => try simp only [Act.put, List.setIfInBounds_toArray, List.set_cons_zero, List.set_cons_succ]
            refine wpAnyH_take (i := 11) (oi := ⟨some 235, _, _, _, _, _⟩) (v := ?tvz11) rfl (by kernel_rfl) (by kernel_rfl) (by kernel_rfl) (fun _ _ _ h => h) (Or.inl ⟨by kernel_rfl, ?tyz11⟩) (by assumption) ?trz11
            case tyz11 => (intro w hSw; first | (go_simp; done) | (go_simp; with_reducible rfl))
            case' trz11 => try simp only [Act.put, List.setIfInBounds_toArray, List.set_cons_zero, List.set_cons_succ]
            refine wpAnyH_take (i := 12) (oi := ⟨some 236, _, _, _, _, _⟩) (v := ?tvz12) rfl (by kernel_rfl) (by kernel_rfl) (by kernel_rfl) (fun _ _ _ h => h) (Or.inl ⟨by kernel_rfl, ?tyz12⟩) (by assumption) ?trz12
            case tyz12 => (intro w hSw; first | (go_simp; done) | (go_simp; with_reducible rfl))
            case' trz12 => try simp only [Act.put, List.setIfInBounds_toArray, List.set_cons_zero, List.set_cons_succ]
            refine wpAnyH_take (i := 13) (oi := ⟨some 237, _, _, _, _, _⟩) (v := ?tvz13) rfl (by kernel_rfl) (by kernel_rfl) (by kernel_rfl) (fun _ _ _ h => h) (Or.inl ⟨by kernel_rfl, ?tyz13⟩) (by assumption) ?trz13
            case tyz13 => (intro w hSw; first | (go_simp; done) | (go_simp; with_reducible rfl))
            case' trz13 => try simp only [Act.put, List.setIfInBounds_toArray, List.set_cons_zero, List.set_cons_succ]
            refine wpAnyH_take (i := 14) (oi := ⟨some 238, _, _, _, _, _⟩) (v := ?tvz14) rfl (by kernel_rfl) (by kernel_rfl) (by kernel_rfl) (fun _ _ _ h => h) (Or.inl ⟨by kernel_rfl, ?tyz14⟩) (by assumption) ?trz14
            case tyz14 => (intro w hSw; first | (go_simp; done) | (go_simp; with_reducible rfl))
            case' trz14 => try simp only [Act.put, List.setIfInBounds_toArray, List.set_cons_zero, List.set_cons_succ]
            refine wpAnyH_take (i := 15) (oi := ⟨some 239, _, _, _, _, _⟩) (v := ?tvz15) rfl (by kernel_rfl) (by kernel_rfl) (by kernel_rfl) (fun _ _ _ h => h) (Or.inl ⟨by kernel_rfl, ?tyz15⟩) (by assumption) ?trz15
            case tyz15 => (intro w hSw; first | (go_simp; done) | (go_simp; with_reducible rfl))
            case' trz15 => try simp only [Act.put, List.setIfInBounds_toArray, List.set_cons_zero, List.set_cons_succ]
            refine wpAnyH_take (i := 16) (oi := ⟨some 240, _, _, _, _, _⟩) (v := ?tvz16) rfl (by kernel_rfl) (by kernel_rfl) (by kernel_rfl) (fun _ _ _ h => h) (Or.inl ⟨by kernel_rfl, ?tyz16⟩) (by assumption) ?trz16
            case tyz16 => (intro w hSw; first | (go_simp; done) | (go_simp; with_reducible rfl))
            case' trz16 => try simp only [Act.put, List.setIfInBounds_toArray, List.set_cons_zero, List.set_cons_succ]
            refine wpAnyH_take (i := 17) (oi := ⟨some 241, _, _, _, _, _⟩) (v := ?tvz17) rfl (by kernel_rfl) (by kernel_rfl) (by kernel_rfl) (fun _ _ _ h => h) (Or.inl ⟨by kernel_rfl, ?tyz17⟩) (by assumption) ?trz17
            case tyz17 => (intro w hSw; first | (go_simp; done) | (go_simp; with_reducible rfl))
            case' trz17 => try simp only [Act.put, List.setIfInBounds_toArray, List.set_cons_zero, List.set_cons_succ]
            refine wpAnyH_take (i := 18) (oi := ⟨some 242, _, _, _, _, _⟩) (v := ?tvz18) rfl (by kernel_rfl) (by kernel_rfl) (by kernel_rfl) (fun _ _ _ h => h) (Or.inl ⟨by kernel_rfl, ?tyz18⟩) (by assumption) ?trz18
            case tyz18 => (intro w hSw; first | (go_simp; done) | (go_simp; with_reducible rfl))
            case' trz18 => try simp only [Act.put, List.setIfInBounds_toArray, List.set_cons_zero, List.set_cons_succ]
            refine wpAnyH_take (i := 19) (oi := ⟨some 243, _, _, _, _, _⟩) (v := ?tvz19) rfl (by kernel_rfl) (by kernel_rfl) (by kernel_rfl) (fun _ _ _ h => h) (Or.inl ⟨by kernel_rfl, ?tyz19⟩) (by assumption) ?trz19
            case tyz19 => (intro w hSw; first | (go_simp; done) | (go_simp; with_reducible rfl))
            case' trz19 => try simp only [Act.put, List.setIfInBounds_toArray, List.set_cons_zero, List.set_cons_succ]
            refine wpAnyH_take (i := 20) (oi := ⟨some 244, _, _, _, _, _⟩) (v := ?tvz20) rfl (by kernel_rfl) (by kernel_rfl) (by kernel_rfl) (fun _ _ _ h => h) (Or.inl ⟨by kernel_rfl, ?tyz20⟩) (by assumption) ?trz20
            case tyz20 => (intro w hSw; first | (go_simp; done) | (go_simp; with_reducible rfl))
            case' trz20 => try simp only [Act.put, List.setIfInBounds_toArray, List.set_cons_zero, List.set_cons_succ]
            refine wpAnyH_ready (rs := [10]) (by kernel_rfl) (by simp) ?_
            refine AllReadyH.cons (o := ⟨some 234, _, _, _, _, _⟩) rfl (fun K hK => ?_) AllReadyH.nil
            go_simp
            go_at_call 36
            refine (refOf_n _ isz (m1 - pos) ((zs.drop pos).take isz) _ (by rw [List.length_take, List.length_drop]; omega) (by omega) (hHeld.r1.sub pos isz)).mono ?_
            rintro e wq ⟨rfl, rfl⟩
            refine hK.out _ _ hHeld (fun hHeld0 => ?_)
            clear hK K hHeld0
            try simp only [Act.put, List.setIfInBounds_toArray, List.set_cons_zero, List.set_cons_succ]
            refine wpAnyH_ready (rs := [21]) (by kernel_rfl) (by simp) ?_
            refine AllReadyH.cons (o := ⟨some 245, _, _, _, _, _⟩) rfl (fun K hK => ?_) AllReadyH.nil
            go_simp
            go_at_call 36
            refine (refOf_n _ isz (m2 - pos) ((ys.drop pos).take isz) _ (by rw [List.length_take, List.length_drop]; omega) (by omega) (hHeld.r2.sub pos isz)).mono ?_
            rintro e wq ⟨rfl, rfl⟩
            refine hK.out _ _ hHeld (fun hHeld0 => ?_)
            clear hK K hHeld0
            try simp only [Act.put, List.setIfInBounds_toArray, List.set_cons_zero, List.set_cons_succ]
            refine wpAnyH_take (i := 22) (oi := ⟨some 29, _, _, _, _, _⟩) (v := ?tvz22) rfl (by kernel_rfl) (by kernel_rfl) (by kernel_rfl) (fun _ _ _ h => h) (Or.inl ⟨by kernel_rfl, ?tyz22⟩) (by assumption) ?trz22
            case tyz22 => (intro w hSw; first | (go_simp; done) | (go_simp; with_reducible rfl))
            case' trz22 => try simp only [Act.put, List.setIfInBounds_toArray, List.set_cons_zero, List.set_cons_succ]
            refine wpAnyH_take (i := 23) (oi := ⟨some 30, _, _, _, _, _⟩) (v := ?tvz23) rfl (by kernel_rfl) (by kernel_rfl) (by kernel_rfl) (fun _ _ _ h => h) (Or.inl ⟨by kernel_rfl, ?tyz23⟩) (by assumption) ?trz23
            case tyz23 => (intro w hSw; first | (go_simp; done) | (go_simp; with_reducible rfl))
            case' trz23 => try simp only [Act.put, List.setIfInBounds_toArray, List.set_cons_zero, List.set_cons_succ]
            refine wpAnyH_done (by kernel_rfl) ?_ _
            have HS22 := Lib.hid hHeld
            clear hHeld HS20
            obtain ⟨x1, hx1⟩ : ∃ x, Cs ((zs.drop pos).take isz) = x := ⟨_, rfl⟩
            obtain ⟨x2, hx2⟩ : ∃ x, Cs ((ys.drop pos).take isz) = x := ⟨_, rfl⟩
            have bx1 := Cs_range _ ((HS22.out.r1.1.drop pos).take isz)
            have bx2 := Cs_range _ ((HS22.out.r2.1.drop pos).take isz)
            have e6 := HE6.out
            rw [hx1] at bx1 e6
            rw [hx2] at bx2 e6
            rw [hx1, hx2]
            obtain ⟨bx1a, bx1b⟩ := bx1
            obtain ⟨bx2a, bx2b⟩ := bx2
            have c1 : (x2 % 65535 != x1 % 65535) = false := by rw [e6]; simp
            have c2 : (x2 % 65535 == x1 % 65535) = true := by rw [e6]; simp
            clear hx1 hx2 HE6 e6
            go_upto_region 23 with fail
            go_cut [262] (fun s262 wx => s262 = .bool false ∧ wx = wr.drew.drew.drew)
            case first =>
              as_aux_lemma =>
                obtain ⟨q1, hq1⟩ : ∃ b, (x1 == 0) = b := ⟨_, rfl⟩
                obtain ⟨q2, hq2⟩ : ∃ b, (x2 == 0) = b := ⟨_, rfl⟩
                cases q1 <;> cases q2
                all_goals
                  go_wp2
                  go_meet
                  exact ⟨rfl, rfl⟩
            case rest =>
              as_aux_lemma =>
                obtain ⟨rfl, rfl⟩ := hcut
                clear c1 c2
                have hHeld := HS22.out
                by_cases hq : p10 = 1
                · subst hq
                  obtain rfl := HE7.out rfl
                  clear HE7 HE8
                  go_wp2
                  go_ret
                  exact ⟨rfl, HS22.out.bel⟩
                · obtain ⟨e7, e8⟩ := HE8.out hq
                  have hq1 : (p10 == 1) = false := by simpa using hq
                  clear HE7 HE8 hq
                  subst e7 e8
                  go_wp2
                  go_ret
                  exact ⟨rfl, HS22.out.bel⟩
end Go.Proofs.Ytdkjipfemnfckaa
