/-
  Contracts of part.layPorts, udpSum, Udp, Tcp, Echo and Fault: what they lay is what the reference lays. Conditions stand in each theorem.
-/
import Derived.Test.YtoeencklcemofaaLay
import Derived.Deep.DeepCutAuto
namespace Go.Proofs.Ytoeencklcemofaa
open Go.RowKit Plain
set_option linter.unusedVariables false
set_option linter.unusedSimpArgs false
set_option maxRecDepth 100000

theorem bh8 (ys : List Int) : bh 8 ys = [0, 0, 0, 0, 0, 0, 0, 0] ++ ys.take 1400 := rfl
theorem bh20 (ys : List Int) : bh 20 ys = [0, 0, 0, 0, 0, 0, 0, 0, 0, 0, 0, 0, 0, 0, 0, 0, 0, 0, 0, 0] ++ ys.take 1400 := rfl
theorem lay_ud (f t l : Int) (ys : List Int) (f0 : 0 ≤ f) (f1 : f ≤ 65535) (t0 : 0 ≤ t) (t1 : t ≤ 65535) (hl : l = 8 + ((ys.take 1400).length : Int)) :
    P16 (P16 (P16 (bh 8 ys) 0 f) 2 t) 4 l = ud0 f t (ys.take 1400) := by
  have : (ys.take 1400).length ≤ 1400 := by rw [List.length_take]; omega
  rw [bh8]
  unfold P16 ud0 w2l
  rw [← hl]
  have e1 : f / 256 % 256 = f / 256 := by omega
  have e2 : t / 256 % 256 = t / 256 := by omega
  have e3 : l / 256 % 256 = l / 256 := by omega
  rw [e1, e2, e3]
  rfl
theorem lay_tc (f t fl : Int) (ys : List Int) (f0 : 0 ≤ f) (f1 : f ≤ 65535) (t0 : 0 ≤ t) (t1 : t ≤ 65535) :
    P16 (((P16 (P16 (bh 20 ys) 0 f) 2 t).set 12 80).set 13 fl) 14 8192 = tc0 f t fl (ys.take 1400) := by
  rw [bh20]
  unfold P16 tc0 w2l
  have e1 : f / 256 % 256 = f / 256 := by omega
  have e2 : t / 256 % 256 = t / 256 := by omega
  rw [e1, e2]
  rfl
theorem lay_ic (k c : Int) (ys : List Int) : ((bh 8 ys).set 0 k).set 1 c = ic0 k c 0 (ys.take 1400) := rfl
theorem lay_ec (k id : Int) (ys : List Int) (h0 : 0 ≤ id) (h1 : id ≤ 65535) : ecL k id ys = icL k 0 id (ys.take 1400) := by
  have e : P16 ((bh 8 ys).set 0 k) 4 id = ic0 k 0 id (ys.take 1400) := by
    rw [bh8]
    unfold P16 ic0 w2l
    have e1 : id / 256 % 256 = id / 256 := by omega
    rw [e1]
    rfl
  unfold ecL icL
  rw [e]

theorem layPorts_any (g n c base : Nat) (zs : List Int) (f t : Int) (w : World) (hi : 3 < n) (hl : n ≤ 1000000) (f0 : 0 ≤ f) (f1 : f ≤ 65535) (t0 : 0 ≤ t) (t1 : t ≤ 65535) (hO : Own w base (some ⟨g, 0, none⟩) n c zs) :
    Calls Try.prog 70 #[.slice (some ⟨g, 0, none⟩) n c, .int .u16 f, .int .u16 t] w fun e w' => e = .returned (.tuple #[]) ∧ Laid w w' base g n c (P16 (P16 zs 0 f) 2 t) := by
  have HO := Lib.hid hO
  clear hO
  go_enter Try.func70, Try.ntmps70
  go_wp2_with fail
  refine (put16_any g n c base zs 0 f 0 _ rfl (by omega) hl f0 f1 HO.out).mono ?_
  rintro e w1 ⟨rfl, h1⟩
  have H1 := Lib.hid h1
  clear h1
  go_wp2_with fail
  refine (put16_any g n c base _ 2 t 2 _ rfl (by omega) hl t0 t1 H1.out.own).mono ?_
  rintro e w2 ⟨rfl, h2⟩
  have H2 := Lib.hid h2
  clear h2
  go_wp2
  go_end0
  exact ⟨rfl, H2.out.own, H1.out.grow.trans H2.out.grow⟩

theorem udpSum_any (s d : Int) (A : Option Addr) (n c : Nat) (zs : List Int) (w : World) (hn : zs.length = n) (hl : n ≤ 1000000) (hR : Rd w A zs) (s0 : 0 ≤ s) (s1 : s ≤ 4294967295) (d0 : 0 ≤ d) (d1 : d ≤ 4294967295) :
    Calls Try.prog 71 #[.int .u32 s, .int .u32 d, .slice A n c] w fun e w' => e = .returned (.int .u16 (no0 (Ps s d 17 zs))) ∧ ∃ q, w' = w.drewN q := by
  have HR := Lib.hid hR
  have Hn := Lib.hid hn
  clear hR hn
  go_enter Try.func71, Try.ntmps71
  go_wp2_with fail
  refine (sumFor_any s d 17 A n c zs _ Hn.out hl HR.out s0 s1 d0 d1 (by omega) (by omega)).mono ?_
  rintro e w1 ⟨rfl, q, rfl⟩
  obtain ⟨x, hx⟩ : ∃ x, x = Ps s d 17 zs := ⟨_, rfl⟩
  rw [← hx]
  have HX := Lib.hid hx
  clear hx
  by_cases hz : x = 0
  · subst hz
    go_wp2
    go_ret
    exact ⟨by rw [← HX.out]; rfl, q, rfl⟩
  · have hz' : (x == 0) = false := by simpa using hz
    go_wp2
    go_ret
    exact ⟨by rw [← HX.out]; unfold no0; rw [if_neg hz]; rfl, q, rfl⟩

set_option maxHeartbeats 2000000 in
theorem pudp_any (s d f t : Int) (A : Option Addr) (n c : Nat) (ys : List Int) (w : World) (hn : ys.length = n) (hnc : n ≤ c) (hl : n ≤ 1000000) (hR : Rd w A ys)
    (s0 : 0 ≤ s) (s1 : s ≤ 4294967295) (d0 : 0 ≤ d) (d1 : d ≤ 4294967295) (f0 : 0 ≤ f) (f1 : f ≤ 65535) (t0 : 0 ≤ t) (t1 : t ≤ 65535) :
    Calls Try.prog 34 #[.int .u32 s, .int .u32 d, .int .u16 f, .int .u16 t, .slice A n c] w fun e w' => ∃ g u, e = .returned (.slice (some ⟨g, 0, none⟩) (8 + u) (8 + u)) ∧ u = min n 1400 ∧ Own w' w.heap.size (some ⟨g, 0, none⟩) (8 + u) (8 + u) (udL s d f t (ys.take 1400)) ∧ Below w.heap.size w w' := by
  have Hn := Lib.hid hn
  have HR := Lib.hid hR
  clear hn hR
  go_enter Try.func34, Try.ntmps34
  go_wp2_with fail
  refine (behind_any 8 (by omega) (by omega) A n c ys w Hn.out hnc hl HR.out).mono ?_
  rintro e w1 ⟨g, u, rfl, hu, ho, hb⟩
  have HU := Lib.hid hu
  have hu2 : u ≤ 1400 := by omega
  have hgb : w.heap.size ≤ g := by rcases ho.form with ⟨h, _⟩ | ⟨g2, h, hg, _⟩; cases h; injection h with h; injection h with h; omega
  have HO := Lib.hid ho
  have HB := Lib.hid hb
  have Hl := Lib.hid (show 8 + (u : Int) = 8 + ((ys.take 1400).length : Int) by rw [List.length_take, Hn.out, hu]; omega)
  clear hu ho hb
  go_wp2_with fail
  refine (layPorts_any g (8 + u) (8 + u) w.heap.size _ f t _ (by omega) (by omega) f0 f1 t0 t1 HO.out).mono ?_
  rintro e w2 ⟨rfl, hL⟩
  have HO2 := Lib.hid hL.own
  have HB2 := Lib.hid (hL.below HB.out hgb HB.out.size)
  clear hL HO HB
  go_wp2_with fail
  refine (put16_any g (8 + u) (8 + u) w.heap.size _ 4 (8 + (u : Int)) 4 _ rfl (by omega) (by omega) (by omega) (by omega) HO2.out).mono ?_
  rintro e w3 ⟨rfl, hL⟩
  have HO3 := Lib.hid (show Own w3 w.heap.size (some ⟨g, 0, none⟩) (8 + u) (8 + u) (ud0 f t (ys.take 1400)) by
    have := hL.own
    rw [lay_ud f t _ ys f0 f1 t0 t1 Hl.out] at this
    exact this)
  have HB3 := Lib.hid (hL.below HB2.out hgb HB2.out.size)
  clear hL HO2 HB2
  obtain ⟨L, hL⟩ : ∃ L, L = ud0 f t (ys.take 1400) := ⟨_, rfl⟩
  rw [← hL] at HO3
  have HL := Lib.hid hL
  clear hL
  go_wp2_with fail
  refine (udpSum_any s d (some ⟨g, 0, none⟩) (8 + u) (8 + u) L _ HO3.out.len (by omega) HO3.out.rd s0 s1 d0 d1).mono ?_
  rintro e w4 ⟨rfl, q, rfl⟩
  have hcs := Ps_range s d 17 L HO3.out.byt s0 d0 (by decide)
  have hcs2 := no0_range _ hcs.1 hcs.2
  obtain ⟨x, hx⟩ : ∃ x, x = no0 (Ps s d 17 L) := ⟨_, rfl⟩
  rw [← hx] at hcs2
  rw [← hx]
  have HX := Lib.hid hx
  clear hx hcs
  go_wp2_with fail
  refine (put16_any g (8 + u) (8 + u) w.heap.size L 6 x 6 _ rfl (by omega) (by omega) (by omega) hcs2.2 (HO3.out.drewN q)).mono ?_
  rintro e w5 ⟨rfl, hL⟩
  have HO5 := Lib.hid (show Own w5 w.heap.size (some ⟨g, 0, none⟩) (8 + u) (8 + u) (udL s d f t (ys.take 1400)) by
    have := hL.own
    rw [HX.out, HL.out] at this
    exact this)
  have HB5 := Lib.hid (hL.below (below_drewN HB3.out q) hgb HB3.out.size)
  clear hL HO3 HB3 hcs2
  go_wp2
  go_ret
  exact ⟨g, u, rfl, HU.out, HO5.out, HB5.out⟩

set_option maxHeartbeats 2000000 in
theorem ptcp_any (s d f t fl : Int) (A : Option Addr) (n c : Nat) (ys : List Int) (w : World) (hn : ys.length = n) (hnc : n ≤ c) (hl : n ≤ 1000000) (hR : Rd w A ys)
    (s0 : 0 ≤ s) (s1 : s ≤ 4294967295) (d0 : 0 ≤ d) (d1 : d ≤ 4294967295) (f0 : 0 ≤ f) (f1 : f ≤ 65535) (t0 : 0 ≤ t) (t1 : t ≤ 65535) :
    Calls Try.prog 36 #[.int .u32 s, .int .u32 d, .int .u16 f, .int .u16 t, .int .i64 fl, .slice A n c] w fun e w' => ∃ g u, e = .returned (.slice (some ⟨g, 0, none⟩) (20 + u) (20 + u)) ∧ u = min n 1400 ∧ Own w' w.heap.size (some ⟨g, 0, none⟩) (20 + u) (20 + u) (tcL s d f t (fl % 256) (ys.take 1400)) ∧ Below w.heap.size w w' := by
  have Hn := Lib.hid hn
  have HR := Lib.hid hR
  clear hn hR
  have e1 : IntKind.u8.wrap fl = fl % 256 := IntKind.wrap_u8 _
  have v0 : 0 ≤ fl % 256 := by omega
  have v1 : fl % 256 ≤ 255 := by omega
  go_enter Try.func36, Try.ntmps36
  go_wp2_with fail
  refine (behind_any 20 (by omega) (by omega) A n c ys w Hn.out hnc hl HR.out).mono ?_
  rintro e w1 ⟨g, u, rfl, hu, ho, hb⟩
  have HU := Lib.hid hu
  have hu2 : u ≤ 1400 := by omega
  have hgb : w.heap.size ≤ g := by rcases ho.form with ⟨h, _⟩ | ⟨g2, h, hg, _⟩; cases h; injection h with h; injection h with h; omega
  have HO := Lib.hid ho
  have HB := Lib.hid hb
  clear hu ho hb
  go_wp2_with fail
  refine (layPorts_any g (20 + u) (20 + u) w.heap.size _ f t _ (by omega) (by omega) f0 f1 t0 t1 HO.out).mono ?_
  rintro e w2 ⟨rfl, hL⟩
  have HO2 := Lib.hid hL.own
  have HB2 := Lib.hid (hL.below HB.out hgb HB.out.size)
  clear hL HO HB
  have c12 := HO2.out.at (k := 12) (by omega)
  have c13 := HO2.out.at (k := 13) (by omega)
  have z12 := HO2.out.free 12
  have z13 := HO2.out.free 13
  go_upto_region 5 with fail
  have HO3 := Lib.hid ((HO2.out.set 12 80 (by omega) (by omega)).set 13 (fl % 256) v0 v1)
  have HB3 := Lib.hid ((HB2.out.setCell (p := ⟨g, 12, none⟩) hgb (.int .u8 80)).setCell (p := ⟨g, 13, none⟩) hgb (.int .u8 (fl % 256)))
  clear c12 c13 z12 z13 e1 HO2 HB2
  generalize (w2.setCell ⟨g, 12, none⟩ (.int .u8 80)).setCell ⟨g, 13, none⟩ (.int .u8 (fl % 256)) = w3 at *
  go_wp2_with fail
  refine (put16_any g (20 + u) (20 + u) w.heap.size _ 14 8192 14 _ rfl (by omega) (by omega) (by omega) (by omega) HO3.out).mono ?_
  rintro e w4 ⟨rfl, hL⟩
  have HO4 := Lib.hid (show Own w4 w.heap.size (some ⟨g, 0, none⟩) (20 + u) (20 + u) (tc0 f t (fl % 256) (ys.take 1400)) by
    have := hL.own
    rw [lay_tc f t _ ys f0 f1 t0 t1] at this
    exact this)
  have HB4 := Lib.hid (hL.below HB3.out hgb HB3.out.size)
  clear hL HO3 HB3
  obtain ⟨L, hL⟩ : ∃ L, L = tc0 f t (fl % 256) (ys.take 1400) := ⟨_, rfl⟩
  rw [← hL] at HO4
  have HL := Lib.hid hL
  clear hL
  go_wp2_with fail
  refine (sumFor_any s d 6 (some ⟨g, 0, none⟩) (20 + u) (20 + u) L _ HO4.out.len (by omega) HO4.out.rd s0 s1 d0 d1 (by omega) (by omega)).mono ?_
  rintro e w5 ⟨rfl, q, rfl⟩
  have hcs := Ps_range s d 6 L HO4.out.byt s0 d0 (by decide)
  obtain ⟨x, hx⟩ : ∃ x, x = Ps s d 6 L := ⟨_, rfl⟩
  rw [← hx] at hcs
  rw [← hx]
  have HX := Lib.hid hx
  clear hx
  go_wp2_with fail
  refine (put16_any g (20 + u) (20 + u) w.heap.size L 16 x 16 _ rfl (by omega) (by omega) hcs.1 hcs.2 (HO4.out.drewN q)).mono ?_
  rintro e w6 ⟨rfl, hL⟩
  have HO5 := Lib.hid (show Own w6 w.heap.size (some ⟨g, 0, none⟩) (20 + u) (20 + u) (tcL s d f t (fl % 256) (ys.take 1400)) by
    have := hL.own
    rw [HX.out, HL.out] at this
    exact this)
  have HB5 := Lib.hid (hL.below (below_drewN HB4.out q) hgb HB4.out.size)
  clear hL HO4 HB4 hcs
  go_wp2
  go_ret
  exact ⟨g, u, rfl, HU.out, HO5.out, HB5.out⟩

set_option maxHeartbeats 2000000 in
theorem pfault_any (k cd : Int) (A : Option Addr) (n c : Nat) (ys : List Int) (w : World) (hn : ys.length = n) (hnc : n ≤ c) (hl : n ≤ 1000000) (hR : Rd w A ys) :
    Calls Try.prog 40 #[.int .i64 k, .int .i64 cd, .slice A n c] w fun e w' => ∃ g u, e = .returned (.slice (some ⟨g, 0, none⟩) (8 + u) (8 + u)) ∧ u = min n 1400 ∧ Own w' w.heap.size (some ⟨g, 0, none⟩) (8 + u) (8 + u) (icL (k % 256) (cd % 256) 0 (ys.take 1400)) ∧ Below w.heap.size w w' := by
  have Hn := Lib.hid hn
  have HR := Lib.hid hR
  clear hn hR
  have e1 : IntKind.u8.wrap k = k % 256 := IntKind.wrap_u8 _
  have e2 : IntKind.u8.wrap cd = cd % 256 := IntKind.wrap_u8 _
  go_enter Try.func40, Try.ntmps40
  go_wp2_with fail
  refine (behind_any 8 (by omega) (by omega) A n c ys w Hn.out hnc hl HR.out).mono ?_
  rintro e w1 ⟨g, u, rfl, hu, ho, hb⟩
  have HU := Lib.hid hu
  have hu2 : u ≤ 1400 := by omega
  have hgb : w.heap.size ≤ g := by rcases ho.form with ⟨h, _⟩ | ⟨g2, h, hg, _⟩; cases h; injection h with h; injection h with h; omega
  have HO := Lib.hid ho
  have HB := Lib.hid hb
  have c12 := ho.at (k := 0) (by omega)
  have c13 := ho.at (k := 1) (by omega)
  have z12 := ho.free 0
  have z13 := ho.free 1
  clear hu ho hb
  go_upto_region 4 with fail
  have HO3 := Lib.hid (show Own _ w.heap.size (some ⟨g, 0, none⟩) (8 + u) (8 + u) (ic0 (k % 256) (cd % 256) 0 (ys.take 1400)) from (HO.out.set 0 (k % 256) (by omega) (by omega)).set 1 (cd % 256) (by omega) (by omega))
  have HB3 := Lib.hid ((HB.out.setCell (p := ⟨g, 0, none⟩) hgb (.int .u8 (k % 256))).setCell (p := ⟨g, 1, none⟩) hgb (.int .u8 (cd % 256)))
  clear c12 c13 z12 z13 e1 e2 HO HB
  generalize (w1.setCell ⟨g, 0, none⟩ (.int .u8 (k % 256))).setCell ⟨g, 1, none⟩ (.int .u8 (cd % 256)) = w3 at *
  obtain ⟨L, hL⟩ : ∃ L, L = ic0 (k % 256) (cd % 256) 0 (ys.take 1400) := ⟨_, rfl⟩
  rw [← hL] at HO3
  have HL := Lib.hid hL
  clear hL
  go_wp2_with fail
  refine (of_n (some ⟨g, 0, none⟩) (8 + u) (8 + u) L _ HO3.out.len (by omega) HO3.out.rd).mono ?_
  rintro e w5 ⟨rfl, q, rfl⟩
  have hcs := Cs_range L HO3.out.byt
  obtain ⟨x, hx⟩ : ∃ x, x = Cs L := ⟨_, rfl⟩
  rw [← hx] at hcs
  rw [← hx]
  have HX := Lib.hid hx
  clear hx
  go_wp2_with fail
  refine (put16_any g (8 + u) (8 + u) w.heap.size L 2 x 2 _ rfl (by omega) (by omega) hcs.1 hcs.2 (HO3.out.drewN q)).mono ?_
  rintro e w6 ⟨rfl, hL⟩
  have HO5 := Lib.hid (show Own w6 w.heap.size (some ⟨g, 0, none⟩) (8 + u) (8 + u) (icL (k % 256) (cd % 256) 0 (ys.take 1400)) by
    have := hL.own
    rw [HX.out, HL.out] at this
    exact this)
  have HB5 := Lib.hid (hL.below (below_drewN HB3.out q) hgb HB3.out.size)
  clear hL HO3 HB3 hcs
  go_wp2
  go_ret
  exact ⟨g, u, rfl, HU.out, HO5.out, HB5.out⟩
end Go.Proofs.Ytoeencklcemofaa
