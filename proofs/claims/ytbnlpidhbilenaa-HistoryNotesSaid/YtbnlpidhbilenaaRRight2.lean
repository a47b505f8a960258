/-
  Contract of the reference fanlightref03.Right, of heads of any size: bytes are told, as many as came in. Conditions stand in each theorem.
-/
import Derived.Test.YtbnlpidhbilenaaRRight
namespace Go.Proofs.Ytbnlpidhbilenaa
open Go.RowKit Plain
set_option linter.unusedVariables false
set_option linter.unusedSimpArgs false
set_option maxRecDepth 100000
set_option maxHeartbeats 4000000 in
theorem rightg_17 (sz q : Nat) (z1 : 20 ≤ sz) (z2 : sz ≤ 60) (t s d : Int) (A : Option Addr) (n c : Nat) (zs : List Int) (w : World) (hn : zs.length = n) (hl : n ≤ 1000) (l1 : sz + q ≤ n) (hR : Rd w A zs) (s0 : 0 ≤ s) (s1 : s ≤ 4294967295) (d0 : 0 ≤ d) (d1 : d ≤ 4294967295) :
    Calls Try.prog 45 #[.agg #[.int .i64 (sz : Int), .int .i64 ((sz : Int) + (q : Int)), .int .i64 t, .int .i64 17, .int .u32 s, .int .u32 d], .slice A n c] w (RightOk n w) := by
  have HR := Lib.hid hR
  have Hn := Lib.hid hn
  clear hR hn
  go_enter Try.func45, Try.ntmps45
  go_upto_region 1 with fail
  have HB1 := Lib.hid (ball w (.cells #[.int .i64 (sz : Int), .int .i64 ((sz : Int) + (q : Int)), .int .i64 t, .int .i64 17, .int .u32 s, .int .u32 d] 84))
  have HH1 := Lib.hid (Blk.new w 84 #[.int .i64 (sz : Int), .int .i64 ((sz : Int) + (q : Int)), .int .i64 t, .int .i64 17, .int .u32 s, .int .u32 d])
  generalize w.alloc (.cells #[.int .i64 (sz : Int), .int .i64 ((sz : Int) + (q : Int)), .int .i64 t, .int .i64 17, .int .u32 s, .int .u32 d] 84) = w1 at *
  obtain ⟨g0, hg0⟩ : ∃ g, g = w.heap.size := ⟨_, rfl⟩
  rw [← hg0] at HH1
  rw [← hg0]
  clear hg0
  have hs1 := HB1.out.size
  have HR1 := Lib.hid ((HR.out.below HB1.out).alloc (.cells #[] 5))
  go_wp2_with (at_builtin; refine wpList_app rfl (.tmp 9) (.tmp 10) rfl rfl (Own.empty w1 hs1) zs rfl HR1.out Hn.out (by omega) (by simp; omega) ?_)
  intro A' c' w2 ho hg hA
  have hb := below_app (bthen HB1.out (ball w1 _)) hg (Own.empty w1 hs1) (Nat.le_refl _) (by simp; omega)
  have hK2 := (HH1.out.alloc (.cells #[] 5)).grown hg (Nat.ne_of_lt HH1.out.lt)
  obtain ⟨g, rfl, hgg⟩ : ∃ g, A' = some ⟨g, 0, none⟩ ∧ w1.heap.size ≤ g := by
    rcases hA with h | h
    · exact ⟨_, h, Nat.le_refl _⟩
    · exact ⟨_, h, by simp⟩
  have hgl : w.heap.size ≤ g := by omega
  have hgne : g ≠ g0 := by have := HH1.out.lt; omega
  have hO2 : Own w2 w.heap.size (some ⟨g, 0, none⟩) n c' zs := ho
  have hcap := hO2.cap
  have HO := Lib.hid hO2
  have HB := Lib.hid hb
  have HK := Lib.hid hK2
  have k0 : w2.cell? ⟨g0, 0, none⟩ = some (.int .i64 (sz : Int)) := hK2.cell 0
  have k1 : w2.cell? ⟨g0, 1, none⟩ = some (.int .i64 ((sz : Int) + (q : Int))) := hK2.cell 1
  have k3 : w2.cell? ⟨g0, 3, none⟩ = some (.int .i64 17) := hK2.cell 3
  clear ho hg hA hb hK2 hO2 HR1 HB1 HH1 hs1 hgg
  have i1 : ¬ ((n : Int) < (sz : Int) + (q : Int)) := by omega
  have i2 : (sz : Int) + (q : Int) ≤ (c' : Int) := by omega
  have i7 : ¬ ((sz : Int) < 20) := by omega
  have i8 : ¬ ((sz : Int) + (q : Int) < (sz : Int)) := by omega
  by_cases hq : q < 8
  · have i3 : (q : Int) < 8 := by omega
    by_cases hc : c' = sz
    · have hq0 : q = 0 := by omega
      subst hq0
      subst hc
      go_wp2
      go_ret
      exact ⟨g, _, zs, rfl, HO.out, HB.out⟩
    · have i4 : ((sz : Int) + (q : Int)).toNat = sz + q := by omega
      go_wp2
      go_ret
      exact ⟨g, c', zs, rfl, HO.out, HB.out⟩
  · have i3 : (8 : Int) ≤ (q : Int) := by omega
    have hc : ¬ (c' = sz) := by omega
    have i4 : ((sz : Int) + (q : Int)).toNat = sz + q := by omega
    have i5 : (6 : Int) < (q : Int) := by omega
    have i6 : (7 : Int) < (q : Int) := by omega
    have c10 := HO.out.at (k := (sz + 6)) (by omega)
    have c11 := HO.out.at (k := (sz + 7)) (by omega)
    have f10 := HO.out.free (sz + 6)
    have f11 := HO.out.free (sz + 7)
    go_wp2_with fail
    obtain ⟨w3, hw3⟩ : ∃ w3, w3 = (w2.setCell ⟨g, sz + 6, none⟩ (.int .u8 0)).setCell ⟨g, sz + 7, none⟩ (.int .u8 0) := ⟨_, rfl⟩
    have HO3 := Lib.hid (show Own w3 w.heap.size (some ⟨g, 0, none⟩) n c' ((zs.set (sz + 6) 0).set (sz + 7) 0) by rw [hw3]; exact (HO.out.set (sz + 6) 0 (by decide) (by decide)).set (sz + 7) 0 (by decide) (by decide))
    have HB3 := Lib.hid (show Below w.heap.size w w3 by rw [hw3]; exact (HB.out.setCell (p := ⟨g, sz + 6, none⟩) hgl _).setCell (p := ⟨g, sz + 7, none⟩) hgl _)
    have hK3 : Blk w3 g0 84 #[.int .i64 (sz : Int), .int .i64 ((sz : Int) + (q : Int)), .int .i64 t, .int .i64 17, .int .u32 s, .int .u32 d] := by rw [hw3]; exact (HK.out.ne (p := ⟨g, sz + 6, none⟩) hgne _).ne (p := ⟨g, sz + 7, none⟩) hgne _
    rw [← hw3]
    have m3 : w3.cell? ⟨g0, 3, none⟩ = some (.int .i64 17) := hK3.cell 3
    have m4 : w3.cell? ⟨g0, 4, none⟩ = some (.int .u32 s) := hK3.cell 4
    have m5 : w3.cell? ⟨g0, 5, none⟩ = some (.int .u32 d) := hK3.cell 5
    clear hw3 c10 c11 f10 f11 HO HB k0 k1 k3 HK hK3
    obtain ⟨z3, hz3⟩ : ∃ z, z = (zs.set (sz + 6) 0).set (sz + 7) 0 := ⟨_, rfl⟩
    rw [← hz3] at HO3
    clear hz3
    have hRx0 := (HO3.out.rd.dropAt sz).take q
    rw [Nat.zero_add] at hRx0
    have hRx := Lib.hid hRx0
    clear hRx0
    have hLx := Lib.hid (show ((z3.drop sz).take q).length = q by rw [List.length_take, List.length_drop, HO3.out.len]; omega)
    obtain ⟨zx, hzx⟩ : ∃ z, z = (z3.drop sz).take q := ⟨_, rfl⟩
    rw [← hzx] at hRx hLx
    clear hzx
    refine (refOf_n (some ⟨g, sz, none⟩) q _ zx _ hLx.out (by omega) hRx.out).mono ?_
    rintro e w' ⟨rfl, rfl⟩
    go_wp2_with fail
    refine (pseudo_any s d 17 (some ⟨g, sz, none⟩) q _ zx _ hLx.out (by omega) hRx.out s0 s1 d0 d1 (by omega) (by omega)).mono ?_
    rintro e w4 ⟨rfl, hb4⟩
    have HO4 := Lib.hid (HO3.out.below hb4)
    have HB4 := Lib.hid (bthen HB3.out hb4)
    clear hb4 HB3 HO3 m3 m4 m5
    obtain ⟨v, hv⟩ : ∃ v, v = Ps s d 17 zx := ⟨_, rfl⟩
    rw [← hv]
    have v0 : 0 ≤ v := by rw [hv]; exact (Ps_rng s d 17 zx hRx.out.1 s0 d0 (by omega)).1
    have v1 : v ≤ 65535 := by rw [hv]; exact (Ps_rng s d 17 zx hRx.out.1 s0 d0 (by omega)).2
    clear hv
    have c10 := HO4.out.at (k := (sz + 6)) (by omega)
    have c11 := HO4.out.at (k := (sz + 7)) (by omega)
    have f10 := HO4.out.free (sz + 6)
    have f11 := HO4.out.free (sz + 7)
    have HOF := Lib.hid (show Own ((w4.setCell ⟨g, sz + 6, none⟩ (.int .u8 (v / 256))).setCell ⟨g, sz + 7, none⟩ (.int .u8 (v % 256))) w.heap.size (some ⟨g, 0, none⟩) n c' ((z3.set (sz + 6) (v / 256)).set (sz + 7) (v % 256)) from
      (HO4.out.set (sz + 6) (v / 256) (by omega) (by omega)).set (sz + 7) (v % 256) (by omega) (by omega))
    have HBF := Lib.hid (show Below w.heap.size w ((w4.setCell ⟨g, sz + 6, none⟩ (.int .u8 (v / 256))).setCell ⟨g, sz + 7, none⟩ (.int .u8 (v % 256))) from (HB4.out.setCell (p := ⟨g, sz + 6, none⟩) hgl _).setCell (p := ⟨g, sz + 7, none⟩) hgl _)
    go_wp2
    go_ret
    exact ⟨g, c', _, rfl, HOF.out, HBF.out⟩

set_option maxHeartbeats 4000000 in
theorem rightg_6 (sz q : Nat) (z1 : 20 ≤ sz) (z2 : sz ≤ 60) (t s d : Int) (A : Option Addr) (n c : Nat) (zs : List Int) (w : World) (hn : zs.length = n) (hl : n ≤ 1000) (l1 : sz + q ≤ n) (hR : Rd w A zs) (s0 : 0 ≤ s) (s1 : s ≤ 4294967295) (d0 : 0 ≤ d) (d1 : d ≤ 4294967295) :
    Calls Try.prog 45 #[.agg #[.int .i64 (sz : Int), .int .i64 ((sz : Int) + (q : Int)), .int .i64 t, .int .i64 6, .int .u32 s, .int .u32 d], .slice A n c] w (RightOk n w) := by
  have HR := Lib.hid hR
  have Hn := Lib.hid hn
  clear hR hn
  go_enter Try.func45, Try.ntmps45
  go_upto_region 1 with fail
  have HB1 := Lib.hid (ball w (.cells #[.int .i64 (sz : Int), .int .i64 ((sz : Int) + (q : Int)), .int .i64 t, .int .i64 6, .int .u32 s, .int .u32 d] 84))
  have HH1 := Lib.hid (Blk.new w 84 #[.int .i64 (sz : Int), .int .i64 ((sz : Int) + (q : Int)), .int .i64 t, .int .i64 6, .int .u32 s, .int .u32 d])
  generalize w.alloc (.cells #[.int .i64 (sz : Int), .int .i64 ((sz : Int) + (q : Int)), .int .i64 t, .int .i64 6, .int .u32 s, .int .u32 d] 84) = w1 at *
  obtain ⟨g0, hg0⟩ : ∃ g, g = w.heap.size := ⟨_, rfl⟩
  rw [← hg0] at HH1
  rw [← hg0]
  clear hg0
  have hs1 := HB1.out.size
  have HR1 := Lib.hid ((HR.out.below HB1.out).alloc (.cells #[] 5))
  go_wp2_with (at_builtin; refine wpList_app rfl (.tmp 9) (.tmp 10) rfl rfl (Own.empty w1 hs1) zs rfl HR1.out Hn.out (by omega) (by simp; omega) ?_)
  intro A' c' w2 ho hg hA
  have hb := below_app (bthen HB1.out (ball w1 _)) hg (Own.empty w1 hs1) (Nat.le_refl _) (by simp; omega)
  have hK2 := (HH1.out.alloc (.cells #[] 5)).grown hg (Nat.ne_of_lt HH1.out.lt)
  obtain ⟨g, rfl, hgg⟩ : ∃ g, A' = some ⟨g, 0, none⟩ ∧ w1.heap.size ≤ g := by
    rcases hA with h | h
    · exact ⟨_, h, Nat.le_refl _⟩
    · exact ⟨_, h, by simp⟩
  have hgl : w.heap.size ≤ g := by omega
  have hgne : g ≠ g0 := by have := HH1.out.lt; omega
  have hO2 : Own w2 w.heap.size (some ⟨g, 0, none⟩) n c' zs := ho
  have hcap := hO2.cap
  have HO := Lib.hid hO2
  have HB := Lib.hid hb
  have HK := Lib.hid hK2
  have k0 : w2.cell? ⟨g0, 0, none⟩ = some (.int .i64 (sz : Int)) := hK2.cell 0
  have k1 : w2.cell? ⟨g0, 1, none⟩ = some (.int .i64 ((sz : Int) + (q : Int))) := hK2.cell 1
  have k3 : w2.cell? ⟨g0, 3, none⟩ = some (.int .i64 6) := hK2.cell 3
  clear ho hg hA hb hK2 hO2 HR1 HB1 HH1 hs1 hgg
  have i1 : ¬ ((n : Int) < (sz : Int) + (q : Int)) := by omega
  have i2 : (sz : Int) + (q : Int) ≤ (c' : Int) := by omega
  have i7 : ¬ ((sz : Int) < 20) := by omega
  have i8 : ¬ ((sz : Int) + (q : Int) < (sz : Int)) := by omega
  by_cases hq : q < 18
  · have i3 : (q : Int) < 18 := by omega
    by_cases hc : c' = sz
    · have hq0 : q = 0 := by omega
      subst hq0
      subst hc
      go_wp2
      go_ret
      exact ⟨g, _, zs, rfl, HO.out, HB.out⟩
    · have i4 : ((sz : Int) + (q : Int)).toNat = sz + q := by omega
      go_wp2
      go_ret
      exact ⟨g, c', zs, rfl, HO.out, HB.out⟩
  · have i3 : (18 : Int) ≤ (q : Int) := by omega
    have hc : ¬ (c' = sz) := by omega
    have i4 : ((sz : Int) + (q : Int)).toNat = sz + q := by omega
    have i5 : (16 : Int) < (q : Int) := by omega
    have i6 : (17 : Int) < (q : Int) := by omega
    have c10 := HO.out.at (k := (sz + 16)) (by omega)
    have c11 := HO.out.at (k := (sz + 17)) (by omega)
    have f10 := HO.out.free (sz + 16)
    have f11 := HO.out.free (sz + 17)
    go_wp2_with fail
    obtain ⟨w3, hw3⟩ : ∃ w3, w3 = (w2.setCell ⟨g, sz + 16, none⟩ (.int .u8 0)).setCell ⟨g, sz + 17, none⟩ (.int .u8 0) := ⟨_, rfl⟩
    have HO3 := Lib.hid (show Own w3 w.heap.size (some ⟨g, 0, none⟩) n c' ((zs.set (sz + 16) 0).set (sz + 17) 0) by rw [hw3]; exact (HO.out.set (sz + 16) 0 (by decide) (by decide)).set (sz + 17) 0 (by decide) (by decide))
    have HB3 := Lib.hid (show Below w.heap.size w w3 by rw [hw3]; exact (HB.out.setCell (p := ⟨g, sz + 16, none⟩) hgl _).setCell (p := ⟨g, sz + 17, none⟩) hgl _)
    have hK3 : Blk w3 g0 84 #[.int .i64 (sz : Int), .int .i64 ((sz : Int) + (q : Int)), .int .i64 t, .int .i64 6, .int .u32 s, .int .u32 d] := by rw [hw3]; exact (HK.out.ne (p := ⟨g, sz + 16, none⟩) hgne _).ne (p := ⟨g, sz + 17, none⟩) hgne _
    rw [← hw3]
    have m3 : w3.cell? ⟨g0, 3, none⟩ = some (.int .i64 6) := hK3.cell 3
    have m4 : w3.cell? ⟨g0, 4, none⟩ = some (.int .u32 s) := hK3.cell 4
    have m5 : w3.cell? ⟨g0, 5, none⟩ = some (.int .u32 d) := hK3.cell 5
    clear hw3 c10 c11 f10 f11 HO HB k0 k1 k3 HK hK3
    obtain ⟨z3, hz3⟩ : ∃ z, z = (zs.set (sz + 16) 0).set (sz + 17) 0 := ⟨_, rfl⟩
    rw [← hz3] at HO3
    clear hz3
    have hRx0 := (HO3.out.rd.dropAt sz).take q
    rw [Nat.zero_add] at hRx0
    have hRx := Lib.hid hRx0
    clear hRx0
    have hLx := Lib.hid (show ((z3.drop sz).take q).length = q by rw [List.length_take, List.length_drop, HO3.out.len]; omega)
    obtain ⟨zx, hzx⟩ : ∃ z, z = (z3.drop sz).take q := ⟨_, rfl⟩
    rw [← hzx] at hRx hLx
    clear hzx
    refine (refOf_n (some ⟨g, sz, none⟩) q _ zx _ hLx.out (by omega) hRx.out).mono ?_
    rintro e w' ⟨rfl, rfl⟩
    go_wp2_with fail
    refine (pseudo_any s d 6 (some ⟨g, sz, none⟩) q _ zx _ hLx.out (by omega) hRx.out s0 s1 d0 d1 (by omega) (by omega)).mono ?_
    rintro e w4 ⟨rfl, hb4⟩
    have HO4 := Lib.hid (HO3.out.below hb4)
    have HB4 := Lib.hid (bthen HB3.out hb4)
    clear hb4 HB3 HO3 m3 m4 m5
    obtain ⟨v, hv⟩ : ∃ v, v = Ps s d 6 zx := ⟨_, rfl⟩
    rw [← hv]
    have v0 : 0 ≤ v := by rw [hv]; exact (Ps_rng s d 6 zx hRx.out.1 s0 d0 (by omega)).1
    have v1 : v ≤ 65535 := by rw [hv]; exact (Ps_rng s d 6 zx hRx.out.1 s0 d0 (by omega)).2
    clear hv
    have c10 := HO4.out.at (k := (sz + 16)) (by omega)
    have c11 := HO4.out.at (k := (sz + 17)) (by omega)
    have f10 := HO4.out.free (sz + 16)
    have f11 := HO4.out.free (sz + 17)
    have HOF := Lib.hid (show Own ((w4.setCell ⟨g, sz + 16, none⟩ (.int .u8 (v / 256))).setCell ⟨g, sz + 17, none⟩ (.int .u8 (v % 256))) w.heap.size (some ⟨g, 0, none⟩) n c' ((z3.set (sz + 16) (v / 256)).set (sz + 17) (v % 256)) from
      (HO4.out.set (sz + 16) (v / 256) (by omega) (by omega)).set (sz + 17) (v % 256) (by omega) (by omega))
    have HBF := Lib.hid (show Below w.heap.size w ((w4.setCell ⟨g, sz + 16, none⟩ (.int .u8 (v / 256))).setCell ⟨g, sz + 17, none⟩ (.int .u8 (v % 256))) from (HB4.out.setCell (p := ⟨g, sz + 16, none⟩) hgl _).setCell (p := ⟨g, sz + 17, none⟩) hgl _)
    go_wp2
    go_ret
    exact ⟨g, c', _, rfl, HOF.out, HBF.out⟩

set_option maxHeartbeats 4000000 in
theorem rightg_1 (sz q : Nat) (z1 : 20 ≤ sz) (z2 : sz ≤ 60) (t s d : Int) (A : Option Addr) (n c : Nat) (zs : List Int) (w : World) (hn : zs.length = n) (hl : n ≤ 1000) (l1 : sz + q ≤ n) (hR : Rd w A zs) (s0 : 0 ≤ s) (s1 : s ≤ 4294967295) (d0 : 0 ≤ d) (d1 : d ≤ 4294967295) :
    Calls Try.prog 45 #[.agg #[.int .i64 (sz : Int), .int .i64 ((sz : Int) + (q : Int)), .int .i64 t, .int .i64 1, .int .u32 s, .int .u32 d], .slice A n c] w (RightOk n w) := by
  have HR := Lib.hid hR
  have Hn := Lib.hid hn
  clear hR hn
  go_enter Try.func45, Try.ntmps45
  go_upto_region 1 with fail
  have HB1 := Lib.hid (ball w (.cells #[.int .i64 (sz : Int), .int .i64 ((sz : Int) + (q : Int)), .int .i64 t, .int .i64 1, .int .u32 s, .int .u32 d] 84))
  have HH1 := Lib.hid (Blk.new w 84 #[.int .i64 (sz : Int), .int .i64 ((sz : Int) + (q : Int)), .int .i64 t, .int .i64 1, .int .u32 s, .int .u32 d])
  generalize w.alloc (.cells #[.int .i64 (sz : Int), .int .i64 ((sz : Int) + (q : Int)), .int .i64 t, .int .i64 1, .int .u32 s, .int .u32 d] 84) = w1 at *
  obtain ⟨g0, hg0⟩ : ∃ g, g = w.heap.size := ⟨_, rfl⟩
  rw [← hg0] at HH1
  rw [← hg0]
  clear hg0
  have hs1 := HB1.out.size
  have HR1 := Lib.hid ((HR.out.below HB1.out).alloc (.cells #[] 5))
  go_wp2_with (at_builtin; refine wpList_app rfl (.tmp 9) (.tmp 10) rfl rfl (Own.empty w1 hs1) zs rfl HR1.out Hn.out (by omega) (by simp; omega) ?_)
  intro A' c' w2 ho hg hA
  have hb := below_app (bthen HB1.out (ball w1 _)) hg (Own.empty w1 hs1) (Nat.le_refl _) (by simp; omega)
  have hK2 := (HH1.out.alloc (.cells #[] 5)).grown hg (Nat.ne_of_lt HH1.out.lt)
  obtain ⟨g, rfl, hgg⟩ : ∃ g, A' = some ⟨g, 0, none⟩ ∧ w1.heap.size ≤ g := by
    rcases hA with h | h
    · exact ⟨_, h, Nat.le_refl _⟩
    · exact ⟨_, h, by simp⟩
  have hgl : w.heap.size ≤ g := by omega
  have hgne : g ≠ g0 := by have := HH1.out.lt; omega
  have hO2 : Own w2 w.heap.size (some ⟨g, 0, none⟩) n c' zs := ho
  have hcap := hO2.cap
  have HO := Lib.hid hO2
  have HB := Lib.hid hb
  have HK := Lib.hid hK2
  have k0 : w2.cell? ⟨g0, 0, none⟩ = some (.int .i64 (sz : Int)) := hK2.cell 0
  have k1 : w2.cell? ⟨g0, 1, none⟩ = some (.int .i64 ((sz : Int) + (q : Int))) := hK2.cell 1
  have k3 : w2.cell? ⟨g0, 3, none⟩ = some (.int .i64 1) := hK2.cell 3
  clear ho hg hA hb hK2 hO2 HR1 HB1 HH1 hs1 hgg
  have i1 : ¬ ((n : Int) < (sz : Int) + (q : Int)) := by omega
  have i2 : (sz : Int) + (q : Int) ≤ (c' : Int) := by omega
  have i7 : ¬ ((sz : Int) < 20) := by omega
  have i8 : ¬ ((sz : Int) + (q : Int) < (sz : Int)) := by omega
  by_cases hq : q < 4
  · have i3 : (q : Int) < 4 := by omega
    by_cases hc : c' = sz
    · have hq0 : q = 0 := by omega
      subst hq0
      subst hc
      go_wp2
      go_ret
      exact ⟨g, _, zs, rfl, HO.out, HB.out⟩
    · have i4 : ((sz : Int) + (q : Int)).toNat = sz + q := by omega
      go_wp2
      go_ret
      exact ⟨g, c', zs, rfl, HO.out, HB.out⟩
  · have i3 : (4 : Int) ≤ (q : Int) := by omega
    have hc : ¬ (c' = sz) := by omega
    have i4 : ((sz : Int) + (q : Int)).toNat = sz + q := by omega
    have i5 : (2 : Int) < (q : Int) := by omega
    have i6 : (3 : Int) < (q : Int) := by omega
    have c10 := HO.out.at (k := (sz + 2)) (by omega)
    have c11 := HO.out.at (k := (sz + 3)) (by omega)
    have f10 := HO.out.free (sz + 2)
    have f11 := HO.out.free (sz + 3)
    go_wp2_with fail
    obtain ⟨w3, hw3⟩ : ∃ w3, w3 = (w2.setCell ⟨g, sz + 2, none⟩ (.int .u8 0)).setCell ⟨g, sz + 3, none⟩ (.int .u8 0) := ⟨_, rfl⟩
    have HO3 := Lib.hid (show Own w3 w.heap.size (some ⟨g, 0, none⟩) n c' ((zs.set (sz + 2) 0).set (sz + 3) 0) by rw [hw3]; exact (HO.out.set (sz + 2) 0 (by decide) (by decide)).set (sz + 3) 0 (by decide) (by decide))
    have HB3 := Lib.hid (show Below w.heap.size w w3 by rw [hw3]; exact (HB.out.setCell (p := ⟨g, sz + 2, none⟩) hgl _).setCell (p := ⟨g, sz + 3, none⟩) hgl _)
    have hK3 : Blk w3 g0 84 #[.int .i64 (sz : Int), .int .i64 ((sz : Int) + (q : Int)), .int .i64 t, .int .i64 1, .int .u32 s, .int .u32 d] := by rw [hw3]; exact (HK.out.ne (p := ⟨g, sz + 2, none⟩) hgne _).ne (p := ⟨g, sz + 3, none⟩) hgne _
    rw [← hw3]
    have m3 : w3.cell? ⟨g0, 3, none⟩ = some (.int .i64 1) := hK3.cell 3
    have m4 : w3.cell? ⟨g0, 4, none⟩ = some (.int .u32 s) := hK3.cell 4
    have m5 : w3.cell? ⟨g0, 5, none⟩ = some (.int .u32 d) := hK3.cell 5
    clear hw3 c10 c11 f10 f11 HO HB k0 k1 k3 HK hK3
    obtain ⟨z3, hz3⟩ : ∃ z, z = (zs.set (sz + 2) 0).set (sz + 3) 0 := ⟨_, rfl⟩
    rw [← hz3] at HO3
    clear hz3
    have hRx0 := (HO3.out.rd.dropAt sz).take q
    rw [Nat.zero_add] at hRx0
    have hRx := Lib.hid hRx0
    clear hRx0
    have hLx := Lib.hid (show ((z3.drop sz).take q).length = q by rw [List.length_take, List.length_drop, HO3.out.len]; omega)
    obtain ⟨zx, hzx⟩ : ∃ z, z = (z3.drop sz).take q := ⟨_, rfl⟩
    rw [← hzx] at hRx hLx
    clear hzx
    refine (refOf_n (some ⟨g, sz, none⟩) q _ zx _ hLx.out (by omega) hRx.out).mono ?_
    rintro e w' ⟨rfl, rfl⟩
    obtain ⟨v, hv⟩ : ∃ v, v = Cs zx := ⟨_, rfl⟩
    rw [← hv]
    have v0 : 0 ≤ v := by rw [hv]; exact (Cs_range _ hRx.out.1).1
    have v1 : v ≤ 65535 := by rw [hv]; exact (Cs_range _ hRx.out.1).2
    clear hv
    have c10 := HO3.out.at (k := (sz + 2)) (by omega)
    have c11 := HO3.out.at (k := (sz + 3)) (by omega)
    have f10 := HO3.out.free (sz + 2)
    have f11 := HO3.out.free (sz + 3)
    have HOF := Lib.hid (show Own ((w3.setCell ⟨g, sz + 2, none⟩ (.int .u8 (v / 256))).setCell ⟨g, sz + 3, none⟩ (.int .u8 (v % 256))) w.heap.size (some ⟨g, 0, none⟩) n c' ((z3.set (sz + 2) (v / 256)).set (sz + 3) (v % 256)) from
      (HO3.out.set (sz + 2) (v / 256) (by omega) (by omega)).set (sz + 3) (v % 256) (by omega) (by omega))
    have HBF := Lib.hid (show Below w.heap.size w ((w3.setCell ⟨g, sz + 2, none⟩ (.int .u8 (v / 256))).setCell ⟨g, sz + 3, none⟩ (.int .u8 (v % 256))) from (HB3.out.setCell (p := ⟨g, sz + 2, none⟩) hgl _).setCell (p := ⟨g, sz + 3, none⟩) hgl _)
    go_wp2
    go_ret
    exact ⟨g, c', _, rfl, HOF.out, HBF.out⟩

set_option maxHeartbeats 4000000 in
theorem rightg_no (sz q : Nat) (pr : Int) (p17 : pr ≠ 17) (p6 : pr ≠ 6) (p1 : pr ≠ 1) (z1 : 20 ≤ sz) (z2 : sz ≤ 60) (t s d : Int) (A : Option Addr) (n c : Nat) (zs : List Int) (w : World) (hn : zs.length = n) (hl : n ≤ 1000) (l1 : sz + q ≤ n) (hR : Rd w A zs) (s0 : 0 ≤ s) (s1 : s ≤ 4294967295) (d0 : 0 ≤ d) (d1 : d ≤ 4294967295) :
    Calls Try.prog 45 #[.agg #[.int .i64 (sz : Int), .int .i64 ((sz : Int) + (q : Int)), .int .i64 t, .int .i64 pr, .int .u32 s, .int .u32 d], .slice A n c] w (RightOk n w) := by
  have HR := Lib.hid hR
  have b17 : (pr == 17) = false := by simp [p17]
  have b6 : (pr == 6) = false := by simp [p6]
  have b1 : (pr == 1) = false := by simp [p1]
  clear p17 p6 p1
  have Hn := Lib.hid hn
  clear hR hn
  go_enter Try.func45, Try.ntmps45
  go_upto_region 1 with fail
  have HB1 := Lib.hid (ball w (.cells #[.int .i64 (sz : Int), .int .i64 ((sz : Int) + (q : Int)), .int .i64 t, .int .i64 pr, .int .u32 s, .int .u32 d] 84))
  have HH1 := Lib.hid (Blk.new w 84 #[.int .i64 (sz : Int), .int .i64 ((sz : Int) + (q : Int)), .int .i64 t, .int .i64 pr, .int .u32 s, .int .u32 d])
  generalize w.alloc (.cells #[.int .i64 (sz : Int), .int .i64 ((sz : Int) + (q : Int)), .int .i64 t, .int .i64 pr, .int .u32 s, .int .u32 d] 84) = w1 at *
  obtain ⟨g0, hg0⟩ : ∃ g, g = w.heap.size := ⟨_, rfl⟩
  rw [← hg0] at HH1
  rw [← hg0]
  clear hg0
  have hs1 := HB1.out.size
  have HR1 := Lib.hid ((HR.out.below HB1.out).alloc (.cells #[] 5))
  go_wp2_with (at_builtin; refine wpList_app rfl (.tmp 9) (.tmp 10) rfl rfl (Own.empty w1 hs1) zs rfl HR1.out Hn.out (by omega) (by simp; omega) ?_)
  intro A' c' w2 ho hg hA
  have hb := below_app (bthen HB1.out (ball w1 _)) hg (Own.empty w1 hs1) (Nat.le_refl _) (by simp; omega)
  have hK2 := (HH1.out.alloc (.cells #[] 5)).grown hg (Nat.ne_of_lt HH1.out.lt)
  obtain ⟨g, rfl, hgg⟩ : ∃ g, A' = some ⟨g, 0, none⟩ ∧ w1.heap.size ≤ g := by
    rcases hA with h | h
    · exact ⟨_, h, Nat.le_refl _⟩
    · exact ⟨_, h, by simp⟩
  have hgl : w.heap.size ≤ g := by omega
  have hgne : g ≠ g0 := by have := HH1.out.lt; omega
  have hO2 : Own w2 w.heap.size (some ⟨g, 0, none⟩) n c' zs := ho
  have hcap := hO2.cap
  have HO := Lib.hid hO2
  have HB := Lib.hid hb
  have HK := Lib.hid hK2
  have k0 : w2.cell? ⟨g0, 0, none⟩ = some (.int .i64 (sz : Int)) := hK2.cell 0
  have k1 : w2.cell? ⟨g0, 1, none⟩ = some (.int .i64 ((sz : Int) + (q : Int))) := hK2.cell 1
  have k3 : w2.cell? ⟨g0, 3, none⟩ = some (.int .i64 pr) := hK2.cell 3
  clear ho hg hA hb hK2 hO2 HR1 HB1 HH1 hs1 hgg
  have i1 : ¬ ((n : Int) < (sz : Int) + (q : Int)) := by omega
  have i2 : (sz : Int) + (q : Int) ≤ (c' : Int) := by omega
  have i7 : ¬ ((sz : Int) < 20) := by omega
  have i8 : ¬ ((sz : Int) + (q : Int) < (sz : Int)) := by omega
  have i4 : ((sz : Int) + (q : Int)).toNat = sz + q := by omega
  by_cases hc : c' = sz
  · have hq0 : q = 0 := by omega
    subst hq0
    subst hc
    go_wp2
    go_ret
    exact ⟨g, _, zs, rfl, HO.out, HB.out⟩
  · go_wp2
    go_ret
    exact ⟨g, c', zs, rfl, HO.out, HB.out⟩
end Go.Proofs.Ytbnlpidhbilenaa
