/-
  Contract of the reference fanlightref03.Right: bytes are told, as many as came in. Conditions stand in each theorem.
-/
import Derived.Test.YtbnlpidhbilenaaGK
import Derived.Test.YtbnlpidhbilenaaGI
import Derived.Test.YtbnlpidhbilenaaGL
namespace Go.Proofs.Ytbnlpidhbilenaa
open Go.RowKit Plain
set_option linter.unusedVariables false
set_option linter.unusedSimpArgs false
set_option maxRecDepth 100000

def RightOk (n : Nat) (w : World) (e : Ending) (w' : World) : Prop :=
  ∃ g c' zs', e = .returned (.slice (some ⟨g, 0, none⟩) n c') ∧ Own w' w.heap.size (some ⟨g, 0, none⟩) n c' zs' ∧ Below w.heap.size w w'
theorem Ps_rng (s d pr : Int) (zs : List Int) (h : By zs) (s0 : 0 ≤ s) (d0 : 0 ≤ d) (p0 : 0 < pr) : 0 ≤ Ps s d pr zs ∧ Ps s d pr zs ≤ 65535 := by
  rw [Ps_px]
  have h1 := Px_pos s d pr zs.length s0 d0 p0
  have h2 := tot_nonneg _ h
  have h3 := F_range (Px s d pr zs.length + tot zs) (by omega)
  omega

set_option maxHeartbeats 4000000 in
theorem right_17 (q : Nat) (t s d : Int) (A : Option Addr) (n c : Nat) (zs : List Int) (w : World) (hn : zs.length = n) (hl : n ≤ 1000) (l1 : 20 + q ≤ n) (hR : Rd w A zs) (s0 : 0 ≤ s) (s1 : s ≤ 4294967295) (d0 : 0 ≤ d) (d1 : d ≤ 4294967295) :
    Calls Try.prog 45 #[.agg #[.int .i64 20, .int .i64 (20 + (q : Int)), .int .i64 t, .int .i64 17, .int .u32 s, .int .u32 d], .slice A n c] w (RightOk n w) := by
  have HR := Lib.hid hR
  have Hn := Lib.hid hn
  clear hR hn
  go_enter Try.func45, Try.ntmps45
  go_upto_region 1 with fail
  have HB1 := Lib.hid (ball w (.cells #[.int .i64 20, .int .i64 (20 + (q : Int)), .int .i64 t, .int .i64 17, .int .u32 s, .int .u32 d] 84))
  have HH1 := Lib.hid (Blk.new w 84 #[.int .i64 20, .int .i64 (20 + (q : Int)), .int .i64 t, .int .i64 17, .int .u32 s, .int .u32 d])
  generalize w.alloc (.cells #[.int .i64 20, .int .i64 (20 + (q : Int)), .int .i64 t, .int .i64 17, .int .u32 s, .int .u32 d] 84) = w1 at *
  obtain ⟨g0, hg0⟩ : ∃ g, g = w.heap.size := ⟨_, rfl⟩
  rw [← hg0] at HH1
  rw [← hg0]
  clear hg0
  have hs1 := HB1.out.size
  have HR1 := Lib.hid ((HR.out.below HB1.out).alloc (.cells #[] 5))
  go_wp2_with (at_builtin; refine wpList_app rfl (.tmp 9) (.tmp 10) rfl rfl (Own.empty w1 hs1) zs rfl HR1.out Hn.out (by omega) (by simp; omega) ?_)
  intro A' c' w2 ho hg hA
  have hb := below_app (bthen HB1.out (ball w1 _)) hg (Own.empty w1 hs1) (Nat.le_refl _) (by simp; omega)
  have hK2 := (HH1.out.alloc (.cells #[] 5)).grown hg (Nat.ne_of_lt HH1.out.lt)
  obtain ⟨g, rfl, hgg⟩ : ∃ g, A' = some ⟨g, 0, none⟩ ∧ w1.heap.size ≤ g := by
    rcases hA with h | h
    · exact ⟨_, h, Nat.le_refl _⟩
    · exact ⟨_, h, by simp⟩
  have hgl : w.heap.size ≤ g := by omega
  have hgne : g ≠ g0 := by have := HH1.out.lt; omega
  have hO2 : Own w2 w.heap.size (some ⟨g, 0, none⟩) n c' zs := ho
  have hcap := hO2.cap
  have HO := Lib.hid hO2
  have HB := Lib.hid hb
  have HK := Lib.hid hK2
  have k0 : w2.cell? ⟨g0, 0, none⟩ = some (.int .i64 20) := hK2.cell 0
  have k1 : w2.cell? ⟨g0, 1, none⟩ = some (.int .i64 (20 + (q : Int))) := hK2.cell 1
  have k3 : w2.cell? ⟨g0, 3, none⟩ = some (.int .i64 17) := hK2.cell 3
  clear ho hg hA hb hK2 hO2 HR1 HB1 HH1 hs1 hgg
  have i1 : ¬ ((n : Int) < 20 + (q : Int)) := by omega
  have i2 : (20 : Int) + (q : Int) ≤ (c' : Int) := by omega
  by_cases hq : q < 8
  · have i3 : (q : Int) < 8 := by omega
    by_cases hc : c' = 20
    · have hq0 : q = 0 := by omega
      subst hq0
      subst hc
      go_wp2
      go_ret
      exact ⟨g, 20, zs, rfl, HO.out, HB.out⟩
    · have i4 : (20 + (q : Int)).toNat = 20 + q := by omega
      go_wp2
      go_ret
      exact ⟨g, c', zs, rfl, HO.out, HB.out⟩
  · have i3 : (8 : Int) ≤ (q : Int) := by omega
    have hc : ¬ (c' = 20) := by omega
    have i4 : (20 + (q : Int)).toNat = 20 + q := by omega
    have i5 : (6 : Int) < (q : Int) := by omega
    have i6 : (7 : Int) < (q : Int) := by omega
    have c10 := HO.out.at (k := 26) (by omega)
    have c11 := HO.out.at (k := 27) (by omega)
    have f10 := HO.out.free 26
    have f11 := HO.out.free 27
    go_wp2_with fail
    obtain ⟨w3, hw3⟩ : ∃ w3, w3 = (w2.setCell ⟨g, 26, none⟩ (.int .u8 0)).setCell ⟨g, 27, none⟩ (.int .u8 0) := ⟨_, rfl⟩
    have HO3 := Lib.hid (show Own w3 w.heap.size (some ⟨g, 0, none⟩) n c' ((zs.set 26 0).set 27 0) by rw [hw3]; exact (HO.out.set 26 0 (by decide) (by decide)).set 27 0 (by decide) (by decide))
    have HB3 := Lib.hid (show Below w.heap.size w w3 by rw [hw3]; exact (HB.out.setCell (p := ⟨g, 26, none⟩) hgl _).setCell (p := ⟨g, 27, none⟩) hgl _)
    have hK3 : Blk w3 g0 84 #[.int .i64 20, .int .i64 (20 + (q : Int)), .int .i64 t, .int .i64 17, .int .u32 s, .int .u32 d] := by rw [hw3]; exact (HK.out.ne (p := ⟨g, 26, none⟩) hgne _).ne (p := ⟨g, 27, none⟩) hgne _
    rw [← hw3]
    have m3 : w3.cell? ⟨g0, 3, none⟩ = some (.int .i64 17) := hK3.cell 3
    have m4 : w3.cell? ⟨g0, 4, none⟩ = some (.int .u32 s) := hK3.cell 4
    have m5 : w3.cell? ⟨g0, 5, none⟩ = some (.int .u32 d) := hK3.cell 5
    clear hw3 c10 c11 f10 f11 HO HB k0 k1 k3 HK hK3
    obtain ⟨z3, hz3⟩ : ∃ z, z = (zs.set 26 0).set 27 0 := ⟨_, rfl⟩
    rw [← hz3] at HO3
    clear hz3
    have hRx := Lib.hid ((HO3.out.rd.dropAt 20).take q)
    have hLx := Lib.hid (show ((z3.drop 20).take q).length = q by rw [List.length_take, List.length_drop, HO3.out.len]; omega)
    obtain ⟨zx, hzx⟩ : ∃ z, z = (z3.drop 20).take q := ⟨_, rfl⟩
    rw [← hzx] at hRx hLx
    clear hzx
    refine (refOf_n (some ⟨g, 20, none⟩) q _ zx _ hLx.out (by omega) hRx.out).mono ?_
    rintro e w' ⟨rfl, rfl⟩
    go_wp2_with fail
    refine (pseudo_any s d 17 (some ⟨g, 20, none⟩) q _ zx _ hLx.out (by omega) hRx.out s0 s1 d0 d1 (by omega) (by omega)).mono ?_
    rintro e w4 ⟨rfl, hb4⟩
    have HO4 := Lib.hid (HO3.out.below hb4)
    have HB4 := Lib.hid (bthen HB3.out hb4)
    clear hb4 HB3 HO3 m3 m4 m5
    obtain ⟨v, hv⟩ : ∃ v, v = Ps s d 17 zx := ⟨_, rfl⟩
    rw [← hv]
    have v0 : 0 ≤ v := by rw [hv]; exact (Ps_rng s d 17 zx hRx.out.1 s0 d0 (by omega)).1
    have v1 : v ≤ 65535 := by rw [hv]; exact (Ps_rng s d 17 zx hRx.out.1 s0 d0 (by omega)).2
    clear hv
    have c10 := HO4.out.at (k := 26) (by omega)
    have c11 := HO4.out.at (k := 27) (by omega)
    have f10 := HO4.out.free 26
    have f11 := HO4.out.free 27
    have HOF := Lib.hid (show Own ((w4.setCell ⟨g, 26, none⟩ (.int .u8 (v / 256))).setCell ⟨g, 27, none⟩ (.int .u8 (v % 256))) w.heap.size (some ⟨g, 0, none⟩) n c' ((z3.set 26 (v / 256)).set 27 (v % 256)) from
      (HO4.out.set 26 (v / 256) (by omega) (by omega)).set 27 (v % 256) (by omega) (by omega))
    have HBF := Lib.hid (show Below w.heap.size w ((w4.setCell ⟨g, 26, none⟩ (.int .u8 (v / 256))).setCell ⟨g, 27, none⟩ (.int .u8 (v % 256))) from (HB4.out.setCell (p := ⟨g, 26, none⟩) hgl _).setCell (p := ⟨g, 27, none⟩) hgl _)
    go_wp2
    go_ret
    exact ⟨g, c', _, rfl, HOF.out, HBF.out⟩

set_option maxHeartbeats 4000000 in
theorem right_6 (q : Nat) (t s d : Int) (A : Option Addr) (n c : Nat) (zs : List Int) (w : World) (hn : zs.length = n) (hl : n ≤ 1000) (l1 : 20 + q ≤ n) (hR : Rd w A zs) (s0 : 0 ≤ s) (s1 : s ≤ 4294967295) (d0 : 0 ≤ d) (d1 : d ≤ 4294967295) :
    Calls Try.prog 45 #[.agg #[.int .i64 20, .int .i64 (20 + (q : Int)), .int .i64 t, .int .i64 6, .int .u32 s, .int .u32 d], .slice A n c] w (RightOk n w) := by
  have HR := Lib.hid hR
  have Hn := Lib.hid hn
  clear hR hn
  go_enter Try.func45, Try.ntmps45
  go_upto_region 1 with fail
  have HB1 := Lib.hid (ball w (.cells #[.int .i64 20, .int .i64 (20 + (q : Int)), .int .i64 t, .int .i64 6, .int .u32 s, .int .u32 d] 84))
  have HH1 := Lib.hid (Blk.new w 84 #[.int .i64 20, .int .i64 (20 + (q : Int)), .int .i64 t, .int .i64 6, .int .u32 s, .int .u32 d])
  generalize w.alloc (.cells #[.int .i64 20, .int .i64 (20 + (q : Int)), .int .i64 t, .int .i64 6, .int .u32 s, .int .u32 d] 84) = w1 at *
  obtain ⟨g0, hg0⟩ : ∃ g, g = w.heap.size := ⟨_, rfl⟩
  rw [← hg0] at HH1
  rw [← hg0]
  clear hg0
  have hs1 := HB1.out.size
  have HR1 := Lib.hid ((HR.out.below HB1.out).alloc (.cells #[] 5))
  go_wp2_with (at_builtin; refine wpList_app rfl (.tmp 9) (.tmp 10) rfl rfl (Own.empty w1 hs1) zs rfl HR1.out Hn.out (by omega) (by simp; omega) ?_)
  intro A' c' w2 ho hg hA
  have hb := below_app (bthen HB1.out (ball w1 _)) hg (Own.empty w1 hs1) (Nat.le_refl _) (by simp; omega)
  have hK2 := (HH1.out.alloc (.cells #[] 5)).grown hg (Nat.ne_of_lt HH1.out.lt)
  obtain ⟨g, rfl, hgg⟩ : ∃ g, A' = some ⟨g, 0, none⟩ ∧ w1.heap.size ≤ g := by
    rcases hA with h | h
    · exact ⟨_, h, Nat.le_refl _⟩
    · exact ⟨_, h, by simp⟩
  have hgl : w.heap.size ≤ g := by omega
  have hgne : g ≠ g0 := by have := HH1.out.lt; omega
  have hO2 : Own w2 w.heap.size (some ⟨g, 0, none⟩) n c' zs := ho
  have hcap := hO2.cap
  have HO := Lib.hid hO2
  have HB := Lib.hid hb
  have HK := Lib.hid hK2
  have k0 : w2.cell? ⟨g0, 0, none⟩ = some (.int .i64 20) := hK2.cell 0
  have k1 : w2.cell? ⟨g0, 1, none⟩ = some (.int .i64 (20 + (q : Int))) := hK2.cell 1
  have k3 : w2.cell? ⟨g0, 3, none⟩ = some (.int .i64 6) := hK2.cell 3
  clear ho hg hA hb hK2 hO2 HR1 HB1 HH1 hs1 hgg
  have i1 : ¬ ((n : Int) < 20 + (q : Int)) := by omega
  have i2 : (20 : Int) + (q : Int) ≤ (c' : Int) := by omega
  by_cases hq : q < 18
  · have i3 : (q : Int) < 18 := by omega
    by_cases hc : c' = 20
    · have hq0 : q = 0 := by omega
      subst hq0
      subst hc
      go_wp2
      go_ret
      exact ⟨g, 20, zs, rfl, HO.out, HB.out⟩
    · have i4 : (20 + (q : Int)).toNat = 20 + q := by omega
      go_wp2
      go_ret
      exact ⟨g, c', zs, rfl, HO.out, HB.out⟩
  · have i3 : (18 : Int) ≤ (q : Int) := by omega
    have hc : ¬ (c' = 20) := by omega
    have i4 : (20 + (q : Int)).toNat = 20 + q := by omega
    have i5 : (16 : Int) < (q : Int) := by omega
    have i6 : (17 : Int) < (q : Int) := by omega
    have c10 := HO.out.at (k := 36) (by omega)
    have c11 := HO.out.at (k := 37) (by omega)
    have f10 := HO.out.free 36
    have f11 := HO.out.free 37
    go_wp2_with fail
    obtain ⟨w3, hw3⟩ : ∃ w3, w3 = (w2.setCell ⟨g, 36, none⟩ (.int .u8 0)).setCell ⟨g, 37, none⟩ (.int .u8 0) := ⟨_, rfl⟩
    have HO3 := Lib.hid (show Own w3 w.heap.size (some ⟨g, 0, none⟩) n c' ((zs.set 36 0).set 37 0) by rw [hw3]; exact (HO.out.set 36 0 (by decide) (by decide)).set 37 0 (by decide) (by decide))
    have HB3 := Lib.hid (show Below w.heap.size w w3 by rw [hw3]; exact (HB.out.setCell (p := ⟨g, 36, none⟩) hgl _).setCell (p := ⟨g, 37, none⟩) hgl _)
    have hK3 : Blk w3 g0 84 #[.int .i64 20, .int .i64 (20 + (q : Int)), .int .i64 t, .int .i64 6, .int .u32 s, .int .u32 d] := by rw [hw3]; exact (HK.out.ne (p := ⟨g, 36, none⟩) hgne _).ne (p := ⟨g, 37, none⟩) hgne _
    rw [← hw3]
    have m3 : w3.cell? ⟨g0, 3, none⟩ = some (.int .i64 6) := hK3.cell 3
    have m4 : w3.cell? ⟨g0, 4, none⟩ = some (.int .u32 s) := hK3.cell 4
    have m5 : w3.cell? ⟨g0, 5, none⟩ = some (.int .u32 d) := hK3.cell 5
    clear hw3 c10 c11 f10 f11 HO HB k0 k1 k3 HK hK3
    obtain ⟨z3, hz3⟩ : ∃ z, z = (zs.set 36 0).set 37 0 := ⟨_, rfl⟩
    rw [← hz3] at HO3
    clear hz3
    have hRx := Lib.hid ((HO3.out.rd.dropAt 20).take q)
    have hLx := Lib.hid (show ((z3.drop 20).take q).length = q by rw [List.length_take, List.length_drop, HO3.out.len]; omega)
    obtain ⟨zx, hzx⟩ : ∃ z, z = (z3.drop 20).take q := ⟨_, rfl⟩
    rw [← hzx] at hRx hLx
    clear hzx
    refine (refOf_n (some ⟨g, 20, none⟩) q _ zx _ hLx.out (by omega) hRx.out).mono ?_
    rintro e w' ⟨rfl, rfl⟩
    go_wp2_with fail
    refine (pseudo_any s d 6 (some ⟨g, 20, none⟩) q _ zx _ hLx.out (by omega) hRx.out s0 s1 d0 d1 (by omega) (by omega)).mono ?_
    rintro e w4 ⟨rfl, hb4⟩
    have HO4 := Lib.hid (HO3.out.below hb4)
    have HB4 := Lib.hid (bthen HB3.out hb4)
    clear hb4 HB3 HO3 m3 m4 m5
    obtain ⟨v, hv⟩ : ∃ v, v = Ps s d 6 zx := ⟨_, rfl⟩
    rw [← hv]
    have v0 : 0 ≤ v := by rw [hv]; exact (Ps_rng s d 6 zx hRx.out.1 s0 d0 (by omega)).1
    have v1 : v ≤ 65535 := by rw [hv]; exact (Ps_rng s d 6 zx hRx.out.1 s0 d0 (by omega)).2
    clear hv
    have c10 := HO4.out.at (k := 36) (by omega)
    have c11 := HO4.out.at (k := 37) (by omega)
    have f10 := HO4.out.free 36
    have f11 := HO4.out.free 37
    have HOF := Lib.hid (show Own ((w4.setCell ⟨g, 36, none⟩ (.int .u8 (v / 256))).setCell ⟨g, 37, none⟩ (.int .u8 (v % 256))) w.heap.size (some ⟨g, 0, none⟩) n c' ((z3.set 36 (v / 256)).set 37 (v % 256)) from
      (HO4.out.set 36 (v / 256) (by omega) (by omega)).set 37 (v % 256) (by omega) (by omega))
    have HBF := Lib.hid (show Below w.heap.size w ((w4.setCell ⟨g, 36, none⟩ (.int .u8 (v / 256))).setCell ⟨g, 37, none⟩ (.int .u8 (v % 256))) from (HB4.out.setCell (p := ⟨g, 36, none⟩) hgl _).setCell (p := ⟨g, 37, none⟩) hgl _)
    go_wp2
    go_ret
    exact ⟨g, c', _, rfl, HOF.out, HBF.out⟩

set_option maxHeartbeats 4000000 in
theorem right_1 (q : Nat) (t s d : Int) (A : Option Addr) (n c : Nat) (zs : List Int) (w : World) (hn : zs.length = n) (hl : n ≤ 1000) (l1 : 20 + q ≤ n) (hR : Rd w A zs) (s0 : 0 ≤ s) (s1 : s ≤ 4294967295) (d0 : 0 ≤ d) (d1 : d ≤ 4294967295) :
    Calls Try.prog 45 #[.agg #[.int .i64 20, .int .i64 (20 + (q : Int)), .int .i64 t, .int .i64 1, .int .u32 s, .int .u32 d], .slice A n c] w (RightOk n w) := by
  have HR := Lib.hid hR
  have Hn := Lib.hid hn
  clear hR hn
  go_enter Try.func45, Try.ntmps45
  go_upto_region 1 with fail
  have HB1 := Lib.hid (ball w (.cells #[.int .i64 20, .int .i64 (20 + (q : Int)), .int .i64 t, .int .i64 1, .int .u32 s, .int .u32 d] 84))
  have HH1 := Lib.hid (Blk.new w 84 #[.int .i64 20, .int .i64 (20 + (q : Int)), .int .i64 t, .int .i64 1, .int .u32 s, .int .u32 d])
  generalize w.alloc (.cells #[.int .i64 20, .int .i64 (20 + (q : Int)), .int .i64 t, .int .i64 1, .int .u32 s, .int .u32 d] 84) = w1 at *
  obtain ⟨g0, hg0⟩ : ∃ g, g = w.heap.size := ⟨_, rfl⟩
  rw [← hg0] at HH1
  rw [← hg0]
  clear hg0
  have hs1 := HB1.out.size
  have HR1 := Lib.hid ((HR.out.below HB1.out).alloc (.cells #[] 5))
  go_wp2_with (at_builtin; refine wpList_app rfl (.tmp 9) (.tmp 10) rfl rfl (Own.empty w1 hs1) zs rfl HR1.out Hn.out (by omega) (by simp; omega) ?_)
  intro A' c' w2 ho hg hA
  have hb := below_app (bthen HB1.out (ball w1 _)) hg (Own.empty w1 hs1) (Nat.le_refl _) (by simp; omega)
  have hK2 := (HH1.out.alloc (.cells #[] 5)).grown hg (Nat.ne_of_lt HH1.out.lt)
  obtain ⟨g, rfl, hgg⟩ : ∃ g, A' = some ⟨g, 0, none⟩ ∧ w1.heap.size ≤ g := by
    rcases hA with h | h
    · exact ⟨_, h, Nat.le_refl _⟩
    · exact ⟨_, h, by simp⟩
  have hgl : w.heap.size ≤ g := by omega
  have hgne : g ≠ g0 := by have := HH1.out.lt; omega
  have hO2 : Own w2 w.heap.size (some ⟨g, 0, none⟩) n c' zs := ho
  have hcap := hO2.cap
  have HO := Lib.hid hO2
  have HB := Lib.hid hb
  have HK := Lib.hid hK2
  have k0 : w2.cell? ⟨g0, 0, none⟩ = some (.int .i64 20) := hK2.cell 0
  have k1 : w2.cell? ⟨g0, 1, none⟩ = some (.int .i64 (20 + (q : Int))) := hK2.cell 1
  have k3 : w2.cell? ⟨g0, 3, none⟩ = some (.int .i64 1) := hK2.cell 3
  clear ho hg hA hb hK2 hO2 HR1 HB1 HH1 hs1 hgg
  have i1 : ¬ ((n : Int) < 20 + (q : Int)) := by omega
  have i2 : (20 : Int) + (q : Int) ≤ (c' : Int) := by omega
  by_cases hq : q < 4
  · have i3 : (q : Int) < 4 := by omega
    by_cases hc : c' = 20
    · have hq0 : q = 0 := by omega
      subst hq0
      subst hc
      go_wp2
      go_ret
      exact ⟨g, 20, zs, rfl, HO.out, HB.out⟩
    · have i4 : (20 + (q : Int)).toNat = 20 + q := by omega
      go_wp2
      go_ret
      exact ⟨g, c', zs, rfl, HO.out, HB.out⟩
  · have i3 : (4 : Int) ≤ (q : Int) := by omega
    have hc : ¬ (c' = 20) := by omega
    have i4 : (20 + (q : Int)).toNat = 20 + q := by omega
    have i5 : (2 : Int) < (q : Int) := by omega
    have i6 : (3 : Int) < (q : Int) := by omega
    have c10 := HO.out.at (k := 22) (by omega)
    have c11 := HO.out.at (k := 23) (by omega)
    have f10 := HO.out.free 22
    have f11 := HO.out.free 23
    go_wp2_with fail
    obtain ⟨w3, hw3⟩ : ∃ w3, w3 = (w2.setCell ⟨g, 22, none⟩ (.int .u8 0)).setCell ⟨g, 23, none⟩ (.int .u8 0) := ⟨_, rfl⟩
    have HO3 := Lib.hid (show Own w3 w.heap.size (some ⟨g, 0, none⟩) n c' ((zs.set 22 0).set 23 0) by rw [hw3]; exact (HO.out.set 22 0 (by decide) (by decide)).set 23 0 (by decide) (by decide))
    have HB3 := Lib.hid (show Below w.heap.size w w3 by rw [hw3]; exact (HB.out.setCell (p := ⟨g, 22, none⟩) hgl _).setCell (p := ⟨g, 23, none⟩) hgl _)
    have hK3 : Blk w3 g0 84 #[.int .i64 20, .int .i64 (20 + (q : Int)), .int .i64 t, .int .i64 1, .int .u32 s, .int .u32 d] := by rw [hw3]; exact (HK.out.ne (p := ⟨g, 22, none⟩) hgne _).ne (p := ⟨g, 23, none⟩) hgne _
    rw [← hw3]
    have m3 : w3.cell? ⟨g0, 3, none⟩ = some (.int .i64 1) := hK3.cell 3
    have m4 : w3.cell? ⟨g0, 4, none⟩ = some (.int .u32 s) := hK3.cell 4
    have m5 : w3.cell? ⟨g0, 5, none⟩ = some (.int .u32 d) := hK3.cell 5
    clear hw3 c10 c11 f10 f11 HO HB k0 k1 k3 HK hK3
    obtain ⟨z3, hz3⟩ : ∃ z, z = (zs.set 22 0).set 23 0 := ⟨_, rfl⟩
    rw [← hz3] at HO3
    clear hz3
    have hRx := Lib.hid ((HO3.out.rd.dropAt 20).take q)
    have hLx := Lib.hid (show ((z3.drop 20).take q).length = q by rw [List.length_take, List.length_drop, HO3.out.len]; omega)
    obtain ⟨zx, hzx⟩ : ∃ z, z = (z3.drop 20).take q := ⟨_, rfl⟩
    rw [← hzx] at hRx hLx
    clear hzx
    refine (refOf_n (some ⟨g, 20, none⟩) q _ zx _ hLx.out (by omega) hRx.out).mono ?_
    rintro e w' ⟨rfl, rfl⟩
    obtain ⟨v, hv⟩ : ∃ v, v = Cs zx := ⟨_, rfl⟩
    rw [← hv]
    have v0 : 0 ≤ v := by rw [hv]; exact (Cs_range _ hRx.out.1).1
    have v1 : v ≤ 65535 := by rw [hv]; exact (Cs_range _ hRx.out.1).2
    clear hv
    have c10 := HO3.out.at (k := 22) (by omega)
    have c11 := HO3.out.at (k := 23) (by omega)
    have f10 := HO3.out.free 22
    have f11 := HO3.out.free 23
    have HOF := Lib.hid (show Own ((w3.setCell ⟨g, 22, none⟩ (.int .u8 (v / 256))).setCell ⟨g, 23, none⟩ (.int .u8 (v % 256))) w.heap.size (some ⟨g, 0, none⟩) n c' ((z3.set 22 (v / 256)).set 23 (v % 256)) from
      (HO3.out.set 22 (v / 256) (by omega) (by omega)).set 23 (v % 256) (by omega) (by omega))
    have HBF := Lib.hid (show Below w.heap.size w ((w3.setCell ⟨g, 22, none⟩ (.int .u8 (v / 256))).setCell ⟨g, 23, none⟩ (.int .u8 (v % 256))) from (HB3.out.setCell (p := ⟨g, 22, none⟩) hgl _).setCell (p := ⟨g, 23, none⟩) hgl _)
    go_wp2
    go_ret
    exact ⟨g, c', _, rfl, HOF.out, HBF.out⟩
end Go.Proofs.Ytbnlpidhbilenaa
