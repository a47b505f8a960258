/-
  Contracts of the reference's few, Udp, Tcp, Echo and Fault. Conditions stand in each theorem.
-/
import Derived.Test.YtbnlpidhbilenaaLay
import Derived.Test.YtbnlpidhbilenaaRPut
import Derived.Deep.DeepCutAuto
namespace Go.Proofs.Ytbnlpidhbilenaa
open Go.RowKit Plain
set_option linter.unusedVariables false
set_option linter.unusedSimpArgs false
set_option maxRecDepth 100000

theorem few_any (A : Option Addr) (n c : Nat) (w : World) (hnc : n ≤ c) (hl : n ≤ 1000000) :
    Calls Try.prog 56 #[.slice A n c] w fun e w' => ∃ u, e = .returned (.slice A u c) ∧ u = min n 1400 ∧ w = w' := by
  by_cases h : n ≤ 1400
  · have h' : (n : Int) ≤ 1400 := by omega
    have i1 : (n : Int) ≤ (c : Int) := by omega
    go_enter Try.func56, Try.ntmps56
    go_wp2
    go_ret
    exact ⟨n, rfl, by omega, rfl⟩
  · have h' : (1400 : Int) < (n : Int) := by omega
    have i1 : (1400 : Int) ≤ (c : Int) := by omega
    have i2 : 1400 ≤ c := by omega
    go_enter Try.func56, Try.ntmps56
    go_wp2
    go_ret
    exact ⟨1400, rfl, by omega, rfl⟩

theorem own_some {w : World} {base n c : Nat} {A : Option Addr} {zs : List Int} (h : Own w base A n c zs) (hn : 0 < n) : ∃ g, A = some ⟨g, 0, none⟩ ∧ base ≤ g := by
  rcases h.form with ⟨_, h0, _⟩ | ⟨g, h1, h2, _⟩
  · omega
  · exact ⟨g, h1, h2⟩

theorem ic0_lit (k c id : Int) : ic0 k c id [] = [k, c, 0, 0, id / 256 % 256, id % 256, 0, 0] := rfl
theorem ic0_app (k c id : Int) (L : List Int) : [k, c, 0, 0, id / 256 % 256, id % 256, 0, 0] ++ L = ic0 k c id L := by unfold ic0 w2l; simp

set_option maxHeartbeats 2000000 in
theorem rfault_any (k c : Int) (A : Option Addr) (n cp : Nat) (ys : List Int) (w : World) (hn : ys.length = n) (hnc : n ≤ cp) (hl : n ≤ 1000000) (hR : Rd w A ys) :
    Calls Try.prog 38 #[.int .i64 k, .int .i64 c, .slice A n cp] w fun e w' => ∃ g m cc, e = .returned (.slice (some ⟨g, 0, none⟩) (8 + m) cc) ∧ m = min n 1400 ∧ Own w' w.heap.size (some ⟨g, 0, none⟩) (8 + m) cc (icL (k % 256) (c % 256) 0 (ys.take 1400)) ∧ Below w.heap.size w w' := by
  have HR := Lib.hid hR
  have Hn := Lib.hid hn
  have e1 : IntKind.u8.wrap k = k % 256 := IntKind.wrap_u8 _
  have e2 : IntKind.u8.wrap c = c % 256 := IntKind.wrap_u8 _
  clear hR hn
  go_enter Try.func38, Try.ntmps38
  go_wp2_with fail
  refine (few_any A n cp _ hnc hl).mono ?_
  rintro e w1 ⟨u, rfl, hu, rfl⟩
  clear e1 e2
  have hby0 : By (ic0 (k % 256) (c % 256) 0 []) := ic0_by _ _ _ By.nil (by omega) (by omega) (by omega) (by omega)
  have HO1 := Lib.hid (Own.lit w (Nat.le_refl _) (ic0 (k % 256) (c % 256) 0 []) hby0 8 rfl (by omega) #[.int .u8 (k % 256), .int .u8 (c % 256), .int .u8 0, .int .u8 0, .int .u8 0, .int .u8 0, .int .u8 0, .int .u8 0] rfl)
  have HB1 := Lib.hid (ball w (.cells #[.int .u8 (k % 256), .int .u8 (c % 256), .int .u8 0, .int .u8 0, .int .u8 0, .int .u8 0, .int .u8 0, .int .u8 0] 5))
  have hu2 : u ≤ 1400 := by omega
  have Hl := Lib.hid (show (ys.take 1400).length = u by rw [List.length_take, Hn.out, hu]; omega)
  have HU := Lib.hid hu
  clear hu hby0
  generalize w.alloc (.cells #[.int .u8 (k % 256), .int .u8 (c % 256), .int .u8 0, .int .u8 0, .int .u8 0, .int .u8 0, .int .u8 0, .int .u8 0] 5) = w1 at *
  have hs1 := HB1.out.size
  go_wp2_with (at_builtin; refine wpList_app rfl (.tmp 13) (.tmp 15) rfl rfl HO1.out (ys.take 1400) rfl ((HR.out.take 1400).below HB1.out) Hl.out (by omega) hs1 ?_; intro A2 c2 w2 ho2 hg2 hA2; have HO2 := Lib.hid ho2; have HB2 := Lib.hid (below_app HB1.out hg2 HO1.out (Nat.le_refl _) hs1); clear ho2 hg2 hA2)
  obtain ⟨L, hL⟩ : ∃ L, L = ic0 (k % 256) (c % 256) 0 (ys.take 1400) := ⟨_, rfl⟩
  have HO3 := Lib.hid (show Own w2 w.heap.size A2 (8 + u) c2 L by
    have := HO2.out
    rw [hL, ← ic0_app]; exact this)
  have HL := Lib.hid hL
  clear HO1 HB1 hs1 HO2 hL
  obtain ⟨g, hg, hgb⟩ := own_some HO3.out (by omega)
  subst hg
  refine (refOf_n _ (8 + u) c2 _ _ HO3.out.len (by omega) HO3.out.rd).mono ?_
  rintro e w' ⟨rfl, rfl⟩
  have hcs := Cs_range _ HO3.out.byt
  obtain ⟨x, hx⟩ : ∃ x, x = Cs L := ⟨_, rfl⟩
  rw [← hx] at hcs
  rw [← hx]
  have HX := Lib.hid hx
  clear hx
  have c0 := HO3.out.at (k := 2) (by omega)
  have c1 := HO3.out.at (k := 3) (by omega)
  have f0 := HO3.out.free 2
  have f1 := HO3.out.free 3
  go_wp2
  go_ret
  refine ⟨g, u, c2, rfl, HU.out, ?_, (HB2.out.setCell (p := ⟨g, 2, none⟩) hgb _).setCell (p := ⟨g, 3, none⟩) hgb _⟩
  have := (HO3.out.set 2 (x / 256) (by omega) (by omega)).set 3 (x % 256) (by omega) (by omega)
  unfold icL
  rw [← HL.out, ← HX.out]
  exact this
theorem w2l_u16 (x : Int) (h0 : 0 ≤ x) (h1 : x ≤ 65535) : x / 256 % 256 = x / 256 := by omega

set_option maxHeartbeats 2000000 in
theorem recho_any (reply : Bool) (k : Int) (hk : k = if reply then 0 else 8) (id : Int) (h0 : 0 ≤ id) (h1 : id ≤ 65535) (A : Option Addr) (n cp : Nat) (ys : List Int) (w : World) (hn : ys.length = n) (hnc : n ≤ cp) (hl : n ≤ 1000000) (hR : Rd w A ys) :
    Calls Try.prog 72 #[.bool reply, .int .u16 id, .slice A n cp] w fun e w' => ∃ g m cc, e = .returned (.slice (some ⟨g, 0, none⟩) (8 + m) cc) ∧ m = min n 1400 ∧ Own w' w.heap.size (some ⟨g, 0, none⟩) (8 + m) cc (icL k 0 id (ys.take 1400)) ∧ Below w.heap.size w w' := by
  have HR := Lib.hid hR
  have Hn := Lib.hid hn
  have hk2 : 0 ≤ k ∧ k ≤ 8 := by rw [hk]; cases reply <;> simp
  have HK := Lib.hid hk
  clear hR hn hk
  go_enter Try.func72, Try.ntmps72
  go_upto_if 10 with fail
  go_cut [7] (fun s7 wx => s7 = .int .u8 k ∧ w = wx)
  case first =>
    cases reply
    · go_wp2
      go_meet
      exact ⟨by rw [HK.out]; rfl, rfl⟩
    · go_wp2
      go_meet
      exact ⟨by rw [HK.out]; rfl, rfl⟩
  case rest =>
  obtain ⟨rfl, rfl⟩ := hcut
  go_wp2_with fail
  refine (few_any A n cp _ hnc hl).mono ?_
  rintro e w1 ⟨u, rfl, hu, rfl⟩
  have hby0 : By (ic0 k 0 id []) := ic0_by _ _ _ By.nil (by omega) (by omega) (by omega) (by omega)
  have hlit : ic0 k 0 id [] = [k, 0, 0, 0, id / 256, id % 256, 0, 0] := by rw [ic0_lit, w2l_u16 id h0 h1]
  rw [hlit] at hby0
  have HO1 := Lib.hid (Own.lit w (Nat.le_refl _) [k, 0, 0, 0, id / 256, id % 256, 0, 0] hby0 8 rfl (by omega) #[.int .u8 k, .int .u8 0, .int .u8 0, .int .u8 0, .int .u8 (id / 256), .int .u8 (id % 256), .int .u8 0, .int .u8 0] rfl)
  have HB1 := Lib.hid (ball w (.cells #[.int .u8 k, .int .u8 0, .int .u8 0, .int .u8 0, .int .u8 (id / 256), .int .u8 (id % 256), .int .u8 0, .int .u8 0] 5))
  have hu2 : u ≤ 1400 := by omega
  have Hl := Lib.hid (show (ys.take 1400).length = u by rw [List.length_take, Hn.out, hu]; omega)
  have HU := Lib.hid hu
  have Hlit := Lib.hid hlit
  clear hu hby0 hlit
  generalize w.alloc (.cells #[.int .u8 k, .int .u8 0, .int .u8 0, .int .u8 0, .int .u8 (id / 256), .int .u8 (id % 256), .int .u8 0, .int .u8 0] 5) = w1 at *
  have hs1 := HB1.out.size
  go_wp2_with (at_builtin; refine wpList_app rfl (.tmp 17) (.tmp 19) rfl rfl HO1.out (ys.take 1400) rfl ((HR.out.take 1400).below HB1.out) Hl.out (by omega) hs1 ?_; intro A2 c2 w2 ho2 hg2 hA2; have HO2 := Lib.hid ho2; have HB2 := Lib.hid (below_app HB1.out hg2 HO1.out (Nat.le_refl _) hs1); clear ho2 hg2 hA2)
  obtain ⟨L, hL⟩ : ∃ L, L = ic0 k 0 id (ys.take 1400) := ⟨_, rfl⟩
  have HO3 := Lib.hid (show Own w2 w.heap.size A2 (8 + u) c2 L by
    have := HO2.out
    rw [← Hlit.out, ic0_lit] at this
    rw [hL, ← ic0_app]; exact this)
  have HL := Lib.hid hL
  clear HO1 HB1 hs1 HO2 hL
  obtain ⟨g, hg, hgb⟩ := own_some HO3.out (by omega)
  subst hg
  refine (refOf_n _ (8 + u) c2 _ _ HO3.out.len (by omega) HO3.out.rd).mono ?_
  rintro e w' ⟨rfl, rfl⟩
  have hcs := Cs_range _ HO3.out.byt
  obtain ⟨x, hx⟩ : ∃ x, x = Cs L := ⟨_, rfl⟩
  rw [← hx] at hcs
  rw [← hx]
  have HX := Lib.hid hx
  clear hx
  have c0 := HO3.out.at (k := 2) (by omega)
  have c1 := HO3.out.at (k := 3) (by omega)
  have f0 := HO3.out.free 2
  have f1 := HO3.out.free 3
  go_wp2
  go_ret
  refine ⟨g, u, c2, rfl, HU.out, ?_, (HB2.out.setCell (p := ⟨g, 2, none⟩) hgb _).setCell (p := ⟨g, 3, none⟩) hgb _⟩
  have := (HO3.out.set 2 (x / 256) (by omega) (by omega)).set 3 (x % 256) (by omega) (by omega)
  unfold icL
  rw [← HL.out, ← HX.out]
  exact this

set_option maxHeartbeats 4000000 in
theorem rudp_any (s d f t : Int) (A : Option Addr) (n cp : Nat) (ys : List Int) (w : World) (hn : ys.length = n) (hnc : n ≤ cp) (hl : n ≤ 1000000) (hR : Rd w A ys)
    (s0 : 0 ≤ s) (s1 : s ≤ 4294967295) (d0 : 0 ≤ d) (d1 : d ≤ 4294967295) (f0 : 0 ≤ f) (f1 : f ≤ 65535) (t0 : 0 ≤ t) (t1 : t ≤ 65535) :
    Calls Try.prog 70 #[.int .u32 s, .int .u32 d, .int .u16 f, .int .u16 t, .slice A n cp] w fun e w' => ∃ g m cc, e = .returned (.slice (some ⟨g, 0, none⟩) (8 + m) cc) ∧ m = min n 1400 ∧ Own w' w.heap.size (some ⟨g, 0, none⟩) (8 + m) cc (udL s d f t (ys.take 1400)) ∧ Below w.heap.size w w' := by
  have HR := Lib.hid hR
  have Hn := Lib.hid hn
  clear hR hn
  go_enter Try.func70, Try.ntmps70
  go_wp2_with fail
  refine (few_any A n cp _ hnc hl).mono ?_
  rintro e w1 ⟨u, rfl, hu, rfl⟩
  have hu2 : u ≤ 1400 := by omega
  have Hl := Lib.hid (show (ys.take 1400).length = u by rw [List.length_take, Hn.out, hu]; omega)
  have HU := Lib.hid hu
  clear hu
  go_wp2_with fail
  refine (word_any f _ f0 (by omega)).mono ?_
  rintro e w1 ⟨rfl, ho1, hb1⟩
  have HB1 := Lib.hid hb1
  have HO1 := Lib.hid ho1
  clear ho1 hb1
  go_wp2_with fail
  refine (word_any t _ t0 (by omega)).mono ?_
  rintro e w2 ⟨rfl, ho2, hb2⟩
  have HB2 := Lib.hid (bthen HB1.out hb2)
  have HO2 := Lib.hid (HO1.out.below hb2)
  have HR2 := Lib.hid ho2.rd
  have hs2 := HB2.out.size
  clear ho2 hb2 HB1 HO1
  generalize w1.heap.size = p1' at *
  go_wp2_with (at_builtin; refine wpList_app rfl (.tmp 17) (.tmp 20) rfl rfl HO2.out (w2l t) rfl HR2.out rfl (by omega) hs2 ?_; intro A3 c3 w3 ho3 hg3 hA3; have HO3 := Lib.hid ho3; have HB3 := Lib.hid (below_app HB2.out hg3 HO2.out (Nat.le_refl _) hs2); have hs3 := HB3.out.size; clear ho3 hg3 hA3)
  clear HO2 HB2 HR2 hs2
  refine (word_any (8 + (u : Int)) _ (by omega) (by omega)).mono ?_
  rintro e w4 ⟨rfl, ho4, hb4⟩
  have HB4 := Lib.hid (bthen HB3.out hb4)
  have HO4 := Lib.hid (HO3.out.below hb4)
  have HR4 := Lib.hid ho4.rd
  have hs4 := HB4.out.size
  clear ho4 hb4 HO3 HB3 hs3
  generalize w3.heap.size = p3' at *
  go_wp2_with (first | (at_builtin; refine wpList_app rfl (.tmp 21) (.tmp 25) rfl rfl HO4.out (w2l (8 + (u : Int))) rfl HR4.out rfl (by omega) hs4 ?_; intro A5 c5 w5 ho5 hg5 hA5; have HO5 := Lib.hid ho5; have HB5 := Lib.hid (below_app HB4.out hg5 HO4.out (Nat.le_refl _) hs4); have hs5 := HB5.out.size; clear ho5 hg5 hA5) | (at_builtin; refine wpList_app rfl (.tmp 26) (.tmp 27) rfl rfl (HO5.out.alloc _) [0, 0] rfl (Rd.newM w5 _ _ [0, 0] (By.mk (by omega) (by omega) (By.mk (by omega) (by omega) By.nil)) _ rfl) rfl (by omega) (bthen HB5.out (ball w5 _)).size ?_; intro A6 c6 w6 ho6 hg6 hA6; have HO6 := Lib.hid ho6; have HB6 := Lib.hid (below_app (bthen HB5.out (ball w5 _)) hg6 (HO5.out.alloc _) (Nat.le_refl _) (bthen HB5.out (ball w5 _)).size); have hs6 := HB6.out.size; clear ho6 hg6 hA6) | (at_builtin; refine wpList_app rfl (.tmp 29) (.tmp 30) rfl rfl HO6.out (ys.take 1400) rfl ((HR.out.take 1400).below HB6.out) Hl.out (by omega) hs6 ?_; intro A7 c7 w7 ho7 hg7 hA7; have HO7 := Lib.hid ho7; have HB7 := Lib.hid (below_app HB6.out hg7 HO6.out (Nat.le_refl _) hs6); have hs7 := HB7.out.size; clear ho7 hg7 hA7))
  obtain ⟨L, hL⟩ : ∃ L, L = ud0 f t (ys.take 1400) := ⟨_, rfl⟩
  have HO8 := Lib.hid (show Own w7 w.heap.size A7 (2 + 2 + 2 + 2 + u) c7 L by
    have := HO7.out
    rw [hL]; unfold ud0; rw [Hl.out]; exact this)
  have HL := Lib.hid hL
  clear hL HO7 HO6 HO5 HO4 HB4 HB5 HB6 HR4 hs4 hs5 hs6
  obtain ⟨g, hg, hgb⟩ := own_some HO8.out (by omega)
  subst hg
  refine (pseudo_any s d 17 _ (2 + 2 + 2 + 2 + u) c7 L _ HO8.out.len (by omega) HO8.out.rd s0 s1 d0 d1 (by omega) (by omega)).mono ?_
  rintro e w8 ⟨rfl, hb8⟩
  have HB8 := Lib.hid (bthen HB7.out hb8)
  have HO9 := Lib.hid (HO8.out.below hb8)
  have hcs := Ps_range s d 17 L HO8.out.byt s0 d0 (by decide)
  clear hb8 HB7 HO8
  obtain ⟨x, hx⟩ : ∃ x, x = Ps s d 17 L := ⟨_, rfl⟩
  rw [← hx] at hcs
  rw [← hx]
  have HX := Lib.hid hx
  clear hx
  obtain ⟨y, hy⟩ : ∃ y, y = no0 x := ⟨_, rfl⟩
  have hyr := no0_range x hcs.1 hcs.2
  rw [← hy] at hyr
  have HY := Lib.hid hy
  clear hy
  go_upto_if 37 with fail
  go_cut [12] (fun s12 wx => s12 = .int .u16 y ∧ w8 = wx)
  case first =>
    by_cases hz : x = 0
    · subst hz
      go_wp2
      go_meet
      exact ⟨by rw [HY.out]; rfl, rfl⟩
    · have hz' : (x == 0) = false := by simpa using hz
      go_wp2
      go_meet
      exact ⟨by rw [HY.out]; unfold no0; rw [if_neg hz], rfl⟩
  case rest =>
  obtain ⟨rfl, rfl⟩ := hcut
  have c0 := HO9.out.at (k := 6) (by omega)
  have c1 := HO9.out.at (k := 7) (by omega)
  have f0 := HO9.out.free 6
  have f1 := HO9.out.free 7
  have q6 : 6 < 2 + 2 + 2 + 2 + u := by omega
  have q7 : 7 < 2 + 2 + 2 + 2 + u := by omega
  go_wp2
  go_ret
  refine ⟨g, u, c7, rfl, HU.out, ?_, (HB8.out.setCell (p := ⟨g, 6, none⟩) hgb _).setCell (p := ⟨g, 7, none⟩) hgb _⟩
  have := (HO9.out.set 6 (y / 256) (by omega) (by omega)).set 7 (y % 256) (by omega) (by omega)
  unfold udL
  rw [← HL.out, ← HX.out, ← HY.out]
  exact this

set_option maxHeartbeats 4000000 in
theorem rtcp_any (s d f t fl : Int) (A : Option Addr) (n cp : Nat) (ys : List Int) (w : World) (hn : ys.length = n) (hnc : n ≤ cp) (hl : n ≤ 1000000) (hR : Rd w A ys)
    (s0 : 0 ≤ s) (s1 : s ≤ 4294967295) (d0 : 0 ≤ d) (d1 : d ≤ 4294967295) (f0 : 0 ≤ f) (f1 : f ≤ 65535) (t0 : 0 ≤ t) (t1 : t ≤ 65535) :
    Calls Try.prog 71 #[.int .u32 s, .int .u32 d, .int .u16 f, .int .u16 t, .int .i64 fl, .slice A n cp] w fun e w' => ∃ g m cc, e = .returned (.slice (some ⟨g, 0, none⟩) (20 + m) cc) ∧ m = min n 1400 ∧ Own w' w.heap.size (some ⟨g, 0, none⟩) (20 + m) cc (tcL s d f t (fl % 256) (ys.take 1400)) ∧ Below w.heap.size w w' := by
  have HR := Lib.hid hR
  have Hn := Lib.hid hn
  clear hR hn
  have e1 : IntKind.u8.wrap fl = fl % 256 := IntKind.wrap_u8 _
  have v0 : 0 ≤ fl % 256 := by omega
  have v1 : fl % 256 ≤ 255 := by omega
  go_enter Try.func71, Try.ntmps71
  go_wp2_with fail
  refine (word_any f _ f0 (by omega)).mono ?_
  rintro e w1 ⟨rfl, ho1, hb1⟩
  have HB1 := Lib.hid hb1
  have HO1 := Lib.hid ho1
  clear ho1 hb1
  go_wp2_with fail
  refine (word_any t _ t0 (by omega)).mono ?_
  rintro e w2 ⟨rfl, ho2, hb2⟩
  have HB2 := Lib.hid (bthen HB1.out hb2)
  have HO2 := Lib.hid (HO1.out.below hb2)
  have HR2 := Lib.hid ho2.rd
  have hs2 := HB2.out.size
  clear ho2 hb2 HB1 HO1
  generalize w1.heap.size = p1' at *
  obtain ⟨fv, hfv⟩ : ∃ v, v = fl % 256 := ⟨_, rfl⟩
  rw [← hfv] at e1 v0 v1
  have HF := Lib.hid hfv
  clear hfv
  have Hb16 := Lib.hid (show By [0, 0, 0, 0, 0, 0, 0, 0, 80, fv, 32, 0, 0, 0, 0, 0] from fun x hx => by simp at hx; omega)
  go_wp2_with (first | (at_builtin; refine wpList_app rfl (.tmp 17) (.tmp 20) rfl rfl HO2.out (w2l t) rfl HR2.out rfl (by omega) hs2 ?_; intro A3 c3 w3 ho3 hg3 hA3; have HO3 := Lib.hid ho3; have HB3 := Lib.hid (below_app HB2.out hg3 HO2.out (Nat.le_refl _) hs2); have hs3 := HB3.out.size; clear ho3 hg3 hA3) | (at_builtin; refine wpList_app rfl (.tmp 21) (.tmp 24) rfl rfl (HO3.out.alloc _) [0, 0, 0, 0, 0, 0, 0, 0, 80, fv, 32, 0, 0, 0, 0, 0] rfl (Rd.newM w3 _ _ [0, 0, 0, 0, 0, 0, 0, 0, 80, fv, 32, 0, 0, 0, 0, 0] Hb16.out _ rfl) rfl (by omega) (bthen HB3.out (ball w3 _)).size ?_; intro A6 c6 w6 ho6 hg6 hA6; have HO6 := Lib.hid ho6; have HB6 := Lib.hid (below_app (bthen HB3.out (ball w3 _)) hg6 (HO3.out.alloc _) (Nat.le_refl _) (bthen HB3.out (ball w3 _)).size); have hs6 := HB6.out.size; clear ho6 hg6 hA6))
  refine (few_any A n cp _ hnc hl).mono ?_
  rintro e w1 ⟨u, rfl, hu, rfl⟩
  have hu2 : u ≤ 1400 := by omega
  have Hl := Lib.hid (show (ys.take 1400).length = u by rw [List.length_take, Hn.out, hu]; omega)
  have HU := Lib.hid hu
  clear hu
  go_wp2_with (at_builtin; refine wpList_app rfl (.tmp 26) (.tmp 28) rfl rfl HO6.out (ys.take 1400) rfl ((HR.out.take 1400).below HB6.out) Hl.out (by omega) hs6 ?_; intro A7 c7 w7 ho7 hg7 hA7; have HO7 := Lib.hid ho7; have HB7 := Lib.hid (below_app HB6.out hg7 HO6.out (Nat.le_refl _) hs6); have hs7 := HB7.out.size; clear ho7 hg7 hA7)
  obtain ⟨L, hL⟩ : ∃ L, L = tc0 f t fv (ys.take 1400) := ⟨_, rfl⟩
  have HO8 := Lib.hid (show Own w7 w.heap.size A7 (2 + 2 + 16 + u) c7 L by
    have := HO7.out
    rw [hL]; unfold tc0; exact this)
  have HL := Lib.hid hL
  clear hL HO7 HO6 HB6 hs6 HO3 HB3 HO2 HB2
  obtain ⟨g, hg, hgb⟩ := own_some HO8.out (by omega)
  subst hg
  refine (pseudo_any s d 6 _ (2 + 2 + 16 + u) c7 L _ HO8.out.len (by omega) HO8.out.rd s0 s1 d0 d1 (by omega) (by omega)).mono ?_
  rintro e w8 ⟨rfl, hb8⟩
  have HB8 := Lib.hid (bthen HB7.out hb8)
  have HO9 := Lib.hid (HO8.out.below hb8)
  have hcs := Ps_range s d 6 L HO8.out.byt s0 d0 (by decide)
  clear hb8 HB7 HO8
  obtain ⟨x, hx⟩ : ∃ x, x = Ps s d 6 L := ⟨_, rfl⟩
  rw [← hx] at hcs
  rw [← hx]
  have HX := Lib.hid hx
  clear hx
  have c0 := HO9.out.at (k := 16) (by omega)
  have c1 := HO9.out.at (k := 17) (by omega)
  have f0 := HO9.out.free 16
  have f1 := HO9.out.free 17
  have q6 : 16 < 2 + 2 + 16 + u := by omega
  have q7 : 17 < 2 + 2 + 16 + u := by omega
  go_wp2
  go_ret
  refine ⟨g, u, c7, rfl, HU.out, ?_, (HB8.out.setCell (p := ⟨g, 16, none⟩) hgb _).setCell (p := ⟨g, 17, none⟩) hgb _⟩
  have := (HO9.out.set 16 (x / 256) (by omega) (by omega)).set 17 (x % 256) (by omega) (by omega)
  unfold tcL
  rw [← HF.out, ← HL.out, ← HX.out]
  exact this
end Go.Proofs.Ytbnlpidhbilenaa
