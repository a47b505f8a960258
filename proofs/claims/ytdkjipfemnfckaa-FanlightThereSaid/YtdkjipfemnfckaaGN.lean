/-
  Several small texts in one: PLay, Cut, Parts, PFrom, PartBare, Stands. Conditions stand in each theorem.
-/
import Derived.Test.YtdkjipfemnfckaaGG
import Derived.Deep.DeepCutAuto
import Derived.Test.YtdkjipfemnfckaaGB
import Derived.Laws.BytesArg
import Derived.Deep.RegionHeld3
import Derived.RegionTactic
import Derived.Test.YtdkjipfemnfckaaPGet
import Derived.Test.YtdkjipfemnfckaaGF
import Derived.Test.YtdkjipfemnfckaaGK
import Derived.Test.YtdkjipfemnfckaaNestM
import Derived.Test.YtdkjipfemnfckaaGD
namespace Go.Proofs.Ytdkjipfemnfckaa
open Go.RowKit Plain
set_option linter.unusedVariables false
set_option linter.unusedSimpArgs false
set_option maxRecDepth 100000

theorem bh8 (ys : List Int) : bh 8 ys = [0, 0, 0, 0, 0, 0, 0, 0] ++ ys.take 1400 := rfl
theorem bh20 (ys : List Int) : bh 20 ys = [0, 0, 0, 0, 0, 0, 0, 0, 0, 0, 0, 0, 0, 0, 0, 0, 0, 0, 0, 0] ++ ys.take 1400 := rfl
theorem lay_ud (f t l : Int) (ys : List Int) (f0 : 0 ≤ f) (f1 : f ≤ 65535) (t0 : 0 ≤ t) (t1 : t ≤ 65535) (hl : l = 8 + ((ys.take 1400).length : Int)) :
    P16 (P16 (P16 (bh 8 ys) 0 f) 2 t) 4 l = ud0 f t (ys.take 1400) := by
  have : (ys.take 1400).length ≤ 1400 := by rw [List.length_take]; omega
  rw [bh8]
  unfold P16 ud0 w2l
  rw [← hl]
  have e1 : f / 256 % 256 = f / 256 := by omega
  have e2 : t / 256 % 256 = t / 256 := by omega
  have e3 : l / 256 % 256 = l / 256 := by omega
  rw [e1, e2, e3]
  rfl
theorem lay_tc (f t fl : Int) (ys : List Int) (f0 : 0 ≤ f) (f1 : f ≤ 65535) (t0 : 0 ≤ t) (t1 : t ≤ 65535) :
    P16 (((P16 (P16 (bh 20 ys) 0 f) 2 t).set 12 80).set 13 fl) 14 8192 = tc0 f t fl (ys.take 1400) := by
  rw [bh20]
  unfold P16 tc0 w2l
  have e1 : f / 256 % 256 = f / 256 := by omega
  have e2 : t / 256 % 256 = t / 256 := by omega
  rw [e1, e2]
  rfl
theorem lay_ic (k c : Int) (ys : List Int) : ((bh 8 ys).set 0 k).set 1 c = ic0 k c 0 (ys.take 1400) := rfl
theorem lay_ec (k id : Int) (ys : List Int) (h0 : 0 ≤ id) (h1 : id ≤ 65535) : ecL k id ys = icL k 0 id (ys.take 1400) := by
  have e : P16 ((bh 8 ys).set 0 k) 4 id = ic0 k 0 id (ys.take 1400) := by
    rw [bh8]
    unfold P16 ic0 w2l
    have e1 : id / 256 % 256 = id / 256 := by omega
    rw [e1]
    rfl
  unfold ecL icL
  rw [e]

theorem layPorts_any (g n c base : Nat) (zs : List Int) (f t : Int) (w : World) (hi : 3 < n) (hl : n ≤ 1000000) (f0 : 0 ≤ f) (f1 : f ≤ 65535) (t0 : 0 ≤ t) (t1 : t ≤ 65535) (hO : Own w base (some ⟨g, 0, none⟩) n c zs) :
    Calls Try.prog 65 #[.slice (some ⟨g, 0, none⟩) n c, .int .u16 f, .int .u16 t] w fun e w' => e = .returned (.tuple #[]) ∧ Laid w w' base g n c (P16 (P16 zs 0 f) 2 t) := by
  have HO := Lib.hid hO
  clear hO
  go_enter Try.func65, Try.ntmps65
  go_wp2_with fail
  refine (put16_any g n c base zs 0 f 0 _ rfl (by omega) hl f0 f1 HO.out).mono ?_
  rintro e w1 ⟨rfl, h1⟩
  have H1 := Lib.hid h1
  clear h1
  go_wp2_with fail
  refine (put16_any g n c base _ 2 t 2 _ rfl (by omega) hl t0 t1 H1.out.own).mono ?_
  rintro e w2 ⟨rfl, h2⟩
  have H2 := Lib.hid h2
  clear h2
  go_wp2
  go_end0
  exact ⟨rfl, H2.out.own, H1.out.grow.trans H2.out.grow⟩

theorem udpSum_any (s d : Int) (A : Option Addr) (n c : Nat) (zs : List Int) (w : World) (hn : zs.length = n) (hl : n ≤ 1000000) (hR : Rd w A zs) (s0 : 0 ≤ s) (s1 : s ≤ 4294967295) (d0 : 0 ≤ d) (d1 : d ≤ 4294967295) :
    Calls Try.prog 66 #[.int .u32 s, .int .u32 d, .slice A n c] w fun e w' => e = .returned (.int .u16 (no0 (Ps s d 17 zs))) ∧ ∃ q, w' = w.drewN q := by
  have HR := Lib.hid hR
  have Hn := Lib.hid hn
  clear hR hn
  go_enter Try.func66, Try.ntmps66
  go_wp2_with fail
  refine (sumFor_any s d 17 A n c zs _ Hn.out hl HR.out s0 s1 d0 d1 (by omega) (by omega)).mono ?_
  rintro e w1 ⟨rfl, q, rfl⟩
  obtain ⟨x, hx⟩ : ∃ x, x = Ps s d 17 zs := ⟨_, rfl⟩
  rw [← hx]
  have HX := Lib.hid hx
  clear hx
  by_cases hz : x = 0
  · subst hz
    go_wp2
    go_ret
    exact ⟨by rw [← HX.out]; rfl, q, rfl⟩
  · have hz' : (x == 0) = false := by simpa using hz
    go_wp2
    go_ret
    exact ⟨by rw [← HX.out]; unfold no0; rw [if_neg hz]; rfl, q, rfl⟩

set_option maxHeartbeats 2000000 in
theorem pudp_any (s d f t : Int) (A : Option Addr) (n c : Nat) (ys : List Int) (w : World) (hn : ys.length = n) (hnc : n ≤ c) (hl : n ≤ 1000000) (hR : Rd w A ys)
    (s0 : 0 ≤ s) (s1 : s ≤ 4294967295) (d0 : 0 ≤ d) (d1 : d ≤ 4294967295) (f0 : 0 ≤ f) (f1 : f ≤ 65535) (t0 : 0 ≤ t) (t1 : t ≤ 65535) :
    Calls Try.prog 46 #[.int .u32 s, .int .u32 d, .int .u16 f, .int .u16 t, .slice A n c] w fun e w' => ∃ g u, e = .returned (.slice (some ⟨g, 0, none⟩) (8 + u) (8 + u)) ∧ u = min n 1400 ∧ Own w' w.heap.size (some ⟨g, 0, none⟩) (8 + u) (8 + u) (udL s d f t (ys.take 1400)) ∧ Below w.heap.size w w' := by
  have Hn := Lib.hid hn
  have HR := Lib.hid hR
  clear hn hR
  go_enter Try.func46, Try.ntmps46
  go_wp2_with fail
  refine (behind_any 8 (by omega) (by omega) A n c ys w Hn.out hnc hl HR.out).mono ?_
  rintro e w1 ⟨g, u, rfl, hu, ho, hb⟩
  have HU := Lib.hid hu
  have hu2 : u ≤ 1400 := by omega
  have hgb : w.heap.size ≤ g := by rcases ho.form with ⟨h, _⟩ | ⟨g2, h, hg, _⟩; cases h; injection h with h; injection h with h; omega
  have HO := Lib.hid ho
  have HB := Lib.hid hb
  have Hl := Lib.hid (show 8 + (u : Int) = 8 + ((ys.take 1400).length : Int) by rw [List.length_take, Hn.out, hu]; omega)
  clear hu ho hb
  go_wp2_with fail
  refine (layPorts_any g (8 + u) (8 + u) w.heap.size _ f t _ (by omega) (by omega) f0 f1 t0 t1 HO.out).mono ?_
  rintro e w2 ⟨rfl, hL⟩
  have HO2 := Lib.hid hL.own
  have HB2 := Lib.hid (hL.below HB.out hgb HB.out.size)
  clear hL HO HB
  go_wp2_with fail
  refine (put16_any g (8 + u) (8 + u) w.heap.size _ 4 (8 + (u : Int)) 4 _ rfl (by omega) (by omega) (by omega) (by omega) HO2.out).mono ?_
  rintro e w3 ⟨rfl, hL⟩
  have HO3 := Lib.hid (show Own w3 w.heap.size (some ⟨g, 0, none⟩) (8 + u) (8 + u) (ud0 f t (ys.take 1400)) by
    have := hL.own
    rw [lay_ud f t _ ys f0 f1 t0 t1 Hl.out] at this
    exact this)
  have HB3 := Lib.hid (hL.below HB2.out hgb HB2.out.size)
  clear hL HO2 HB2
  obtain ⟨L, hL⟩ : ∃ L, L = ud0 f t (ys.take 1400) := ⟨_, rfl⟩
  rw [← hL] at HO3
  have HL := Lib.hid hL
  clear hL
  go_wp2_with fail
  refine (udpSum_any s d (some ⟨g, 0, none⟩) (8 + u) (8 + u) L _ HO3.out.len (by omega) HO3.out.rd s0 s1 d0 d1).mono ?_
  rintro e w4 ⟨rfl, q, rfl⟩
  have hcs := Ps_range s d 17 L HO3.out.byt s0 d0 (by decide)
  have hcs2 := no0_range _ hcs.1 hcs.2
  obtain ⟨x, hx⟩ : ∃ x, x = no0 (Ps s d 17 L) := ⟨_, rfl⟩
  rw [← hx] at hcs2
  rw [← hx]
  have HX := Lib.hid hx
  clear hx hcs
  go_wp2_with fail
  refine (put16_any g (8 + u) (8 + u) w.heap.size L 6 x 6 _ rfl (by omega) (by omega) (by omega) hcs2.2 (HO3.out.drewN q)).mono ?_
  rintro e w5 ⟨rfl, hL⟩
  have HO5 := Lib.hid (show Own w5 w.heap.size (some ⟨g, 0, none⟩) (8 + u) (8 + u) (udL s d f t (ys.take 1400)) by
    have := hL.own
    rw [HX.out, HL.out] at this
    exact this)
  have HB5 := Lib.hid (hL.below (below_drewN HB3.out q) hgb HB3.out.size)
  clear hL HO3 HB3 hcs2
  go_wp2
  go_ret
  exact ⟨g, u, rfl, HU.out, HO5.out, HB5.out⟩


end Go.Proofs.Ytdkjipfemnfckaa

namespace Go.Proofs.Ytdkjipfemnfckaa
open Go.RowKit Plain
set_option linter.unusedVariables false
set_option maxRecDepth 100000

theorem run_str (W : World) (A : Option Addr) (n c : Nat) (zs : List Int) (hn : zs.length = n) (hR : Rd W A zs) :
    (convert 24 9 (.slice A n c)).run Try.prog W = .ok (.string (strOfNums zs)) W := by
  rcases Nat.eq_zero_or_pos n with h0 | h0
  · subst h0
    have hz : zs = [] := List.eq_nil_of_length_eq_zero hn
    subst hz
    rcases A with _ | ⟨b, off, sp⟩
    · exact run_convert_bytes_nil W 24 5 Try.underlying24 Try.underlying5 0 c 9 Try.underlying9
    · rw [run_convert_bytes_string W 24 9 5 _ 0 c Try.underlying24 Try.underlying5 Try.underlying9]
      have hl : (loadCells ⟨b, off, sp⟩ 0).run Try.prog W = .ok ([].map (Value.int .u8)).toArray W := by
        simpa using run_loadCells_list (P := Try.prog) W ⟨b, off, sp⟩ [] (fun j v hj => by simp at hj)
      rw [run_bytesToString W _ 0 c [] hl]
      rfl
  · obtain ⟨b, off, rfl, hc⟩ := hR.2 (by omega)
    exact run_convert_bytes_arg W 24 5 Try.underlying24 Try.underlying5 b off n c zs hn (fun i hi => hc i (by omega)) 9 Try.underlying9

/-- a number that any int picks below m -/
theorem pick_any (bit m : Int) (h0 : 0 < m) (h1 : m < 4611686018427387904) : ∃ K : Nat, wrap64 ((IntKind.u64.wrap bit).tmod m) = (K : Int) ∧ (K : Int) < m := by
  have e : IntKind.u64.wrap bit = bit % 18446744073709551616 := IntKind.wrap_u64 bit
  have n0 : 0 ≤ bit % 18446744073709551616 := by omega
  have e2 : (bit % 18446744073709551616).tmod m = bit % 18446744073709551616 % m := Int.tmod_eq_emod_of_nonneg n0
  have l0 := Int.emod_nonneg (bit % 18446744073709551616) (show m ≠ 0 by omega)
  have l1 := Int.emod_lt_of_pos (bit % 18446744073709551616) h0
  rw [e, e2]
  generalize bit % 18446744073709551616 % m = x at *
  refine ⟨x.toNat, ?_, by omega⟩
  unfold wrap64; omega

theorem turned_bits (x : Int) (K : Nat) (h0 : 0 ≤ x) (h1 : x ≤ 255) : Turned x (bits .xor .u8 x (2 ^ (K % 8) % 256)) := by
  obtain ⟨a, rfl⟩ := Int.eq_ofNat_of_zero_le h0
  have hj : K % 8 < 8 := by omega
  generalize K % 8 = j at hj ⊢
  have e : ((2 : Int) ^ j % 256) = ((2 ^ j : Nat) : Int) := by
    have : ∀ j, j < 8 → ((2 : Int) ^ j % 256) = ((2 ^ j : Nat) : Int) := by decide
    exact this j hj
  have h2 : 2 ^ j < 256 := by
    have : ∀ j, j < 8 → 2 ^ j < 256 := by decide
    exact this j hj
  rw [e, u8_xor_nat a (2 ^ j) (by omega) h2]
  exact turned a j (by omega) hj
end Go.Proofs.Ytdkjipfemnfckaa

namespace Go.Proofs.Ytdkjipfemnfckaa
open Go.RowKit Plain
set_option linter.unusedVariables false
set_option linter.unusedSimpArgs false
set_option maxRecDepth 100000

def eL : List Int := [8, 0, 247, 250, 0, 5, 0, 0]
theorem eL_eq : ecL 8 5 [] = eL := by decide +kernel
def fL : List Int := List.replicate 20 0 ++ eL
theorem fL_e : pgE ⟨20, 28, 0, 1, 0, 0⟩ fL = 0 := by decide +kernel
theorem fL_p : (pgP ⟨20, 28, 0, 1, 0, 0⟩ fL).val = .agg #[.int .i64 1, .int .u16 5, .int .u16 5, .int .i64 0, .int .i64 8, .int .i64 0, .bool false, .int .i64 0, .int .i64 0, .int .i64 0, .int .i64 0, .int .u32 0, .int .u32 0, .int .i64 0, .bool false] := by
  have h : icE (bodyOf ⟨20, 28, 0, 1, 0, 0⟩ fL) = 0 := by decide +kernel
  have e : pgP ⟨20, 28, 0, 1, 0, 0⟩ fL = icP 20 (bodyOf ⟨20, 28, 0, 1, 0, 0⟩ fL) := by unfold pgP; rw [if_neg (by decide +kernel), if_neg (by decide), if_neg (by decide), if_pos rfl]
  rw [e]
  unfold icP
  rw [if_pos h, if_pos (by decide +kernel)]
  rfl
theorem eL_by : By eL := by unfold By eL; decide

end Go.Proofs.Ytdkjipfemnfckaa

namespace Go.Proofs.Ytdkjipfemnfckaa
open Go.RowKit Plain
set_option linter.unusedVariables false
set_option linter.unusedSimpArgs false
set_option maxRecDepth 100000

end Go.Proofs.Ytdkjipfemnfckaa

namespace Go.Proofs.Ytdkjipfemnfckaa
open Go.RowKit Plain
set_option linter.unusedVariables false
set_option linter.unusedSimpArgs false
set_option maxRecDepth 100000

/-- what getUdp tells of a datagram whose sum is another one -/
theorem bare_ud (s d f t v : Int) (L : List Int) (hl : L.length ≤ 1400) (hby : By L) (s0 : 0 ≤ s) (d0 : 0 ≤ d) (f0 : 0 ≤ f) (f1 : f ≤ 65535) (t0 : 0 ≤ t) (t1 : t ≤ 65535) (v0 : 0 ≤ v) (v1 : v ≤ 65535) :
    udE s d (P16 (udL s d f t L) 6 v) = (if v = 0 ∨ v = G16 (udL s d f t L) 6 then 0 else 4) ∧
    ((v = 0 ∨ v = G16 (udL s d f t L) 6) → udP s d (P16 (udL s d f t L) 6 v) = ⟨17, f, t, 0, 0, 0, false, hd0, 0, v == 0⟩) := by
  have e : P16 (udL s d f t L) 6 v = P16 (ud0 f t L) 6 v := by unfold udL; rw [P16_P16]
  have hlen := ud0_len f t L
  obtain ⟨g0, g2, g4, g6⟩ := ud0_g f t L f0 f1 t0 t1 hl
  have eg : G16 (udL s d f t L) 6 = no0 (65535 - F (Px s d 17 (ud0 f t L).length + tot (ud0 f t L))) := by
    unfold udL; rw [P16_g16 _ _ _ (by omega), Ps_px]
  have hX := Px_pos s d 17 (ud0 f t L).length s0 d0 (by decide)
  have hT := tot_nonneg _ (ud0_by f t hby)
  have hPs := Ps_P16 s d 17 (ud0 f t L) 6 v (by decide) (by omega) g6
  have hE : udE s d (P16 (ud0 f t L) 6 v) = (if v = 0 ∨ v = G16 (udL s d f t L) 6 then 0 else 4) := by
    unfold udE
    rw [P16_len, hlen, if_neg (by omega), P16_g16_ne _ 6 4 v (by decide) (by decide) (by decide), g4, if_neg (by omega), P16_g16 _ _ _ (by omega), hPs, eg]
    by_cases hv : v = 0
    · rw [if_neg (by rw [hv]; simp), if_pos (Or.inl hv)]
    · have ri := right_iff (Px s d 17 (ud0 f t L).length + tot (ud0 f t L)) v (by omega) (by omega) v1
      by_cases hw : v = no0 (65535 - F (Px s d 17 (ud0 f t L).length + tot (ud0 f t L)))
      · have := ri.2 hw
        rw [if_neg (by rw [this]; simp), if_pos (Or.inr hw)]
      · have hne : F (Px s d 17 (ud0 f t L).length + tot (ud0 f t L) + v) ≠ 65535 := fun h => hw (ri.1 h)
        rw [if_pos ⟨hv, by omega⟩, if_neg (by rintro (h | h); exact hv h; exact hw h)]
  rw [e]
  refine ⟨hE, fun h => ?_⟩
  unfold udP
  rw [hE, if_pos h, if_pos rfl, P16_g16 _ _ _ (by omega), P16_g16_ne _ 6 0 v (by decide) (by decide) (by decide), P16_g16_ne _ 6 2 v (by decide) (by decide) (by decide), g0, g2]

theorem pt_fields {p : Pt} {e0 e1 e2 e3 e4 e5 : Int} {e6 : Bool} {e7 e8 e9 e10 e11 e12 e13 : Int} {e14 : Bool} (h : p.val = .agg #[.int .i64 e0, .int .u16 e1, .int .u16 e2, .int .i64 e3, .int .i64 e4, .int .i64 e5, .bool e6, .int .i64 e7, .int .i64 e8, .int .i64 e9, .int .i64 e10, .int .u32 e11, .int .u32 e12, .int .i64 e13, .bool e14]) :
    e0 = p.proto ∧ e1 = p.sp ∧ e2 = p.dp ∧ e14 = p.bare := by
  simp only [Pt.val, Value.agg.injEq, Array.mk.injEq, List.cons.injEq, Value.int.injEq, Value.bool.injEq, true_and] at h
  exact ⟨h.1.symm, h.2.1.symm, h.2.2.1.symm, h.2.2.2.2.2.2.2.2.2.2.2.2.2.2.1.symm⟩

end Go.Proofs.Ytdkjipfemnfckaa

namespace Go.Proofs.Ytdkjipfemnfckaa
open Go.RowKit Plain
set_option linter.unusedVariables false
set_option linter.unusedSimpArgs false
set_option maxRecDepth 100000

theorem udP_ok (s d f t : Int) (L : List Int) (hl : L.length ≤ 1400) (f0 : 0 ≤ f) (f1 : f ≤ 65535) (t0 : 0 ≤ t) (t1 : t ≤ 65535) (h : udE s d (udL s d f t L) = 0) :
    (udP s d (udL s d f t L)).sp = f ∧ (udP s d (udL s d f t L)).dp = t := by
  obtain ⟨g0, g2, _, _⟩ := ud0_g f t L f0 f1 t0 t1 hl
  unfold udP
  rw [if_pos h]
  unfold udL
  refine ⟨?_, ?_⟩
  · show G16 _ 0 = f
    rw [P16_g16_ne _ _ _ _ (by decide) (by decide) (by decide)]; exact g0
  · show G16 _ 2 = t
    rw [P16_g16_ne _ _ _ _ (by decide) (by decide) (by decide)]; exact g2

set_option maxHeartbeats 4000000 in
theorem stands_any (w : World) : Calls Try.prog 30 #[] w fun e w' => e = .returned (.bool true) ∧ Below w.heap.size w w' := by
  have hby : By [104, 105] := By.mk (by omega) (by omega) (By.mk (by omega) (by omega) By.nil)
  obtain ⟨U, hU⟩ : ∃ U, U = udL 1 2 5 53 [104, 105] := ⟨_, rfl⟩
  have hUl : U.length = 10 := by rw [hU, udL_len]; rfl
  have hUb : By U := by rw [hU]; exact udL_by 1 2 5 53 hby (by omega) (by omega)
  have hE : udE 1 2 U = 0 := by rw [hU]; exact low_ok 0 (by omega) 1 2 5 53 0 [104, 105] (by decide) hby (by omega) (by omega) (by omega) (by omega) (by omega) (by omega)
  have hF : (udP 1 2 U).sp = 5 ∧ (udP 1 2 U).dp = 53 := by
    rw [hU]
    rw [hU] at hE
    exact udP_ok 1 2 5 53 [104, 105] (by decide) (by omega) (by omega) (by omega) (by omega) hE
  have hgot := frm_got 9 17 1 2 U [] (by omega) hUb (by omega) (by omega) (by omega) (by omega) (by omega) (by omega) (by omega) (by omega)
  rw [List.append_nil, hUl] at hgot
  have hpg : pgE ⟨20, 20 + ((10 : Nat) : Int), 9, 17, 1, 2⟩ (frm 9 17 1 2 U) = udE 1 2 U ∧ pgP ⟨20, 20 + ((10 : Nat) : Int), 9, 17, 1, 2⟩ (frm 9 17 1 2 U) = udP 1 2 U := frm_pg 9 17 1 2 U 10 hUl 9 1 2 17
  rw [hE] at hpg
  have hgot' : gtE (frm 9 17 1 2 U) = 0 ∧ gtH (frm 9 17 1 2 U) = ⟨20, 30, 9, 17, 1, 2⟩ := hgot
  have hpg' : pgE ⟨20, 30, 9, 17, 1, 2⟩ (frm 9 17 1 2 U) = 0 ∧ pgP ⟨20, 30, 9, 17, 1, 2⟩ (frm 9 17 1 2 U) = udP 1 2 U := hpg
  have HGot := Lib.hid hgot'
  have HPG := Lib.hid hpg'
  obtain ⟨e0, e1, e2, e3, e4, e5, e6, e7, e8, e9, e10, e11, e12, e13, e14, hev⟩ := Pt.mk_val (udP 1 2 U)
  have hfl := pt_fields hev
  rw [hF.1, hF.2] at hfl
  obtain ⟨hx0, rfl, rfl, hx3⟩ := hfl
  have Hev := Lib.hid hev
  have HU := Lib.hid hU
  have HUl := Lib.hid hUl
  clear hx0 hx3 hev hgot hpg hgot' hpg' hE hF hUb hUl hU
  have kc := fun (w : World) (C : Array Value) (n c : Nat) => Lib.run_convert_bytes_const (P := Try.prog) w 24 5 C n c Try.underlying24 Try.underlying5
  go_enter Try.func30, Try.ntmps30
  go_wp2_with fail
  clear kc
  refine (pudp_any 1 2 5 53 _ 2 2 [104, 105] _ rfl (by omega) (by omega) (Rd.newM w _ _ [104, 105] hby _ rfl) (by omega) (by omega) (by omega) (by omega) (by omega) (by omega) (by omega) (by omega)).mono ?_
  rintro e w2 ⟨g2, u2, rfl, hu2, ho2, hb2⟩
  obtain rfl : u2 = 2 := by omega
  have HO2 := Lib.hid (show Own w2 w.heap.size (some ⟨g2, 0, none⟩) 10 10 U by rw [HU.out]; exact ho2.mono (ball w _).size)
  have HB2 := Lib.hid (bthen (ball w _) hb2)
  clear hu2 ho2 hb2
  go_wp2_with fail
  refine (put_yes 0 0 9 17 1 2 (some ⟨g2, 0, none⟩) 10 10 U _ (by omega) HUl.out HO2.out.rd (by omega) (by omega) (by omega) (by omega) (by omega) (by omega) (by omega) (by omega)).mono ?_
  rintro e w3 ⟨g3, rfl, ho3, hb3⟩
  have HO3 := Lib.hid (ho3.mono HB2.out.size)
  have HB3 := Lib.hid (bthen HB2.out hb3)
  clear ho3 hb3 HO2 HB2
  go_wp2_with fail
  refine (get_any (some ⟨g3, 0, none⟩) 30 30 (frm 9 17 1 2 U) _ HO3.out.len (by omega) (by omega) HO3.out.rd).mono ?_
  rintro e w4 ⟨rfl, hb4⟩
  rw [HGot.out.1, HGot.out.2, show (Hd.mk 20 30 9 17 1 2).val = .agg #[.int .i64 20, .int .i64 30, .int .i64 9, .int .i64 17, .int .u32 1, .int .u32 2] from rfl]
  have HO4 := Lib.hid (HO3.out.below hb4)
  have HB4 := Lib.hid (bthen HB3.out hb4)
  clear hb4 HO3 HB3
  go_upto_region 3 with fail
  have HH5 := Lib.hid (Blk.new w4 67 #[.int .i64 20, .int .i64 30, .int .i64 9, .int .i64 17, .int .u32 1, .int .u32 2])
  have HO5 := Lib.hid (HO4.out.alloc (.cells #[.int .i64 20, .int .i64 30, .int .i64 9, .int .i64 17, .int .u32 1, .int .u32 2] 67))
  have HB5 := Lib.hid (bthen HB4.out (ball w4 (.cells #[.int .i64 20, .int .i64 30, .int .i64 9, .int .i64 17, .int .u32 1, .int .u32 2] 67)))
  generalize w4.alloc (.cells #[.int .i64 20, .int .i64 30, .int .i64 9, .int .i64 17, .int .u32 1, .int .u32 2] 67) = w5 at *
  generalize w4.heap.size = gh at *
  clear HO4 HB4
  go_wp2_with (first | ((with_reducible refine gd_ld 67 3 ?_); refine wpList_ld rfl 67 (.tmp 3) rfl _ rfl (HH5.out) sHead ?_) | fail)
  refine (pget_any 20 30 9 17 1 2 (some ⟨g3, 0, none⟩) 30 30 (frm 9 17 1 2 U) _ HO5.out.len (by omega) (by omega) HO5.out.rd (by omega) (by omega) (by omega) (by omega)).mono ?_
  rintro e w6 ⟨rfl, hb6⟩
  rw [HPG.out.1, HPG.out.2, Hev.out]
  have HB6 := Lib.hid (bthen HB5.out hb6)
  have HH6 := Lib.hid (HH5.out.below hb6)
  clear hb6 HO5 HB5 HH5
  go_upto_region 4 with fail
  have HP7 := Lib.hid (Blk.new w6 71 #[.int .i64 e0, .int .u16 5, .int .u16 53, .int .i64 e3, .int .i64 e4, .int .i64 e5, .bool e6, .int .i64 e7, .int .i64 e8, .int .i64 e9, .int .i64 e10, .int .u32 e11, .int .u32 e12, .int .i64 e13, .bool e14])
  have HB7 := Lib.hid (bthen HB6.out (ball w6 (.cells #[.int .i64 e0, .int .u16 5, .int .u16 53, .int .i64 e3, .int .i64 e4, .int .i64 e5, .bool e6, .int .i64 e7, .int .i64 e8, .int .i64 e9, .int .i64 e10, .int .u32 e11, .int .u32 e12, .int .i64 e13, .bool e14] 71)))
  have HH7 := Lib.hid (HH6.out.alloc (.cells #[.int .i64 e0, .int .u16 5, .int .u16 53, .int .i64 e3, .int .i64 e4, .int .i64 e5, .bool e6, .int .i64 e7, .int .i64 e8, .int .i64 e9, .int .i64 e10, .int .u32 e11, .int .u32 e12, .int .i64 e13, .bool e14] 71))
  generalize w6.alloc (.cells #[.int .i64 e0, .int .u16 5, .int .u16 53, .int .i64 e3, .int .i64 e4, .int .i64 e5, .bool e6, .int .i64 e7, .int .i64 e8, .int .i64 e9, .int .i64 e10, .int .u32 e11, .int .u32 e12, .int .i64 e13, .bool e14] 71) = w7 at *
  generalize w6.heap.size = gp at *
  have q1 : w7.cell? ⟨gp, 1, none⟩ = some (.int .u16 5) := HP7.out.cell 1
  have q2 : w7.cell? ⟨gp, 2, none⟩ = some (.int .u16 53) := HP7.out.cell 2
  have q3 : w7.cell? ⟨gh, 1, none⟩ = some (.int .i64 30) := HH7.out.cell 1
  go_wp2
  go_ret
  exact ⟨rfl, HB7.out⟩
end Go.Proofs.Ytdkjipfemnfckaa
