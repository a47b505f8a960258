/-
  Several small texts in one: Frame, Turned, NestM, LowQ, RwF. Conditions stand in each theorem.
-/
import Derived.Test.YtbnlpidhbilenaaGL
import Derived.Test.YtbnlpidhbilenaaGK
namespace Go.Proofs.Ytbnlpidhbilenaa
open Go.RowKit Plain
set_option linter.unusedVariables false
set_option linter.unusedSimpArgs false
set_option maxRecDepth 100000

theorem Sn.ok.below {x : Sn} {w w' : World} (h : x.ok w) (hb : Below w.heap.size w w') : x.ok w' :=
  ⟨h.s0, h.s1, h.d0, h.d1, h.f0, h.f1, h.t0, h.t1, h.len, h.cap, h.max, h.rd.below hb⟩

theorem carL_len (K : Nat) (s d f t fl : Int) (L : List Int) (hl : L.length ≤ 40) : (carL K s d f t fl L).length ≤ 100 := by
  unfold carL
  split
  · rw [udL_len]; omega
  · rw [tcL_len]; omega
  · rw [icL_len]; omega
  · rw [icL_len]; omega
  · rw [icL_len, frm_len, udL_len]; omega
  · rw [icL_len, List.length_take, frm_len, tcL_len]; omega
  · rw [icL_len, frm_len, icL_len]; omega
theorem carP_range (K : Nat) : 0 ≤ carP K ∧ carP K ≤ 255 := by unfold carP; split <;> decide

/-- the frame of a Sent -/
def frL (x : Sn) (K : Nat) : List Int := frm 64 (carP K) x.s x.d (carL K x.s x.d x.f x.t x.fl (x.ys.take 40))
def FrameOk (x : Sn) (K : Nat) (w : World) (e : Ending) (w' : World) : Prop :=
  ∃ g m cc, e = .returned (.slice (some ⟨g, 0, none⟩) (20 + m) cc) ∧ m = (carL K x.s x.d x.f x.t x.fl (x.ys.take 40)).length ∧ m ≤ 100 ∧ Own w' w.heap.size (some ⟨g, 0, none⟩) (20 + m) cc (frL x K) ∧ Below w.heap.size w w'

set_option maxHeartbeats 4000000 in
theorem frame_of (x : Sn) (K : Nat) (w : World) (ok : x.ok w) (hC : ∀ w', x.ok w' → Calls Try.prog 54 #[x.val] w' (CarOk x K w')) :
    Calls Try.prog 36 #[x.val] w (FrameOk x K w) := by
  have HC := Lib.hid hC
  have HOk := Lib.hid ok
  clear hC ok
  obtain ⟨what, s, d, f, t, fl, A, n, c, ys⟩ := x
  rw [show (Sn.mk what s d f t fl A n c ys).val = .agg #[.int .i64 what, .int .u32 s, .int .u32 d, .int .u16 f, .int .u16 t, .int .i64 fl, .slice A n c] from rfl] at *
  go_enter Try.func36, Try.ntmps36
  go_wp2_with fail
  have HB1 := Lib.hid (ball w (.cells #[.int .i64 what, .int .u32 s, .int .u32 d, .int .u16 f, .int .u16 t, .int .i64 fl, .slice A n c] 80))
  have HK1 := Lib.hid (Blk.new w 80 #[.int .i64 what, .int .u32 s, .int .u32 d, .int .u16 f, .int .u16 t, .int .i64 fl, .slice A n c])
  generalize w.alloc (.cells #[.int .i64 what, .int .u32 s, .int .u32 d, .int .u16 f, .int .u16 t, .int .i64 fl, .slice A n c] 80) = w1 at *
  have hs1 := HB1.out.size
  obtain ⟨g, hg⟩ : ∃ g, g = w.heap.size := ⟨_, rfl⟩
  rw [← hg] at HK1
  rw [← hg]
  clear hg
  refine (HC.out _ (HOk.out.below HB1.out)).mono ?_
  rintro e w2 ⟨g2, m, cc, rfl, ho, hb⟩
  have HO2 := Lib.hid (ho.mono hs1)
  have HB2 := Lib.hid (bthen HB1.out hb)
  have HK2 := Lib.hid (HK1.out.below hb)
  clear ho hb HB1 HK1
  have k1 : w2.cell? ⟨g, 1, none⟩ = some (.int .u32 s) := HK2.out.cell 1
  have k2 : w2.cell? ⟨g, 2, none⟩ = some (.int .u32 d) := HK2.out.cell 2
  have hpr := carP_range K
  have hm : m ≤ 100 := by
    have h1 := HO2.out.len
    have h2 := carL_len K s d f t fl (ys.take 40) (by rw [List.length_take]; omega)
    simp only at h1
    omega
  obtain ⟨L, hL⟩ : ∃ L, L = carL K s d f t fl (ys.take 40) := ⟨_, rfl⟩
  obtain ⟨pr, hp⟩ : ∃ p, p = carP K := ⟨_, rfl⟩
  have HO3 := Lib.hid (show Own w2 w.heap.size (some ⟨g2, 0, none⟩) m cc L by rw [hL]; exact HO2.out)
  rw [← hp] at hpr
  rw [← hp]
  have HP := Lib.hid hp
  have HL := Lib.hid hL
  clear hp hL HO2
  go_wp2_with fail
  have okk := HOk.out
  refine (rput_yes 0 0 64 pr s d (some ⟨g2, 0, none⟩) m cc L _ (by omega) HO3.out.len HO3.out.rd (by omega) (by omega) hpr.1 hpr.2 okk.s0 okk.s1 okk.d0 okk.d1).mono ?_
  rintro e w3 ⟨g3, c3, rfl, ho3, hb3⟩
  have HO4 := Lib.hid ho3
  have HB3 := Lib.hid (bthen HB2.out hb3)
  have hs2 := HB2.out.size
  clear ho3 hb3 okk
  go_wp2
  go_ret
  refine ⟨g3, m, c3, rfl, ?_, hm, ?_, HB3.out⟩
  · have := HO3.out.len
    rw [HL.out] at this
    exact this.symm
  · have := HO4.out.mono hs2
    rw [HP.out, HL.out] at this
    exact this

theorem frame_low (x : Sn) (K : Nat) (hK4 : K < 4) (w : World) (ok : x.ok w) (hK : wrap64 ((IntKind.u64.wrap x.what).tmod 7) = (K : Int)) :
    Calls Try.prog 36 #[x.val] w (FrameOk x K w) :=
  frame_of x K w ok fun w' ok' => carried_low x K hK4 w' ok' hK
end Go.Proofs.Ytbnlpidhbilenaa

namespace Go.Proofs.Ytbnlpidhbilenaa
open Go.RowKit Plain
set_option linter.unusedVariables false
set_option linter.unusedSimpArgs false
set_option maxRecDepth 100000

theorem F_self (T : Int) (h : 0 ≤ T) : F (T + (65535 - F T)) = 65535 := by unfold F; split <;> split <;> omega
theorem F_no0 (T : Int) (h : 0 < T) : F (T + no0 (65535 - F T)) = 65535 := by unfold no0 F; split <;> split <;> split <;> omega
theorem F_65535 (T : Int) (h : 0 ≤ T) (hF : F T = 65535) : T % 65535 = 0 := by have := F_mod T h; omega
theorem turned_gen (X : Int) (l : List Int) (k : Nat) (y : Int) (hX : 0 ≤ X) (hk : k < l.length) (hl : By l) (h0 : (X + tot l) % 65535 = 0) (ht : Turned (l.getD k 0) y) : F (X + tot (l.set k y)) ≠ 65535 := by
  have hy := tot_nonneg (l.set k y) (hl.set k y ht.1 ht.2.1)
  have e := tot_set l k y hk
  unfold Turned at ht
  generalize l.getD k 0 = x at *
  have hF := F_mod (X + tot (l.set k y)) (by omega)
  intro hc
  rw [hc] at hF
  split at e <;> omega
theorem udL_sum (s d f t : Int) (L : List Int) (hl : L.length ≤ 1400) (h : By L) (s0 : 0 ≤ s) (d0 : 0 ≤ d) (f0 : 0 ≤ f) (f1 : f ≤ 65535) (t0 : 0 ≤ t) (t1 : t ≤ 65535) :
    (Px s d 17 (udL s d f t L).length + tot (udL s d f t L)) % 65535 = 0 := by
  obtain ⟨_, _, _, g6⟩ := ud0_g f t L f0 f1 t0 t1 hl
  have hX := Px_pos s d 17 (ud0 f t L).length s0 d0 (by decide)
  have hT := tot_nonneg _ (ud0_by f t h)
  unfold udL
  rw [P16_len, P16_tot _ 6 _ (by decide) (by rw [ud0_len]; omega), g6, Ps_px]
  have := F_65535 _ (by unfold no0 F; split <;> split <;> omega) (F_no0 (Px s d 17 (ud0 f t L).length + tot (ud0 f t L)) (by omega))
  omega
theorem tcL_sum (s d f t fl : Int) (L : List Int) (h : By L) (s0 : 0 ≤ s) (d0 : 0 ≤ d) (f0 : 0 ≤ f) (f1 : f ≤ 65535) (t0 : 0 ≤ t) (t1 : t ≤ 65535) (v0 : 0 ≤ fl) (v1 : fl ≤ 255) :
    (Px s d 6 (tcL s d f t fl L).length + tot (tcL s d f t fl L)) % 65535 = 0 := by
  obtain ⟨_, _, _, _, g6⟩ := tc0_g f t fl L f0 f1 t0 t1
  have hX := Px_pos s d 6 (tc0 f t fl L).length s0 d0 (by decide)
  have hT := tot_nonneg _ (tc0_by f t fl h v0 v1)
  unfold tcL
  rw [P16_len, P16_tot _ 16 _ (by decide) (by rw [tc0_len]; omega), g6, Ps_px]
  have hr := F_range (Px s d 6 (tc0 f t fl L).length + tot (tc0 f t fl L)) (by omega)
  have := F_65535 _ (by omega) (F_self (Px s d 6 (tc0 f t fl L).length + tot (tc0 f t fl L)) (by omega))
  omega
theorem icL_sum (k c id : Int) (L : List Int) (h : By L) (k0 : 0 ≤ k) (k1 : k ≤ 255) (c0 : 0 ≤ c) (c1 : c ≤ 255) (i0 : 0 ≤ id) (i1 : id ≤ 65535) :
    F (tot (icL k c id L)) = 65535 := by
  obtain ⟨_, _, _, g2⟩ := ic0_g k c id L i0 i1
  have hT := tot_nonneg _ (ic0_by k c id h k0 k1 c0 c1)
  unfold icL
  rw [P16_tot _ 2 _ (by decide) (by rw [ic0_len]; omega), g2]
  unfold Cs
  rw [show tot (ic0 k c id L) + (65535 - F (tot (ic0 k c id L))) - 0 = tot (ic0 k c id L) + (65535 - F (tot (ic0 k c id L))) by omega]
  exact F_self _ hT

/-- what a packet carries, by its protocol -/
def byE (pr s d : Int) (ys : List Int) : Int := if pr = 17 then udE s d ys else if pr = 6 then tcE s d ys else if pr = 1 then icE ys else 6
def byP (pr s d : Int) (ys : List Int) : Pt := if pr = 17 then udP s d ys else if pr = 6 then tcP s d ys else if pr = 1 then icP 20 ys else pt0
theorem byP_bad (pr s d : Int) (ys : List Int) (h : byE pr s d ys ≠ 0) : byP pr s d ys = pt0 := by
  unfold byE at h
  unfold byP
  split
  · rename_i hp; rw [if_pos hp] at h; unfold udP; rw [if_neg h]
  · rename_i hp; rw [if_neg hp] at h
    split
    · rename_i hp; rw [if_pos hp] at h; unfold tcP; rw [if_neg h]
    · rename_i hp; rw [if_neg hp] at h
      split
      · rename_i hp; rw [if_pos hp] at h; unfold icP; rw [if_neg h]
      · rfl

/-- one bit of what a packet carries is turned -/
theorem low_turned (K : Nat) (hK : K < 4) (s d f t fl : Int) (L : List Int) (hl : L.length ≤ 1400) (h : By L) (s0 : 0 ≤ s) (d0 : 0 ≤ d) (f0 : 0 ≤ f) (f1 : f ≤ 65535) (t0 : 0 ≤ t) (t1 : t ≤ 65535)
    (j : Nat) (y : Int) (hj : j < (carL K s d f t fl L).length) (ht : Turned ((carL K s d f t fl L).getD j 0) y) :
    byE (carP K) s d ((carL K s d f t fl L).set j y) ≠ 0 ∨
      byE (carP K) s d ((carL K s d f t fl L).set j y) = 0 ∧ (byP (carP K) s d ((carL K s d f t fl L).set j y)).proto = 17 ∧ (byP (carP K) s d ((carL K s d f t fl L).set j y)).bare = true := by
  obtain rfl | rfl | rfl | rfl : K = 0 ∨ K = 1 ∨ K = 2 ∨ K = 3 := by omega
  · by_cases hz : udE s d ((udL s d f t L).set j y) = 0
    · right
      have hX := Px_pos s d 17 (udL s d f t L).length s0 d0 (by decide)
      have hg := turned_gen (Px s d 17 (udL s d f t L).length) (udL s d f t L) j y (by omega) hj (udL_by s d f t h s0 d0) (udL_sum s d f t L hl h s0 d0 f0 f1 t0 t1) ht
      have h6 : G16 ((udL s d f t L).set j y) 6 = 0 := by
        unfold udE at hz
        split at hz
        · cases hz
        · split at hz
          · cases hz
          · split at hz
            · cases hz
            · rename_i hn
              rw [Ps_px, List.length_set] at hn
              refine Classical.byContradiction fun hc => hn ⟨hc, ?_⟩
              have := F_range (Px s d 17 (udL s d f t L).length + tot ((udL s d f t L).set j y)) (by have := tot_nonneg _ ((udL_by s d f t h s0 d0).set j y ht.1 ht.2.1); omega)
              omega
      refine ⟨hz, ?_, ?_⟩
      · show (udP s d ((udL s d f t L).set j y)).proto = 17
        unfold udP; rw [if_pos hz]
      · show (udP s d ((udL s d f t L).set j y)).bare = true
        unfold udP; rw [if_pos hz, h6]; rfl
    · exact Or.inl hz
  · left
    show tcE s d ((tcL s d f t (fl % 256) L).set j y) ≠ 0
    have hX := Px_pos s d 6 (tcL s d f t (fl % 256) L).length s0 d0 (by decide)
    have hg := turned_gen (Px s d 6 (tcL s d f t (fl % 256) L).length) (tcL s d f t (fl % 256) L) j y (by omega) hj (tcL_by s d f t _ h s0 d0 (by omega) (by omega)) (tcL_sum s d f t _ L h s0 d0 f0 f1 t0 t1 (by omega) (by omega)) ht
    have hp : Ps s d 6 ((tcL s d f t (fl % 256) L).set j y) ≠ 0 := by rw [Ps_px, List.length_set]; omega
    unfold tcE
    split
    · decide
    · split
      · decide
      · first | decide | (rw [if_pos hp]; decide)
  · left
    show icE ((icL 8 0 f L).set j y) ≠ 0
    have hb := icL_by 8 0 f h (by omega) (by omega) (by omega) (by omega)
    have hs := F_65535 _ (tot_nonneg _ hb) (icL_sum 8 0 f L h (by omega) (by omega) (by omega) (by omega) f0 f1)
    have hg : F (tot ((icL 8 0 f L).set j y)) ≠ 65535 := turned_sum _ j y hj hb hs ht
    have hp : Cs ((icL 8 0 f L).set j y) ≠ 0 := by unfold Cs; exact fun e => hg (by omega)
    unfold icE
    split
    · decide
    · first | decide | (rw [if_pos hp]; decide)
  · left
    show icE ((icL 0 0 f L).set j y) ≠ 0
    have hb := icL_by 0 0 f h (by omega) (by omega) (by omega) (by omega)
    have hs := F_65535 _ (tot_nonneg _ hb) (icL_sum 0 0 f L h (by omega) (by omega) (by omega) (by omega) f0 f1)
    have hg : F (tot ((icL 0 0 f L).set j y)) ≠ 65535 := turned_sum _ j y hj hb hs ht
    have hp : Cs ((icL 0 0 f L).set j y) ≠ 0 := by unfold Cs; exact fun e => hg (by omega)
    unfold icE
    split
    · decide
    · first | decide | (rw [if_pos hp]; decide)
theorem frm_all (t p s d : Int) (ys : List Int) (hy : By ys) (hl : ys.length ≤ 1480) (t0 : 0 ≤ t) (t1 : t ≤ 255) (p0 : 0 ≤ p) (p1 : p ≤ 255) (s0 : 0 ≤ s) (s1 : s ≤ 4294967295) (d0 : 0 ≤ d) (d1 : d ≤ 4294967295) : By (frm t p s d ys) :=
  (frm_by t p s d ys hy hl t0 t1 p0 p1 s0 s1 d0 d1).1.app hy
theorem carL_by (K : Nat) (s d f t fl : Int) {L : List Int} (hl : L.length ≤ 40) (h : By L) (s0 : 0 ≤ s) (s1 : s ≤ 4294967295) (d0 : 0 ≤ d) (d1 : d ≤ 4294967295) : By (carL K s d f t fl L) := by
  unfold carL
  split
  · exact udL_by s d f t h s0 d0
  · exact tcL_by s d f t _ h s0 d0 (by omega) (by omega)
  · exact icL_by _ _ _ h (by omega) (by omega) (by omega) (by omega)
  · exact icL_by _ _ _ h (by omega) (by omega) (by omega) (by omega)
  · exact icL_by _ _ _ (frm_all 9 17 d s _ (udL_by d s t f h d0 s0) (by rw [udL_len]; omega) (by omega) (by omega) (by omega) (by omega) d0 d1 s0 s1) (by omega) (by omega) (by omega) (by omega)
  · exact icL_by _ _ _ ((frm_all 9 6 d s _ (tcL_by d s t f 2 h d0 s0 (by omega) (by omega)) (by rw [tcL_len]; omega) (by omega) (by omega) (by omega) (by omega) d0 d1 s0 s1).take _) (by omega) (by omega) (by omega) (by omega)
  · exact icL_by _ _ _ (frm_all 9 1 d s _ (icL_by 8 0 t h (by omega) (by omega) (by omega) (by omega)) (by rw [icL_len]; omega) (by omega) (by omega) (by omega) (by omega) d0 d1 s0 s1) (by omega) (by omega) (by omega) (by omega)
end Go.Proofs.Ytbnlpidhbilenaa

namespace Go.Proofs.Ytbnlpidhbilenaa
open Go.RowKit Plain
set_option linter.unusedVariables false
set_option linter.unusedSimpArgs false
set_option maxRecDepth 100000

/-- the begin of a frame is got as part of a packet -/
theorem frm_pt (t p s d : Int) (ys : List Int) (k : Nat) (hk : 20 ≤ k) (hl : ys.length ≤ 1480) (t0 : 0 ≤ t) (t1 : t ≤ 255) (p0 : 0 ≤ p) (p1 : p ≤ 255) (s0 : 0 ≤ s) (s1 : s ≤ 4294967295) (d0 : 0 ≤ d) (d1 : d ≤ 4294967295) :
    ptE ((frm t p s d ys).take k) = 0 ∧ ptH ((frm t p s d ys).take k) = ⟨20, 20 + (ys.length : Int), t, p, s, d⟩ := by
  have hlen : ((frm t p s d ys).take k).length = min k (20 + ys.length) := by rw [List.length_take, frm_len]
  have e1 : ∀ i, i < 20 → ((frm t p s d ys).take k).getD i 0 = (hb1 t p s d (20 + (ys.length : Int))).getD i 0 := fun i hi => by
    rw [getD_take _ _ _ (by omega)]
    unfold frm
    simp only [List.getD]
    rw [List.getElem?_append_left (by rw [hb1_len]; omega)]
  have e16 : ∀ i, i + 1 < 20 → G16 ((frm t p s d ys).take k) i = G16 (hb1 t p s d (20 + (ys.length : Int))) i := fun i hi => by
    unfold G16
    rw [e1 i (by omega), e1 (i + 1) hi]
  have hfl : fld ((frm t p s d ys).take k) = ⟨20, 20 + (ys.length : Int), t, p, s, d⟩ := by
    unfold fld G32
    rw [e1 0 (by omega), e1 8 (by omega), e1 9 (by omega), e16 2 (by omega), e16 12 (by omega), e16 14 (by omega), e16 16 (by omega), e16 18 (by omega)]
    show Hd.mk (69 % 16 * 4) ((20 + (ys.length : Int)) / 256 * 256 + (20 + (ys.length : Int)) % 256) t p ((s / 65536 / 256 * 256 + s / 65536 % 256) * 65536 + (s % 65536 / 256 * 256 + s % 65536 % 256)) ((d / 65536 / 256 * 256 + d / 65536 % 256) * 65536 + (d % 65536 / 256 * 256 + d % 65536 % 256)) = _
    congr 1 <;> omega
  have hr : rdE ((frm t p s d ys).take k) 65535 = 0 := by
    unfold rdE
    rw [if_neg (by omega), e1 0 (by omega), if_neg (by show ¬ ((69 : Int) / 16 ≠ 4); decide), hfl]
    rw [if_neg (by show ¬ ((20 : Int) < 20); decide), if_neg (by rw [hlen]; show ¬ ((_ : Int) < 20); omega), if_neg (by show ¬ ((20 + (ys.length : Int)) < 20); omega), if_neg (by show ¬ (65535 < (20 + (ys.length : Int))); omega)]
  have hpc : G16 ((frm t p s d ys).take k) 6 % 16384 = 0 := by
    rw [e16 6 (by omega)]; show ((64 : Int) * 256 + 0) % 16384 = 0; decide
  have he : ptE ((frm t p s d ys).take k) = 0 := by
    unfold ptE
    rw [hr, if_neg (by decide), hpc, if_neg (by decide)]
  exact ⟨he, by unfold ptH; rw [he, if_pos rfl, hfl]⟩

theorem icL_drop (k c id : Int) (L : List Int) : (icL k c id L).drop 8 = L := by
  unfold icL
  generalize Cs (ic0 k c id L) = v
  unfold P16 ic0 w2l
  rfl
theorem icL_0 (k c id : Int) (L : List Int) : (icL k c id L).getD 0 0 = k ∧ (icL k c id L).getD 1 0 = c := by
  unfold icL
  rw [P16_other _ _ _ _ (by decide) (by decide), P16_other _ _ _ _ (by decide) (by decide)]
  exact ⟨rfl, rfl⟩
theorem icL_4 (k c id : Int) (L : List Int) (i0 : 0 ≤ id) (i1 : id ≤ 65535) : G16 (icL k c id L) 4 = id := by
  unfold icL
  rw [P16_g16_ne _ _ _ _ (by decide) (by decide) (by decide)]
  exact (ic0_g k c id L i0 i1).2.2.1
theorem erC_frm (t p s d : Int) (ys : List Int) (k : Nat) (hk : 20 ≤ k) (hh : ptH ((frm t p s d ys).take k) = ⟨20, 20 + (ys.length : Int), t, p, s, d⟩) : erC ((frm t p s d ys).take k) = ys.take (k - 20) := by
  unfold erC
  rw [hh]
  show ((frm t p s d ys).take k).drop 20 = _
  rw [List.drop_take]
  unfold frm
  rw [List.drop_append_of_le_length (by rw [hb1_len]; omega), List.drop_of_length_le (by rw [hb1_len]; omega), List.nil_append]
/-- an error about a packet whose first bytes are there -/
theorem er_any (t p s d : Int) (ys : List Int) (k : Nat) (hk : 28 ≤ k) (h8 : 8 ≤ ys.length) (hl : ys.length ≤ 1480) (t0 : 0 ≤ t) (t1 : t ≤ 255) (p0 : 0 ≤ p) (p1 : p ≤ 255) (s0 : 0 ≤ s) (s1 : s ≤ 4294967295) (d0 : 0 ≤ d) (d1 : d ≤ 4294967295) :
    erE ((frm t p s d ys).take k) = (if p = 17 ∨ p = 6 then 0 else if p = 1 ∧ (ys.getD 0 0 = 0 ∨ ys.getD 0 0 = 8) then 0 else 6) ∧
    (erE ((frm t p s d ys).take k) = 0 → ∀ q : Pt, erP q ((frm t p s d ys).take k) = (if p = 1 then { q with er := true, inn := ⟨20, 20 + (ys.length : Int), t, p, s, d⟩, sp := G16 ys 4, dp := G16 ys 4 } else { q with er := true, inn := ⟨20, 20 + (ys.length : Int), t, p, s, d⟩, sp := G16 ys 0, dp := G16 ys 2 })) := by
  obtain ⟨he, hh⟩ := frm_pt t p s d ys k (by omega) hl t0 t1 p0 p1 s0 s1 d0 d1
  have hc := erC_frm t p s d ys k (by omega) hh
  have hlen : ((frm t p s d ys).take k).length = min k (20 + ys.length) := by rw [List.length_take, frm_len]
  have g0 : (ys.take (k - 20)).getD 0 0 = ys.getD 0 0 := getD_take _ _ _ (by omega)
  have g16 : ∀ i, i < 6 → G16 (ys.take (k - 20)) i = G16 ys i := fun i hi => by
    unfold G16; rw [getD_take _ _ _ (by omega), getD_take _ _ _ (by omega)]
  constructor
  · unfold erE
    rw [he, if_neg (by decide), hh, hlen, hc, g0]
    rw [if_neg (by show ¬ (_ - (20 : Int) < 8 ∨ 20 + (ys.length : Int) - 20 < 8); omega)]
  · intro hz q
    unfold erP
    rw [if_pos hz, hh, hc, g16 4 (by omega), g16 0 (by omega), g16 2 (by omega)]
/-- what an error about a packet tells -/
theorem ic_er (kd cd : Int) (hk : kd = 3 ∨ kd = 11) (c0 : 0 ≤ cd) (c1 : cd ≤ 255) (X : List Int) (hb : By X) :
    icE (icL kd cd 0 X) = erE X ∧ (erE X = 0 → icP 20 (icL kd cd 0 X) = erP ⟨1, 0, 0, 0, kd, cd, false, hd0, 28, false⟩ X) := by
  have hs := icL_sum kd cd 0 X hb (by omega) (by omega) c0 c1 (by omega) (by omega)
  have hl := icL_len kd cd 0 X
  obtain ⟨g0, g1⟩ := icL_0 kd cd 0 X
  have hd := icL_drop kd cd 0 X
  have hE : icE (icL kd cd 0 X) = erE X := by
    unfold icE
    rw [if_neg (by omega), if_neg (by unfold Cs; rw [hs]; decide), g0, if_neg (by omega), if_pos (by omega), hd]
  refine ⟨hE, fun hz => ?_⟩
  unfold icP
  rw [hE, if_pos hz, g0, g1, if_neg (by omega), hd]
  rfl
/-- what is laid is got -/
theorem low_ok (K : Nat) (hK : K < 4) (s d f t fl : Int) (L : List Int) (hl : L.length ≤ 1400) (h : By L) (s0 : 0 ≤ s) (d0 : 0 ≤ d) (f0 : 0 ≤ f) (f1 : f ≤ 65535) (t0 : 0 ≤ t) (t1 : t ≤ 65535) :
    byE (carP K) s d (carL K s d f t fl L) = 0 := by
  obtain rfl | rfl | rfl | rfl : K = 0 ∨ K = 1 ∨ K = 2 ∨ K = 3 := by omega
  · show udE s d (udL s d f t L) = 0
    obtain ⟨_, _, g4, g6⟩ := ud0_g f t L f0 f1 t0 t1 hl
    have hX := Px_pos s d 17 (udL s d f t L).length s0 d0 (by decide)
    have hT := tot_nonneg _ (udL_by s d f t h s0 d0)
    have hs := udL_sum s d f t L hl h s0 d0 f0 f1 t0 t1
    have hp : Ps s d 17 (udL s d f t L) = 0 := by rw [Ps_px]; have := (F_full _ (by omega)).2 hs; omega
    unfold udE
    rw [udL_len, if_neg (by omega)]
    have e4 : G16 (udL s d f t L) 4 = 8 + (L.length : Int) := by unfold udL; rw [P16_g16_ne _ _ _ _ (by decide) (by decide) (by decide)]; exact g4
    rw [e4, if_neg (by omega), hp, if_neg (by simp)]
  · show tcE s d (tcL s d f t (fl % 256) L) = 0
    obtain ⟨_, _, g12, g13, g16⟩ := tc0_g f t (fl % 256) L f0 f1 t0 t1
    have hX := Px_pos s d 6 (tcL s d f t (fl % 256) L).length s0 d0 (by decide)
    have hT := tot_nonneg _ (tcL_by s d f t (fl % 256) h s0 d0 (by omega) (by omega))
    have hs := tcL_sum s d f t (fl % 256) L h s0 d0 f0 f1 t0 t1 (by omega) (by omega)
    have hp : Ps s d 6 (tcL s d f t (fl % 256) L) = 0 := by rw [Ps_px]; have := (F_full _ (by omega)).2 hs; omega
    unfold tcE
    have e12 : (tcL s d f t (fl % 256) L).getD 12 0 = 80 := by unfold tcL; rw [P16_other _ _ _ _ (by decide) (by decide)]; exact g12
    rw [tcL_len, if_neg (by omega), e12, if_neg (by omega), hp, if_neg (by simp)]
  · show icE (icL 8 0 f L) = 0
    have hs := icL_sum 8 0 f L h (by omega) (by omega) (by omega) (by omega) f0 f1
    obtain ⟨g0, g1⟩ := icL_0 8 0 f L
    unfold icE
    rw [icL_len, if_neg (by omega), if_neg (by unfold Cs; rw [hs]; decide), g0, if_pos (by simp), g1, if_neg (by simp)]
  · show icE (icL 0 0 f L) = 0
    have hs := icL_sum 0 0 f L h (by omega) (by omega) (by omega) (by omega) f0 f1
    obtain ⟨g0, g1⟩ := icL_0 0 0 f L
    unfold icE
    rw [icL_len, if_neg (by omega), if_neg (by unfold Cs; rw [hs]; decide), g0, if_pos (by simp), g1, if_neg (by simp)]
end Go.Proofs.Ytbnlpidhbilenaa

namespace Go.Proofs.Ytbnlpidhbilenaa
open Go.RowKit Plain
set_option linter.unusedVariables false
set_option linter.unusedSimpArgs false
set_option maxRecDepth 100000
theorem udP_ok (s d f t : Int) (L : List Int) (hl : L.length ≤ 1400) (f0 : 0 ≤ f) (f1 : f ≤ 65535) (t0 : 0 ≤ t) (t1 : t ≤ 65535) (h : udE s d (udL s d f t L) = 0) :
    (udP s d (udL s d f t L)).sp = f ∧ (udP s d (udL s d f t L)).dp = t := by
  obtain ⟨g0, g2, _, _⟩ := ud0_g f t L f0 f1 t0 t1 hl
  unfold udP
  rw [if_pos h]
  unfold udL
  refine ⟨?_, ?_⟩
  · show G16 _ 0 = f
    rw [P16_g16_ne _ _ _ _ (by decide) (by decide) (by decide)]; exact g0
  · show G16 _ 2 = t
    rw [P16_g16_ne _ _ _ _ (by decide) (by decide) (by decide)]; exact g2

structure LowQ (K : Nat) (f t : Int) (p : Pt) : Prop where
  sp : p.sp = f
  dp : K < 2 → p.dp = t
  er : p.er = false
theorem low_q (K : Nat) (hK : K < 4) (s d f t fl : Int) (L : List Int) (hl : L.length ≤ 1400) (h : By L) (s0 : 0 ≤ s) (d0 : 0 ≤ d) (f0 : 0 ≤ f) (f1 : f ≤ 65535) (t0 : 0 ≤ t) (t1 : t ≤ 65535) :
    LowQ K f t (byP (carP K) s d (carL K s d f t fl L)) := by
  have hB := low_ok K hK s d f t fl L hl h s0 d0 f0 f1 t0 t1
  obtain rfl | rfl | rfl | rfl : K = 0 ∨ K = 1 ∨ K = 2 ∨ K = 3 := by omega
  · have hB' : udE s d (udL s d f t L) = 0 := hB
    have := udP_ok s d f t L hl f0 f1 t0 t1 hB'
    refine ⟨this.1, fun _ => this.2, ?_⟩
    show (udP s d (udL s d f t L)).er = false
    unfold udP; rw [if_pos hB']
  · have hB' : tcE s d (tcL s d f t (fl % 256) L) = 0 := hB
    obtain ⟨g0, g2, _, g13, _⟩ := tc0_g f t (fl % 256) L f0 f1 t0 t1
    have e : byP (carP 1) s d (carL 1 s d f t fl L) = ⟨6, f, t, fl % 256, 0, 0, false, hd0, 0, false⟩ := by
      show tcP s d (tcL s d f t (fl % 256) L) = _
      unfold tcP
      rw [if_pos hB']
      unfold tcL
      rw [P16_g16_ne _ _ _ _ (by decide) (by decide) (by decide), P16_g16_ne _ _ _ _ (by decide) (by decide) (by decide), P16_other _ _ _ _ (by decide) (by decide), g0, g2, g13]
    rw [e]
    exact ⟨rfl, fun _ => rfl, rfl⟩
  · have hB' : icE (icL 8 0 f L) = 0 := hB
    have e : (byP (carP 2) s d (carL 2 s d f t fl L)).sp = f ∧ (byP (carP 2) s d (carL 2 s d f t fl L)).er = false := by
      show (icP 20 (icL 8 0 f L)).sp = f ∧ (icP 20 (icL 8 0 f L)).er = false
      unfold icP
      rw [if_pos hB', if_pos (Or.inr (icL_0 8 0 f L).1)]
      exact ⟨icL_4 8 0 f L f0 f1, rfl⟩
    exact ⟨e.1, fun h => absurd h (by decide), e.2⟩
  · have hB' : icE (icL 0 0 f L) = 0 := hB
    have e : (byP (carP 3) s d (carL 3 s d f t fl L)).sp = f ∧ (byP (carP 3) s d (carL 3 s d f t fl L)).er = false := by
      show (icP 20 (icL 0 0 f L)).sp = f ∧ (icP 20 (icL 0 0 f L)).er = false
      unfold icP
      rw [if_pos hB', if_pos (Or.inl (icL_0 0 0 f L).1)]
      exact ⟨icL_4 0 0 f L f0 f1, rfl⟩
    exact ⟨e.1, fun h => absurd h (by decide), e.2⟩
end Go.Proofs.Ytbnlpidhbilenaa

namespace Go.Proofs.Ytbnlpidhbilenaa
open Go.RowKit Plain
set_option linter.unusedVariables false
set_option maxRecDepth 100000

/-- a frame's head was got -/
structure Got (zs : List Int) : Prop where
  sz : 20 ≤ (fld zs).size ∧ (fld zs).size ≤ 60
  ln : (fld zs).size ≤ (fld zs).len ∧ (fld zs).len ≤ 1500 ∧ (fld zs).len ≤ zs.length
  hd : gtH zs = fld zs
  v4 : zs.getD 0 0 / 16 = 4
  sm : Cs (zs.take (fld zs).size.toNat) = 0
  fr : G16 zs 6 % 16384 = 0
theorem got_of (zs : List Int) (hby : By zs) (h : gtE zs = 0) : Got zs := by
  have h' := h
  unfold gtE at h
  split at h
  · rename_i hh; exact absurd h hh
  rename_i a
  split at h
  · omega
  rename_i b
  split at h
  · omega
  rename_i c
  split at h
  · omega
  rename_i d
  have a' : rdE zs 1500 = 0 := by omega
  obtain ⟨r1, r2, r3, r4, r5, r6⟩ := rdE_zero zs 1500 a'
  have hb0 := hby.getD 0
  refine ⟨⟨r3, ?_⟩, ⟨r5, r6, by omega⟩, by unfold gtH; rw [if_pos h'], r2, by omega, by omega⟩
  unfold fld
  simp only
  omega
theorem got_to (zs : List Int) (h : Got zs) : gtE zs = 0 := by
  obtain ⟨⟨s0, s1⟩, ⟨l0, l1, l2⟩, _, v4, sm, fr⟩ := h
  have h1 : rdE zs 1500 = 0 := by
    unfold rdE
    rw [if_neg (by omega), if_neg (by omega), if_neg (by omega), if_neg (by omega), if_neg (by omega), if_neg (by omega)]
  unfold gtE
  rw [if_neg (by omega), if_neg (by omega), if_neg (by omega), if_neg (by omega)]
theorem fld_range {zs : List Int} (h : By zs) : (0 ≤ (fld zs).ttl ∧ (fld zs).ttl ≤ 255) ∧ (0 ≤ (fld zs).proto ∧ (fld zs).proto ≤ 255) ∧ (0 ≤ (fld zs).src ∧ (fld zs).src ≤ 4294967295) ∧ (0 ≤ (fld zs).dst ∧ (fld zs).dst ≤ 4294967295) ∧ (0 ≤ (fld zs).len ∧ (fld zs).len ≤ 65535) := by
  have h1 := h.getD 8
  have h2 := h.getD 9
  have h3 := G32_range zs h 12
  have h4 := G32_range zs h 16
  have h5 := G16_range zs h 2
  unfold fld
  exact ⟨h1, h2, h3, h4, h5⟩
/-- what a got frame carries: the bytes behind its head -/
def bod (zs : List Int) : List Int := bodyOf (fld zs) zs
theorem bod_len (zs : List Int) (h : Got zs) : ((bod zs).length : Int) = (fld zs).len - (fld zs).size := by
  obtain ⟨⟨s0, s1⟩, ⟨l0, l1, l2⟩, _⟩ := h
  unfold bod bodyOf
  rw [List.length_take, List.length_drop]
  omega
theorem bod_by {zs : List Int} (h : By zs) : By (bod zs) := (h.drop _).take _
/-- an error that is got: its inner packet -/
structure GotI (zi : List Int) : Prop where
  sz : 20 ≤ (fld zi).size ∧ (fld zi).size ≤ 60
  ln : (fld zi).size + 8 ≤ (fld zi).len ∧ (fld zi).size + 8 ≤ zi.length
  hd : ptH zi = fld zi
  v4 : zi.getD 0 0 / 16 = 4
  fr : G16 zi 6 % 16384 = 0
  pr : (fld zi).proto = 17 ∨ (fld zi).proto = 6 ∨ ((fld zi).proto = 1 ∧ ((erC zi).getD 0 0 = 0 ∨ (erC zi).getD 0 0 = 8))
theorem gotI_of (zi : List Int) (hby : By zi) (h : erE zi = 0) : GotI zi := by
  unfold erE at h
  split at h
  · rename_i hh; exact absurd h hh
  rename_i a
  have a' : ptE zi = 0 := by omega
  obtain ⟨hr, hp⟩ := ptE_zero zi a'
  obtain ⟨r1, r2, r3, r4, r5, r6⟩ := rdE_zero zi 65535 hr
  have hb0 := hby.getD 0
  have hfr : G16 zi 6 % 16384 = 0 := by
    unfold ptE at a'
    rw [if_neg (by omega)] at a'
    split at a'
    · omega
    · omega
  rw [hp] at h
  split at h
  · omega
  rename_i b
  have hs : (fld zi).size ≤ 60 := by unfold fld; simp only; omega
  refine ⟨⟨r3, hs⟩, ⟨by omega, by omega⟩, hp, r2, hfr, ?_⟩
  split at h
  · rename_i c; omega
  · split at h
    · rename_i c d; exact Or.inr (Or.inr d)
    · omega
theorem gotI_to (zi : List Int) (hby : By zi) (h : GotI zi) : erE zi = 0 := by
  obtain ⟨⟨s0, s1⟩, ⟨l0, l1⟩, hp, v4, fr, pr⟩ := h
  have hl := (fld_range hby).2.2.2.2
  have h1 : rdE zi 65535 = 0 := by
    unfold rdE
    rw [if_neg (by omega), if_neg (by omega), if_neg (by omega), if_neg (by omega), if_neg (by omega), if_neg (by omega)]
  have h2 : ptE zi = 0 := by
    unfold ptE
    rw [if_neg (by omega), if_neg (by omega)]
  unfold erE
  rw [if_neg (by omega), hp, if_neg (by omega)]
  split
  · rfl
  · rename_i c
    rw [if_pos (by
      rcases pr with h | h | h
      · exact absurd (Or.inl h) c
      · exact absurd (Or.inr h) c
      · exact h)]
theorem gotI_hd (zi : List Int) (hby : By zi) (h : GotI zi) : ptH zi = fld zi := h.hd
end Go.Proofs.Ytbnlpidhbilenaa
