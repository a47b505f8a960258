/-
  SpreadBack: what a far end answers, and an error about it. Conditions stand in each theorem.
-/
import Derived.Test.YtbnlpidhbilenaaSp8
import Derived.Test.YtbnlpidhbilenaaLdc
import Derived.Deep.RegionHeld3
import Derived.Deep.CutBlock
namespace Go.Proofs.Ytbnlpidhbilenaa
open Go.RowKit Plain
set_option linter.unusedVariables false
set_option linter.unusedSimpArgs false
set_option maxRecDepth 100000
theorem sSn3 : Sty 80 7 := ⟨⟨_, Try.underlying80, rfl⟩, by unfold Siz; kernel_rfl⟩
theorem worker_known (ws : Int) (h1 : 1 ≤ ws) (h2 : ws ≤ 1000) (out : Bool) (A : Option Addr) (n c : Nat) (zs : List Int) (w : World) (hn : zs.length = n) (hnc : n ≤ c) (hl : n ≤ 100000) (hR : Rd w A zs) (F : Fo) (hE : farE zs = 0) (hFo : farF out zs = F) (hok : F.ok) :
    Calls Try.prog 30 #[.int .i64 ws, .bool out, .slice A n c] w fun e w' => e = .returned (.int .i64 (hF F.pr F.ad F.po % ws)) ∧ Below w.heap.size w w' := by
  have q := worker_any ws (by omega) (by omega) out A n c zs w hn hnc hl hR (by rw [hFo]; exact hok)
  have e : wkF ws out zs = hF F.pr F.ad F.po % ws := by
    unfold wkF
    rw [hE, if_neg (by decide), if_neg (by omega), hFo]
  rw [e] at q
  exact q
/-- the answer that is made lies there -/
def BkR (w0 : World) (ga g3 : Nat) (K : Nat) (s d f t a1 a2 fl : Int) (A : Option Addr) (n c m3 c3 : Nat) (L : List Int) (wx : World) : Prop :=
  ∃ KA fA : Int, (K ≠ 2 → KA = K ∧ fA = t) ∧ (K = 2 → KA = 3 ∧ fA = a2) ∧ Blk wx ga 80 #[.int .i64 KA, .int .u32 d, .int .u32 a1, .int .u16 fA, .int .u16 a2, .int .i64 fl, .slice A n c] ∧ Blk wx w0.heap.size 80 #[.int .i64 (K : Int), .int .u32 s, .int .u32 d, .int .u16 f, .int .u16 t, .int .i64 fl, .slice A n c] ∧ Own wx w0.heap.size (some ⟨g3, 0, none⟩) (20 + m3) c3 L ∧ Below w0.heap.size w0 wx
theorem xor_u32 (a b : Int) : 0 ≤ bits .xor .u32 a b ∧ bits .xor .u32 a b ≤ 4294967295 := by
  have h := bounds_u32 (wf_bits .xor .u32 a b)
  omega
theorem mod7 (N : Nat) (h : N < 7) : wrap64 ((IntKind.u64.wrap (N : Int)).tmod 7) = (N : Int) := by
  rw [IntKind.wrap_u64]
  have e : (N : Int) % 18446744073709551616 = (N : Int) := by omega
  rw [e, Int.tmod_eq_emod_of_nonneg (by omega)]
  unfold wrap64; omega
theorem own_ne2 {w : World} {base g ga n c : Nat} {zs : List Int} {t : TypeId} {cs : Array Value} {u v : Value} (h : Own w base (some ⟨g, 0, none⟩) n c zs) (hb : Blk w ga t cs) (hne : t ≠ 5) : Own ((w.setCell ⟨ga, 0, none⟩ u).setCell ⟨ga, 3, none⟩ v) base (some ⟨g, 0, none⟩) n c zs := by
  have hg : (Value.slice (some ⟨g, 0, none⟩) n c).ownBlock ≠ some ga := fun e1 => by
    rcases h.row.2 with ⟨q, _⟩ | ⟨g', cap, cur, q, _, hh, _⟩
    · cases q
    · injection q with q1 q2 q3
      injection q1 with q1
      injection q1 with q1
      injection e1 with e1
      have e2 : g = ga := e1
      unfold Blk at hb
      rw [← q1, e2, hb] at hh
      injection hh with hh
      injection hh with _ hh
      exact hne hh
  exact ⟨h.len, h.byt, ((h.row.kept (grown_setCell w ga 0 u) (.inr hg)).kept (grown_setCell _ ga 3 v) (.inr hg))⟩
set_option maxHeartbeats 8000000 in
theorem spreadBack_walk (x : Sn) (a1 a2 : Int) (w : World) (ok : x.ok w) (a10 : 0 ≤ a1) (a11 : a1 ≤ 4294967295) (a20 : 0 ≤ a2) (a21 : a2 ≤ 65535) (HTells : ∀ W, Calls Try.prog 32 #[] W fun e w' => e = .returned (.bool true) ∧ Below W.heap.size W w') :
    Calls Try.prog 7 #[x.val, .int .u32 a1, .int .u16 a2] w fun e w' => e = .returned (.bool true) ∧ Below w.heap.size w w' := by
  obtain ⟨K, hK, hK3⟩ := pickN x.what 3 (by omega) (by omega)
  obtain ⟨J, hJ, hJ64⟩ := pickN x.fl 64 (by omega) (by omega)
  obtain ⟨what, s, d, f, t, fl, A, n, c, ys⟩ := x
  simp only at hK hJ
  have hk3 : K < 3 := by omega
  have HOk := Lib.hid (show ∀ (k s' d' f' t' : Int) W, Below w.heap.size w W → 0 ≤ s' ∧ s' ≤ 4294967295 → 0 ≤ d' ∧ d' ≤ 4294967295 → 0 ≤ f' ∧ f' ≤ 65535 → 0 ≤ t' ∧ t' ≤ 65535 → (Sn.mk k s' d' f' t' fl A n c ys).ok W from
    fun k s' d' f' t' W hW h1 h2 h3 h4 => ⟨h1.1, h1.2, h2.1, h2.2, h3.1, h3.2, h4.1, h4.2, ok.len, ok.cap, ok.max, ok.rd.below hW⟩)
  have hs := And.intro ok.s0 ok.s1
  have hd := And.intro ok.d0 ok.d1
  have hf := And.intro ok.f0 ok.f1
  have ht := And.intro ok.t0 ok.t1
  simp only at hs hd hf ht
  have HT := Lib.hid HTells
  clear ok HTells
  rw [show (Sn.mk what s d f t fl A n c ys).val = .agg #[.int .i64 what, .int .u32 s, .int .u32 d, .int .u16 f, .int .u16 t, .int .i64 fl, .slice A n c] from rfl]
  have HB0 := Lib.hid (ball w (.cells #[.int .i64 what, .int .u32 s, .int .u32 d, .int .u16 f, .int .u16 t, .int .i64 fl, .slice A n c] 80))
  have hb0 := Blk.new w 80 #[.int .i64 what, .int .u32 s, .int .u32 d, .int .u16 f, .int .u16 t, .int .i64 fl, .slice A n c]
  obtain ⟨w1, hw1⟩ : ∃ w1, w1 = w.alloc (.cells #[.int .i64 what, .int .u32 s, .int .u32 d, .int .u16 f, .int .u16 t, .int .i64 fl, .slice A n c] 80) := ⟨_, rfl⟩
  rw [← hw1] at HB0 hb0
  have HW := Lib.hid hw1
  have q0 : w1.cell? ⟨w.heap.size, 0, none⟩ = some (.int .i64 what) := hb0.cell 0
  have g0 := Blk.frozen hb0 0
  have HX1 := Lib.hid hb0
  clear hw1 hb0
  go_enter Try.func7, Try.ntmps7
  go_upto_region 1 with fail
  rw [← HW.out]
  go_upto_region 2 with fail
  have HX2 := Lib.hid (show Blk (w1.setCell ⟨w.heap.size, 0, none⟩ (.int .i64 K)) w.heap.size 80 #[.int .i64 (K : Int), .int .u32 s, .int .u32 d, .int .u16 f, .int .u16 t, .int .i64 fl, .slice A n c] from HX1.out.set 0 (.int .i64 K))
  have HB2 := Lib.hid (HB0.out.setCell (p := ⟨w.heap.size, 0, none⟩) (Nat.le_refl _) (.int .i64 K))
  clear q0 g0
  generalize w1.setCell ⟨w.heap.size, 0, none⟩ (.int .i64 K) = w2 at *
  have q5 : w2.cell? ⟨w.heap.size, 5, none⟩ = some (.int .i64 fl) := HX2.out.cell 5
  go_upto_region 3 with fail
  have e7 : wrap64 ((IntKind.u64.wrap (K : Int)).tmod 7) = (K : Int) := by
    rw [IntKind.wrap_u64]
    have e : (K : Int) % 18446744073709551616 = (K : Int) := by omega
    rw [e, Int.tmod_eq_emod_of_nonneg (by omega)]
    unfold wrap64; omega
  have HE7 := Lib.hid e7
  clear e7 q5
  have HF1 := Lib.hid (frame_any ⟨K, s, d, f, t, fl, A, n, c, ys⟩ K (by omega) w2 (HOk.out K s d f t w2 HB2.out hs hd hf ht) HE7.out)
  rw [show (Sn.mk K s d f t fl A n c ys).val = .agg #[.int .i64 (K : Int), .int .u32 s, .int .u32 d, .int .u16 f, .int .u16 t, .int .i64 fl, .slice A n c] from rfl] at HF1
  go_upto_region 4 with (first | ((with_reducible refine gd_ldt 80 3 ?_); refine wpList_ldw (by rfl) 80 (.tmp 3) rfl _ rfl _ (Blk.at HX2.out) sSn3 ?_) | (go_at_call 36; refine (HF1.out).mono ?_; rintro e w3 ⟨g3, m3, c3, rfl, hm3, hm100, ho3, hb3⟩; have HM3 := Lib.hid hm3; clear hm3))
  have hs3 : w2.heap.size ≤ w3.heap.size := hb3.size
  have hl2 := HX2.out.lt
  have HX3 := Lib.hid (HX2.out.below hb3)
  have HB3 := Lib.hid (bthen HB2.out hb3)
  have HO3 := Lib.hid ho3
  clear hb3 ho3 HF1
  have q0 : w3.cell? ⟨w.heap.size, 0, none⟩ = some (.int .i64 K) := HX3.out.cell 0
  have q2 : w3.cell? ⟨w.heap.size, 2, none⟩ = some (.int .u32 d) := HX3.out.cell 2
  have q4 : w3.cell? ⟨w.heap.size, 4, none⟩ = some (.int .u16 t) := HX3.out.cell 4
  have q5 : w3.cell? ⟨w.heap.size, 5, none⟩ = some (.int .i64 fl) := HX3.out.cell 5
  have q6 : w3.cell? ⟨w.heap.size, 6, none⟩ = some (.slice A n c) := HX3.out.cell 6
  go_upto_region 5 with fail
  have hal := ball w3 (.cells #[.int .i64 (K : Int), .int .u32 d, .int .u32 a1, .int .u16 t, .int .u16 a2, .int .i64 fl, .slice A n c] 80)
  have hba := Blk.new w3 80 #[.int .i64 (K : Int), .int .u32 d, .int .u32 a1, .int .u16 t, .int .u16 a2, .int .i64 fl, .slice A n c]
  have HX4 := Lib.hid (HX3.out.below hal)
  have HB4 := Lib.hid (bthen HB3.out hal)
  have HO4 := Lib.hid ((HO3.out.mono HB2.out.size).below hal)
  have hga : w2.heap.size ≤ w3.heap.size := hs3
  generalize w3.heap.size = ga at *
  have hgs : ga ≠ w.heap.size := by omega
  generalize w3.alloc (.cells #[.int .i64 (K : Int), .int .u32 d, .int .u32 a1, .int .u16 t, .int .u16 a2, .int .i64 fl, .slice A n c] 80) = w4 at *
  have HXA := Lib.hid hba
  have z0 : w4.cell? ⟨w.heap.size, 0, none⟩ = some (.int .i64 K) := HX4.out.cell 0
  clear hal hba q0 q2 q4 q5 q6 HX3 HB3 HO3 HX1 HX2 HB0 HW
  go_upto_if 43 with fail
  go_cut [9] (fun s9 wx => s9 = .pointer (some ⟨ga, 0, none⟩) ∧ BkR w ga g3 K s d f t a1 a2 fl A n c m3 c3 (frL ⟨K, s, d, f, t, fl, A, n, c, ys⟩ K) wx)
  case first =>
    by_cases h2 : K = 2
    · subst h2
      have y0 : w4.cell? ⟨ga, 0, none⟩ = some (.int .i64 2) := HXA.out.cell 0
      have y3 : w4.cell? ⟨ga, 3, none⟩ = some (.int .u16 t) := HXA.out.cell 3
      have y30 : (w4.setCell ⟨ga, 0, none⟩ (.int .i64 3)).cell? ⟨ga, 3, none⟩ = some (.int .u16 t) := (HXA.out.set 0 (.int .i64 3)).cell 3
      have f0 := Blk.frozen HXA.out 0
      have f3 := Blk.frozen HXA.out 3
      have HR := Lib.hid (show BkR w ga g3 2 s d f t a1 a2 fl A n c m3 c3 (frL ⟨(2 : Nat), s, d, f, t, fl, A, n, c, ys⟩ 2) ((w4.setCell ⟨ga, 0, none⟩ (.int .i64 3)).setCell ⟨ga, 3, none⟩ (.int .u16 a2)) from
        ⟨3, a2, fun h => absurd rfl h, fun _ => ⟨rfl, rfl⟩, (HXA.out.set 0 (.int .i64 3)).set 3 (.int .u16 a2), (HX4.out.ne (p := ⟨ga, 0, none⟩) hgs (.int .i64 3)).ne (p := ⟨ga, 3, none⟩) hgs (.int .u16 a2),
          own_ne2 HO4.out HXA.out (by decide), (HB4.out.setCell (p := ⟨ga, 0, none⟩) (by show w.heap.size ≤ ga; omega) (.int .i64 3)).setCell (p := ⟨ga, 3, none⟩) (by show w.heap.size ≤ ga; omega) (.int .u16 a2)⟩)
      go_wp2
      go_meet
      exact ⟨rfl, HR.out⟩
    · have b2 : ((K : Int) == 2) = false := by simp; omega
      have HR := Lib.hid (show BkR w ga g3 K s d f t a1 a2 fl A n c m3 c3 (frL ⟨K, s, d, f, t, fl, A, n, c, ys⟩ K) w4 from
        ⟨K, t, fun _ => ⟨rfl, rfl⟩, fun h => absurd h h2, HXA.out, HX4.out, HO4.out, HB4.out⟩)
      clear h2
      go_wp2
      go_meet
      exact ⟨rfl, HR.out⟩
  case rest =>
  obtain ⟨rfl, hR⟩ := hcut
  obtain ⟨KA, fA, hn2, h2, hba, hx, ho, hb⟩ := hR
  have HBA := Lib.hid hba
  have HX := Lib.hid hx
  have HO := Lib.hid ho
  have HB := Lib.hid hb
  have HN2 := Lib.hid hn2
  have H2 := Lib.hid h2
  clear z0 HXA HX4 HB4 HO4 hn2 h2
  have q0 : wc.cell? ⟨w.heap.size, 0, none⟩ = some (.int .i64 K) := hx.cell 0
  have q2 : wc.cell? ⟨w.heap.size, 2, none⟩ = some (.int .u32 d) := hx.cell 2
  have q4 : wc.cell? ⟨w.heap.size, 4, none⟩ = some (.int .u16 t) := hx.cell 4
  have q5 : wc.cell? ⟨w.heap.size, 5, none⟩ = some (.int .i64 fl) := hx.cell 5
  have q6 : wc.cell? ⟨w.heap.size, 6, none⟩ = some (.slice A n c) := hx.cell 6
  have HF7 := Lib.hid (frame_any ⟨K, a1, d, a2, t, fl, A, n, c, ys⟩ K (by omega) wc (HOk.out K a1 d a2 t wc hb ⟨a10, a11⟩ hd ⟨a20, a21⟩ ht) HE7.out)
  rw [show (Sn.mk (K : Int) a1 d a2 t fl A n c ys).val = .agg #[.int .i64 (K : Int), .int .u32 a1, .int .u32 d, .int .u16 a2, .int .u16 t, .int .i64 fl, .slice A n c] from rfl] at HF7
  clear hba hx ho hb
  go_upto_region 8 with (go_at_call 36; refine (HF7.out).mono ?_; rintro e w7 ⟨g7, m7, c7, rfl, hm7, hm71, ho7, hb7⟩; have HM7 := Lib.hid hm7; clear hm7)
  have HX7 := Lib.hid (HX.out.below hb7)
  have HBA7 := Lib.hid (HBA.out.below hb7)
  have HO37 := Lib.hid (HO.out.below hb7)
  have HB7 := Lib.hid (bthen HB.out hb7)
  have HO7 := Lib.hid (ho7.mono HB.out.size)
  have hc7 := ho7.cap
  have hlt7 : w.heap.size < w7.heap.size := (HX.out.below hb7).lt
  clear hb7 ho7 q0 q2 q4 q5 q6 HF7 HX HBA HO HB
  have r2 : ∀ W, Below w7.heap.size w7 W → W.cell? ⟨w.heap.size, 2, none⟩ = some (.int .u32 d) := fun W h => (HX7.out.below h).cell 2
  have S0 : Below w7.heap.size w7 w7 := Below.refl _ _
  obtain ⟨dx, hdx⟩ : ∃ dx, dx = bits .xor .u32 d 1 := ⟨_, rfl⟩
  have hdx0 : 0 ≤ dx ∧ dx ≤ 4294967295 := by rw [hdx]; exact xor_u32 d 1
  have hdx' : bits .xor .u32 d 1 = dx := hdx.symm
  clear hdx
  have h28 : 28 ≤ 20 + m7 := by
    have e := HM7.out
    have h2 : 8 ≤ (carL K a1 d a2 t fl (ys.take 40)).length := by
      obtain rfl | rfl | rfl : K = 0 ∨ K = 1 ∨ K = 2 := by omega
      · show 8 ≤ (udL _ _ _ _ _).length; rw [udL_len]; omega
      · show 8 ≤ (tcL _ _ _ _ _ _).length; rw [tcL_len]; omega
      · show 8 ≤ (icL _ _ _ _).length; rw [icL_len]; omega
    have e : m7 = (carL K a1 d a2 t fl (ys.take 40)).length := e
    omega
  have h120 : 20 + m7 ≤ 120 := by omega
  have HLen := Lib.hid HO7.out.len
  have HRd := Lib.hid HO7.out.rd
  clear HM7 hm71
  generalize 20 + m7 = n7 at *
  have k1 : (0 : Int) ≤ (n7 : Int) := by omega
  have k2 : (n7 : Int) ≤ (c7 : Int) := by omega
  have k3 : (0 : Int) ≤ (60 : Int) := by omega
  go_cut [11, 12] (fun s11 s12 wx => ∃ (g9 N9 c9 : Nat) (L9 : List Int), s11 = .slice (some ⟨g9, 0, none⟩) N9 c9 ∧ s12 = .bool true ∧ N9 ≤ 1000 ∧ Own wx w.heap.size (some ⟨g9, 0, none⟩) N9 c9 L9 ∧ Below w7.heap.size w7 wx ∧ farE L9 = 0 ∧ farF false L9 = ⟨carP K, d, if 2 ≤ K then 0 else t⟩)
  case first =>
    by_cases h60 : n7 ≤ 60
    · have m1 : (if (60 : Int) < (n7 : Int) then (60 : Int) else (n7 : Int)) = (n7 : Int) := if_neg (by omega)
      go_region_held3 (fun W => Below w7.heap.size w7 W)
        (first | (with_reducible exact Below.drew S0) | (with_reducible exact bthen (by assumption) (by assumption)) | (with_reducible assumption))
        (first
          | (go_at_call 38; refine (rfault_any 3 1 (some ⟨g7, 0, none⟩) n7 c7 _ _ HLen.out hc7 (by omega) (HRd.out.below (by assumption))).mono ?_; rintro e w8 ⟨g8, m8, c8, rfl, hm8, ho8, hb8⟩; have HM8 := Lib.hid hm8; clear hm8)
          | (go_at_call 37; refine (rput_yes 0 0 64 1 dx a1 (some ⟨g8, 0, none⟩) (8 + m8) c8 _ _ (by have := HM8.out; omega) ho8.len ho8.rd (by omega) (by omega) (by omega) (by omega) hdx0.1 hdx0.2 a10 a11).mono ?_; rintro e w9 ⟨g9, c9, rfl, ho9, hb9⟩))
      have HF9 := Lib.hid (far_about ⟨K, a1, d, a2, t, fl, A, n, c, ys⟩ K hk3 w7 (HOk.out K a1 d a2 t w7 HB7.out ⟨a10, a11⟩ hd ⟨a20, a21⟩ ht) dx hdx0.1 hdx0.2 1400 (by omega) (by omega))
      have HO9 := Lib.hid (show Own w9 w.heap.size (some ⟨g9, 0, none⟩) (20 + (8 + m8)) c9 (frm 64 1 dx a1 (icL 3 1 0 ((frL ⟨K, a1, d, a2, t, fl, A, n, c, ys⟩ K).take 1400))) from ho9.mono (by have h1 := HB7.out.size; have h2 := hb8.size; exact Nat.le_trans h1 h2))
      have HB9 := Lib.hid (show Below w7.heap.size w7 w9 by assumption)
      have HM9 := Lib.hid (show 20 + (8 + m8) ≤ 1000 by have := HM8.out; omega)
      go_wp2
      go_meet
      exact ⟨g9, _, c9, _, rfl, rfl, HM9.out, HO9.out, HB9.out, HF9.out.1, HF9.out.2⟩
    · have m1 : (if (60 : Int) < (n7 : Int) then (60 : Int) else (n7 : Int)) = 60 := if_pos (by omega)
      have k4 : (60 : Int) ≤ (c7 : Int) := by omega
      have k5 : 60 ≤ c7 := by omega
      go_region_held3 (fun W => Below w7.heap.size w7 W)
        (first | (with_reducible exact Below.drew S0) | (with_reducible exact bthen (by assumption) (by assumption)) | (with_reducible assumption))
        (first
          | (go_at_call 38; refine (rfault_any 3 1 (some ⟨g7, 0, none⟩) 60 c7 ((frL ⟨K, a1, d, a2, t, fl, A, n, c, ys⟩ K).take 60) _ (by rw [List.length_take, HLen.out]; omega) k5 (by omega) ((HRd.out.take 60).below (by assumption))).mono ?_; rintro e w8 ⟨g8, m8, c8, rfl, hm8, ho8, hb8⟩; have HM8 := Lib.hid hm8; clear hm8)
          | (go_at_call 37; refine (rput_yes 0 0 64 1 dx a1 (some ⟨g8, 0, none⟩) (8 + m8) c8 _ _ (by have := HM8.out; omega) ho8.len ho8.rd (by omega) (by omega) (by omega) (by omega) hdx0.1 hdx0.2 a10 a11).mono ?_; rintro e w9 ⟨g9, c9, rfl, ho9, hb9⟩))
      have HF9 := Lib.hid (far_about ⟨K, a1, d, a2, t, fl, A, n, c, ys⟩ K hk3 w7 (HOk.out K a1 d a2 t w7 HB7.out ⟨a10, a11⟩ hd ⟨a20, a21⟩ ht) dx hdx0.1 hdx0.2 60 (by omega) (by omega))
      have ht60 : ((frL ⟨K, a1, d, a2, t, fl, A, n, c, ys⟩ K).take 60).take 1400 = (frL ⟨K, a1, d, a2, t, fl, A, n, c, ys⟩ K).take 60 := by rw [List.take_take]; congr 1
      have HO9 := Lib.hid (show Own w9 w.heap.size (some ⟨g9, 0, none⟩) (20 + (8 + m8)) c9 (frm 64 1 dx a1 (icL 3 1 0 (((frL ⟨K, a1, d, a2, t, fl, A, n, c, ys⟩ K).take 60).take 1400))) from ho9.mono (by have h1 := HB7.out.size; have h2 := hb8.size; exact Nat.le_trans h1 h2))
      have HO9 := Lib.hid (show Own w9 w.heap.size (some ⟨g9, 0, none⟩) (20 + (8 + m8)) c9 (frm 64 1 dx a1 (icL 3 1 0 ((frL ⟨K, a1, d, a2, t, fl, A, n, c, ys⟩ K).take 60))) by have := HO9.out; rw [ht60] at this; exact this)
      have HB9 := Lib.hid (show Below w7.heap.size w7 w9 by assumption)
      have HM9 := Lib.hid (show 20 + (8 + m8) ≤ 1000 by have := HM8.out; omega)
      clear ht60
      go_wp2
      go_meet
      exact ⟨g9, _, c9, _, rfl, rfl, HM9.out, HO9.out, HB9.out, HF9.out.1, HF9.out.2⟩
  case rest =>
  obtain ⟨g9, N9, c9, L9, rfl, rfl, hN9, ho9, hb9, hE9, hF9⟩ := hcut
  have HRf := Lib.hid ((HO37.out.below hb9).rd)
  have HRl := Lib.hid ((HO37.out.below hb9).len)
  have HRc := Lib.hid ((HO37.out.below hb9).cap)
  have HR9 := Lib.hid ho9.rd
  have HL9 := Lib.hid ho9.len
  have HC9 := Lib.hid ho9.cap
  have HA9 := Lib.hid (HBA7.out.below hb9)
  have HBB := Lib.hid (bthen HB7.out hb9)
  have hlA := HA9.out.lt
  have HM3' := Lib.hid (show 20 + m3 ≤ 1000 by omega)
  obtain ⟨KN, hKN, hKN4, hKc, hK2, hfa⟩ : ∃ KN : Nat, KA = (KN : Int) ∧ KN < 4 ∧ carP KN = carP K ∧ (2 ≤ KN ↔ 2 ≤ K) ∧ (¬ 2 ≤ K → fA = t) ∧ (0 ≤ fA ∧ fA ≤ 65535) := by
    by_cases h : K = 2
    · have q := H2.out h
      subst h
      exact ⟨3, q.1, by omega, rfl, by omega, fun h => absurd (Nat.le_refl 2) h, by rw [q.2]; exact ⟨a20, a21⟩⟩
    · have q := HN2.out h
      exact ⟨K, q.1, by omega, rfl, Iff.rfl, fun _ => q.2, by rw [q.2]; exact ht⟩
  subst hKN
  have hFo : (⟨carP K, d, if 2 ≤ K then 0 else t⟩ : Fo).ok := ⟨hd.1, hd.2, by show 0 ≤ (if 2 ≤ K then (0 : Int) else t); split <;> omega, by show (if 2 ≤ K then (0 : Int) else t) ≤ 65535; split <;> omega⟩
  obtain ⟨F, hFF⟩ : ∃ F : Fo, F = ⟨carP K, d, if 2 ≤ K then 0 else t⟩ := ⟨_, rfl⟩
  rw [← hFF] at hFo hF9
  have f1 := far_low ⟨K, s, d, f, t, fl, A, n, c, ys⟩ K (by omega) w2 (HOk.out K s d f t w2 HB2.out hs hd hf ht) true
  have f2 := far_low ⟨KN, d, a1, fA, a2, fl, A, n, c, ys⟩ KN hKN4 w2 (HOk.out KN d a1 fA a2 w2 HB2.out hd ⟨a10, a11⟩ hfa.2 ⟨a20, a21⟩) false
  have f1' : farF true (frL ⟨K, s, d, f, t, fl, A, n, c, ys⟩ K) = F := by rw [f1.2, hFF]; rfl
  have f2' : farF false (frL ⟨KN, d, a1, fA, a2, fl, A, n, c, ys⟩ KN) = F := by
    rw [f2.2, hFF, hKc]
    by_cases h : 2 ≤ K
    · have h' : 2 ≤ KN := hK2.2 h
      simp [h, h']
    · have h' : ¬ 2 ≤ KN := fun q => h (hK2.1 q)
      have := hfa.1 h
      simp [h, h', this]
  obtain ⟨kv, hkv⟩ : ∃ kv, kv = hF F.pr F.ad F.po % (1 + (J : Int)) := ⟨_, rfl⟩
  have hk0 : 0 ≤ kv := by rw [hkv]; exact Int.emod_nonneg _ (by omega)
  have hk1 : kv < 1 + (J : Int) := by rw [hkv]; exact Int.emod_lt_of_pos _ (by omega)
  have HW1 := Lib.hid (show ∀ W, Below wc.heap.size wc W → Calls Try.prog 30 #[.int .i64 (1 + (J : Int)), .bool true, .slice (some ⟨g3, 0, none⟩) (20 + m3) c3] W (fun e w' => e = .returned (.int .i64 kv) ∧ Below W.heap.size W w') from fun W hW => by
    rw [hkv]
    exact worker_known _ (by omega) (by omega) true _ _ _ _ W HRl.out HRc.out (by have := HM3'.out; omega) (HRf.out.below hW) F f1.1 f1' hFo)
  have HW3 := Lib.hid (show ∀ W, Below wc.heap.size wc W → Calls Try.prog 30 #[.int .i64 (1 + (J : Int)), .bool false, .slice (some ⟨g9, 0, none⟩) N9 c9] W (fun e w' => e = .returned (.int .i64 kv) ∧ Below W.heap.size W w') from fun W hW => by
    rw [hkv]
    exact worker_known _ (by omega) (by omega) false _ _ _ _ W HL9.out HC9.out (by omega) (HR9.out.below hW) F hE9 hF9 hFo)
  have HW2 := Lib.hid (show ∀ (W : World) (g n2 c2 : Nat), (frL ⟨KN, d, a1, fA, a2, fl, A, n, c, ys⟩ KN).length = n2 → n2 ≤ c2 → n2 ≤ 1000 → Rd W (some ⟨g, 0, none⟩) (frL ⟨KN, d, a1, fA, a2, fl, A, n, c, ys⟩ KN) → Calls Try.prog 30 #[.int .i64 (1 + (J : Int)), .bool false, .slice (some ⟨g, 0, none⟩) n2 c2] W (fun e w' => e = .returned (.int .i64 kv) ∧ Below W.heap.size W w') from fun W g n2 c2 h1 h2 h3 h4 => by
    rw [hkv]
    exact worker_known _ (by omega) (by omega) false _ _ _ _ W h1 h2 (by omega) h4 F f2.1 f2' hFo)
  have HFA := Lib.hid (show ∀ W, Below wc.heap.size wc W → Calls Try.prog 36 #[.agg #[.int .i64 (KN : Int), .int .u32 d, .int .u32 a1, .int .u16 fA, .int .u16 a2, .int .i64 fl, .slice A n c]] W (FrameOk ⟨KN, d, a1, fA, a2, fl, A, n, c, ys⟩ KN W) from fun W hW =>
    frame_any ⟨KN, d, a1, fA, a2, fl, A, n, c, ys⟩ KN (by omega) W (HOk.out KN d a1 fA a2 W (bthen HBB.out hW) hd ⟨a10, a11⟩ hfa.2 ⟨a20, a21⟩) (mod7 KN (by omega)))
  have hBc : Below wc.heap.size wc wc := Below.refl _ _
  have HFin := Lib.hid (show ∀ W, Below wc.heap.size wc W → Below w.heap.size w W from fun W h => bthen HBB.out h)
  have d1 : decide (0 ≤ kv) = true := decide_eq_true hk0
  have d2 : decide (kv < 1 + (J : Int)) = true := decide_eq_true hk1
  clear f1 f2 f1' f2' hFF hFo hkv hE9 hF9 ho9 hb9 r2 S0 hKc hK2 hdx' HX7 HBA7 HO37 HO7 HB7 HRd HLen
  go_upto_region 10 with (go_at_call 30; refine (HW1.out _ hBc).mono ?_; rintro e w10 ⟨rfl, hx⟩; have hBc := bthen hBc hx; clear hx)
  go_wp2_with (first
    | ((with_reducible refine gd_ldt 80 9 ?_); refine wpList_ldw (by rfl) 80 (.tmp 9) rfl _ rfl _ (Blk.at (HA9.out.below hBc)) sSn3 ?_)
    | (go_at_call 32; refine (HT.out _).mono ?_; rintro e w11 ⟨rfl, hx⟩; have hBc := bthen hBc hx; clear hx)
    | (go_at_call 36; refine (HFA.out _ hBc).mono ?_; rintro e w12 ⟨g12, m12, c12, rfl, hm12, hm121, ho12, hx⟩; have hBc := bthen hBc hx; have HCA := Lib.hid (HW2.out _ g12 (20 + m12) c12 ho12.len ho12.cap (by omega) ho12.rd); clear hx ho12 hm12)
    | (go_at_call 30; first | ((with_reducible refine (HW3.out _ hBc).mono ?_); rintro e w13 ⟨rfl, hx⟩; have hBc := bthen hBc hx; clear hx) | ((with_reducible refine (HCA.out).mono ?_); rintro e w14 ⟨rfl, hx⟩; have hBc := bthen hBc hx; clear hx)))
  go_ret
  exact ⟨rfl, HFin.out _ hBc⟩
end Go.Proofs.Ytbnlpidhbilenaa
