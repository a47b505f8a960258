/-
  Several small texts in one: Frm, Sent, Frame, Turned. Conditions stand in each theorem.
-/
import Derived.Test.YtdkjipfemnfckaaGJ
import Derived.Test.YtdkjipfemnfckaaGG
import Derived.Test.YtdkjipfemnfckaaGH
import Derived.Test.YtdkjipfemnfckaaGF
namespace Go.Proofs.Ytdkjipfemnfckaa
open Go.RowKit Plain
set_option linter.unusedVariables false
set_option linter.unusedSimpArgs false
set_option maxRecDepth 100000

theorem frm_got (t p s d : Int) (ys ms : List Int) (hl : ys.length ≤ 1480) (hy : By ys) (t0 : 0 ≤ t) (t1 : t ≤ 255) (p0 : 0 ≤ p) (p1 : p ≤ 255) (s0 : 0 ≤ s) (s1 : s ≤ 4294967295) (d0 : 0 ≤ d) (d1 : d ≤ 4294967295) :
    gtE (frm t p s d ys ++ ms) = 0 ∧ gtH (frm t p s d ys ++ ms) = ⟨20, 20 + (ys.length : Int), t, p, s, d⟩ := by
  obtain ⟨hb, hm⟩ := frm_by t p s d ys hy hl t0 t1 p0 p1 s0 s1 d0 d1
  have hlen : (frm t p s d ys ++ ms).length = 20 + ys.length + ms.length := by rw [List.length_append, frm_len]
  have e16 : ∀ i, i + 1 < 20 → G16 (frm t p s d ys ++ ms) i = G16 (hb1 t p s d (20 + (ys.length : Int))) i := fun i hi => by
    unfold G16 frm
    simp only [List.getD]
    rw [List.append_assoc, List.getElem?_append_left (by rw [hb1_len]; omega), List.getElem?_append_left (by rw [hb1_len]; omega)]
  have e1 : ∀ i, i < 20 → (frm t p s d ys ++ ms).getD i 0 = (hb1 t p s d (20 + (ys.length : Int))).getD i 0 := fun i hi => by
    unfold frm
    simp only [List.getD]
    rw [List.append_assoc, List.getElem?_append_left (by rw [hb1_len]; omega)]
  have hfl : fld (frm t p s d ys ++ ms) = ⟨20, 20 + (ys.length : Int), t, p, s, d⟩ := by
    unfold fld G32
    rw [e1 0 (by omega), e1 8 (by omega), e1 9 (by omega), e16 2 (by omega), e16 12 (by omega), e16 14 (by omega), e16 16 (by omega), e16 18 (by omega)]
    show Hd.mk (69 % 16 * 4) ((20 + (ys.length : Int)) / 256 * 256 + (20 + (ys.length : Int)) % 256) t p ((s / 65536 / 256 * 256 + s / 65536 % 256) * 65536 + (s % 65536 / 256 * 256 + s % 65536 % 256)) ((d / 65536 / 256 * 256 + d / 65536 % 256) * 65536 + (d % 65536 / 256 * 256 + d % 65536 % 256)) = _
    congr 1 <;> omega
  have hr : rdE (frm t p s d ys ++ ms) 1500 = 0 := by
    unfold rdE
    rw [if_neg (by omega), e1 0 (by omega), if_neg (by show ¬ ((69 : Int) / 16 ≠ 4); decide), hfl]
    rw [if_neg (by show ¬ ((20 : Int) < 20); decide), if_neg (by rw [hlen]; show ¬ ((_ : Int) < 20); omega), if_neg (by show ¬ ((20 + (ys.length : Int)) < 20); omega), if_neg (by show ¬ (1500 < (20 + (ys.length : Int))); omega)]
  have htk : (frm t p s d ys ++ ms).take 20 = hb1 t p s d (20 + (ys.length : Int)) := by
    unfold frm
    rw [List.append_assoc, List.take_append_of_le_length (by rw [hb1_len]; omega), List.take_of_length_le (by rw [hb1_len]; omega)]
  have hcs : Cs (hb1 t p s d (20 + (ys.length : Int))) = 0 := by
    have h0 := tot_nonneg _ hb
    have hF := F_mod _ h0
    have hr2 := F_range _ h0
    have hz : F (tot (hb1 t p s d (20 + (ys.length : Int)))) ≠ 0 := fun e => by
      have hz := F_zero _ h0 e
      have hp : 17664 ≤ tot (hb1 t p s d (20 + (ys.length : Int))) := by
        have h2 : tot (hb1 t p s d (20 + (ys.length : Int))) = 69 * 256 + 0 + tot ((hb1 t p s d (20 + (ys.length : Int))).drop 2) := rfl
        have h3 := tot_nonneg _ (hb.drop 2)
        omega
      omega
    unfold Cs
    omega
  have hpc : G16 (frm t p s d ys ++ ms) 6 % 16384 = 0 := by
    rw [e16 6 (by omega)]; show ((64 : Int) * 256 + 0) % 16384 = 0; decide
  have he : gtE (frm t p s d ys ++ ms) = 0 := by
    unfold gtE
    rw [hr, if_neg (by decide), hfl, if_neg (by rw [hlen]; show ¬ ((_ : Int) < 20 + (ys.length : Int)); omega)]
    rw [show (Hd.mk 20 (20 + (ys.length : Int)) t p s d).size.toNat = 20 from rfl, htk, hcs, if_neg (by decide), hpc, if_neg (by decide)]
  exact ⟨he, by unfold gtH; rw [he, if_pos rfl, hfl]⟩


theorem set_app (a b : List Int) (j : Nat) (y : Int) : (a ++ b).set (a.length + j) y = a ++ b.set j y := by
  rw [List.set_append_right _ _ (by omega)]; congr 2; omega
theorem frm_set (t p s d : Int) (ys : List Int) (j : Nat) (y : Int) : (frm t p s d ys).set (20 + j) y = frm t p s d (ys.set j y) := by
  unfold frm
  rw [List.length_set]
  have := set_app (hb1 t p s d (20 + (ys.length : Int))) ys j y
  rw [hb1_len] at this
  exact this
theorem frm_P16 (t p s d : Int) (ys : List Int) (j : Nat) (v : Int) : P16 (frm t p s d ys) (20 + j) v = frm t p s d (P16 ys j v) := by
  unfold P16
  rw [frm_set, show 20 + j + 1 = 20 + (j + 1) by omega, frm_set]
theorem frm_getD (t p s d : Int) (ys : List Int) (j : Nat) : (frm t p s d ys).getD (20 + j) 0 = ys.getD j 0 := by
  unfold frm
  simp only [List.getD]
  rw [List.getElem?_append_right (by rw [hb1_len]; omega), hb1_len]
  congr 2
  omega
theorem frm_body (t p s d a b c e : Int) (ys : List Int) (n : Nat) (hn : ys.length = n) : bodyOf ⟨20, 20 + (n : Int), a, b, c, e⟩ (frm t p s d ys) = ys := by
  unfold bodyOf
  rw [show ((⟨20, 20 + (n : Int), a, b, c, e⟩ : Hd).size).toNat = 20 from rfl]
  rw [show ((⟨20, 20 + (n : Int), a, b, c, e⟩ : Hd).len - (⟨20, 20 + (n : Int), a, b, c, e⟩ : Hd).size).toNat = n by show (20 + (n : Int) - 20).toNat = n; omega]
  unfold frm
  rw [List.drop_append_of_le_length (by rw [hb1_len]; omega), List.drop_of_length_le (by rw [hb1_len]; omega), List.nil_append, List.take_of_length_le (by omega)]
/-- what part.Get tells of a frame, by what it carries -/
theorem frm_pg (t p s d : Int) (ys : List Int) (n : Nat) (hn : ys.length = n) (a c e : Int) (pr : Int) :
    pgE ⟨20, 20 + (n : Int), a, pr, c, e⟩ (frm t p s d ys) = (if pr = 17 then udE c e ys else if pr = 6 then tcE c e ys else if pr = 1 then icE ys else 6) ∧
    pgP ⟨20, 20 + (n : Int), a, pr, c, e⟩ (frm t p s d ys) = (if pr = 17 then udP c e ys else if pr = 6 then tcP c e ys else if pr = 1 then icP 20 ys else pt0) := by
  have hc : ¬ ((20 : Int) < 20 ∨ (60 : Int) < 20 ∨ 20 + (n : Int) < 20 ∨ ((frm t p s d ys).length : Int) < 20 + (n : Int)) := by
    rw [frm_len, hn]; omega
  unfold pgE pgP
  rw [frm_body t p s d a pr c e ys n hn]
  exact ⟨if_neg hc, if_neg hc⟩
end Go.Proofs.Ytdkjipfemnfckaa

namespace Go.Proofs.Ytdkjipfemnfckaa
open Go.RowKit Plain
set_option linter.unusedVariables false
set_option linter.unusedSimpArgs false
set_option maxRecDepth 100000

/-- a Sent: its numbers, and its bytes -/
structure Sn where
  what : Int
  s : Int
  d : Int
  f : Int
  t : Int
  fl : Int
  A : Option Addr
  n : Nat
  c : Nat
  ys : List Int
def Sn.val (x : Sn) : Value := .agg #[.int .i64 x.what, .int .u32 x.s, .int .u32 x.d, .int .u16 x.f, .int .u16 x.t, .int .i64 x.fl, .slice x.A x.n x.c]
structure Sn.ok (x : Sn) (w : World) : Prop where
  s0 : 0 ≤ x.s
  s1 : x.s ≤ 4294967295
  d0 : 0 ≤ x.d
  d1 : x.d ≤ 4294967295
  f0 : 0 ≤ x.f
  f1 : x.f ≤ 65535
  t0 : 0 ≤ x.t
  t1 : x.t ≤ 65535
  len : x.ys.length = x.n
  cap : x.n ≤ x.c
  max : x.c ≤ 9223372036854775807
  rd : Rd w x.A x.ys

def carL (K : Nat) (s d f t fl : Int) (L : List Int) : List Int :=
  match K with
  | 0 => udL s d f t L
  | 1 => tcL s d f t (fl % 256) L
  | 2 => icL 8 0 f L
  | 3 => icL 0 0 f L
  | 4 => icL 3 (fl.tmod 16 % 256) 0 (frm 9 17 d s (udL d s t f L))
  | 5 => icL 11 0 0 ((frm 9 6 d s (tcL d s t f 2 L)).take (28 + L.length / 2))
  | _ => icL 3 1 0 (frm 9 1 d s (icL 8 0 t L))
def carP (K : Nat) : Int := match K with
  | 0 => 17
  | 1 => 6
  | _ => 1
def CarOk (x : Sn) (K : Nat) (w : World) (e : Ending) (w' : World) : Prop :=
  ∃ g m cc, e = .returned (.tuple #[.slice (some ⟨g, 0, none⟩) m cc, .int .i64 (carP K)]) ∧ Own w' w.heap.size (some ⟨g, 0, none⟩) m cc (carL K x.s x.d x.f x.t x.fl (x.ys.take 40)) ∧ Below w.heap.size w w'

theorem take_40 (ys : List Int) : (ys.take 40).take 1400 = ys.take 40 := by rw [List.take_take]; congr 1

set_option maxHeartbeats 4000000 in
theorem carried_low (x : Sn) (K : Nat) (hK4 : K < 4) (w : World) (ok : x.ok w) (hK : wrap64 ((IntKind.u64.wrap x.what).tmod 7) = (K : Int)) :
    Calls Try.prog 34 #[x.val] w (CarOk x K w) := by
  obtain ⟨what, s, d, f, t, fl, A, n, c, ys⟩ := x
  obtain ⟨s0, s1, d0, d1, f0, f1, t0, t1, hn, hnc, hcm, hR⟩ := ok
  simp only at s0 s1 d0 d1 f0 f1 t0 t1 hn hnc hcm hR hK
  rw [show (Sn.mk what s d f t fl A n c ys).val = .agg #[.int .i64 what, .int .u32 s, .int .u32 d, .int .u16 f, .int .u16 t, .int .i64 fl, .slice A n c] from rfl]
  have HR := Lib.hid hR
  have Hn := Lib.hid hn
  have HK := Lib.hid hK
  clear hR hn hK
  obtain ⟨u, hu⟩ : ∃ u, u = min n 40 := ⟨_, rfl⟩
  have hu1 : u ≤ n := by omega
  have hu2 : u ≤ 40 := by omega
  have Hl := Lib.hid (show (ys.take 40).length = u by rw [List.length_take, Hn.out, hu]; omega)
  have HU := Lib.hid hu
  clear hu
  go_enter Try.func34, Try.ntmps34
  go_upto_region 1 with fail
  have HB1 := Lib.hid (ball w (.cells #[.int .i64 what, .int .u32 s, .int .u32 d, .int .u16 f, .int .u16 t, .int .i64 fl, .slice A n c] 26))
  have HK1 := Lib.hid (Blk.new w 26 #[.int .i64 what, .int .u32 s, .int .u32 d, .int .u16 f, .int .u16 t, .int .i64 fl, .slice A n c])
  generalize w.alloc (.cells #[.int .i64 what, .int .u32 s, .int .u32 d, .int .u16 f, .int .u16 t, .int .i64 fl, .slice A n c] 26) = w1 at *
  have hs1 := HB1.out.size
  obtain ⟨g, hg⟩ : ∃ g, g = w.heap.size := ⟨_, rfl⟩
  have HG := Lib.hid hg
  rw [← hg] at HK1
  rw [← hg]
  clear hg
  have k0 : w1.cell? ⟨g, 0, none⟩ = some (.int .i64 what) := HK1.out.cell 0
  have k1 : w1.cell? ⟨g, 1, none⟩ = some (.int .u32 s) := HK1.out.cell 1
  have k2 : w1.cell? ⟨g, 2, none⟩ = some (.int .u32 d) := HK1.out.cell 2
  have k3 : w1.cell? ⟨g, 3, none⟩ = some (.int .u16 f) := HK1.out.cell 3
  have k4 : w1.cell? ⟨g, 4, none⟩ = some (.int .u16 t) := HK1.out.cell 4
  have k5 : w1.cell? ⟨g, 5, none⟩ = some (.int .i64 fl) := HK1.out.cell 5
  have k6 : w1.cell? ⟨g, 6, none⟩ = some (.slice A n c) := HK1.out.cell 6
  go_cut [4] (fun s4 wx => s4 = .slice A u c ∧ w1 = wx)
  case first =>
    by_cases h : n ≤ 40
    · have h' : (n : Int) ≤ 40 := by omega
      have i1 : (n : Int) ≤ (c : Int) := by omega
      have e : u = n := by have := HU.out; omega
      have HE := Lib.hid e
      clear e
      go_wp2
      go_meet
      exact ⟨by rw [HE.out], rfl⟩
    · have h' : (40 : Int) < (n : Int) := by omega
      have i1 : (40 : Int) ≤ (c : Int) := by omega
      have i2 : 40 ≤ c := by omega
      have e : u = 40 := by have := HU.out; omega
      have HE := Lib.hid e
      clear e
      go_wp2
      go_meet
      exact ⟨by rw [HE.out], rfl⟩
  case rest =>
  obtain ⟨rfl, rfl⟩ := hcut
  have hK := HK.out
  have HR1 := Lib.hid ((HR.out.take 40).below HB1.out)
  have huc : u ≤ c := by omega
  obtain rfl | rfl | rfl | rfl : K = 0 ∨ K = 1 ∨ K = 2 ∨ K = 3 := by omega
  · go_wp2_with fail
    refine (rudp_any s d f t A u c (ys.take 40) _ Hl.out huc (by omega) HR1.out s0 s1 d0 d1 f0 f1 t0 t1).mono ?_
    rintro e w2 ⟨g2, m, cc, rfl, hm, ho, hb⟩
    have HO := Lib.hid ho
    have HB2 := Lib.hid (bthen HB1.out hb)
    clear ho hb hm
    go_wp2
    go_ret2
    refine ⟨g2, 8 + m, cc, rfl, ?_, HB2.out⟩
    have := HO.out.mono hs1
    rw [take_40] at this
    exact this
  · go_wp2_with fail
    refine (rtcp_any s d f t fl A u c (ys.take 40) _ Hl.out huc (by omega) HR1.out s0 s1 d0 d1 f0 f1 t0 t1).mono ?_
    rintro e w2 ⟨g2, m, cc, rfl, hm, ho, hb⟩
    have HO := Lib.hid ho
    have HB2 := Lib.hid (bthen HB1.out hb)
    clear ho hb hm
    go_wp2
    go_ret2
    refine ⟨g2, 20 + m, cc, rfl, ?_, HB2.out⟩
    have := HO.out.mono hs1
    rw [take_40] at this
    exact this
  · go_wp2_with fail
    refine (recho_any false 8 rfl f f0 f1 A u c (ys.take 40) _ Hl.out huc (by omega) HR1.out).mono ?_
    rintro e w2 ⟨g2, m, cc, rfl, hm, ho, hb⟩
    have HO := Lib.hid ho
    have HB2 := Lib.hid (bthen HB1.out hb)
    clear ho hb hm
    go_wp2
    go_ret2
    refine ⟨g2, 8 + m, cc, rfl, ?_, HB2.out⟩
    have := HO.out.mono hs1
    rw [take_40] at this
    exact this
  · go_wp2_with fail
    refine (recho_any true 0 rfl f f0 f1 A u c (ys.take 40) _ Hl.out huc (by omega) HR1.out).mono ?_
    rintro e w2 ⟨g2, m, cc, rfl, hm, ho, hb⟩
    have HO := Lib.hid ho
    have HB2 := Lib.hid (bthen HB1.out hb)
    clear ho hb hm
    go_wp2
    go_ret2
    refine ⟨g2, 8 + m, cc, rfl, ?_, HB2.out⟩
    have := HO.out.mono hs1
    rw [take_40] at this
    exact this
end Go.Proofs.Ytdkjipfemnfckaa

namespace Go.Proofs.Ytdkjipfemnfckaa
open Go.RowKit Plain
set_option linter.unusedVariables false
set_option linter.unusedSimpArgs false
set_option maxRecDepth 100000

theorem Sn.ok.below {x : Sn} {w w' : World} (h : x.ok w) (hb : Below w.heap.size w w') : x.ok w' :=
  ⟨h.s0, h.s1, h.d0, h.d1, h.f0, h.f1, h.t0, h.t1, h.len, h.cap, h.max, h.rd.below hb⟩

theorem carL_len (K : Nat) (s d f t fl : Int) (L : List Int) (hl : L.length ≤ 40) : (carL K s d f t fl L).length ≤ 100 := by
  unfold carL
  split
  · rw [udL_len]; omega
  · rw [tcL_len]; omega
  · rw [icL_len]; omega
  · rw [icL_len]; omega
  · rw [icL_len, frm_len, udL_len]; omega
  · rw [icL_len, List.length_take, frm_len, tcL_len]; omega
  · rw [icL_len, frm_len, icL_len]; omega
theorem carP_range (K : Nat) : 0 ≤ carP K ∧ carP K ≤ 255 := by unfold carP; split <;> decide

/-- the frame of a Sent -/
def frL (x : Sn) (K : Nat) : List Int := frm 64 (carP K) x.s x.d (carL K x.s x.d x.f x.t x.fl (x.ys.take 40))
def FrameOk (x : Sn) (K : Nat) (w : World) (e : Ending) (w' : World) : Prop :=
  ∃ g m cc, e = .returned (.slice (some ⟨g, 0, none⟩) (20 + m) cc) ∧ m = (carL K x.s x.d x.f x.t x.fl (x.ys.take 40)).length ∧ m ≤ 100 ∧ Own w' w.heap.size (some ⟨g, 0, none⟩) (20 + m) cc (frL x K) ∧ Below w.heap.size w w'

set_option maxHeartbeats 4000000 in
theorem frame_of (x : Sn) (K : Nat) (w : World) (ok : x.ok w) (hC : ∀ w', x.ok w' → Calls Try.prog 34 #[x.val] w' (CarOk x K w')) :
    Calls Try.prog 10 #[x.val] w (FrameOk x K w) := by
  have HC := Lib.hid hC
  have HOk := Lib.hid ok
  clear hC ok
  obtain ⟨what, s, d, f, t, fl, A, n, c, ys⟩ := x
  rw [show (Sn.mk what s d f t fl A n c ys).val = .agg #[.int .i64 what, .int .u32 s, .int .u32 d, .int .u16 f, .int .u16 t, .int .i64 fl, .slice A n c] from rfl] at *
  go_enter Try.func10, Try.ntmps10
  go_wp2_with fail
  have HB1 := Lib.hid (ball w (.cells #[.int .i64 what, .int .u32 s, .int .u32 d, .int .u16 f, .int .u16 t, .int .i64 fl, .slice A n c] 26))
  have HK1 := Lib.hid (Blk.new w 26 #[.int .i64 what, .int .u32 s, .int .u32 d, .int .u16 f, .int .u16 t, .int .i64 fl, .slice A n c])
  generalize w.alloc (.cells #[.int .i64 what, .int .u32 s, .int .u32 d, .int .u16 f, .int .u16 t, .int .i64 fl, .slice A n c] 26) = w1 at *
  have hs1 := HB1.out.size
  obtain ⟨g, hg⟩ : ∃ g, g = w.heap.size := ⟨_, rfl⟩
  rw [← hg] at HK1
  rw [← hg]
  clear hg
  refine (HC.out _ (HOk.out.below HB1.out)).mono ?_
  rintro e w2 ⟨g2, m, cc, rfl, ho, hb⟩
  have HO2 := Lib.hid (ho.mono hs1)
  have HB2 := Lib.hid (bthen HB1.out hb)
  have HK2 := Lib.hid (HK1.out.below hb)
  clear ho hb HB1 HK1
  have k1 : w2.cell? ⟨g, 1, none⟩ = some (.int .u32 s) := HK2.out.cell 1
  have k2 : w2.cell? ⟨g, 2, none⟩ = some (.int .u32 d) := HK2.out.cell 2
  have hpr := carP_range K
  have hm : m ≤ 100 := by
    have h1 := HO2.out.len
    have h2 := carL_len K s d f t fl (ys.take 40) (by rw [List.length_take]; omega)
    simp only at h1
    omega
  obtain ⟨L, hL⟩ : ∃ L, L = carL K s d f t fl (ys.take 40) := ⟨_, rfl⟩
  obtain ⟨pr, hp⟩ : ∃ p, p = carP K := ⟨_, rfl⟩
  have HO3 := Lib.hid (show Own w2 w.heap.size (some ⟨g2, 0, none⟩) m cc L by rw [hL]; exact HO2.out)
  rw [← hp] at hpr
  rw [← hp]
  have HP := Lib.hid hp
  have HL := Lib.hid hL
  clear hp hL HO2
  go_wp2_with fail
  have okk := HOk.out
  refine (rput_yes 0 0 64 pr s d (some ⟨g2, 0, none⟩) m cc L _ (by omega) HO3.out.len HO3.out.rd (by omega) (by omega) hpr.1 hpr.2 okk.s0 okk.s1 okk.d0 okk.d1).mono ?_
  rintro e w3 ⟨g3, c3, rfl, ho3, hb3⟩
  have HO4 := Lib.hid ho3
  have HB3 := Lib.hid (bthen HB2.out hb3)
  have hs2 := HB2.out.size
  clear ho3 hb3 okk
  go_wp2
  go_ret
  refine ⟨g3, m, c3, rfl, ?_, hm, ?_, HB3.out⟩
  · have := HO3.out.len
    rw [HL.out] at this
    exact this.symm
  · have := HO4.out.mono hs2
    rw [HP.out, HL.out] at this
    exact this

theorem frame_low (x : Sn) (K : Nat) (hK4 : K < 4) (w : World) (ok : x.ok w) (hK : wrap64 ((IntKind.u64.wrap x.what).tmod 7) = (K : Int)) :
    Calls Try.prog 10 #[x.val] w (FrameOk x K w) :=
  frame_of x K w ok fun w' ok' => carried_low x K hK4 w' ok' hK
end Go.Proofs.Ytdkjipfemnfckaa

namespace Go.Proofs.Ytdkjipfemnfckaa
open Go.RowKit Plain
set_option linter.unusedVariables false
set_option linter.unusedSimpArgs false
set_option maxRecDepth 100000

theorem F_self (T : Int) (h : 0 ≤ T) : F (T + (65535 - F T)) = 65535 := by unfold F; split <;> split <;> omega
theorem F_no0 (T : Int) (h : 0 < T) : F (T + no0 (65535 - F T)) = 65535 := by unfold no0 F; split <;> split <;> split <;> omega
theorem F_65535 (T : Int) (h : 0 ≤ T) (hF : F T = 65535) : T % 65535 = 0 := by have := F_mod T h; omega
theorem turned_gen (X : Int) (l : List Int) (k : Nat) (y : Int) (hX : 0 ≤ X) (hk : k < l.length) (hl : By l) (h0 : (X + tot l) % 65535 = 0) (ht : Turned (l.getD k 0) y) : F (X + tot (l.set k y)) ≠ 65535 := by
  have hy := tot_nonneg (l.set k y) (hl.set k y ht.1 ht.2.1)
  have e := tot_set l k y hk
  unfold Turned at ht
  generalize l.getD k 0 = x at *
  have hF := F_mod (X + tot (l.set k y)) (by omega)
  intro hc
  rw [hc] at hF
  split at e <;> omega
theorem udL_sum (s d f t : Int) (L : List Int) (hl : L.length ≤ 1400) (h : By L) (s0 : 0 ≤ s) (d0 : 0 ≤ d) (f0 : 0 ≤ f) (f1 : f ≤ 65535) (t0 : 0 ≤ t) (t1 : t ≤ 65535) :
    (Px s d 17 (udL s d f t L).length + tot (udL s d f t L)) % 65535 = 0 := by
  obtain ⟨_, _, _, g6⟩ := ud0_g f t L f0 f1 t0 t1 hl
  have hX := Px_pos s d 17 (ud0 f t L).length s0 d0 (by decide)
  have hT := tot_nonneg _ (ud0_by f t h)
  unfold udL
  rw [P16_len, P16_tot _ 6 _ (by decide) (by rw [ud0_len]; omega), g6, Ps_px]
  have := F_65535 _ (by unfold no0 F; split <;> split <;> omega) (F_no0 (Px s d 17 (ud0 f t L).length + tot (ud0 f t L)) (by omega))
  omega
theorem tcL_sum (s d f t fl : Int) (L : List Int) (h : By L) (s0 : 0 ≤ s) (d0 : 0 ≤ d) (f0 : 0 ≤ f) (f1 : f ≤ 65535) (t0 : 0 ≤ t) (t1 : t ≤ 65535) (v0 : 0 ≤ fl) (v1 : fl ≤ 255) :
    (Px s d 6 (tcL s d f t fl L).length + tot (tcL s d f t fl L)) % 65535 = 0 := by
  obtain ⟨_, _, _, _, g6⟩ := tc0_g f t fl L f0 f1 t0 t1
  have hX := Px_pos s d 6 (tc0 f t fl L).length s0 d0 (by decide)
  have hT := tot_nonneg _ (tc0_by f t fl h v0 v1)
  unfold tcL
  rw [P16_len, P16_tot _ 16 _ (by decide) (by rw [tc0_len]; omega), g6, Ps_px]
  have hr := F_range (Px s d 6 (tc0 f t fl L).length + tot (tc0 f t fl L)) (by omega)
  have := F_65535 _ (by omega) (F_self (Px s d 6 (tc0 f t fl L).length + tot (tc0 f t fl L)) (by omega))
  omega
theorem icL_sum (k c id : Int) (L : List Int) (h : By L) (k0 : 0 ≤ k) (k1 : k ≤ 255) (c0 : 0 ≤ c) (c1 : c ≤ 255) (i0 : 0 ≤ id) (i1 : id ≤ 65535) :
    F (tot (icL k c id L)) = 65535 := by
  obtain ⟨_, _, _, g2⟩ := ic0_g k c id L i0 i1
  have hT := tot_nonneg _ (ic0_by k c id h k0 k1 c0 c1)
  unfold icL
  rw [P16_tot _ 2 _ (by decide) (by rw [ic0_len]; omega), g2]
  unfold Cs
  rw [show tot (ic0 k c id L) + (65535 - F (tot (ic0 k c id L))) - 0 = tot (ic0 k c id L) + (65535 - F (tot (ic0 k c id L))) by omega]
  exact F_self _ hT

/-- what a packet carries, by its protocol -/
def byE (pr s d : Int) (ys : List Int) : Int := if pr = 17 then udE s d ys else if pr = 6 then tcE s d ys else if pr = 1 then icE ys else 6
def byP (pr s d : Int) (ys : List Int) : Pt := if pr = 17 then udP s d ys else if pr = 6 then tcP s d ys else if pr = 1 then icP 20 ys else pt0
theorem byP_bad (pr s d : Int) (ys : List Int) (h : byE pr s d ys ≠ 0) : byP pr s d ys = pt0 := by
  unfold byE at h
  unfold byP
  split
  · rename_i hp; rw [if_pos hp] at h; unfold udP; rw [if_neg h]
  · rename_i hp; rw [if_neg hp] at h
    split
    · rename_i hp; rw [if_pos hp] at h; unfold tcP; rw [if_neg h]
    · rename_i hp; rw [if_neg hp] at h
      split
      · rename_i hp; rw [if_pos hp] at h; unfold icP; rw [if_neg h]
      · rfl

/-- one bit of what a packet carries is turned -/
theorem low_turned (K : Nat) (hK : K < 4) (s d f t fl : Int) (L : List Int) (hl : L.length ≤ 1400) (h : By L) (s0 : 0 ≤ s) (d0 : 0 ≤ d) (f0 : 0 ≤ f) (f1 : f ≤ 65535) (t0 : 0 ≤ t) (t1 : t ≤ 65535)
    (j : Nat) (y : Int) (hj : j < (carL K s d f t fl L).length) (ht : Turned ((carL K s d f t fl L).getD j 0) y) :
    byE (carP K) s d ((carL K s d f t fl L).set j y) ≠ 0 ∨
      byE (carP K) s d ((carL K s d f t fl L).set j y) = 0 ∧ (byP (carP K) s d ((carL K s d f t fl L).set j y)).proto = 17 ∧ (byP (carP K) s d ((carL K s d f t fl L).set j y)).bare = true := by
  obtain rfl | rfl | rfl | rfl : K = 0 ∨ K = 1 ∨ K = 2 ∨ K = 3 := by omega
  · by_cases hz : udE s d ((udL s d f t L).set j y) = 0
    · right
      have hX := Px_pos s d 17 (udL s d f t L).length s0 d0 (by decide)
      have hg := turned_gen (Px s d 17 (udL s d f t L).length) (udL s d f t L) j y (by omega) hj (udL_by s d f t h s0 d0) (udL_sum s d f t L hl h s0 d0 f0 f1 t0 t1) ht
      have h6 : G16 ((udL s d f t L).set j y) 6 = 0 := by
        unfold udE at hz
        split at hz
        · cases hz
        · split at hz
          · cases hz
          · split at hz
            · cases hz
            · rename_i hn
              rw [Ps_px, List.length_set] at hn
              refine Classical.byContradiction fun hc => hn ⟨hc, ?_⟩
              have := F_range (Px s d 17 (udL s d f t L).length + tot ((udL s d f t L).set j y)) (by have := tot_nonneg _ ((udL_by s d f t h s0 d0).set j y ht.1 ht.2.1); omega)
              omega
      refine ⟨hz, ?_, ?_⟩
      · show (udP s d ((udL s d f t L).set j y)).proto = 17
        unfold udP; rw [if_pos hz]
      · show (udP s d ((udL s d f t L).set j y)).bare = true
        unfold udP; rw [if_pos hz, h6]; rfl
    · exact Or.inl hz
  · left
    show tcE s d ((tcL s d f t (fl % 256) L).set j y) ≠ 0
    have hX := Px_pos s d 6 (tcL s d f t (fl % 256) L).length s0 d0 (by decide)
    have hg := turned_gen (Px s d 6 (tcL s d f t (fl % 256) L).length) (tcL s d f t (fl % 256) L) j y (by omega) hj (tcL_by s d f t _ h s0 d0 (by omega) (by omega)) (tcL_sum s d f t _ L h s0 d0 f0 f1 t0 t1 (by omega) (by omega)) ht
    have hp : Ps s d 6 ((tcL s d f t (fl % 256) L).set j y) ≠ 0 := by rw [Ps_px, List.length_set]; omega
    unfold tcE
    split
    · decide
    · split
      · decide
      · first | decide | (rw [if_pos hp]; decide)
  · left
    show icE ((icL 8 0 f L).set j y) ≠ 0
    have hb := icL_by 8 0 f h (by omega) (by omega) (by omega) (by omega)
    have hs := F_65535 _ (tot_nonneg _ hb) (icL_sum 8 0 f L h (by omega) (by omega) (by omega) (by omega) f0 f1)
    have hg : F (tot ((icL 8 0 f L).set j y)) ≠ 65535 := turned_sum _ j y hj hb hs ht
    have hp : Cs ((icL 8 0 f L).set j y) ≠ 0 := by unfold Cs; exact fun e => hg (by omega)
    unfold icE
    split
    · decide
    · first | decide | (rw [if_pos hp]; decide)
  · left
    show icE ((icL 0 0 f L).set j y) ≠ 0
    have hb := icL_by 0 0 f h (by omega) (by omega) (by omega) (by omega)
    have hs := F_65535 _ (tot_nonneg _ hb) (icL_sum 0 0 f L h (by omega) (by omega) (by omega) (by omega) f0 f1)
    have hg : F (tot ((icL 0 0 f L).set j y)) ≠ 65535 := turned_sum _ j y hj hb hs ht
    have hp : Cs ((icL 0 0 f L).set j y) ≠ 0 := by unfold Cs; exact fun e => hg (by omega)
    unfold icE
    split
    · decide
    · first | decide | (rw [if_pos hp]; decide)
theorem frm_all (t p s d : Int) (ys : List Int) (hy : By ys) (hl : ys.length ≤ 1480) (t0 : 0 ≤ t) (t1 : t ≤ 255) (p0 : 0 ≤ p) (p1 : p ≤ 255) (s0 : 0 ≤ s) (s1 : s ≤ 4294967295) (d0 : 0 ≤ d) (d1 : d ≤ 4294967295) : By (frm t p s d ys) :=
  (frm_by t p s d ys hy hl t0 t1 p0 p1 s0 s1 d0 d1).1.app hy
theorem carL_by (K : Nat) (s d f t fl : Int) {L : List Int} (hl : L.length ≤ 40) (h : By L) (s0 : 0 ≤ s) (s1 : s ≤ 4294967295) (d0 : 0 ≤ d) (d1 : d ≤ 4294967295) : By (carL K s d f t fl L) := by
  unfold carL
  split
  · exact udL_by s d f t h s0 d0
  · exact tcL_by s d f t _ h s0 d0 (by omega) (by omega)
  · exact icL_by _ _ _ h (by omega) (by omega) (by omega) (by omega)
  · exact icL_by _ _ _ h (by omega) (by omega) (by omega) (by omega)
  · exact icL_by _ _ _ (frm_all 9 17 d s _ (udL_by d s t f h d0 s0) (by rw [udL_len]; omega) (by omega) (by omega) (by omega) (by omega) d0 d1 s0 s1) (by omega) (by omega) (by omega) (by omega)
  · exact icL_by _ _ _ ((frm_all 9 6 d s _ (tcL_by d s t f 2 h d0 s0 (by omega) (by omega)) (by rw [tcL_len]; omega) (by omega) (by omega) (by omega) (by omega) d0 d1 s0 s1).take _) (by omega) (by omega) (by omega) (by omega)
  · exact icL_by _ _ _ (frm_all 9 1 d s _ (icL_by 8 0 t h (by omega) (by omega) (by omega) (by omega)) (by rw [icL_len]; omega) (by omega) (by omega) (by omega) (by omega) d0 d1 s0 s1) (by omega) (by omega) (by omega) (by omega)
end Go.Proofs.Ytdkjipfemnfckaa
