/-
  Plain lists: what rewriting makes of an error about a packet is got again, with the new address and port, and is else as it was. Conditions stand in each theorem.
-/
import Derived.Test.YtdkjipfemnfckaaGL
namespace Go.Proofs.Ytdkjipfemnfckaa
open Go.RowKit Plain
set_option linter.unusedVariables false
set_option linter.unusedSimpArgs false
set_option maxRecDepth 100000

theorem erI_mk (zi : List Int) (hby : By zi) (s0 : 20 ≤ (fld zi).size) (l0 : (fld zi).size + 8 ≤ (fld zi).len) (l1 : (fld zi).size + 8 ≤ zi.length) (v4 : zi.getD 0 0 / 16 = 4) (fr : G16 zi 6 % 16384 = 0)
    (pr : (fld zi).proto = 17 ∨ (fld zi).proto = 6 ∨ ((fld zi).proto = 1 ∧ ((zi.drop (fld zi).size.toNat).getD 0 0 = 0 ∨ (zi.drop (fld zi).size.toNat).getD 0 0 = 8))) : erE zi = 0 ∧ ptH zi = fld zi := by
  have hl := (fld_range hby).2.2.2.2
  have h1 : rdE zi 65535 = 0 := by
    unfold rdE
    rw [if_neg (by omega), if_neg (by omega), if_neg (by omega), if_neg (by omega), if_neg (by omega), if_neg (by omega)]
  have h2 : ptE zi = 0 := by
    unfold ptE
    rw [if_neg (by omega), if_neg (by omega)]
  have hp : ptH zi = fld zi := by unfold ptH; rw [if_pos h2]
  refine ⟨?_, hp⟩
  unfold erE
  rw [if_neg (by omega), hp, if_neg (by omega)]
  split
  · rfl
  · rename_i c
    rw [if_pos (by
      rcases pr with h | h | h
      · exact absurd (Or.inl h) c
      · exact absurd (Or.inr h) c
      · unfold erC; rw [hp]; exact h)]
/-- the packet that an error is about, with another address and port at its other end -/
theorem inner_ok (zi : List Int) (hby : By zi) (gi : GotI zi) (I n e : Nat) (he : e ≤ 1) (A P : Int) (n0 : 0 ≤ A) (n1 : A ≤ 4294967295) (q0 : 0 ≤ P) (q1 : P ≤ 65535) (hI : (fld zi).size = (I : Int)) :
    erE (pkR zi 0 n I (fld zi).proto e A P) = 0 ∧ ptH (pkR zi 0 n I (fld zi).proto e A P) = hdA (fld zi) e A ∧
    ((fld zi).proto = 1 → G16 (erC (pkR zi 0 n I (fld zi).proto e A P)) 4 = P) ∧
    ((fld zi).proto ≠ 1 → G16 (erC (pkR zi 0 n I (fld zi).proto e A P)) (ePt e) = P ∧ G16 (erC (pkR zi 0 n I (fld zi).proto e A P)) (ePt (1 - e)) = G16 (erC zi) (ePt (1 - e))) := by
  obtain ⟨⟨s0, s1⟩, ⟨l0, l1⟩, hp, v4, fr, pr⟩ := gi
  have hpl := ePl_or e
  have hzl : (zi.take I).length = I := by rw [List.length_take]; omega
  have hc0 : erC zi = zi.drop I := by unfold erC; rw [hp, hI, Int.toNat_natCast]
  rw [hc0] at pr
  have hbd := pkR_body (L := zi) (n := n) (size := I) (e := e) (pr := (fld zi).proto) (A := A) (P := P) (by omega)
  have htk := pkR_head (L := zi) (n := n) (size := I) (e := e) (pr := (fld zi).proto) (A := A) (P := P) (by omega)
  have hlen := pkR_len (L := zi) (o := 0) (n := n) (size := I) (e := e) (pr := (fld zi).proto) (A := A) (P := P)
  have hyb := pkR_by (L := zi) (o := 0) (n := n) (size := I) (e := e) (pr := (fld zi).proto) (A := A) (P := P) hby n0 n1 q0 q1
  have hul : (zi.drop I).length = zi.length - I := List.length_drop
  generalize pkR zi 0 n I (fld zi).proto e A P = yi at *
  have hf : fld yi = hdA (fld zi) e A := by
    rw [← fld_take yi I (by omega), htk, adL_fld _ _ _ (by omega), fld_take zi I (by omega)]
  obtain ⟨a1, a2, a3, a4⟩ := hdA_size (fld zi) e A
  have x0 : yi.getD 0 0 = zi.getD 0 0 := by
    rw [← getD_take yi I 0 (by omega), htk, adL_other _ _ _ _ _ (by omega) (by omega) (by omega), getD_take _ _ _ (by omega)]
  have x6 : G16 yi 6 = G16 zi 6 := by
    rw [← G16_take yi I 6 (by omega), htk]
    unfold G16
    rw [adL_other _ _ _ _ _ (by omega) (by omega) (by omega), adL_other _ _ _ _ _ (by omega) (by omega) (by omega), getD_take _ _ _ (by omega), getD_take _ _ _ (by omega)]
  have hk : (fld zi).proto = 1 → (yi.drop I).getD 0 0 = (zi.drop I).getD 0 0 := by
    intro c
    rw [hbd, if_neg (by omega), if_neg (by omega), if_pos c]
    exact ecR_other 0 (by omega)
  have hE := erI_mk yi hyb (by rw [hf, a1]; omega) (by rw [hf, a1, a2]; omega) (by rw [hf, a1]; omega) (by rw [x0]; exact v4) (by rw [x6]; exact fr) (by
    rw [hf, a4, a1, hI, Int.toNat_natCast]
    rcases pr with h | h | ⟨h, h'⟩
    · exact Or.inl h
    · exact Or.inr (Or.inl h)
    · exact Or.inr (Or.inr ⟨h, by rw [hk h]; exact h'⟩))
  have hc1 : erC yi = yi.drop I := by unfold erC; rw [hE.2, hf, a1, hI, Int.toNat_natCast]
  refine ⟨hE.1, by rw [hE.2, hf], ?_, ?_⟩
  · intro c
    rw [hc1, hbd, if_neg (by omega), if_neg (by omega), if_pos c]
    have := ecR_port (zi.drop I) 0 P (by omega)
    rw [Nat.zero_add] at this
    exact this
  · intro c
    rw [hc1, hc0, hbd]
    have hpt := ePt_le e
    rcases pr with h | h | ⟨h, _⟩
    · rw [if_pos h]
      have hpo := udR_port (zi.drop I) 0 e (hdS (fld zi) e) A P (by omega)
      rw [Nat.zero_add] at hpo
      refine ⟨hpo, ?_⟩
      have : e = 0 ∨ e = 1 := by omega
      unfold G16
      rcases this with rfl | rfl
      · rw [udR_other _ (by decide) (by decide), udR_other _ (by decide) (by decide)]
      · rw [udR_other _ (by decide) (by decide), udR_other _ (by decide) (by decide)]
    · rw [if_neg (by omega), if_pos h]
      have hpo := tcR_port (zi.drop I) 0 (n - I) e (hdS (fld zi) e) A P (by omega)
      rw [Nat.zero_add] at hpo
      refine ⟨hpo, ?_⟩
      have : e = 0 ∨ e = 1 := by omega
      unfold G16
      rcases this with rfl | rfl
      · rw [tcR_other _ (by decide) (by decide), tcR_other _ (by decide) (by decide)]
      · rw [tcR_other _ (by decide) (by decide), tcR_other _ (by decide) (by decide)]
    · exact absurd h c
set_option maxHeartbeats 8000000 in
/-- errors -/
theorem same_err (zs : List Int) (hby : By zs) (hg : Got zs) (hp : pgE (fld zs) zs = 0) (e : Nat) (he : e ≤ 1) (A P : Int) (n0 : 0 ≤ A) (n1 : A ≤ 4294967295) (q0 : 0 ≤ P) (q1 : P ≤ 65535) (her : (pgP (fld zs) zs).er = true) : SameF zs (rwL zs e A P) e A P := by
  have hrl := rwL_len zs hg e A P
  have hrg := fld_range hby
  obtain ⟨N, hN⟩ : ∃ x : Nat, (fld zs).len = (x : Int) := ⟨(fld zs).len.toNat, by omega⟩
  obtain ⟨S, hS⟩ : ∃ x : Nat, (fld zs).size = (x : Int) := ⟨(fld zs).size.toNat, by have := hg.sz; omega⟩
  have hgs := hg.sz
  have hgl := hg.ln
  have hb0 := hby.take N
  have h0l : (zs.take N).length = N := by rw [List.length_take]; omega
  have hbz := bod_eq zs N S hN hS
  have hbb := bod_by hby
  have hbl := bod_len zs hg
  obtain ⟨hpr, h1, h3, h4, h2⟩ : (fld zs).proto = 1 ∧ icE (bod zs) = 0 ∧ ((bod zs).getD 0 0 = 3 ∨ (bod zs).getD 0 0 = 11 ∨ (bod zs).getD 0 0 = 12) ∧ erE ((bod zs).drop 8) = 0 ∧
      pgP (fld zs) zs = erP ⟨1, 0, 0, 0, (bod zs).getD 0 0, (bod zs).getD 1 0, false, hd0, (fld zs).size + 8, false⟩ ((bod zs).drop 8) := by
    rcases pg_cases zs hg hp with ⟨_, h1, h2⟩ | ⟨_, h1, h2⟩ | ⟨_, _, _, h2⟩ | h
    · exfalso; rw [h2] at her; unfold udP at her; rw [if_pos h1] at her; cases her
    · exfalso; rw [h2] at her; unfold tcP at her; rw [if_pos h1] at her; cases her
    · exfalso; rw [h2] at her; cases her
    · exact h
  have hl8 := icE_len _ h1
  have hzb : By ((bod zs).drop 8) := hbb.drop 8
  have gi := gotI_of _ hzb h4
  obtain ⟨I, hI⟩ : ∃ x : Nat, (fld ((bod zs).drop 8)).size = (x : Int) := ⟨(fld ((bod zs).drop 8)).size.toNat, by have := gi.sz; omega⟩
  have hgi := gi.sz
  have hgil := gi.ln
  have hzl : ((bod zs).drop 8).length = (bod zs).length - 8 := List.length_drop
  have hpz : pgP (fld zs) zs = ⟨1, (pgP (fld zs) zs).sp, (pgP (fld zs) zs).dp, 0, (bod zs).getD 0 0, (bod zs).getD 1 0, true, fld ((bod zs).drop 8), (fld zs).size + 8, false⟩ ∧
      ((fld ((bod zs).drop 8)).proto = 1 → (pgP (fld zs) zs).sp = G16 (erC ((bod zs).drop 8)) 4 ∧ (pgP (fld zs) zs).dp = G16 (erC ((bod zs).drop 8)) 4) ∧
      ((fld ((bod zs).drop 8)).proto ≠ 1 → (pgP (fld zs) zs).sp = G16 (erC ((bod zs).drop 8)) 0 ∧ (pgP (fld zs) zs).dp = G16 (erC ((bod zs).drop 8)) 2) := by
    rw [h2]
    unfold erP
    rw [if_pos h4, gi.hd]
    split
    · rename_i c; exact ⟨rfl, fun _ => ⟨rfl, rfl⟩, fun d => absurd c d⟩
    · rename_i c; exact ⟨rfl, fun d => absurd d c, fun _ => ⟨rfl, rfl⟩⟩
  obtain ⟨hpz, hpz1, hpz2⟩ := hpz
  have hinn : (pgP (fld zs) zs).inn = fld ((bod zs).drop 8) := by rw [hpz]
  have hpos : (pgP (fld zs) zs).pos = (fld zs).size + 8 := by rw [hpz]
  obtain ⟨n, hn⟩ : ∃ x, min (S + 8 + (fld ((bod zs).drop 8)).len.toNat) N - (S + 8) = x := ⟨_, rfl⟩
  have hys : rwL zs e A P = P16 (P16 (pkR (adL (zs.take N) 0 (ePl e) A) (S + 8) n I (fld ((bod zs).drop 8)).proto (1 - e) A P) (S + 2) 0) (S + 2) (Cs ((P16 (pkR (adL (zs.take N) 0 (ePl e) A) (S + 8) n I (fld ((bod zs).drop 8)).proto (1 - e) A P) (S + 2) 0).drop S)) := by
    unfold rwL
    rw [if_pos her, hinn, hpos, hN, hS, hI, show ((S : Int) + 8).toNat = S + 8 by omega, Int.toNat_natCast, Int.toNat_natCast, Int.toNat_natCast]
    unfold erR
    simp only
    rw [h0l, hn]
  have hpe1 : 12 ≤ ePl e ∧ ePl e ≤ 16 := by have := ePl_or e; omega
  have hpe2 : 12 ≤ ePl (1 - e) ∧ ePl (1 - e) ≤ 16 := by have := ePl_or (1 - e); omega
  have hpt2 : ePt (1 - e) ≤ 2 := by have := ePt_le (1 - e); omega
  have HH3 := Lib.hid h3
  have n0' : ¬ ((bod zs).getD 0 0 = 0 ∨ (bod zs).getD 0 0 = 8) := by omega
  have HN0 := Lib.hid n0'
  have hp1 : ¬ (fld zs).proto = 17 := by omega
  have hp2 : ¬ (fld zs).proto = 6 := by omega
  clear h3 n0' hn hpz1
  have hL1 := adL_by hb0 0 (ePl e) n0 n1
  have hL1d : (adL (zs.take N) 0 (ePl e) A).drop S = bod zs := by rw [adL_drop_far _ _ _ _ _ (by omega) (by omega), hbz]
  have hL2 := pkR_by (L := adL (zs.take N) 0 (ePl e) A) (o := S + 8) (n := n) (size := I) (pr := (fld ((bod zs).drop 8)).proto) (e := 1 - e) (A := A) (P := P) hL1 n0 n1 q0 q1
  have hL2d := pkR_drop (L := adL (zs.take N) 0 (ePl e) A) (n := n) (size := I) (pr := (fld ((bod zs).drop 8)).proto) (e := 1 - e) (A := A) (P := P) S 8
  rw [hL1d] at hL2d
  have hL2t := pkR_take_le (L := adL (zs.take N) 0 (ePl e) A) (o := S + 8) (n := n) (size := I) (pr := (fld ((bod zs).drop 8)).proto) (e := 1 - e) (A := A) (P := P) S (by omega)
  have hL2l := pkR_len (L := adL (zs.take N) 0 (ePl e) A) (o := S + 8) (n := n) (size := I) (pr := (fld ((bod zs).drop 8)).proto) (e := 1 - e) (A := A) (P := P)
  rw [adL_len, h0l] at hL2l
  have hoth2 := fun k h1 h2 h3 h4 h5 h6 => pkR_other (L := adL (zs.take N) 0 (ePl e) A) (o := S + 8) (n := n) (size := I) (pr := (fld ((bod zs).drop 8)).proto) (e := 1 - e) (A := A) (P := P) k h1 h2 h3 h4 h5 h6
  have hU2l := pkR_len (L := bod zs) (o := 8) (n := n) (size := I) (pr := (fld ((bod zs).drop 8)).proto) (e := 1 - e) (A := A) (P := P)
  have hU2b := pkR_by (L := bod zs) (o := 8) (n := n) (size := I) (pr := (fld ((bod zs).drop 8)).proto) (e := 1 - e) (A := A) (P := P) hbb n0 n1 q0 q1
  have hU2d := pkR_drop (L := bod zs) (n := n) (size := I) (pr := (fld ((bod zs).drop 8)).proto) (e := 1 - e) (A := A) (P := P) 8 0
  rw [Nat.add_zero] at hU2d
  have hU2o := fun k (hk : k < 8) => pkR_other (L := bod zs) (o := 8) (n := n) (size := I) (pr := (fld ((bod zs).drop 8)).proto) (e := 1 - e) (A := A) (P := P) k (by omega) (by omega) (by omega) (fun _ => by omega) (fun _ => by omega) (fun _ => by omega)
  have hin := inner_ok ((bod zs).drop 8) hzb gi I n (1 - e) (by omega) A P n0 n1 q0 q1 hI
  rw [← hU2d] at hin
  generalize hL2g : pkR (adL (zs.take N) 0 (ePl e) A) (S + 8) n I (fld ((bod zs).drop 8)).proto (1 - e) A P = L2 at *
  generalize hU2g : pkR (bod zs) 8 n I (fld ((bod zs).drop 8)).proto (1 - e) A P = U2 at *
  rw [P16_drop, hL2d] at hys
  have hcr := Cs_range _ (P16_byte hU2b 2 (by omega : (0 : Int) ≤ 0) (by omega))
  generalize rwL zs e A P = ys at *
  have hyb : By ys := by rw [hys]; exact P16_byte (P16_byte hL2 _ (by omega) (by omega)) _ hcr.1 hcr.2
  have hyl : ys.length = N := by omega
  have htk : ys.take S = adL (zs.take S) 0 (ePl e) A := by
    rw [hys, P16_take_le _ _ _ _ (by omega), P16_take_le _ _ _ _ (by omega), hL2t, adL_take _ _ _ _ _ (by omega) (by omega), List.take_take, Nat.min_eq_left (by omega)]
  obtain ⟨gy, hfy⟩ := got_again zs ys e N S A hby hyb hg hN hS hyl n0 n1 htk
  obtain ⟨a1, a2, a3, a4⟩ := hdA_size (fld zs) e A
  have hby' : bod ys = ys.drop S := bod_all ys N S (by rw [hfy, a2, hN]) (by rw [hfy, a1, hS]) hyl
  have hU : bod ys = P16 (P16 U2 2 0) 2 (Cs (P16 U2 2 0)) := by
    rw [hby', hys, P16_drop, P16_drop, hL2d]
  obtain ⟨v1, v2⟩ := pg_val ys gy
  rw [hfy] at v1 v2
  rw [a4, if_neg hp1, if_neg hp2, if_pos hpr] at v1 v2
  have x0 : (bod ys).getD 0 0 = (bod zs).getD 0 0 := by rw [hU, P16_other _ _ _ _ (by omega) (by omega), P16_other _ _ _ _ (by omega) (by omega), hU2o 0 (by omega)]
  have x1 : (bod ys).getD 1 0 = (bod zs).getD 1 0 := by rw [hU, P16_other _ _ _ _ (by omega) (by omega), P16_other _ _ _ _ (by omega) (by omega), hU2o 1 (by omega)]
  have hd8 : (bod ys).drop 8 = U2.drop 8 := by rw [hU, P16_drop_gt _ _ _ _ (by omega), P16_drop_gt _ _ _ _ (by omega)]
  have hbyl : (bod ys).length = (bod zs).length := by rw [hU, P16_len, P16_len, hU2l]
  have hcs : Cs (bod ys) = 0 := by
    have hT := tot_nonneg _ (P16_byte hU2b 2 (by omega : (0 : Int) ≤ 0) (by omega))
    rw [hU]
    unfold Cs
    rw [P16_tot _ 2 _ (by decide) (by rw [P16_len]; omega), P16_g16 _ _ _ (by omega)]
    have := F_self (tot (P16 U2 2 0)) hT
    rw [show tot (P16 U2 2 0) + (65535 - F (tot (P16 U2 2 0))) - 0 = tot (P16 U2 2 0) + (65535 - F (tot (P16 U2 2 0))) by omega, this]
    rfl
  have hE : icE (bod ys) = 0 := by
    unfold icE
    rw [if_neg (by omega), hcs, if_neg (by simp), x0, x1, if_neg HN0.out, if_pos HH3.out, hd8]
    exact hin.1
  have hA1 := hdA_size (fld ((bod zs).drop 8)) (1 - e) A
  have hpy : pgP (hdA (fld zs) e A) ys = erP ⟨1, 0, 0, 0, (bod zs).getD 0 0, (bod zs).getD 1 0, false, hd0, (fld zs).size + 8, false⟩ (U2.drop 8) := by
    rw [v2]
    unfold icP
    rw [if_pos hE, x0, x1, if_neg HN0.out, hd8, a1]
  have hpyv : (pgP (hdA (fld zs) e A) ys).kd = (bod zs).getD 0 0 ∧ (pgP (hdA (fld zs) e A) ys).cd = (bod zs).getD 1 0 ∧ (pgP (hdA (fld zs) e A) ys).fl = 0 ∧ (pgP (hdA (fld zs) e A) ys).bare = false ∧ (pgP (hdA (fld zs) e A) ys).er = true ∧ (pgP (hdA (fld zs) e A) ys).pos = (fld zs).size + 8 ∧ (pgP (hdA (fld zs) e A) ys).inn = hdA (fld ((bod zs).drop 8)) (1 - e) A ∧
      ((fld ((bod zs).drop 8)).proto = 1 → (pgP (hdA (fld zs) e A) ys).sp = P ∧ (pgP (hdA (fld zs) e A) ys).dp = P) ∧
      ((fld ((bod zs).drop 8)).proto ≠ 1 → (pgP (hdA (fld zs) e A) ys).sp = G16 (erC (U2.drop 8)) 0 ∧ (pgP (hdA (fld zs) e A) ys).dp = G16 (erC (U2.drop 8)) 2) := by
    rw [hpy]
    unfold erP
    rw [if_pos hin.1, hin.2.1, hA1.2.2.2]
    split
    · rename_i c; exact ⟨rfl, rfl, rfl, rfl, rfl, rfl, rfl, fun _ => ⟨hin.2.2.1 c, hin.2.2.1 c⟩, fun d => absurd c d⟩
    · rename_i c; exact ⟨rfl, rfl, rfl, rfl, rfl, rfl, rfl, fun d => absurd d c, fun _ => ⟨rfl, rfl⟩⟩
  obtain ⟨y1, y2, y3, y4, y5, y6, y7, y8, y9⟩ := hpyv
  have hzi : ((zs.drop (S + 8)).take I) = ((bod zs).drop 8).take I := by
    rw [hbz, List.drop_drop, List.drop_take, List.take_take, Nat.min_eq_left (by omega)]
  have hyi : ((ys.drop (S + 8)).take I) = adL (((bod zs).drop 8).take I) 0 (ePl (1 - e)) A := by
    have : ys.drop (S + 8) = U2.drop 8 := by rw [← List.drop_drop, ← hby', hd8]
    rw [this, ← hU2g]
    have h := pkR_drop (L := bod zs) (n := n) (size := I) (pr := (fld ((bod zs).drop 8)).proto) (e := 1 - e) (A := A) (P := P) 8 0
    rw [Nat.add_zero] at h
    rw [h, pkR_head (by omega)]
  refine ⟨hg, hp, gy, by rw [hfy, v1]; exact hE, by omega, hfy, ?_, ?_, ?_, ?_, ?_, ?_, (fun h => by rw [her] at h; cases h), fun _ => ⟨hpr, ?_, ?_, ?_, ?_, ?_⟩⟩
  · rw [hfy, y1, hpz]
  · rw [hfy, y2, hpz]
  · rw [hfy, y3, hpz]
  · rw [hfy, y4, hpz]
  · rw [hfy, y5, hpz]
  · intro k hk hno
    have hgt : (zs.take N).getD k 0 = zs.getD k 0 := getD_take _ _ _ (by omega)
    unfold frK at hno
    rw [hS, Int.toNat_natCast, her, if_neg hp1, if_neg hp2, if_neg (by simp), hpos, hS, hinn, hI, show ((S : Int) + 8).toNat = S + 8 by omega, Int.toNat_natCast] at hno
    rw [noK_app, noK_app, noK_app, noK_app, noK_app, noK_sq, noK_sq, noK_sq, noK_sq] at hno
    obtain ⟨⟨hn1, hn2⟩, ⟨⟨hn3, hn4⟩, hn5⟩, hn6⟩ := hno
    have k10 : k ≠ 10 := by intro h; exact hn1 (10, 3) (by simp) (by subst h; rfl)
    have k11 : k ≠ 11 := by intro h; exact hn1 (11, 3) (by simp) (by subst h; rfl)
    rw [hys, P16_other _ _ _ _ (by omega) (by omega), P16_other _ _ _ _ (by omega) (by omega), hoth2 k (by omega) (by omega) (by omega) ?_ ?_ ?_, adL_other _ _ _ _ _ (by omega) (by omega) (by omega), hgt]
    · intro c
      rw [if_pos c, noK_app, noK_sq, noK_sq] at hn6
      omega
    · intro c
      rw [if_neg (by omega), if_pos c, noK_app, noK_sq, noK_sq] at hn6
      omega
    · intro c
      rw [if_neg (by omega), if_neg (by omega), if_pos c, noK_app, noK_sq, noK_sq] at hn6
      omega
  · rw [hfy, y6, hpos]
  · rw [hfy, y7, hinn]
  · rw [hpos, hinn, hS, hI, show ((S : Int) + 8).toNat = S + 8 by omega, Int.toNat_natCast, hzi, hyi]
    exact adL_cs _ _ _ (ePl_or (1 - e)) (hzb.take I) (by rw [List.length_take]; omega) n0 n1
  · rw [hfy, hinn]; exact y8
  · rw [hfy, hinn]
    intro c
    obtain ⟨z1, z2⟩ := y9 c
    obtain ⟨z3, z4⟩ := hin.2.2.2 c
    obtain ⟨z5, z6⟩ := hpz2 c
    have : e = 0 ∨ e = 1 := by omega
    rcases this with rfl | rfl
    · exact ⟨by show (pgP (hdA (fld zs) 0 A) ys).dp = P; rw [z2]; exact z3, by show (pgP (hdA (fld zs) 0 A) ys).sp = (pgP (fld zs) zs).sp; rw [z1, z5]; exact z4⟩
    · exact ⟨by show (pgP (hdA (fld zs) 1 A) ys).sp = P; rw [z1]; exact z3, by show (pgP (hdA (fld zs) 1 A) ys).dp = (pgP (fld zs) zs).dp; rw [z2, z6]; exact z4⟩
theorem same_rw (zs : List Int) (hby : By zs) (hg : Got zs) (hp : pgE (fld zs) zs = 0) (e : Nat) (he : e ≤ 1) (A P : Int) (n0 : 0 ≤ A) (n1 : A ≤ 4294967295) (q0 : 0 ≤ P) (q1 : P ≤ 65535) : SameF zs (rwL zs e A P) e A P := by
  cases h : (pgP (fld zs) zs).er
  · exact same_plain zs hby hg hp e he A P n0 n1 q0 q1 h
  · exact same_err zs hby hg hp e he A P n0 n1 q0 q1 h
end Go.Proofs.Ytdkjipfemnfckaa
