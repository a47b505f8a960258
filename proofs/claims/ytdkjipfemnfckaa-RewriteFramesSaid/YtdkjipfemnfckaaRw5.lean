/-
  Package rewrite: rewritten, Out, In. Conditions stand in each theorem.
-/
import Derived.Test.YtdkjipfemnfckaaRwP
import Derived.Test.YtdkjipfemnfckaaPGet
namespace Go.Proofs.Ytdkjipfemnfckaa
open Go.RowKit Plain
set_option linter.unusedVariables false
set_option linter.unusedSimpArgs false
set_option maxRecDepth 100000
theorem run_mkB (n : Nat) (hn : n ≤ 1000000) (w : World) : (Instr.makeSlice 24 (.int .i64 n) (.int .i64 n)).run Try.prog w = .ok (.slice (some ⟨w.heap.size, 0, none⟩) n n) (w.alloc (.cells ((List.replicate n (0 : Int)).map (Value.int .u8)).toArray 5)) := run_mkN 24 5 .u8 1 Try.underlying24 info8 (by omega) n hn w

/-- what a call of rewriting tells -/
def RwOk (zs : List Int) (e : Nat) (A P : Int) (w : World) (r : Ending) (w' : World) : Prop :=
  Below w.heap.size w w' ∧ ((rwE zs ≠ 0 ∧ r = .returned (.tuple #[.slice none 0 0, .int .i64 (rwE zs)])) ∨
    (rwE zs = 0 ∧ ∃ g, r = .returned (.tuple #[.slice (some ⟨g, 0, none⟩) (fld zs).len.toNat (fld zs).len.toNat, .int .i64 0]) ∧ Own w' w.heap.size (some ⟨g, 0, none⟩) (fld zs).len.toNat (fld zs).len.toNat (rwL zs e A P)))
set_option maxHeartbeats 16000000 in
theorem rewritten_core (e S N : Nat) (h2 h3 h4 h5 A P : Int) (B : Option Addr) (n c : Nat) (zs : List Int) (w : World) (he : e ≤ 1) (hn : zs.length = n) (hnc : n ≤ c) (hl : n ≤ 1000000) (hR : Rd w B zs) (n0 : 0 ≤ A) (n1 : A ≤ 4294967295) (q0 : 0 ≤ P) (q1 : P ≤ 65535)
    (hS0 : 20 ≤ S) (hS1 : S ≤ 60) (hSN : S ≤ N) (hN : N ≤ 1500) (hNn : N ≤ n) (hgE : gtE zs = 0) (hgH : gtH zs = ⟨S, N, h2, h3, h4, h5⟩) (s0 : 0 ≤ h4) (s1 : h4 ≤ 4294967295) (t0 : 0 ≤ h5) (t1 : h5 ≤ 4294967295)
    (p : Pt) (er : Int) (hpP : pgP ⟨S, N, h2, h3, h4, h5⟩ zs = p) (hpE : pgE ⟨S, N, h2, h3, h4, h5⟩ zs = er) (isz ilen pat : Nat) (hfa : er = 0 → (p.er = false ∧ S + 8 ≤ N) ∨ (p.er = true ∧ p.inn.size = (isz : Int) ∧ p.inn.len = (ilen : Int) ∧ p.pos = (pat : Int) ∧ pat = S + 8 ∧ 20 ≤ isz ∧ isz ≤ 60 ∧ isz + 8 ≤ ilen ∧ ilen ≤ 65535 ∧ pat + isz + 8 ≤ N))
    (QQ : Ending → World → Prop) (hbad : er ≠ 0 → ∀ w', Below w.heap.size w w' → QQ (.returned (.tuple #[.slice none 0 0, .int .i64 er])) w')
    (hone : er = 0 → p.er = false → ∀ g w', Below w.heap.size w w' → Own w' w.heap.size (some ⟨g, 0, none⟩) N N (pkR (zs.take N) 0 N S h3 e A P) → QQ (.returned (.tuple #[.slice (some ⟨g, 0, none⟩) N N, .int .i64 0])) w')
    (htwo : er = 0 → p.er = true → ∀ g w', Below w.heap.size w w' → Own w' w.heap.size (some ⟨g, 0, none⟩) N N (erR (zs.take N) S pat isz ilen p.inn.proto e A P) → QQ (.returned (.tuple #[.slice (some ⟨g, 0, none⟩) N N, .int .i64 0])) w') :
    Calls Try.prog 35 #[.slice B n c, .int .i64 e, .agg #[.int .u32 0, .int .u32 A, .int .u16 0, .int .u16 P]] w QQ := by
  have hG := fun (W : World) (hR : Rd W B zs) => get_any B n c zs W hn hnc hl hR
  rw [hgE, hgH] at hG
  have HG := Lib.hid hG
  have hPG := fun (W : World) (hR : Rd W B zs) => pget_any S N h2 h3 h4 h5 B n c zs W hn hnc hl hR s0 s1 t0 t1
  rw [hpP, hpE] at hPG
  have HPG := Lib.hid hPG
  have HMK := Lib.hid (fun W => run_mkB N (by omega) W)
  have Hn := Lib.hid hn
  have HBAD := Lib.hid hbad
  have HONE := Lib.hid hone
  have HTWO := Lib.hid htwo
  have HFA := Lib.hid hfa
  clear hG hPG hgE hgH hpP hpE hn hbad hone htwo hfa
  obtain ⟨p0, p1, p2, p3, p4, p5, p6, ⟨p7, p8, p9, p10, p11, p12⟩, p13, p14⟩ := p
  simp only at HFA HONE HTWO
  have h0 := Lib.hid (Blk.new w 79 #[.int .u32 0, .int .u32 A, .int .u16 0, .int .u16 P])
  have hb := ball w (.cells #[.int .u32 0, .int .u32 A, .int .u16 0, .int .u16 P] 79)
  go_enter Try.func35, Try.ntmps35
  go_wp2_with fail
  refine (HG.out _ (hR.alloc _)).mono ?_
  rintro r w1 ⟨rfl, hb1⟩
  rw [show (Hd.mk (S : Int) (N : Int) h2 h3 h4 h5).val = .agg #[.int .i64 S, .int .i64 N, .int .i64 h2, .int .i64 h3, .int .u32 h4, .int .u32 h5] from rfl]
  have HB1 := Lib.hid (bthen hb hb1)
  have HC1 := Lib.hid (h0.out.below hb1)
  have hz1 := HB1.out.size
  have hzz := h0.out.lt
  have hzb := hb1.size
  simp only [World.size_alloc] at hzz hzb
  clear hb hb1 h0 HG
  obtain ⟨gc, hgc⟩ : ∃ x, x = w.heap.size := ⟨_, rfl⟩
  rw [← hgc] at HC1
  go_upto_region 2 with fail
  first | rw [← hgc] | skip
  have HH2 := Lib.hid (Blk.new w1 67 #[.int .i64 S, .int .i64 N, .int .i64 h2, .int .i64 h3, .int .u32 h4, .int .u32 h5])
  have HC2 := Lib.hid (HC1.out.alloc (.cells #[.int .i64 S, .int .i64 N, .int .i64 h2, .int .i64 h3, .int .u32 h4, .int .u32 h5] 67))
  have HB2 := Lib.hid (bthen HB1.out (ball w1 (.cells #[.int .i64 S, .int .i64 N, .int .i64 h2, .int .i64 h3, .int .u32 h4, .int .u32 h5] 67)))
  have hgn : gc < w1.heap.size := by omega
  clear HC1 HB1 hzb hzz hgc hz1
  generalize w1.alloc (.cells #[.int .i64 S, .int .i64 N, .int .i64 h2, .int .i64 h3, .int .u32 h4, .int .u32 h5] 67) = w2 at *
  generalize w1.heap.size = gh at *
  go_wp2_with (first | ((with_reducible refine gd_ld 67 8 ?_); refine wpList_ld rfl 67 (.tmp 8) rfl _ rfl (HH2.out) sHead ?_) | fail)
  refine (HPG.out _ (hR.below HB2.out)).mono ?_
  rintro r w3 ⟨rfl, hb3⟩
  rw [show (Pt.mk p0 p1 p2 p3 p4 p5 p6 ⟨p7, p8, p9, p10, p11, p12⟩ p13 p14).val = .agg #[.int .i64 p0, .int .u16 p1, .int .u16 p2, .int .i64 p3, .int .i64 p4, .int .i64 p5, .bool p6, .int .i64 p7, .int .i64 p8, .int .i64 p9, .int .i64 p10, .int .u32 p11, .int .u32 p12, .int .i64 p13, .bool p14] from rfl]
  have HB3 := Lib.hid (bthen HB2.out hb3)
  have HC3 := Lib.hid (HC2.out.below hb3)
  have HH3 := Lib.hid (HH2.out.below hb3)
  clear hb3 HPG HB2 HC2 HH2
  go_upto_region 5 with fail
  have HP4 := Lib.hid (Blk.new w3 71 #[.int .i64 p0, .int .u16 p1, .int .u16 p2, .int .i64 p3, .int .i64 p4, .int .i64 p5, .bool p6, .int .i64 p7, .int .i64 p8, .int .i64 p9, .int .i64 p10, .int .u32 p11, .int .u32 p12, .int .i64 p13, .bool p14])
  have HC4 := Lib.hid (HC3.out.alloc (.cells #[.int .i64 p0, .int .u16 p1, .int .u16 p2, .int .i64 p3, .int .i64 p4, .int .i64 p5, .bool p6, .int .i64 p7, .int .i64 p8, .int .i64 p9, .int .i64 p10, .int .u32 p11, .int .u32 p12, .int .i64 p13, .bool p14] 71))
  have HH4 := Lib.hid (HH3.out.alloc (.cells #[.int .i64 p0, .int .u16 p1, .int .u16 p2, .int .i64 p3, .int .i64 p4, .int .i64 p5, .bool p6, .int .i64 p7, .int .i64 p8, .int .i64 p9, .int .i64 p10, .int .u32 p11, .int .u32 p12, .int .i64 p13, .bool p14] 71))
  have HB4 := Lib.hid (bthen HB3.out (ball w3 (.cells #[.int .i64 p0, .int .u16 p1, .int .u16 p2, .int .i64 p3, .int .i64 p4, .int .i64 p5, .bool p6, .int .i64 p7, .int .i64 p8, .int .i64 p9, .int .i64 p10, .int .u32 p11, .int .u32 p12, .int .i64 p13, .bool p14] 71)))
  have hgp : gh < w3.heap.size := HH3.out.lt
  have hgp2 : gc < w3.heap.size := HC3.out.lt
  clear HB3 HC3 HH3
  generalize w3.alloc (.cells #[.int .i64 p0, .int .u16 p1, .int .u16 p2, .int .i64 p3, .int .i64 p4, .int .i64 p5, .bool p6, .int .i64 p7, .int .i64 p8, .int .i64 p9, .int .i64 p10, .int .u32 p11, .int .u32 p12, .int .i64 p13, .bool p14] 71) = w4 at *
  generalize w3.heap.size = gp at *
  by_cases hz : er = 0
  · subst hz
    have y1 : w4.cell? ⟨gh, 1, none⟩ = some (.int .i64 N) := HH4.out.cell 1
    have hmk := HMK.out
    go_upto_region 8 with fail
    have hO5 := Own.lit w4 (base := w.heap.size) HB4.out.size (List.replicate N 0) (By.zeros N) N List.length_replicate (by omega) (Array.replicate N (Value.int .u8 0)) (by simp)
    have hB5 := bthen HB4.out (ball w4 (.cells (Array.replicate N (Value.int .u8 0)) 5))
    have HO5 := Lib.hid hO5
    have HB5 := Lib.hid hB5
    have HP5 := Lib.hid (HP4.out.alloc (.cells (Array.replicate N (Value.int .u8 0)) 5))
    have HC5 := Lib.hid (HC4.out.alloc (.cells (Array.replicate N (Value.int .u8 0)) 5))
    have HH5 := Lib.hid (HH4.out.alloc (.cells (Array.replicate N (Value.int .u8 0)) 5))
    have HR5 := Lib.hid (hR.below hB5)
    have hp4 := HP4.out.lt
    have hsz4 := HB4.out.size
    clear hO5 hB5 hmk y1 HP4 HC4 HH4 HB4 HMK
    generalize w4.alloc (.cells (Array.replicate N (Value.int .u8 0)) 5) = w5 at *
    generalize w4.heap.size = g at *
    have hlt5 := HB5.out.size
    have hgp2' : gh < g := by omega
    go_wp2_with (with_reducible refine wpList_cpy0 rfl (.tmp 32) (.tmp 33) rfl w.heap.size g N _ zs HO5.out B n c rfl rfl HR5.out Hn.out hNn g w5 (Below.refl _ _) (Nat.le_refl _) ?_)
    intro w6 hO6 hB6
    have HO6 := Lib.hid hO6
    have HB6 := Lib.hid (HB5.out.trans (hB6.mono (by omega)))
    have HP6 := Lib.hid (show Blk w6 gp 71 #[.int .i64 p0, .int .u16 p1, .int .u16 p2, .int .i64 p3, .int .i64 p4, .int .i64 p5, .bool p6, .int .i64 p7, .int .i64 p8, .int .i64 p9, .int .i64 p10, .int .u32 p11, .int .u32 p12, .int .i64 p13, .bool p14] from (hB6.block gp (by omega)).trans HP5.out)
    have HC6 := Lib.hid (show Blk w6 gc 79 #[.int .u32 0, .int .u32 A, .int .u16 0, .int .u16 P] from (hB6.block gc (by omega)).trans HC5.out)
    have HH6 := Lib.hid (show Blk w6 gh 67 #[.int .i64 S, .int .i64 N, .int .i64 h2, .int .i64 h3, .int .u32 h4, .int .u32 h5] from (hB6.block gh (by omega)).trans HH5.out)
    have hg6 : w.heap.size ≤ g := by omega
    clear hO6 hB6 HO5 HB5 HP5 HC5 HH5 HR5
    have y6 : w6.cell? ⟨gp, 6, none⟩ = some (.bool p6) := HP6.out.cell 6
    rcases HFA.out trivial with ⟨rfl, hf1⟩ | ⟨rfl, rfl, rfl, rfl, hf1, hf2, hf3, hf4, hf5, hf6⟩
    · have HPK := Lib.hid (fun (W : World) (hO : Own W w.heap.size (some ⟨g, 0, none⟩) N N (zs.take N)) => layPacket_any 0 N N e S N h2 h3 h4 h5 0 A 0 P he hS0 hS1 (by omega) (Nat.le_refl _) (by omega) (by omega) (by omega) (by omega) n0 n1 (by omega) (by omega) q0 q1 hO)
      go_wp2_with (first | ((with_reducible refine gd_ld 67 8 ?_); refine wpList_ld rfl 67 (.tmp 8) rfl _ rfl (HH6.out) sHead ?_) | ((with_reducible refine gd_ld 79 5 ?_); refine wpList_ld rfl 79 (.tmp 5) rfl _ rfl (HC6.out) sChange ?_) | fail)
      refine (HPK.out _ HO6.out).mono ?_
      rintro r w7 ⟨rfl, hl7⟩
      have HF := Lib.hid (HONE.out trivial (by simp) g w7 (hl7.kp.below HB6.out (Nat.le_refl _) (by simpa using hg6)) hl7.own)
      clear hl7
      go_wp2
      exact HF.out
    · have HPK := Lib.hid (fun (W : World) (hO : Own W w.heap.size (some ⟨g, 0, none⟩) N N (zs.take N)) => layError_any e S pat isz ilen N h2 h3 h4 h5 p0 p1 p2 p3 p4 p5 true p9 p10 p11 p12 p14 0 A 0 P he hS0 hS1 hf1 hf2 hf3 hf4 hf5 hf6 (Nat.le_refl _) (by omega) (by omega) (by omega) (by omega) n0 n1 (by omega) (by omega) q0 q1 hO)
      clear hf1
      go_wp2_with (first | ((with_reducible refine gd_ld 67 8 ?_); refine wpList_ld rfl 67 (.tmp 8) rfl _ rfl (HH6.out) sHead ?_) | ((with_reducible refine gd_ld 79 5 ?_); refine wpList_ld rfl 79 (.tmp 5) rfl _ rfl (HC6.out) sChange ?_) | ((with_reducible refine gd_ld 71 10 ?_); refine wpList_ld rfl 71 (.tmp 10) rfl _ rfl (HP6.out) sPart ?_) | fail)
      refine (HPK.out _ HO6.out).mono ?_
      rintro r w7 ⟨rfl, hl7⟩
      have HF := Lib.hid (HTWO.out trivial (by simp) g w7 (hl7.kp.below HB6.out (Nat.le_refl _) (by simpa using hg6)) hl7.own)
      clear hl7
      go_wp2
      exact HF.out
  · have z1 : (er != 0) = true := by simpa using hz
    have z2 : (er == 0) = false := by simpa using hz
    have HF := Lib.hid (HBAD.out hz _ HB4.out)
    clear hz
    go_wp2
    exact HF.out
set_option maxHeartbeats 4000000 in
theorem rewritten_any (e : Nat) (A P : Int) (B : Option Addr) (n c : Nat) (zs : List Int) (w : World) (he : e ≤ 1) (hn : zs.length = n) (hnc : n ≤ c) (hl : n ≤ 1000000) (hR : Rd w B zs) (n0 : 0 ≤ A) (n1 : A ≤ 4294967295) (q0 : 0 ≤ P) (q1 : P ≤ 65535) :
    Calls Try.prog 35 #[.slice B n c, .int .i64 e, .agg #[.int .u32 0, .int .u32 A, .int .u16 0, .int .u16 P]] w (RwOk zs e A P w) := by
  have hby := hR.1
  have HG := Lib.hid (fun (W : World) (hR : Rd W B zs) => get_any B n c zs W hn hnc hl hR)
  by_cases hz : gtE zs = 0
  · have hgt := got_of zs hby hz
    have hrg := fld_range hby
    have hfa := pg_fact zs hby hgt
    have hgh := hgt.hd
    have hsz := hgt.sz
    have hln := hgt.ln
    obtain ⟨N, hN⟩ : ∃ x : Nat, (fld zs).len = (x : Int) := ⟨(fld zs).len.toNat, by omega⟩
    obtain ⟨S, hS⟩ : ∃ x : Nat, (fld zs).size = (x : Int) := ⟨(fld zs).size.toNat, by omega⟩
    have hf : (⟨S, N, (fld zs).ttl, (fld zs).proto, (fld zs).src, (fld zs).dst⟩ : Hd) = fld zs := by rw [← hN, ← hS]
    have hlN : (fld zs).len.toNat = N := by omega
    have hlS : (fld zs).size.toNat = S := by omega
    have hrw : rwE zs = pgE (fld zs) zs := by unfold rwE; rw [if_neg (by rw [hz]; simp)]
    refine rewritten_core e S N (fld zs).ttl (fld zs).proto (fld zs).src (fld zs).dst A P B n c zs w he hn hnc hl hR n0 n1 q0 q1 (by omega) (by omega) (by omega) (by omega) (by omega) hz (by rw [hf]; exact hgh) hrg.2.2.1.1 hrg.2.2.1.2 hrg.2.2.2.1.1 hrg.2.2.2.1.2
      (pgP (fld zs) zs) (pgE (fld zs) zs) (by rw [hf]) (by rw [hf]) (pgP (fld zs) zs).inn.size.toNat (pgP (fld zs) zs).inn.len.toNat (pgP (fld zs) zs).pos.toNat ?_ _ ?_ ?_ ?_
    · intro h0
      rcases hfa h0 with ⟨h1, h2⟩ | ⟨h1, h2, h3, h4, h5, h6⟩
      · exact Or.inl ⟨h1, by omega⟩
      · exact Or.inr ⟨h1, by omega, by omega, by omega, by omega, by omega, by omega, by omega, by omega, by omega⟩
    · intro h0 w' hb
      exact ⟨hb, Or.inl ⟨by rw [hrw]; exact h0, by rw [hrw]⟩⟩
    · intro h0 h1 g w' hb hO
      refine ⟨hb, Or.inr ⟨by rw [hrw]; exact h0, g, by rw [hlN], ?_⟩⟩
      rw [hlN]
      unfold rwL
      rw [if_neg (by rw [h1]; simp), hlN, hlS]
      exact hO
    · intro h0 h1 g w' hb hO
      refine ⟨hb, Or.inr ⟨by rw [hrw]; exact h0, g, by rw [hlN], ?_⟩⟩
      rw [hlN]
      unfold rwL
      rw [if_pos h1, hlN, hlS]
      exact hO
  · obtain ⟨er, her⟩ : ∃ x, gtE zs = x := ⟨_, rfl⟩
    rw [her] at hz
    have HF := Lib.hid (show ∀ w', Below w.heap.size w w' → RwOk zs e A P w (.returned (.tuple #[.slice none 0 0, .int .i64 er])) w' from fun w' hb => ⟨hb, Or.inl (by
      have : rwE zs = er := by unfold rwE; rw [if_pos (by rw [her]; exact hz), her]
      exact ⟨by rw [this]; exact hz, by rw [this]⟩)⟩)
    have e1 : (er != 0) = true := by simpa using hz
    have e2 : (er == 0) = false := by simpa using hz
    have HX := Lib.hid her
    obtain ⟨hv, hhv⟩ : ∃ x, gtH zs = x := ⟨_, rfl⟩
    have HV := Lib.hid hhv
    obtain ⟨h0, h1, h2, h3, h4, h5⟩ := hv
    clear her hz hhv
    go_enter Try.func35, Try.ntmps35
    go_wp2_with fail
    refine (HG.out _ (hR.alloc _)).mono ?_
    rintro r w1 ⟨rfl, hb1⟩
    rw [HX.out, HV.out, show (Hd.mk h0 h1 h2 h3 h4 h5).val = .agg #[.int .i64 h0, .int .i64 h1, .int .i64 h2, .int .i64 h3, .int .u32 h4, .int .u32 h5] from rfl]
    have HB1 := Lib.hid (bthen (ball w (.cells #[.int .u32 0, .int .u32 A, .int .u16 0, .int .u16 P] 79)) hb1)
    clear hb1
    go_wp2
    go_ret2
    exact HF.out _ (bthen HB1.out (ball w1 _))
theorem rwOut_any (A P : Int) (B : Option Addr) (n c : Nat) (zs : List Int) (w : World) (hn : zs.length = n) (hnc : n ≤ c) (hl : n ≤ 1000000) (hR : Rd w B zs) (n0 : 0 ≤ A) (n1 : A ≤ 4294967295) (q0 : 0 ≤ P) (q1 : P ≤ 65535) :
    Calls Try.prog 11 #[.slice B n c, .int .u32 A, .int .u16 P] w (RwOk zs 0 A P w) := by
  have HR := Lib.hid (rewritten_any 0 A P B n c zs w (by omega) hn hnc hl hR n0 n1 q0 q1)
  have HOK := Lib.hid (show ∀ r w', RwOk zs 0 A P w r w' → ∃ v x, r = .returned (.tuple #[v, .int .i64 x]) from fun r w' h => by
    rcases h.2 with ⟨_, h⟩ | ⟨_, g, h, _⟩
    · exact ⟨_, _, h⟩
    · exact ⟨_, _, h⟩)
  have HX := Lib.hid (show ∃ Q, RwOk zs 0 A P w = Q from ⟨_, rfl⟩)
  clear hR
  obtain ⟨Q, hQ⟩ := HX.out
  rw [hQ] at HR HOK ⊢
  clear hQ HX
  go_enter Try.func11, Try.ntmps11
  go_wp2_with fail
  refine HR.out.mono ?_
  intro r w' hr
  obtain ⟨v, x, rfl⟩ := HOK.out r w' hr
  have HF := Lib.hid hr
  clear hr
  go_wp2
  exact HF.out
theorem rwIn_any (A P : Int) (B : Option Addr) (n c : Nat) (zs : List Int) (w : World) (hn : zs.length = n) (hnc : n ≤ c) (hl : n ≤ 1000000) (hR : Rd w B zs) (n0 : 0 ≤ A) (n1 : A ≤ 4294967295) (q0 : 0 ≤ P) (q1 : P ≤ 65535) :
    Calls Try.prog 12 #[.slice B n c, .int .u32 A, .int .u16 P] w (RwOk zs 1 A P w) := by
  have HR := Lib.hid (rewritten_any 1 A P B n c zs w (by omega) hn hnc hl hR n0 n1 q0 q1)
  have HOK := Lib.hid (show ∀ r w', RwOk zs 1 A P w r w' → ∃ v x, r = .returned (.tuple #[v, .int .i64 x]) from fun r w' h => by
    rcases h.2 with ⟨_, h⟩ | ⟨_, g, h, _⟩
    · exact ⟨_, _, h⟩
    · exact ⟨_, _, h⟩)
  have HX := Lib.hid (show ∃ Q, RwOk zs 1 A P w = Q from ⟨_, rfl⟩)
  clear hR
  obtain ⟨Q, hQ⟩ := HX.out
  rw [hQ] at HR HOK ⊢
  clear hQ HX
  go_enter Try.func12, Try.ntmps12
  go_wp2_with fail
  refine HR.out.mono ?_
  intro r w' hr
  obtain ⟨v, x, rfl⟩ := HOK.out r w' hr
  have HF := Lib.hid hr
  clear hr
  go_wp2
  exact HF.out
end Go.Proofs.Ytdkjipfemnfckaa
