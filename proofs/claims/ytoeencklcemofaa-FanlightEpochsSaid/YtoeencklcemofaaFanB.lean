/-
  FanlightEpochs: one round of its loop.
-/
import Derived.Test.YtoeencklcemofaaFanW
namespace Go.Proofs.Ytoeencklcemofaa
open Go.RowKit Go.Deep Plain
set_option linter.unusedVariables false
set_option maxRecDepth 1000000

/-- behind the switch -/
def SwE (w : World) (ge gc gn gg kc kn gl ga gb bt bv n i : Nat) (s15 : Value) (wr : World) : Prop := ∃ nx : Nat, s15 = .int .u64 nx ∧ StE w ge gc gn gg kc kn gl ga gb bt bv n nx i wr

theorem ripe_at {now : Int} : ∀ (gl : List (Int × Int)) (j : Nat), j < ripeN gl now → ∃ (hj : j < gl.length), (gl[j]).2 + 2 ≤ now := by
  intro gl
  induction gl with
  | nil => intro j hj; simp [ripeN] at hj
  | cons x t ih =>
    intro j hj
    unfold ripeN at hj
    rw [List.takeWhile_cons] at hj
    split at hj
    · rename_i hd
      cases j with
      | zero => exact ⟨by simp, by simpa using hd⟩
      | succ j =>
        obtain ⟨h1, h2⟩ := ih j (by unfold ripeN; simpa using hj)
        exact ⟨by simpa using h1, by simpa using h2⟩
    · simp at hj
/-- what is taken is looked at, one by one -/
def TkE (w : World) (ge gc gn gg kc kn gl ga gb bt bv n nx i : Nat) (l : List Int) (now : Int) (la lr : Nat → Nat) (S : Nat → Sv) (P : Nat → Option Nat) (G G' : Nat → List (Int × Int)) (gv : List Int) (K : Nat) (gr : Nat) (zs : List Int) (j : Nat) (wt : World) : Prop :=
  ∃ tk, Fan n i l now la lr S P (upE G K ((G K).drop j)) tk gv nx ∧ Fw w ge gc gn gg kc kn gl ga gb bt bv n nx l la lr P S G' tk gv wt ∧ Row .u64 24 wt gr zs

set_option maxHeartbeats 80000000 in
theorem fane_body (w : World) (ge gc gn gg kc kn gl ga gb bt bv n nr c : Nat) (A : Option Addr) (c0 c2 c3 c7 c9 c22 c23 c24 c25 c26 c27 c28 c29 c30 c31 c32 c33 c34 c35 c36 c37 c38 c39 c40 c41 c42 c43 c44 c45 c46 c47 c48 c49 c244 c245 c246 c247 c248 c249 c250 c251 : Value) (zs : List Int) (hzl : zs.length = nr) (hn2 : 2 ≤ n ∧ n ≤ 5) (hnr : nr ≤ c) (hc : c ≤ 9223372036854775807) (hR : RdN .i64 w A zs) : BodyE w ge gc gn gg kc kn gl ga gb bt bv n nr c A c0 c2 c3 c7 c9 c22 c23 c24 c25 c26 c27 c28 c29 c30 c31 c32 c33 c34 c35 c36 c37 c38 c39 c40 c41 c42 c43 c44 c45 c46 c47 c48 c49 c244 c245 c246 c247 c248 c249 c250 c251 := by
  intro i nx u4 u17 u18 u19 u20 u21 u50 u51 u52 u53 u54 u55 u56 u57 u58 u59 u60 u61 u62 u63 u64 u65 u66 u67 u68 u69 u70 u71 u72 u73 u74 u75 u76 u77 u78 u79 u80 u81 u82 u83 u84 u85 u86 u87 u88 u89 u90 u91 u92 u93 u94 u95 u96 u97 u98 u99 u100 u101 u102 u103 u104 u105 u106 u107 u108 u109 u110 u111 u112 u113 u114 u115 u116 u117 u118 u119 u120 u121 u122 u123 u124 u125 u126 u127 u128 u129 u130 u131 u132 u133 u134 u135 u136 u137 u138 u139 u140 u141 u142 u143 u144 u145 u146 u147 u148 u149 u150 u151 u152 u153 u154 u155 u156 u157 u158 u159 u160 u161 u162 u163 u164 u165 u166 u167 u168 u169 u170 u171 u172 u173 u174 u175 u176 u177 u178 u179 u180 u181 u182 u183 u184 u185 u186 u187 u188 u189 u190 u191 u192 u193 u194 u195 u196 u197 u198 u199 u200 u201 u202 u203 u204 u205 u206 u207 u208 u209 u210 u211 u212 u213 u214 u215 u216 u217 u218 u219 u220 u221 u222 u223 u224 u225 u226 u227 u228 u229 u230 u231 u232 u233 u234 u235 u236 u237 u238 u239 u240 u241 u242 u243 wr Q0 hlt ht
  obtain ⟨hl1, hl2⟩ := hlt
  obtain ⟨_, _, l, now, la, lr, S, P, G, tk, gv, hf, hw⟩ := ht
  obtain ⟨_, hrd⟩ := hR
  obtain ⟨bk, off, rfl, hbl, hcell⟩ := hrd (by omega)
  obtain ⟨pk, hpk⟩ : ∃ x, zs.getD i 0 = x := ⟨_, rfl⟩
  have d0 : wr.cell? ⟨bk, off + i, none⟩ = some (.int .i64 pk) := (hw.bel.cell (p := ⟨bk, off + i, none⟩) hbl).trans (by rw [← hpk]; exact hcell i (by omega))
  have HF := Lib.hid hf
  have HW := Lib.hid hw
  have hnx := hf.nx1
  clear hf hw hcell hpk hrd
  obtain ⟨K, hK, hKl⟩ := pickN pk n (by omega) (by omega)
  have hKn : K < n := by omega
  have hn1 : n ≤ 64 := by omega
  have di1 : decide ((i : Int) < (nr : Int)) = true := decide_eq_true (by omega)
  have di2 : decide ((i : Int) < 500) = true := decide_eq_true (by omega)
  have a0 := HW.out.ra.2 K hKn
  conv => arg 2; whnf
  go_upto_region 16 with fail
  rw [hK]
  clear hK hKl
  go_upto_block 2 with fail
  have hz := HW.out.bel.size
  have ha7 := HF.out.at7 K hKn
  obtain ⟨q, hq⟩ : ∃ x, la K = x := ⟨_, rfl⟩
  rw [hq] at a0 ha7
  rw [hq]
  have HQ := Lib.hid hq
  clear hq
  go_cut [15, 18, 19, 20] from 73 to 224 (fun s15 s18 s19 s20 wx => SwE w ge gc gn gg kc kn gl ga gb bt bv n (i + 1) s15 wx)
  case first =>
    have q8 : q = 0 ∨ q = 1 ∨ q = 2 ∨ q = 3 ∨ q = 4 ∨ q = 5 ∨ q = 6 ∨ q = 7 := by omega
    rcases q8 with hq | hq | hq | hq | hq | hq | hq | hq
    · as_aux_lemma =>
      have HQK := Lib.hid (HQ.out.trans hq)
      have b0 : ((q : Int) == 0) = true := by simp; omega
      clear hq ha7
      have x0 := HW.out.st.cell K hKn
      go_upto_region 18 with fail
      go_wp2_with (first | (go_at_call 56; refine (ePin_any HW.out.ep K hKn).mono ?_; rintro e w3 ⟨rfl, hs3, hb3⟩; have x3 := (HW.out.below hb3).st.cell K hKn; have f3 := (HW.out.below hb3).st.free K; have hx4 := (HW.out.below hb3).step (s := ⟨1, 0, K + 1, false⟩) hKn hz hs3 (fun j hj hpj => by have := (HW.out.st.st j _ hj hpj).lt; omega); have x4 := hx4.ra.2 K hKn; have f4 := hx4.ra.free K))
      have HW5 := hx4.aset K 1 1 rfl
      have HF5 := (HF.out.pinB hKn HQK.out wr.heap.size).up
      go_meet
      exact ⟨nx, rfl, _, _, _, _, _, _, _, _, _, HF5, HW5⟩
    · as_aux_lemma =>
      have HQK := Lib.hid (HQ.out.trans hq)
      have b0 : ((q : Int) == 0) = false := by simp; omega
      have b1 : ((q : Int) == 1) = true := by simp; omega
      clear hq ha7
      obtain ⟨hki, g, hP⟩ := HF.out.s1 K hKn HQK.out
      have x0 := HW.out.st.at1 hKn hP
      have hok : SvOk n (S K) := by
        have h := HF.out.ok K (S K) hKn (actA_at (by rw [HQK.out]; omega))
        unfold SvOk
        omega
      obtain ⟨rd, hrd⟩ : ∃ b, ((stp n l (S K)).2.nx == 0) = b := ⟨_, rfl⟩
      have HDO := stp_t HW.out.ep (HW.out.st.st K g hKn hP) hok
      rw [hrd] at HDO
      have HDO := Lib.hid HDO
      have HRD := Lib.hid hrd
      clear hki hok hrd
      cases hd : rd with
      | false =>
        subst hd
        have h0 : (stp n l (S K)).2.nx ≠ 0 := by have := HRD.out; simpa using this
        obtain ⟨now', hf'⟩ := HF.out.did hKn (by rw [HQK.out]; omega) (by omega) h0
        have HF' := Lib.hid hf'
        clear h0 hf'
        go_wp2_with (first | (go_at_call 51; refine (HDO.out).mono ?_; rintro e w3 ⟨rfl, he3, hs3, hk3⟩))
        have HW3 := HW.out.did hKn hP he3 hs3 hk3
        go_meet
        exact ⟨nx, rfl, _, _, _, _, _, _, _, _, _, HF'.out, HW3⟩
      | true =>
        subst hd
        have h0 : (stp n l (S K)).2.nx = 0 := by have := HRD.out; simpa using this
        obtain ⟨now', hf'⟩ := HF.out.done hKn (by rw [HQK.out]; omega) (by omega) h0 2 (by rw [HQK.out]; omega)
        have HF' := Lib.hid hf'
        clear h0 hf'
        go_upto_region 21 with (first | (go_at_call 51; refine (HDO.out).mono ?_; rintro e w3 ⟨rfl, he3, hs3, hk3⟩))
        have HW3 := HW.out.did hKn hP he3 hs3 hk3
        have HW3 := Lib.hid HW3
        have x3 := HW3.out.ra.2 K hKn
        have f3 := HW3.out.ra.free K
        clear he3 hs3 hk3
        go_wp2
        have HW4 := HW3.out.aset K 2 2 rfl
        go_meet
        exact ⟨nx, rfl, _, _, _, _, _, _, _, _, _, HF'.out, HW4⟩
    · as_aux_lemma =>
      have HQK := Lib.hid (HQ.out.trans hq)
      have b0 : ((q : Int) == 0) = false := by simp; omega
      have b1 : ((q : Int) == 1) = false := by simp; omega
      have b2 : ((q : Int) == 2) = true := by simp; omega
      clear hq ha7
      have hcl := load_eq HW.out.cl 0 (by omega) ((nx : Int) - 1) rfl
      have HCL := Lib.hid hcl
      have x0 := HW.out.rr.2 K hKn
      have f0 := HW.out.rr.free K
      have hx4 := HW.out.rset K (nx - 1) ((nx : Int) - 1) (by omega)
      have x4 := hx4.ra.2 K hKn
      have f4 := hx4.ra.free K
      have HW5 := Lib.hid (hx4.aset K 3 3 rfl)
      have HF5 := Lib.hid (HF.out.read hKn HQK.out).up
      clear hcl hx4
      go_wp2_with (first | (go_at_call 57; refine (HCL.out).mono ?_; rintro e w3 ⟨rfl, rfl⟩))
      go_meet
      exact ⟨nx, rfl, _, _, _, _, _, _, _, _, _, HF5.out, HW5.out⟩
    · as_aux_lemma =>
      have HQK := Lib.hid (HQ.out.trans hq)
      have b0 : ((q : Int) == 0) = false := by simp; omega
      have b1 : ((q : Int) == 1) = false := by simp; omega
      have b2 : ((q : Int) == 2) = false := by simp; omega
      have b3 : ((q : Int) == 3) = true := by simp; omega
      clear hq ha7
      have x0 := HW.out.rr.2 K hKn
      have f1 := HW.out.ra.free K
      have HW1 := Lib.hid (HW.out.aset K 5 5 rfl)
      have hlk := HF.out.rdn K hKn
      go_upto_region 27 with fail
      clear x0 a0 f1
      generalize wr.setCell ⟨ga, K, none⟩ (.int .i64 5) = w2 at *
      by_cases he : lr K + 1 = nx
      · have HCA := Lib.hid (cas_yes HW1.out.cl 0 (by omega) (lr K) nx (show (nx : Int) - 1 = (lr K : Int) by omega))
        have HW2 := Lib.hid (HW1.out.cas (nx + 1) (by omega) (by omega) (nx : Int) (by omega))
        go_upto_region 29 with (first | (go_at_call 58; refine (HCA.out).mono ?_; rintro e w3 ⟨rfl, rfl⟩))
        clear HCA HW1
        generalize w2.setCell ⟨kn, 0, none⟩ (.int .u64 (nx : Int)) = w3 at *
        have x3 := HW2.out.ra.2 K hKn
        have f3 := HW2.out.ra.free K
        have HW3 := Lib.hid (HW2.out.aset K 4 4 rfl)
        go_upto_region 30 with fail
        clear x3 f3 HW2
        generalize w3.setCell ⟨ga, K, none⟩ (.int .i64 4) = w4 at *
        rw [upE_upE] at HW3
        by_cases h0 : lr K = 0
        · have e0 : ((lr K : Int) == 0) = true := by simp; omega
          have x4 := HW3.out.ra.2 K hKn
          have f4 := HW3.out.ra.free K
          have HW4 := HW3.out.aset K 5 5 rfl
          rw [upE_upE] at HW4
          have HW4 := Lib.hid HW4
          have HF4 := Lib.hid (HF.out.next.look hKn HQK.out)
          clear he h0 hlk
          go_wp2
          go_meet
          exact ⟨nx + 1, rfl, _, _, _, _, _, _, _, _, _, HF4.out, HW4.out⟩
        · have e0 : ((lr K : Int) == 0) = false := by simp; omega
          have HF4 := Lib.hid (HF.out.won hKn HQK.out he h0)
          clear he h0 hlk
          go_wp2
          go_meet
          exact ⟨nx + 1, rfl, _, _, _, _, _, _, _, _, _, HF4.out, HW3.out⟩
      · have HCA := Lib.hid (cas_miss HW1.out.cl 0 (by omega) (lr K) nx (show ¬ (nx : Int) - 1 = (lr K : Int) by omega))
        have HF4 := Lib.hid (HF.out.look hKn HQK.out).up
        clear he hlk
        go_wp2_with (first | (go_at_call 58; refine (HCA.out).mono ?_; rintro e w3 ⟨rfl, rfl⟩))
        go_meet
        exact ⟨nx, rfl, _, _, _, _, _, _, _, _, _, HF4.out, HW1.out⟩
    · as_aux_lemma =>
      have HQK := Lib.hid (HQ.out.trans hq)
      have b0 : ((q : Int) == 0) = false := by simp; omega
      have b1 : ((q : Int) == 1) = false := by simp; omega
      have b2 : ((q : Int) == 2) = false := by simp; omega
      have b3 : ((q : Int) == 3) = false := by simp; omega
      have b4 : ((q : Int) == 4) = true := by simp; omega
      clear hq ha7
      have x0 := HW.out.rr.2 K hKn
      have hgl := HF.out.gle K hKn
      obtain ⟨r1, r2, r3⟩ := HF.out.r4 K hKn HQK.out
      have hu : U64 (lr K : Int) := by unfold U64; omega
      have HGI := gsGive HW.out.ep HW.out.gi K hKn (lr K : Int) (by omega) HW.out.bel.size
      rw [HF.out.l0] at HGI
      have HGI := Lib.hid HGI
      have HU := Lib.hid hu
      have HR3 := Lib.hid r3
      have HF5 := Lib.hid (HF.out.give hKn HQK.out)
      clear r1 r2 r3 hu
      go_upto_region 35 with (first | (go_at_call 59; refine (HGI.out).mono ?_; rintro e w3 ⟨rfl, hg3, hk3⟩; have hw3 := HW.out.gave hg3 hk3; have x3 := hw3.rr.2 K hKn; have hlk := hw3.mv.look (lr K : Int) HU.out 0 (by rw [if_neg HR3.out])))
      have HW3 := Lib.hid hw3
      obtain ⟨st, w4, w5, he1, he2, hm5, hk4, hk5⟩ := hw3.mv.entry (lr K : Int) HU.out HR3.out
      have HW5 := Lib.hid (hw3.gput hm5 hk5)
      have x5 := HW5.out.ra.2 K hKn
      have f5 := HW5.out.ra.free K
      have HW6 := Lib.hid (HW5.out.aset K 5 5 rfl)
      clear hw3 hg3 hk3 hlk hm5 hk4 hk5 HGI
      go_wp2
      go_meet
      exact ⟨nx, rfl, _, _, _, _, _, _, _, _, _, HF5.out, HW6.out⟩
    · as_aux_lemma =>
      have HQK := Lib.hid (HQ.out.trans hq)
      have b0 : ((q : Int) == 0) = false := by simp; omega
      have b1 : ((q : Int) == 1) = false := by simp; omega
      have b2 : ((q : Int) == 2) = false := by simp; omega
      have b3 : ((q : Int) == 3) = false := by simp; omega
      have b4 : ((q : Int) == 4) = false := by simp; omega
      have b5 : ((q : Int) == 5) = true := by simp; omega
      clear hq ha7
      obtain ⟨ev, hev⟩ : ∃ b, (pk.tmod 2 == 0) = b := ⟨_, rfl⟩
      cases hd : ev with
      | false =>
        subst hd
        have HF5 := Lib.hid HF.out.up
        go_wp2
        go_meet
        exact ⟨nx, rfl, _, _, _, _, _, _, _, _, _, HF5.out, HW.out⟩
      | true =>
        subst hd
        have HUP := Lib.hid (eUnpin_any HW.out.ep K hKn)
        go_upto_region 38 with fail
        go_upto_region 39 with (first | (go_at_call 60; refine (HUP.out).mono ?_; rintro e w2 ⟨rfl, he2, hk2⟩))
        have HW2 := Lib.hid (HW.out.unpin he2 hk2)
        clear he2 hk2 HUP
        have HF5 := Lib.hid (HF.out.unpin hKn HQK.out w2.heap.size).up
        have z2 := HW2.out.bel.size
        go_wp2_with (first | (go_at_call 50; refine (eAdvance_any HW2.out.ep).mono ?_; rintro e w3 ⟨rfl, hs3, hb3⟩; have h31 := HW2.out.below hb3; have x31 := h31.rr.2 K hKn; have f31 := h31.rr.free K; have h32 := h31.rset K 0 0 rfl; have x32 := h32.ra.2 K hKn; have f32 := h32.ra.free K; have h33 := h32.aset K 6 6 rfl; have x33 := h33.st.cell K hKn; have f33 := h33.st.free K; have hs33 : StV ((w3.setCell ⟨gb, K, none⟩ (.int .u64 0)).setCell ⟨ga, K, none⟩ (.int .i64 6)) w2.heap.size gc ⟨4, 0, 1, false⟩ := (by (obtain ⟨cs1, k1⟩ := h31.rr.1; obtain ⟨cs2, k2⟩ := h31.ra.1; exact Blk.ne (Blk.ne hs3 (p := ⟨gb, K, none⟩) (blk_types k1 hs3 (by decide)) _) (p := ⟨ga, K, none⟩) (blk_types k2 hs3 (by decide)) _))))
        have HW4 := h33.step (s := ⟨4, 0, 1, false⟩) hKn z2 hs33 (fun j hj hpj => by have := (HW2.out.st.st j _ hj hpj).lt; omega)
        go_meet
        exact ⟨nx, rfl, _, _, _, _, _, _, _, _, _, HF5.out, HW4⟩
    · as_aux_lemma =>
      have HQK := Lib.hid (HQ.out.trans hq)
      have b0 : ((q : Int) == 0) = false := by simp; omega
      have b1 : ((q : Int) == 1) = false := by simp; omega
      have b2 : ((q : Int) == 2) = false := by simp; omega
      have b3 : ((q : Int) == 3) = false := by simp; omega
      have b4 : ((q : Int) == 4) = false := by simp; omega
      have b5 : ((q : Int) == 5) = false := by simp; omega
      have b6 : ((q : Int) == 6) = true := by simp; omega
      clear hq ha7
      obtain ⟨hki, g, hP⟩ := HF.out.s6 K hKn HQK.out
      have x0 := HW.out.st.at1 hKn hP
      have hok : SvOk n (S K) := by
        have h := HF.out.ok K (S K) hKn (actA_at (by rw [HQK.out]; omega))
        unfold SvOk
        omega
      obtain ⟨rd, hrd⟩ : ∃ b, ((stp n l (S K)).2.nx == 0) = b := ⟨_, rfl⟩
      have HDO := stp_t HW.out.ep (HW.out.st.st K g hKn hP) hok
      rw [hrd] at HDO
      have HDO := Lib.hid HDO
      have HRD := Lib.hid hrd
      clear hki hok hrd
      cases hd : rd with
      | false =>
        subst hd
        have h0 : (stp n l (S K)).2.nx ≠ 0 := by have := HRD.out; simpa using this
        obtain ⟨now', hf'⟩ := HF.out.did hKn (by rw [HQK.out]; omega) (by omega) h0
        have HF' := Lib.hid hf'
        clear h0 hf'
        go_wp2_with (first | (go_at_call 51; refine (HDO.out).mono ?_; rintro e w3 ⟨rfl, he3, hs3, hk3⟩))
        have HW3 := HW.out.did hKn hP he3 hs3 hk3
        go_meet
        exact ⟨nx, rfl, _, _, _, _, _, _, _, _, _, HF'.out, HW3⟩
      | true =>
        subst hd
        have h0 : (stp n l (S K)).2.nx = 0 := by have := HRD.out; simpa using this
        obtain ⟨now', hf'⟩ := HF.out.done hKn (by rw [HQK.out]; omega) (by omega) h0 7 (by rw [HQK.out]; omega)
        have HF' := Lib.hid hf'
        clear h0 hf'
        go_upto_region 42 with (first | (go_at_call 51; refine (HDO.out).mono ?_; rintro e w3 ⟨rfl, he3, hs3, hk3⟩))
        have HW3 := HW.out.did hKn hP he3 hs3 hk3
        have HW3 := Lib.hid HW3
        have x3 := HW3.out.ra.2 K hKn
        have f3 := HW3.out.ra.free K
        clear he3 hs3 hk3
        go_wp2
        have HW4 := HW3.out.aset K 7 7 rfl
        go_meet
        exact ⟨nx, rfl, _, _, _, _, _, _, _, _, _, HF'.out, HW4⟩
    · as_aux_lemma =>
      have HQK := Lib.hid (HQ.out.trans hq)
      have b0 : ((q : Int) == 0) = false := by simp; omega
      have b1 : ((q : Int) == 1) = false := by simp; omega
      have b2 : ((q : Int) == 2) = false := by simp; omega
      have b3 : ((q : Int) == 3) = false := by simp; omega
      have b4 : ((q : Int) == 4) = false := by simp; omega
      have b5 : ((q : Int) == 5) = false := by simp; omega
      have b6 : ((q : Int) == 6) = false := by simp; omega
      have b7 : ((q : Int) == 7) = true := by simp; omega
      clear hq ha7
      have hgl := HF.out.gle K hKn
      obtain ⟨r, hr⟩ : ∃ r, r = ripeN (G K) now := ⟨_, rfl⟩
      have hrl : r ≤ (G K).length := hr ▸ ripeN_le _ _
      have HGO : GOk (G K) := fun j hj => by
        have hx := (HF.out.gin K hKn _ (List.getElem_mem hj)).2.2
        rw [show (G K).getD j default = (G K)[j] by simp [List.getD, hj]]
        have := HF.out.nw
        omega
      have htk := gsTake HW.out.ep HW.out.gi K hKn (by omega) HGO r (by rw [HF.out.l0]; exact hr)
      have HRI := Lib.hid (show ∀ j, j < r → ∃ (hj : j < (G K).length), ((G K)[j]).2 + 2 ≤ now from fun j hj => ripe_at _ j (hr ▸ hj))
      obtain ⟨ts, hts⟩ : ∃ x, ((G K).take r).map (·.1) = x := ⟨_, rfl⟩
      have HTL := Lib.hid (show ts.length = r ∧ ∀ j (hj : j < (G K).length), j < r → ts.getD j 0 = ((G K)[j]).1 from ⟨by rw [← hts]; simp; omega, fun j hj hjr => by rw [← hts]; simp [List.getD, hj, hjr]⟩)
      rw [hts] at htk
      have HTK := Lib.hid htk
      clear htk HGO hr hts
      go_upto_region 45 with (first | (go_at_call 61; refine (HTK.out).mono ?_; rintro e w3 ⟨rfl, hrow, hg3, hk3⟩))
      have HTE := Lib.hid (show TkE w ge gc gn gg kc kn gl ga gb bt bv n nx i l now la lr S P G (upE G K ((G K).drop r)) gv K wr.heap.size ts 0 w3 from ⟨tk, by rw [List.drop_zero, upE_id]; exact HF.out, HW.out.gave hg3 hk3, hrow⟩)
      clear hrow hg3 hk3 HTK a0
      generalize wr.heap.size = g19 at *
      go_wp2
      go_loopw [20] (fun s20 wt => ∃ j : Nat, s20 = .int .i64 j ∧ j ≤ r ∧ TkE w ge gc gn gg kc kn gl ga gb bt bv n nx i l now la lr S P G (upE G K ((G K).drop r)) gv K g19 ts j wt) (fun j _ => r - (intOf j).toNat)
      case atStart => exact ⟨0, rfl, by omega, HTE.out⟩
      case round =>
        obtain ⟨j, rfl, hj, tk', hf', hw', hro'⟩ := hrel
        have HF' := Lib.hid hf'
        have HW' := Lib.hid hw'
        have HRO := Lib.hid hro'
        clear HTE hf' hw' hro'
        by_cases hjr : j < r
        · obtain ⟨hjl, hrip⟩ := HRI.out j hjr
          have hdr : (G K).drop j = (G K)[j] :: (G K).drop (j + 1) := List.drop_eq_getElem_cons hjl
          obtain ⟨q1, q2, q3⟩ := HF'.out.take hKn (x := (G K)[j]) (r := (G K).drop (j + 1)) (by rw [upE_same, hdr]) hrip
          rw [upE_upE] at q3
          obtain ⟨m, hm, hm1, hm2⟩ := HF'.out.gvr _ q1
          have hcell := HRO.out.at (i := j) (by rw [HTL.out.1]; exact hjr)
          rw [HTL.out.2 j hjl hjr, hm] at hcell
          rw [hm] at q1 q2 q3
          have hu : U64 (m : Int) := by have := HF'.out.nx1; unfold U64; omega
          have hl1 := HW'.out.mv.look (m : Int) hu 1 (by rw [if_pos q1])
          have hl2 := HW'.out.mt.look (m : Int) hu 0 (by rw [if_neg q2])
          obtain ⟨w5, hpu, hm5, hk5⟩ := HW'.out.mt.put (m : Int) hu q2
          have HW5 := Lib.hid (HW'.out.tput hm5 hk5)
          have HR5 := Lib.hid (show Row .u64 24 w5 g19 ts from hk5.blk HRO.out (by simpa using Ne.symm (HW'.out.mt.blk HRO.out)))
          have HF5 := Lib.hid q3
          clear hdr hrip q1 q2 q3 hm hm1 hm2 hu hm5 hk5 HF' HW' HRO
          go_wp2
          go_roundw
          case rel => exact ⟨j + 1, by go_num, by omega, _, HF5.out, HW5.out, HR5.out⟩
          case measure => simp [intOf]; omega
        · obtain rfl : j = r := by omega
          have x5 := HW'.out.ra.2 K hKn
          rw [HQK.out] at x5
          have f5 := HW'.out.ra.free K
          have HW6 := Lib.hid (HW'.out.aset K 0 0 rfl)
          have HF6 := Lib.hid (HF'.out.rest hKn HQK.out)
          clear HW' HF' HRO HRI HTL
          go_wp2
          go_meet
          exact ⟨nx, rfl, _, _, _, _, _, _, _, _, _, HF6.out, HW6.out⟩
  case rest =>
    obtain ⟨nx', rfl, l', now', la', lr', S', P', G', tk', gv', hf', hw'⟩ := hcut
    have HF' := Lib.hid hf'
    have HW' := Lib.hid hw'
    clear hf' hw' HF HW a0
    go_wp2
    go_loopw [21] (fun s21 wt => ∃ j : Nat, s21 = .int .i64 j ∧ j ≤ n ∧ wt = wc) (fun j _ => n - (intOf j).toNat)
    case atStart => exact ⟨0, rfl, by omega, rfl⟩
    case round =>
      obtain ⟨j, rfl, hj, rfl⟩ := hrel
      by_cases hjn : j < n
      · have x0 := HW'.out.rr.2 j hjn
        by_cases h0 : lr' j = 0
        · have e0 : ((lr' j : Int) != 0) = false := by simp; omega
          clear h0
          go_wp2
          go_roundw
          case rel => exact ⟨j + 1, by go_num, by omega, trivial⟩
          case measure => simp [intOf]; omega
        · have e0 : ((lr' j : Int) != 0) = true := by simp; omega
          have hrn := HF'.out.rdn j hjn
          have hx1 := HF'.out.nx1
          have hl2 := HW'.out.mt.look (lr' j : Int) (by unfold U64; omega) 0 (by rw [if_neg (HF'.out.ntk j hjn h0)])
          clear h0 hrn hx1
          go_wp2
          go_roundw
          case rel => exact ⟨j + 1, by go_num, by omega, trivial⟩
          case measure => simp [intOf]; omega
      · clear hj
        go_wp2
        refine ⟨?_, by simp [WmuE, intOf]; omega⟩
        unfold WIE
        exact ⟨i + 1, nx', _, _, _, _, _, _, _, _, _, _, _, _, _, _, _, _, _, _, _, _, _, _, _, _, _, _, _, _, _, _, _, _, _, _, _, _, _, _, _, _, _, _, _, _, _, _, _, _, _, _, _, _, _, _, _, _, _, _, _, _, _, _, _, _, _, _, _, _, _, _, _, _, _, _, _, _, _, _, _, _, _, _, _, _, _, _, _, _, _, _, _, _, _, _, _, _, _, _, _, _, _, _, _, _, _, _, _, _, _, _, _, _, _, _, _, _, _, _, _, _, _, _, _, _, _, _, _, _, _, _, _, _, _, _, _, _, _, _, _, _, _, _, _, _, _, _, _, _, _, _, _, _, _, _, _, _, _, _, _, _, _, _, _, _, _, _, _, _, _, _, _, _, _, _, _, _, _, _, _, _, _, _, _, _, _, _, _, _, _, _, _, _, _, _, _, _, _, _, _, _, ⟨by omega, by omega, _, _, _, _, _, _, _, _, _, HF'.out, HW'.out⟩, rfl⟩
end Go.Proofs.Ytoeencklcemofaa
