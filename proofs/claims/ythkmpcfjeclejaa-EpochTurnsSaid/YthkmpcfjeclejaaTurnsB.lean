/-
  EpochTurns: one round of its loop.
-/
import Derived.Test.YthkmpcfjeclejaaTurnsV
namespace Go.Proofs.Ythkmpcfjeclejaa
open Go.RowKit Go.Deep Plain
set_option linter.unusedVariables false
set_option maxRecDepth 1000000


/-- a row of numbers that can be read -/
def RdU (w : World) (A : Option Addr) (zs : List Int) : Prop := 0 < zs.length → ∃ g, A = some ⟨g, 0, none⟩ ∧ (∃ cs, Blk w g 33 cs) ∧ ∀ j, j < zs.length → w.cell? ⟨g, j, none⟩ = some (.int .u64 (zs.getD j 0))
theorem RdU.fr {L : List TypeId} {w w' : World} {A : Option Addr} {zs : List Int} (h : RdU w A zs) (f : Fr L w w') (h1 : 33 ∉ L) : RdU w' A zs := fun hp => by
  obtain ⟨g, e, hb, hc⟩ := h hp
  have hb' := hb
  obtain ⟨cs, hb'⟩ := hb'
  exact ⟨g, e, ⟨cs, f.2 _ _ _ hb' h1⟩, fun j hj => f.cell hb h1 (hc j hj)⟩
theorem RdU.below {w w' : World} {A : Option Addr} {zs : List Int} (h : RdU w A zs) (hb : Below w.heap.size w w') : RdU w' A zs := h.fr (L := []) (Fr.below hb) (by simp)
theorem RdU.drewN {w : World} {A : Option Addr} {zs : List Int} (h : RdU w A zs) (q : Nat) : RdU (w.drewN q) A zs := h.below (bdrewN w q)
theorem RdU.row {w : World} {g : Nat} {zs : List Int} (h : Row .u64 33 w g zs) : RdU w (some ⟨g, 0, none⟩) zs := fun _ => ⟨g, rfl, ⟨_, h⟩, fun j hj => h.at hj⟩
theorem RdU.own {w : World} {base : Nat} {A : Option Addr} {n c : Nat} {zs : List Int} (h : w.ownsRow base 33 1 (.slice A n c) n (uC zs)) (hn : zs.length = n) : RdU w A zs := fun hp => by
  have hx := h
  rcases hx.2 with ⟨_, q⟩ | ⟨g, cap, cur, q, hb', hh, h1, h2, h3, _⟩
  · omega
  · injection q with q1 q2 q3
    subst q1
    subst q3
    refine ⟨g, rfl, ⟨cur, hh⟩, fun j hj => ?_⟩
    rw [World.ownsRow.cellAt h j (by omega)]
    unfold uC
    simp [hj, List.getD]
/-- what was given up is looked at, one by one -/
def MoR (w : World) (ge gc gn gg gl gr gp gs gv gz gq n : Nat) (l : List Int) (now : Int) (pins : List Int) (P : Nat → Option Nat) (S : Nat → Sv) (T : Nat → Tv) (G : Nat → List (Int × Int)) (V : Nat → Option (Nat × Nat)) (B : Nat → Nat → Bool) (pn : Nat → Bool) (A1 A2 : Option Addr) (zs : List Int) (A3 A4 : Option Addr) (zg : List Int) (wt : World) : Prop :=
  Wo w ge gc gn gg gl gr gp gs gv gz gq n l now pins P S T G G V B pn wt ∧ RdU wt A1 zs ∧ RdU wt A2 zs ∧ RdU wt A3 zg ∧ RdU wt A4 zg
/-- behind the second loop: what is taken is looked at, one by one -/
def LoR (w : World) (ge gc gn gg gl gr gp gs gv gz gq n : Nat) (l : List Int) (now : Int) (pins : List Int) (P : Nat → Option Nat) (S : Nat → Sv) (T : Nat → Tv) (G : Nat → List (Int × Int)) (V : Nat → Option (Nat × Nat)) (B : Nat → Nat → Bool) (pn : Nat → Bool) (A1 A2 : Option Addr) (zs : List Int) (wt : World) : Prop :=
  ∃ V', (∀ m g, V' m = some g → V m = some g) ∧ Wo w ge gc gn gg gl gr gp gs gv gz gq n l now pins P S T G G V' B pn wt ∧ RdU wt A1 zs ∧ RdU wt A2 zs
/-- a row of bools that can be read, none of them true -/
def NoB (w : World) (A : Option Addr) (m : Nat) : Prop := m ≤ 64 ∧ ∀ p, p < m → ∃ g, A = some ⟨g, 0, none⟩ ∧ w.cell? ⟨g, p, none⟩ = some (.bool false)
theorem Wo.noB {w wr : World} {ge gc gn gg gl gr gp gs gv gz gq n m : Nat} {l : List Int} {now : Int} {pins : List Int} {P : Nat → Option Nat} {S : Nat → Sv} {T : Nat → Tv} {G H : Nat → List (Int × Int)} {V : Nat → Option (Nat × Nat)} {B : Nat → Nat → Bool} {pn : Nat → Bool}
    (h : Wo w ge gc gn gg gl gr gp gs gv gz gq n l now pins P S T G H V B pn wr) (hm : m < 200) (hn2 : n ≤ 64) (hB : ∀ g, V m = some g → ∀ p, p < n → B m p = false) : ∃ A k c, slB n (V m) = .slice A k c ∧ NoB wr A k := by
  cases hv : V m with
  | none => exact ⟨none, 0, 0, rfl, by omega, fun p hp => by omega⟩
  | some x =>
    obtain ⟨g, c⟩ := x
    obtain ⟨_, _, _, _, h5⟩ := h.sn.row m g c hm hv
    exact ⟨some ⟨g, 0, none⟩, n, c, rfl, hn2, fun p hp => ⟨g, rfl, by rw [h5 p hp, hB _ hv p hp]⟩⟩

set_option maxHeartbeats 80000000 in
theorem turns_body (w : World) (ge gc gn gg gl gr gp gs gv gz gq n nr c : Nat) (A : Option Addr) (c0 c2 c3 c5 c6 c9 c29 c30 c31 c32 c33 c34 c35 c36 c37 c38 c39 c40 c41 c42 c43 c44 c45 c46 c47 c48 c49 c50 c51 c52 c53 c54 c55 c56 c57 c58 c59 c60 c61 c62 c63 c64 c65 c66 c67 c68 c69 c70 c71 c72 c73 c74 c75 c76 c77 c78 c79 c80 c81 c82 c83 c84 c85 c86 c87 c88 c89 c90 c91 c92 c93 c94 c95 c96 c97 c98 c99 c100 c101 c102 c103 c370 c371 : Value) (Vr : Nat → Nat → Value) (hnr : nr ≤ c) (hc : c ≤ 9223372036854775807) (hR : RdS act7 w A nr Vr) (hbase : BaseT w ge gc gn gg gl gr gp gs gv gz gq) : BodyT w ge gc gn gg gl gr gp gs gv gz gq n nr c A c0 c2 c3 c5 c6 c9 c29 c30 c31 c32 c33 c34 c35 c36 c37 c38 c39 c40 c41 c42 c43 c44 c45 c46 c47 c48 c49 c50 c51 c52 c53 c54 c55 c56 c57 c58 c59 c60 c61 c62 c63 c64 c65 c66 c67 c68 c69 c70 c71 c72 c73 c74 c75 c76 c77 c78 c79 c80 c81 c82 c83 c84 c85 c86 c87 c88 c89 c90 c91 c92 c93 c94 c95 c96 c97 c98 c99 c100 c101 c102 c103 c370 c371 := by
  intro i u4 u15 u16 u17 u18 u19 u20 u21 u22 u23 u24 u25 u26 u27 u28 u104 u105 u106 u107 u108 u109 u110 u111 u112 u113 u114 u115 u116 u117 u118 u119 u120 u121 u122 u123 u124 u125 u126 u127 u128 u129 u130 u131 u132 u133 u134 u135 u136 u137 u138 u139 u140 u141 u142 u143 u144 u145 u146 u147 u148 u149 u150 u151 u152 u153 u154 u155 u156 u157 u158 u159 u160 u161 u162 u163 u164 u165 u166 u167 u168 u169 u170 u171 u172 u173 u174 u175 u176 u177 u178 u179 u180 u181 u182 u183 u184 u185 u186 u187 u188 u189 u190 u191 u192 u193 u194 u195 u196 u197 u198 u199 u200 u201 u202 u203 u204 u205 u206 u207 u208 u209 u210 u211 u212 u213 u214 u215 u216 u217 u218 u219 u220 u221 u222 u223 u224 u225 u226 u227 u228 u229 u230 u231 u232 u233 u234 u235 u236 u237 u238 u239 u240 u241 u242 u243 u244 u245 u246 u247 u248 u249 u250 u251 u252 u253 u254 u255 u256 u257 u258 u259 u260 u261 u262 u263 u264 u265 u266 u267 u268 u269 u270 u271 u272 u273 u274 u275 u276 u277 u278 u279 u280 u281 u282 u283 u284 u285 u286 u287 u288 u289 u290 u291 u292 u293 u294 u295 u296 u297 u298 u299 u300 u301 u302 u303 u304 u305 u306 u307 u308 u309 u310 u311 u312 u313 u314 u315 u316 u317 u318 u319 u320 u321 u322 u323 u324 u325 u326 u327 u328 u329 u330 u331 u332 u333 u334 u335 u336 u337 u338 u339 u340 u341 u342 u343 u344 u345 u346 u347 u348 u349 u350 u351 u352 u353 u354 u355 u356 u357 u358 u359 u360 u361 u362 u363 u364 u365 u366 u367 u368 u369 wr Q0 hlt ht
  obtain ⟨hl1, hl2⟩ := hlt
  obtain ⟨_, _, l, now, pins, P, S, T, G, V, B, pn, ht⟩ := ht
  obtain ⟨bk, off, rfl, hbl, hcell⟩ := hR (by omega)
  obtain ⟨q0, o0, hx0, hw0⟩ := hcell i hl1 0 _ rfl
  obtain ⟨q1, o1, hx1, hw1⟩ := hcell i hl1 1 _ rfl
  rw [hx0] at q0
  rw [hx1] at q1
  have d0 : wr.cell? ⟨bk, off + i * 2, none⟩ = some (.int .i64 o0) := (ht.bel.cell (p := ⟨bk, off + i * 2, none⟩) hbl).trans q0
  have d1 : wr.cell? ⟨bk, off + i * 2 + 1, none⟩ = some (.int .i64 o1) := (ht.bel.cell (p := ⟨bk, off + i * 2 + 1, none⟩) hbl).trans (by rw [Nat.add_assoc]; exact q1)
  have hn1 := ht.ep.n1
  have hn2 := ht.ep.n2
  have HT := Lib.hid ht
  clear ht hcell q0 q1 hx0 hx1 hw1 hw0
  obtain ⟨K, hK, hKl⟩ := pickN o1 n (by omega) (by omega)
  obtain ⟨q, hq, hql⟩ := pickN o0 6 (by omega) (by omega)
  have hKn : K < n := by omega
  have di1 : decide ((i : Int) < (nr : Int)) = true := decide_eq_true (by omega)
  have di2 : decide ((i : Int) < 150) = true := decide_eq_true (by omega)
  conv => arg 2; whnf
  go_upto_region 17 with fail
  have B8 := Lib.hid (Blk.new wr 45 #[.int .i64 o0, .int .i64 o1])
  have hal := ball wr (.cells #[.int .i64 o0, .int .i64 o1] 45)
  have HTA := Lib.hid (HT.out.below hal)
  have hlt8 : wr.heap.size < (wr.alloc (.cells #[.int .i64 o0, .int .i64 o1] 45)).heap.size := by rw [World.size_alloc]; omega
  have hb8 : w.heap.size ≤ wr.heap.size := HT.out.bel.size
  clear hal d0 d1 HT
  generalize wr.alloc (.cells #[.int .i64 o0, .int .i64 o1] 45) = wa at *
  generalize wr.heap.size = g8 at *
  have t0 : wa.cell? ⟨g8, 0, none⟩ = some (.int .i64 o0) := B8.out.cell 0
  have t1 : wa.cell? ⟨g8, 1, none⟩ = some (.int .i64 o1) := B8.out.cell 1
  go_upto_block 2 with fail
  rw [hK, hq]
  clear hK hq hKl t0 t1
  have HB := Lib.hid hbase
  clear hbase
  go_cut [17, 18, 19, 20] from 130 to 262 (fun s17 s18 s19 s20 wx => SwR w ge gc gn gg gl gr gp gs gv gz gq n (i + 1) wx)
  case first =>
    have HW := Lib.hid (HTA.out.wo HB.out)
    have hz := HTA.out.bel.size
    have q6 : q = 0 ∨ q = 1 ∨ q = 2 ∨ q = 3 ∨ q = 4 ∨ q = 5 := by omega
    rcases q6 with hq | hq | hq | hq | hq | hq
    · as_aux_lemma =>
      have b0 : ((q : Int) == 0) = true := by simp; omega
      clear hq hql
      cases hP : P K with
      | some g =>
        have x0 := HTA.out.st.at1 hKn hP
        go_wp2
        go_meet
        exact ⟨_, _, _, _, _, _, _, _, _, _, HTA.out.up⟩
      | none =>
        have x0 := (HTA.out.st.cell K hKn).trans (by rw [hP]; rfl : _ = some (Value.pointer none))
        have HRB := Lib.hid (rBegin_any HTA.out.re K hKn false)
        go_upto_region 21 with (go_at_call 23; refine (HRB.out).mono ?_; rintro e w2 ⟨rfl, hre, hk2⟩)
        have HW2 := Lib.hid (HW.out.rbegin hre hk2)
        have x2 := (HW2.out.st.cell K hKn).trans (by rw [hP]; rfl : _ = some (Value.pointer none))
        have z2 := HW2.out.bel.size
        clear hre hk2 x0 HRB HW
        go_upto_region 22 with (go_at_call 24; refine (ePin_any HW2.out.ep K hKn).mono ?_; rintro e w3 ⟨rfl, hs3, hb3⟩; have x3 := (HW2.out.st.below hb3).cell K hKn; have f3 := (HW2.out.st.below hb3).free K)
        have hnew : ∀ j, j < n → P j ≠ some w2.heap.size := fun j hj hpj => by have := (HW2.out.st.st j _ hj hpj).lt; omega
        have HW3 := Lib.hid ((HW2.out.below hb3).step (s := ⟨1, 0, K + 1, false⟩) hKn hs3 hnew)
        have z3 : w3.heap.size ≤ (w3.setCell ⟨gl, K, none⟩ (.pointer (some ⟨w2.heap.size, 0, none⟩))).heap.size := by simp [World.setCell]
        clear x2 x3 f3 hs3 hb3 HW2 hnew
        generalize w3.setCell ⟨gl, K, none⟩ (.pointer (some ⟨w2.heap.size, 0, none⟩)) = w4 at *
        generalize w2.heap.size = g2 at *
        have x4 := HW3.out.pb.2 K hKn
        have f4 : w4.frozen? ⟨gq, K, none⟩ = false := by obtain ⟨cs, hb⟩ := HW3.out.pb.1; exact hb.frozen K
        go_upto_region 23 with fail
        have HW4 := Lib.hid (HW3.out.pset K false)
        clear x4 f4 HW3
        generalize w4.setCell ⟨gq, K, none⟩ (.bool false) = w5 at *
        have HUN := Lib.hid (unpinned_any HW4.out.sn K hKn (by omega) 200)
        go_wp2_with (go_at_call 25; refine (HUN.out).mono ?_; rintro e w6 ⟨rfl, hs6, hk6⟩)
        have HW5 := HW4.out.unp hs6 hk6
        have HF := Lib.hid (TurnR.pinB HTA.out hKn (by omega) z2 HW5.ep HW5.st HW5.gi HW5.re HW5.th HW5.sn HW5.pb HW5.bel).up
        clear HW5
        go_meet
        exact ⟨_, _, _, _, _, _, _, _, _, _, HF.out⟩
    · as_aux_lemma =>
      have b0 : ((q : Int) == 0) = false := by simp; omega
      have b1 : ((q : Int) == 1) = true := by simp; omega
      clear hq hql
      cases hP : P K with
      | some g =>
        have x0 := HTA.out.st.at1 hKn hP
        go_wp2
        go_meet
        exact ⟨_, _, _, _, _, _, _, _, _, _, HTA.out.up⟩
      | none =>
        have x0 := (HTA.out.st.cell K hKn).trans (by rw [hP]; rfl : _ = some (Value.pointer none))
        have HRB := Lib.hid (rBegin_any HTA.out.re K hKn true)
        go_upto_region 26 with (go_at_call 23; refine (HRB.out).mono ?_; rintro e w2 ⟨rfl, hre, hk2⟩)
        have HW2 := Lib.hid (HW.out.rbegin hre hk2)
        have x2 := (HW2.out.st.cell K hKn).trans (by rw [hP]; rfl : _ = some (Value.pointer none))
        have z2 := HW2.out.bel.size
        clear hre hk2 x0 HRB HW
        go_upto_region 27 with (go_at_call 26; refine (eAdvance_any HW2.out.ep).mono ?_; rintro e w3 ⟨rfl, hs3, hb3⟩; have x3 := (HW2.out.st.below hb3).cell K hKn; have f3 := (HW2.out.st.below hb3).free K)
        have hnew : ∀ j, j < n → P j ≠ some w2.heap.size := fun j hj hpj => by have := (HW2.out.st.st j _ hj hpj).lt; omega
        have HW3 := (HW2.out.below hb3).step (s := ⟨4, 0, 1, false⟩) hKn hs3 hnew
        have HF := Lib.hid (TurnR.adv HTA.out hKn z2 HW3.ep HW3.st HW3.gi HW3.re HW3.th HW3.sn HW3.pb HW3.bel).up
        clear HW3
        go_meet
        exact ⟨_, _, _, _, _, _, _, _, _, _, HF.out⟩
    · as_aux_lemma =>
      have b0 : ((q : Int) == 0) = false := by simp; omega
      have b1 : ((q : Int) == 1) = false := by simp; omega
      have b2 : ((q : Int) == 2) = true := by simp; omega
      clear hq hql
      cases hP : P K with
      | none =>
        have x0 := (HTA.out.st.cell K hKn).trans (by rw [hP]; rfl : _ = some (Value.pointer none))
        go_wp2
        refine ⟨?_, by simp [WmuT, intOf]; omega⟩
        unfold WIT
        exact ⟨i + 1, _, _, _, _, _, _, _, _, _, _, _, _, _, _, _, _, _, _, _, _, _, _, _, _, _, _, _, _, _, _, _, _, _, _, _, _, _, _, _, _, _, _, _, _, _, _, _, _, _, _, _, _, _, _, _, _, _, _, _, _, _, _, _, _, _, _, _, _, _, _, _, _, _, _, _, _, _, _, _, _, _, _, _, _, _, _, _, _, _, _, _, _, _, _, _, _, _, _, _, _, _, _, _, _, _, _, _, _, _, _, _, _, _, _, _, _, _, _, _, _, _, _, _, _, _, _, _, _, _, _, _, _, _, _, _, _, _, _, _, _, _, _, _, _, _, _, _, _, _, _, _, _, _, _, _, _, _, _, _, _, _, _, _, _, _, _, _, _, _, _, _, _, _, _, _, _, _, _, _, _, _, _, _, _, _, _, _, _, _, _, _, _, _, _, _, _, _, _, _, _, _, _, _, _, _, _, _, _, _, _, _, _, _, _, _, _, _, _, _, _, _, _, _, _, _, _, _, _, _, _, _, _, _, _, _, _, _, _, _, _, _, _, _, _, _, _, _, _, _, _, _, _, _, _, _, _, _, _, _, _, _, _, _, _, _, _, _, _, _, _, _, _, _, _, _, _, _, _, _, _, _, ⟨by omega, by omega, _, _, _, _, _, _, _, _, _, _, HTA.out.up⟩, rfl⟩
      | some g =>
        have x0 := HTA.out.st.at1 hKn hP
        obtain ⟨hss, hgb⟩ := (HTA.out.sim K hKn).2 g hP
        have hbn : 0 ≤ now ∧ now ≤ 100000 := by have := HTA.out.nw; omega
        have hok : SvOk n (S K) := by
          obtain ⟨_, _, _, hc⟩ := hss
          unfold SvOk
          omega
        have HSD := sim_do HTA.out.re hKn hss HTA.out.sl hbn
        obtain ⟨rd, hrd⟩ : ∃ b, ((stp n l (S K)).2.nx == 0) = b := ⟨_, rfl⟩
        obtain ⟨rw1, hrw⟩ : ∃ b, (stp n l (S K)).2.won = b := ⟨_, rfl⟩
        obtain ⟨rp, hrp⟩ : ∃ b, ((S K).nx == 3) = b := ⟨_, rfl⟩
        unfold DoT at HSD
        rw [hrd, hrw, hrp] at HSD
        have HSD := Lib.hid HSD
        have HDO := Lib.hid (fun (wz : World) (he : EpB wz ge gc gn gg n l) (hs : StV wz g gc (S K)) => by have h := stp_t he hs hok; rw [hrd] at h; exact h)
        have HRP := Lib.hid hrp
        have HRD := Lib.hid hrd
        have HRW := Lib.hid hrw
        have HSS := Lib.hid hss
        clear hss hok hbn hrd hrw hrp
        go_upto_region 31 with (go_at_call 27; refine (HSD.out).mono ?_; rintro e w2 ⟨now', pins', t', rfl, hre, hsl, hs1, hs0, hk2⟩)
        have HW2 := Lib.hid (HW.out.rdo hre hk2)
        have HSL := Lib.hid hsl
        have HS1 := Lib.hid hs1
        have HS0 := Lib.hid hs0
        have x2 := HW2.out.st.at1 hKn hP
        clear hre hk2 hsl hs1 hs0 x0 HSD HW
        go_upto_region 33 with (first
          | (go_at_call 19; refine (HDO.out _ HW2.out.ep (HW2.out.st.st K g hKn hP)).mono ?_; rintro e w3 ⟨rfl, he3, hs3, hk3⟩; have x3 := (HW2.out.did hKn hP hgb he3 hs3 hk3).st.at1 hKn hP)
          | (go_at_call 20; refine (eWon_any (won := (stp n l (S K)).2.won) hs3).mono ?_; rw [HRW.out]; rintro e w4 ⟨rfl, rfl⟩))
        have HW3 := Lib.hid (HW2.out.did hKn hP hgb he3 hs3 hk3)
        have HST := Lib.hid hs3
        clear he3 hs3 hk3 x2 HW2 HDO HRW
        cases hd : rd with
        | false =>
          subst hd
          have h0 : (stp n l (S K)).2.nx ≠ 0 := by have := HRD.out; simpa using this
          have HF := Lib.hid (TurnR.did HTA.out hKn hP (by omega) h0 HSL.out (HS1.out h0) HW3.out.ep HW3.out.st HW3.out.gi HW3.out.re HW3.out.th HW3.out.sn HW3.out.pb HW3.out.bel)
          clear h0
          go_wp2
          go_meet
          exact ⟨_, _, _, _, _, _, _, _, _, _, HF.out⟩
        | true =>
          subst hd
          have h0 : (stp n l (S K)).2.nx = 0 := by have := HRD.out; simpa using this
          have HD0 : Calls Try.prog 19 #[.pointer (some ⟨ge, 0, none⟩), .pointer (some ⟨g, 0, none⟩)] w3 fun e w' => e = .returned (.bool true) ∧ w3 = w' := by
            have hs := HST.out
            unfold StV at hs
            rw [h0] at hs
            exact do0 hs
          have HD0 := Lib.hid HD0
          have H0 := Lib.hid h0
          clear h0
          go_upto_region 36 with (go_at_call 19; refine (HD0.out).mono ?_; rintro e w4 ⟨rfl, rfl⟩)
          have x4 := HW3.out.pb.2 K hKn
          have f4 : w3.frozen? ⟨gq, K, none⟩ = false := by obtain ⟨cs, hb⟩ := HW3.out.pb.1; exact hb.frozen K
          have HW4 := Lib.hid (HW3.out.pset K (pn K || rp))
          obtain ⟨pk, hpk⟩ : ∃ b, pn K = b := ⟨_, rfl⟩
          rw [hpk] at x4
          have HPK := Lib.hid hpk
          rw [hpk] at HW4
          clear hpk x3 HW3 HD0 HST
          cases hpk : pk with
          | true =>
            subst hpk
            go_upto_region 37 with fail
            rw [Bool.true_or] at HW4
            clear x4 f4
            generalize w3.setCell ⟨gq, K, none⟩ (.bool true) = w5 at *
            have x5 := HW4.out.st.at1 hKn hP
            have f5 := HW4.out.st.free K
            have HW5 := HW4.out.nostep (s := S K) hKn
            have HF := Lib.hid (TurnR.done (s' := S K) HTA.out hKn hP (by omega) H0.out HSL.out (HS0.out H0.out) HW5.ep (by have h := HW5.st; rw [upE_upE] at h; exact h) HW5.gi HW5.re HW5.th HW5.sn (by rw [HPK.out, HRP.out]; exact HW5.pb) HW5.bel)
            clear HW5
            go_wp2
            go_meet
            exact ⟨_, _, _, _, _, _, _, _, _, _, HF.out⟩
          | false =>
            subst hpk
            go_upto_region 37 with fail
            rw [Bool.false_or] at HW4
            clear x4 f4
            generalize w3.setCell ⟨gq, K, none⟩ (.bool rp) = w5 at *
            have x5 := HW4.out.st.at1 hKn hP
            have f5 := HW4.out.st.free K
            have HW5 := HW4.out.nostep (s := S K) hKn
            have HF := Lib.hid (TurnR.done (s' := S K) HTA.out hKn hP (by omega) H0.out HSL.out (HS0.out H0.out) HW5.ep (by have h := HW5.st; rw [upE_upE] at h; exact h) HW5.gi HW5.re HW5.th HW5.sn (by rw [HPK.out, HRP.out]; exact HW5.pb) HW5.bel)
            clear HW5
            go_wp2
            go_meet
            exact ⟨_, _, _, _, _, _, _, _, _, _, HF.out⟩
    · as_aux_lemma =>
      have b0 : ((q : Int) == 0) = false := by simp; omega
      have b1 : ((q : Int) == 1) = false := by simp; omega
      have b2 : ((q : Int) == 2) = false := by simp; omega
      have b3 : ((q : Int) == 3) = true := by simp; omega
      clear hq hql
      cases hP : P K with
      | none =>
        have x0 := (HTA.out.st.cell K hKn).trans (by rw [hP]; rfl : _ = some (Value.pointer none))
        go_wp2
        refine ⟨?_, by simp [WmuT, intOf]; omega⟩
        unfold WIT
        exact ⟨i + 1, _, _, _, _, _, _, _, _, _, _, _, _, _, _, _, _, _, _, _, _, _, _, _, _, _, _, _, _, _, _, _, _, _, _, _, _, _, _, _, _, _, _, _, _, _, _, _, _, _, _, _, _, _, _, _, _, _, _, _, _, _, _, _, _, _, _, _, _, _, _, _, _, _, _, _, _, _, _, _, _, _, _, _, _, _, _, _, _, _, _, _, _, _, _, _, _, _, _, _, _, _, _, _, _, _, _, _, _, _, _, _, _, _, _, _, _, _, _, _, _, _, _, _, _, _, _, _, _, _, _, _, _, _, _, _, _, _, _, _, _, _, _, _, _, _, _, _, _, _, _, _, _, _, _, _, _, _, _, _, _, _, _, _, _, _, _, _, _, _, _, _, _, _, _, _, _, _, _, _, _, _, _, _, _, _, _, _, _, _, _, _, _, _, _, _, _, _, _, _, _, _, _, _, _, _, _, _, _, _, _, _, _, _, _, _, _, _, _, _, _, _, _, _, _, _, _, _, _, _, _, _, _, _, _, _, _, _, _, _, _, _, _, _, _, _, _, _, _, _, _, _, _, _, _, _, _, _, _, _, _, _, _, _, _, _, _, _, _, _, _, _, _, _, _, _, _, _, _, _, _, _, ⟨by omega, by omega, _, _, _, _, _, _, _, _, _, _, HTA.out.up⟩, rfl⟩
      | some g =>
        have x0 := HTA.out.st.at1 hKn hP
        obtain ⟨hss, hgb⟩ := (HTA.out.sim K hKn).2 g hP
        have hbn : 0 ≤ now ∧ now ≤ 100000 := by have := HTA.out.nw; omega
        have hok : SvOk n (S K) := by
          obtain ⟨_, _, _, hc⟩ := hss
          unfold SvOk
          omega
        have HSD := sim_do HTA.out.re hKn hss HTA.out.sl hbn
        obtain ⟨rd, hrd⟩ : ∃ b, ((stp n l (S K)).2.nx == 0) = b := ⟨_, rfl⟩
        obtain ⟨rw1, hrw⟩ : ∃ b, (stp n l (S K)).2.won = b := ⟨_, rfl⟩
        obtain ⟨rp, hrp⟩ : ∃ b, ((S K).nx == 3) = b := ⟨_, rfl⟩
        unfold DoT at HSD
        rw [hrd, hrw, hrp] at HSD
        have HSD := Lib.hid HSD
        have HDO := Lib.hid (fun (wz : World) (he : EpB wz ge gc gn gg n l) (hs : StV wz g gc (S K)) => by have h := stp_t he hs hok; rw [hrd] at h; exact h)
        have HRP := Lib.hid hrp
        have HRD := Lib.hid hrd
        have HRW := Lib.hid hrw
        have HSS := Lib.hid hss
        clear hss hok hbn hrd hrw hrp
        go_upto_region 31 with (go_at_call 27; refine (HSD.out).mono ?_; rintro e w2 ⟨now', pins', t', rfl, hre, hsl, hs1, hs0, hk2⟩)
        have HW2 := Lib.hid (HW.out.rdo hre hk2)
        have HSL := Lib.hid hsl
        have HS1 := Lib.hid hs1
        have HS0 := Lib.hid hs0
        have x2 := HW2.out.st.at1 hKn hP
        clear hre hk2 hsl hs1 hs0 x0 HSD HW
        go_upto_region 33 with (first
          | (go_at_call 19; refine (HDO.out _ HW2.out.ep (HW2.out.st.st K g hKn hP)).mono ?_; rintro e w3 ⟨rfl, he3, hs3, hk3⟩; have x3 := (HW2.out.did hKn hP hgb he3 hs3 hk3).st.at1 hKn hP)
          | (go_at_call 20; refine (eWon_any (won := (stp n l (S K)).2.won) hs3).mono ?_; rw [HRW.out]; rintro e w4 ⟨rfl, rfl⟩))
        have HW3 := Lib.hid (HW2.out.did hKn hP hgb he3 hs3 hk3)
        have HST := Lib.hid hs3
        clear he3 hs3 hk3 x2 HW2 HDO HRW
        cases hd : rd with
        | false =>
          subst hd
          have h0 : (stp n l (S K)).2.nx ≠ 0 := by have := HRD.out; simpa using this
          have HF := Lib.hid (TurnR.did HTA.out hKn hP (by omega) h0 HSL.out (HS1.out h0) HW3.out.ep HW3.out.st HW3.out.gi HW3.out.re HW3.out.th HW3.out.sn HW3.out.pb HW3.out.bel)
          clear h0
          go_wp2
          go_meet
          exact ⟨_, _, _, _, _, _, _, _, _, _, HF.out⟩
        | true =>
          subst hd
          have h0 : (stp n l (S K)).2.nx = 0 := by have := HRD.out; simpa using this
          have HD0 : Calls Try.prog 19 #[.pointer (some ⟨ge, 0, none⟩), .pointer (some ⟨g, 0, none⟩)] w3 fun e w' => e = .returned (.bool true) ∧ w3 = w' := by
            have hs := HST.out
            unfold StV at hs
            rw [h0] at hs
            exact do0 hs
          have HD0 := Lib.hid HD0
          have H0 := Lib.hid h0
          clear h0
          go_upto_region 36 with (go_at_call 19; refine (HD0.out).mono ?_; rintro e w4 ⟨rfl, rfl⟩)
          have x4 := HW3.out.pb.2 K hKn
          have f4 : w3.frozen? ⟨gq, K, none⟩ = false := by obtain ⟨cs, hb⟩ := HW3.out.pb.1; exact hb.frozen K
          have HW4 := Lib.hid (HW3.out.pset K (pn K || rp))
          obtain ⟨pk, hpk⟩ : ∃ b, pn K = b := ⟨_, rfl⟩
          rw [hpk] at x4
          have HPK := Lib.hid hpk
          rw [hpk] at HW4
          clear hpk x3 HW3 HD0 HST
          cases hpk : pk with
          | true =>
            subst hpk
            go_upto_region 37 with fail
            rw [Bool.true_or] at HW4
            clear x4 f4
            generalize w3.setCell ⟨gq, K, none⟩ (.bool true) = w5 at *
            have x5 := HW4.out.st.at1 hKn hP
            have f5 := HW4.out.st.free K
            have HW5 := HW4.out.nostep (s := S K) hKn
            have HF := Lib.hid (TurnR.done (s' := S K) HTA.out hKn hP (by omega) H0.out HSL.out (HS0.out H0.out) HW5.ep (by have h := HW5.st; rw [upE_upE] at h; exact h) HW5.gi HW5.re HW5.th HW5.sn (by rw [HPK.out, HRP.out]; exact HW5.pb) HW5.bel)
            clear HW5
            go_wp2
            go_meet
            exact ⟨_, _, _, _, _, _, _, _, _, _, HF.out⟩
          | false =>
            subst hpk
            go_upto_region 37 with fail
            rw [Bool.false_or] at HW4
            clear x4 f4
            generalize w3.setCell ⟨gq, K, none⟩ (.bool rp) = w5 at *
            have x5 := HW4.out.st.at1 hKn hP
            have f5 := HW4.out.st.free K
            have HW5 := HW4.out.nostep (s := S K) hKn
            have HF := Lib.hid (TurnR.done (s' := S K) HTA.out hKn hP (by omega) H0.out HSL.out (HS0.out H0.out) HW5.ep (by have h := HW5.st; rw [upE_upE] at h; exact h) HW5.gi HW5.re HW5.th HW5.sn (by rw [HPK.out, HRP.out]; exact HW5.pb) HW5.bel)
            clear HW5
            go_wp2
            go_meet
            exact ⟨_, _, _, _, _, _, _, _, _, _, HF.out⟩
    · as_aux_lemma =>
      have b0 : ((q : Int) == 0) = false := by simp; omega
      have b1 : ((q : Int) == 1) = false := by simp; omega
      have b2 : ((q : Int) == 2) = false := by simp; omega
      have b3 : ((q : Int) == 3) = false := by simp; omega
      have b4 : ((q : Int) == 4) = true := by simp; omega
      clear hq hql
      cases hP : P K with
      | some g =>
        have x0 := HTA.out.st.at1 hKn hP
        go_wp2
        refine ⟨?_, by simp [WmuT, intOf]; omega⟩
        unfold WIT
        exact ⟨i + 1, _, _, _, _, _, _, _, _, _, _, _, _, _, _, _, _, _, _, _, _, _, _, _, _, _, _, _, _, _, _, _, _, _, _, _, _, _, _, _, _, _, _, _, _, _, _, _, _, _, _, _, _, _, _, _, _, _, _, _, _, _, _, _, _, _, _, _, _, _, _, _, _, _, _, _, _, _, _, _, _, _, _, _, _, _, _, _, _, _, _, _, _, _, _, _, _, _, _, _, _, _, _, _, _, _, _, _, _, _, _, _, _, _, _, _, _, _, _, _, _, _, _, _, _, _, _, _, _, _, _, _, _, _, _, _, _, _, _, _, _, _, _, _, _, _, _, _, _, _, _, _, _, _, _, _, _, _, _, _, _, _, _, _, _, _, _, _, _, _, _, _, _, _, _, _, _, _, _, _, _, _, _, _, _, _, _, _, _, _, _, _, _, _, _, _, _, _, _, _, _, _, _, _, _, _, _, _, _, _, _, _, _, _, _, _, _, _, _, _, _, _, _, _, _, _, _, _, _, _, _, _, _, _, _, _, _, _, _, _, _, _, _, _, _, _, _, _, _, _, _, _, _, _, _, _, _, _, _, _, _, _, _, _, _, _, _, _, _, _, _, _, _, _, _, _, _, _, _, _, _, _, ⟨by omega, by omega, _, _, _, _, _, _, _, _, _, _, HTA.out.up⟩, rfl⟩
      | none =>
        have x0 := (HTA.out.st.cell K hKn).trans (by rw [hP]; rfl : _ = some (Value.pointer none))
        have HUP := Lib.hid (eUnpin_any HW.out.ep K hKn)
        go_upto_region 41 with (go_at_call 11; refine (HUP.out).mono ?_; rintro e w2 ⟨rfl, he2, hk2⟩)
        have HW2 := Lib.hid (HW.out.unpin he2 hk2)
        have HRU := Lib.hid (rUnpin_any HW2.out.re K hKn)
        clear he2 hk2 x0 HUP HW
        go_upto_region 42 with (go_at_call 28; refine (HRU.out).mono ?_; rintro e w3 ⟨rfl, hr3, hk3⟩)
        have HW3 := Lib.hid (HW2.out.runpin hr3 hk3)
        have x4 := HW3.out.pb.2 K hKn
        have f4 : w3.frozen? ⟨gq, K, none⟩ = false := by obtain ⟨cs, hb⟩ := HW3.out.pb.1; exact hb.frozen K
        clear hr3 hk3 HRU HW2
        go_upto_region 43 with fail
        have HW4 := Lib.hid (HW3.out.pset K false)
        clear x4 f4 HW3
        generalize w3.setCell ⟨gq, K, none⟩ (.bool false) = w5 at *
        have HUN := Lib.hid (unpinned_any HW4.out.sn K hKn (by omega) 200)
        go_wp2_with (go_at_call 25; refine (HUN.out).mono ?_; rintro e w6 ⟨rfl, hs6, hk6⟩)
        have HW5 := HW4.out.unp hs6 hk6
        have HF := Lib.hid (TurnR.unp HTA.out hKn (by omega) hP HW5.ep HW5.st HW5.gi HW5.re HW5.th HW5.sn HW5.pb HW5.bel).up
        clear HW5
        go_meet
        exact ⟨_, _, _, _, _, _, _, _, _, _, HF.out⟩
    · as_aux_lemma =>
      have b0 : ((q : Int) == 0) = false := by simp; omega
      have b1 : ((q : Int) == 1) = false := by simp; omega
      have b2 : ((q : Int) == 2) = false := by simp; omega
      have b3 : ((q : Int) == 3) = false := by simp; omega
      have b4 : ((q : Int) == 4) = false := by simp; omega
      have b5 : ((q : Int) == 5) = true := by simp; omega
      clear hq hql
      have hgl := (HTA.out.giv K hKn).2.1
      have hl0 : l.getD 0 0 = now := HTA.out.sl.2.2.1
      have ei : ((i + 1 : Nat) : Int) = (i : Int) + 1 := by omega
      have HGI := gsGive HW.out.ep HW.out.gi K hKn ((i : Int) + 1) (by omega) HW.out.bel.size
      rw [hl0] at HGI
      have HGI := Lib.hid HGI
      have HEI := Lib.hid ei
      clear hl0 ei
      go_upto_region 48 with (go_at_call 15; refine (HGI.out).mono ?_; rintro e w2 ⟨rfl, hg2, hk2⟩)
      have HW2 := Lib.hid (HW.out.gave hg2 hk2)
      have HRG := Lib.hid (tsGive HW2.out.re HW2.out.th K hKn ((i : Int) + 1) (by omega) HW2.out.bel.size)
      clear hg2 hk2 HGI HW
      go_upto_region 49 with (go_at_call 29; refine (HRG.out).mono ?_; rintro e w3 ⟨rfl, hg3, hk3⟩)
      have HW3 := Lib.hid (HW2.out.rgave hg3 hk3)
      have z3 := HW3.out.bel.size
      clear hg3 hk3 HRG HW2
      have hc2 : i + 1 < 200 := by omega
      go_wp2_with (first | (refine wpList_copyB (w := w3) rfl (.tmp 259) (.tmp 260) rfl HW3.out.pb hn1 hn2 (by rfl) (by rfl) ?_; intro g5 n5 w5 hg5 hn5 hm5 hb5 hc5 hbe5; have x6 := ((HW3.out.below hbe5).sn.cell (i + 1) (by omega)); have f6 : w5.frozen? ⟨gz, i + 1, none⟩ = false := by (obtain ⟨cs, hb⟩ := (HW3.out.below hbe5).sn.bl; exact hb.frozen (i + 1))) | fail)
      have hgq : gq < w3.heap.size := by obtain ⟨cs, hb⟩ := HW3.out.pb.1; exact hb.lt
      have HW5 := (HW3.out.below hbe5).slot (i + 1) (by omega) (some (g5, n5)) pn (fun g c e => by
        injection e with e
        injection e with e1 e2
        subst e1
        subst e2
        refine ⟨by omega, hn5, hm5, hb5, hc5, fun j d hj hv => ?_, by omega⟩
        obtain ⟨_, _, _, ⟨ds, h4⟩, _⟩ := HW3.out.sn.row j _ _ hj hv
        have := h4.lt
        omega)
      have HF := Lib.hid (TurnR.give HTA.out hKn (show g5 ≠ gq by omega) HW5.ep HW5.st (by rw [HEI.out]; exact HW5.gi) HW5.re (by rw [HEI.out]; exact HW5.th) HW5.sn HW5.pb HW5.bel)
      clear HW5
      go_meet
      exact ⟨_, _, _, _, _, _, _, _, _, _, HF.out⟩
  case rest =>
    obtain ⟨l, now, pins, P, S, T, G, V, B, pn, ht⟩ := hcut
    have HT := Lib.hid ht
    have HW := Lib.hid (ht.wo HB.out)
    obtain ⟨r, hr⟩ : ∃ r, r = ripeN (G K) now := ⟨_, rfl⟩
    have hgl := (ht.giv K hKn).2.1
    have hgk : (G K).length ≤ 151 := by omega
    have hrl : r ≤ (G K).length := hr ▸ ripeN_le _ _
    have hl0 : l.getD 0 0 = now := ht.sl.2.2.1
    have HGO := Lib.hid (show GOk (G K) from fun j hj => by
      have hx := (ht.giv K hKn).2.2 _ (List.getElem_mem hj)
      rw [show (G K).getD j default = (G K)[j] by simp [List.getD, hj]]
      have := hx.1
      have := ht.nw
      omega)
    have hst := srt_take now (G K) (ht.giv K hKn).1
    rw [← hr] at hst
    obtain ⟨zs, hzs⟩ : ∃ x, ((G K).take r).map (·.1) = x := ⟨_, rfl⟩
    have hzl : zs.length = r := by rw [← hzs]; simp; omega
    have HFR := Lib.hid (show ∀ j, j < r → ∃ m : Nat, zs.getD j 0 = (m : Int) ∧ 1 ≤ m ∧ m ≤ i + 1 ∧ ∀ g, V m = some g → ∀ p, p < n → B m p = false from fun j hj => by
      obtain ⟨m, h1, h2⟩ := ht.free (w' := w) hKn hr hj
      refine ⟨m, ?_, h2⟩
      rw [← h1, ← hzs]
      have hj2 : j < (G K).length := by omega
      simp [List.getD, hj, hj2])
    have HRX := Lib.hid hr
    have htk := gsTake HW.out.ep HW.out.gi K hKn (by omega) HGO.out r (by rw [hl0]; exact hr)
    rw [hzs] at htk
    have HTK := Lib.hid htk
    have HL0 := Lib.hid hl0
    have HZL := Lib.hid hzl
    have HST := Lib.hid hst
    have HZS := Lib.hid hzs
    clear ht htk HTA hl0 hst hr hzs
    go_upto_region 50 with fail
    go_upto_region 51 with (first
      | (go_at_call 16; refine (HTK.out).mono ?_; rintro e w2 ⟨rfl, hrow2, hg2, hk2⟩; have htt := tsTake (HW.out.gave hg2 hk2).re (HW.out.gave hg2 hk2).th K hKn (by omega) HGO.out (HW.out.gave hg2 hk2).bel.size)
      | (go_at_call 30; refine htt.mono ?_; rintro e w3 ⟨A2, n2, k2, rfl, hn2', ho3, ht3, hk3⟩; obtain rfl : r = n2 := (by rw [hn2', HST.out.1, List.length_take]; omega); clear hn2'))
    have hw2 := HW.out.gave hg2 hk2
    rw [HST.out.1] at ho3
    rw [HST.out.2] at ht3
    rw [HZS.out] at ho3
    have HW3 := Lib.hid (hw2.rtook ht3 hk3)
    have HL3 := Lib.hid ((RdU.row hrow2).fr (fr_rtake hw2.th.blk hk3) (by decide))
    have HM3 := Lib.hid (RdU.own ho3 HZL.out)
    clear hw2 htt hrow2 hg2 hk2 ho3 ht3 hk3 HTK HW HST HZS HGO
    generalize wc.heap.size = g21 at *
    obtain ⟨G', hG'⟩ : ∃ x, upE G K ((G K).drop r) = x := ⟨_, rfl⟩
    rw [hG'] at HW3
    have hgl' : (G' K).length ≤ 151 := by rw [← hG', upE_same, List.length_drop]; omega
    have HGE := Lib.hid hG'
    clear hG'
    obtain ⟨y, hy⟩ : ∃ y : Nat, now = (y : Int) := ⟨now.toNat, by have := HT.out.nw; omega⟩
    subst hy
    have hy1 : y ≤ 151 := by have := HT.out.nw; omega
    have hlen := HT.out.sl.1
    have hxe : l.getD (K + 1) 0 = l[K + 1]'(by omega) := by simp [List.getD, show K + 1 < l.length by omega]
    have hx0 : 0 ≤ l.getD (K + 1) 0 := by rw [hxe]; exact (HW3.out.ep.cl.rg _ (List.getElem_mem _)).1
    have hx1 := HT.out.lb K hKn
    obtain ⟨x, hx⟩ : ∃ x : Nat, l.getD (K + 1) 0 = (x : Int) := ⟨(l.getD (K + 1) 0).toNat, by omega⟩
    have hx2 : x ≤ 152 := by omega
    have HX := Lib.hid hx
    have r0 : w3.cell? ⟨gr, 0, none⟩ = some (.int .i64 y) := HW3.out.re.st.cell 0
    have r1 : w3.cell? ⟨gr, 1, none⟩ = some (.slice (some ⟨gp, 0, none⟩) n n) := HW3.out.re.st.cell 1
    have r2 : w3.cell? ⟨gp, K, none⟩ = some (.int .i64 x) := by
      have h := HW3.out.re.pin.at (i := K) (by rw [HW3.out.re.len]; exact hKn)
      rw [HT.out.sl.2.2.2 K hKn, hx] at h
      exact h
    have hKi : (K : Int) < (n : Int) := by omega
    clear hlen hxe hx0 hx1 hx
    go_big_quiet ((first
      | (go_at_call 17; exact quietB (gsWaiting (HW3.out.ep.drewN _) (HW3.out.gi.drewN _) K hKn))
      | (go_at_call 31; exact quietB (tsWaiting (HW3.out.re.drewN _) (HW3.out.th.drewN _) K hKn))
      | (go_at_call 13; exact quietB (eNow_any (HW3.out.ep.drewN _) y HL0.out (by omega)))
      | (go_at_call 14; exact Calls.quiet_of (ePinned_any (HW3.out.ep.drewN _) K hKn x HX.out (by omega)))))
    go_upto_region 53 with fail
    have HW4 := Lib.hid (HW3.out.below (bdrewN w3 nq))
    have HL4 := Lib.hid (HL3.out.drewN nq)
    have HM4 := Lib.hid (HM3.out.drewN nq)
    clear r0 r1 r2 HW3 HL3 HM3 HX
    generalize w3.drewN nq = w4 at *
    have HGI := Lib.hid (gsGiven HW4.out.ep HW4.out.gi K hKn (by omega))
    go_upto_region 54 with (first
      | (go_at_call 18; refine (HGI.out).mono ?_; rintro e w5 ⟨rfl, hrow5, hb5⟩; have HTG := tsGiven (HW4.out.below hb5).re (HW4.out.below hb5).th K hKn (by omega))
      | (go_at_call 32; refine (HTG).mono ?_; rintro e w6 ⟨A6, k6, rfl, ho6, hb6⟩))
    obtain ⟨zg, hzg⟩ : ∃ x, (G' K).map (·.1) = x := ⟨_, rfl⟩
    rw [hzg] at hrow5 ho6
    have hzgl : zg.length = (G' K).length := by rw [← hzg, List.length_map]
    have HMO := Lib.hid (show MoR w ge gc gn gg gl gr gp gs gv gz gq n l y pins P S T G' V B pn (some ⟨g21, 0, none⟩) A2 zs (some ⟨w4.heap.size, 0, none⟩) A6 zg w6 from
      ⟨(HW4.out.below hb5).below hb6, (HL4.out.below hb5).below hb6, (HM4.out.below hb5).below hb6, (RdU.row hrow5).below hb6, RdU.own ho6 hzgl⟩)
    clear hzg hrow5 ho6 hb5 hb6 HTG HGI HW4 HL4 HM4
    generalize (G' K).length = m at *
    generalize w4.heap.size = g23 at *
    go_wp2
    go_loopw [25] (fun s25 wt => ∃ j : Nat, s25 = .int .i64 j ∧ j ≤ m ∧ MoR w ge gc gn gg gl gr gp gs gv gz gq n l y pins P S T G' V B pn (some ⟨g21, 0, none⟩) A2 zs (some ⟨g23, 0, none⟩) A6 zg wt) (fun j _ => m - (intOf j).toNat)
    case atStart => exact ⟨0, rfl, by omega, HMO.out⟩
    case round =>
      obtain ⟨j, rfl, hj, hmo⟩ := hrel
      have HM1 := Lib.hid hmo
      clear hmo HMO
      by_cases hjm : j < m
      · obtain ⟨ga, ha, _, ca⟩ := HM1.out.2.2.2.1 (by omega)
        obtain ⟨gb, hb, _, cb⟩ := HM1.out.2.2.2.2 (by omega)
        injection ha with ha
        injection ha with ha
        subst ha
        subst hb
        have ca := ca j (by omega)
        have cb := cb j (by omega)
        have bj : decide ((j : Int) < (m : Int)) = true := decide_eq_true (by omega)
        generalize zg.getD j 0 = e at *
        go_upto_region 59 with fail
        go_quiet (fail)
        have HM2 := Lib.hid (show MoR w ge gc gn gg gl gr gp gs gv gz gq n l y pins P S T G' V B pn (some ⟨g21, 0, none⟩) A2 zs (some ⟨g23, 0, none⟩) (some ⟨gb, 0, none⟩) zg (wr.drewN nq) from ⟨HM1.out.1.below (bdrewN wr nq), HM1.out.2.1.drewN nq, HM1.out.2.2.1.drewN nq, HM1.out.2.2.2.1.drewN nq, HM1.out.2.2.2.2.drewN nq⟩)
        go_wp2
        go_roundw
        case rel => exact ⟨j + 1, by go_num, by omega, HM2.out⟩
        case measure => simp [intOf]; omega
      · have bj : decide ((j : Int) < (m : Int)) = false := decide_eq_false (by omega)
        have HLO := Lib.hid (show LoR w ge gc gn gg gl gr gp gs gv gz gq n l y pins P S T G' V B pn (some ⟨g21, 0, none⟩) A2 zs wr from ⟨V, fun _ _ h => h, HM1.out.1, HM1.out.2.1, HM1.out.2.2.1⟩)
        clear HM1
        go_wp2
        clear bj hjm hj
        go_loopw [26] (fun s26 wt => ∃ j : Nat, s26 = .int .i64 j ∧ j ≤ r ∧ LoR w ge gc gn gg gl gr gp gs gv gz gq n l y pins P S T G' V B pn (some ⟨g21, 0, none⟩) A2 zs wt) (fun j _ => r - (intOf j).toNat)
        case atStart => exact ⟨0, rfl, by omega, HLO.out⟩
        case round =>
          obtain ⟨j, rfl, hj, V', hV, hw, h1, h2⟩ := hrel
          have HV := Lib.hid hV
          have HW7 := Lib.hid hw
          have H1 := Lib.hid h1
          have H2 := Lib.hid h2
          have hzl := HZL.out
          clear HLO hV hw h1 h2
          by_cases hjr : j < r
          · obtain ⟨e, he, e1, e2, eB⟩ := HFR.out j hjr
            obtain ⟨ga, ha, _, ca⟩ := H1.out (by omega)
            obtain ⟨gb, hb, _, cb⟩ := H2.out (by omega)
            injection ha with ha
            injection ha with ha
            subst ha
            subst hb
            have ca := ca j (by omega)
            have cb := cb j (by omega)
            rw [he] at ca cb
            obtain ⟨Aw, kw, cw, hsl, hno⟩ := HW7.out.noB (m := e) (by omega) hn2 (fun g hv => eB g (HV.out e g hv))
            have cz := HW7.out.sn.cell e (by omega)
            rw [hsl] at cz
            have hkw := hno.1
            have HNO := Lib.hid hno
            have e3 : e < 200 := by omega
            have bj : decide ((j : Int) < (r : Int)) = true := decide_eq_true (by omega)
            clear he e1 e2 eB hsl hno hzl
            go_upto_region 64 with fail
            go_quiet (fail)
            have HW8 := Lib.hid (HW7.out.below (bdrewN wr nq))
            have H18 := Lib.hid (H1.out.drewN nq)
            have H28 := Lib.hid (H2.out.drewN nq)
            have HNO8 := Lib.hid (show NoB (wr.drewN nq) Aw kw from HNO.out)
            have ca8 : (wr.drewN nq).cell? ⟨g21, j, none⟩ = some (.int .u64 e) := ca
            have cz8 : (wr.drewN nq).cell? ⟨gz, e, none⟩ = some (.slice Aw kw cw) := cz
            clear ca cb cz HNO HW7 H1 H2
            generalize wr.drewN nq = w8 at *
            go_wp2
            go_loopw [28] (fun s28 wt => ∃ p : Nat, s28 = .int .i64 p ∧ p ≤ kw ∧ wt = w8) (fun p _ => kw - (intOf p).toNat)
            case atStart => exact ⟨0, rfl, by omega, rfl⟩
            case round =>
              obtain ⟨p, rfl, hp, rfl⟩ := hrel
              by_cases hpk : p < kw
              · obtain ⟨gw, hgw, cp⟩ := HNO8.out.2 p hpk
                subst hgw
                go_wp2
                go_roundw
                case rel => exact ⟨p + 1, by go_num, by omega, trivial⟩
                case measure => simp [intOf]; omega
              · have fz : wr.frozen? ⟨gz, e, none⟩ = false := by obtain ⟨cs, hb⟩ := HW8.out.sn.bl; exact hb.frozen e
                have HS := Lib.hid (HW8.out.slot e e3 none (B e) (fun g c h => by cases h))
                have FS := fr_set HW8.out.sn.bl e (slB n none)
                have H19 := Lib.hid (H18.out.fr FS (by decide))
                have H29 := Lib.hid (H28.out.fr FS (by decide))
                have HV9 := Lib.hid (show ∀ m g, upE V' e none m = some g → V m = some g from fun m g h => by
                  by_cases em : m = e
                  · rw [em, upE_same] at h; cases h
                  · rw [upE_ne _ _ em] at h; exact HV.out m g h)
                rw [upE_id] at HS
                clear FS HW8 H18 H28 HV
                go_wp2
                go_roundw
                case rel => exact ⟨j + 1, by go_num, by omega, _, HV9.out, HS.out, H19.out, H29.out⟩
                case measure => simp [intOf]; omega
          · have bj : decide ((j : Int) < (r : Int)) = false := decide_eq_false (by omega)
            have HG7 := HW7.out.gi
            have HT7 := HW7.out.th
            rw [← HGE.out] at HG7 HT7
            have HF := Lib.hid (TurnR.took HT.out hKn r HV.out HW7.out.ep HW7.out.st HG7 HW7.out.re HT7 HW7.out.sn HW7.out.pb HW7.out.bel)
            clear HG7 HT7
            go_wp2
            refine ⟨?_, by simp [WmuT, intOf]; omega⟩
            unfold WIT
            exact ⟨i + 1, _, _, _, _, _, _, _, _, _, _, _, _, _, _, _, _, _, _, _, _, _, _, _, _, _, _, _, _, _, _, _, _, _, _, _, _, _, _, _, _, _, _, _, _, _, _, _, _, _, _, _, _, _, _, _, _, _, _, _, _, _, _, _, _, _, _, _, _, _, _, _, _, _, _, _, _, _, _, _, _, _, _, _, _, _, _, _, _, _, _, _, _, _, _, _, _, _, _, _, _, _, _, _, _, _, _, _, _, _, _, _, _, _, _, _, _, _, _, _, _, _, _, _, _, _, _, _, _, _, _, _, _, _, _, _, _, _, _, _, _, _, _, _, _, _, _, _, _, _, _, _, _, _, _, _, _, _, _, _, _, _, _, _, _, _, _, _, _, _, _, _, _, _, _, _, _, _, _, _, _, _, _, _, _, _, _, _, _, _, _, _, _, _, _, _, _, _, _, _, _, _, _, _, _, _, _, _, _, _, _, _, _, _, _, _, _, _, _, _, _, _, _, _, _, _, _, _, _, _, _, _, _, _, _, _, _, _, _, _, _, _, _, _, _, _, _, _, _, _, _, _, _, _, _, _, _, _, _, _, _, _, _, _, _, _, _, _, _, _, _, _, _, _, _, _, _, _, _, _, _, _, ⟨by omega, by omega, _, _, _, _, _, _, _, _, _, _, HF.out⟩, rfl⟩
end Go.Proofs.Ythkmpcfjeclejaa
