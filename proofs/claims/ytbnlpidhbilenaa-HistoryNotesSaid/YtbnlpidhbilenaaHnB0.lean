/-
  HistoryNotes: one round of its loop. Conditions stand in each theorem.
-/
import Derived.Test.YtbnlpidhbilenaaHnK
namespace Go.Proofs.Ytbnlpidhbilenaa
open Go.RowKit Go.Deep Plain
set_option linter.unusedVariables false
set_option linter.unusedSimpArgs false
set_option maxRecDepth 1000000


set_option maxHeartbeats 80000000 in
theorem notes_body0 (w : World) (gh nr c : Nat) (A : Option Addr) (c1 c17 c18 c19 c20 c21 c22 c23 c24 c25 c26 c27 c28 c29 c30 c31 c32 c33 c34 c35 c36 c37 c38 c39 c40 c41 c42 c43 c44 c45 c46 c47 : Value) (L : List A18) (hL : L.length = nr) (hnr : nr ≤ c) (hc : c ≤ 9223372036854775807) (hR : RdA w A L) (hok : ∀ x ∈ L, x.ok w) (hgh : w.heap.size ≤ gh) : BodyK w gh nr c A c1 c17 c18 c19 c20 c21 c22 c23 c24 c25 c26 c27 c28 c29 c30 c31 c32 c33 c34 c35 c36 c37 c38 c39 c40 c41 c42 c43 c44 c45 c46 c47 L 0 := by
  intro i now k lA lc r2 u7 u8 u9 u10 u11 u12 u13 u14 u15 u16 u48 u49 u50 u51 u52 u53 u54 u55 u56 u57 u58 u59 u60 u61 u62 u63 u64 u65 u66 u67 u68 u69 u70 u71 u72 u73 u74 u75 u76 u77 u78 u79 u80 u81 u82 u83 u84 u85 u86 u87 u88 u89 u90 u91 u92 u93 u94 u95 u96 u97 u98 u99 u100 u101 u102 u103 u104 u105 u106 u107 u108 u109 u110 u111 u112 u113 u114 u115 u116 u117 u118 u119 u120 u121 u122 u123 u124 u125 u126 u127 u128 u129 u130 u131 u132 u133 u134 u135 u136 u137 u138 u139 u140 u141 u142 u143 u144 u145 u146 u147 u148 u149 u150 u151 u152 u153 u154 u155 u156 u157 u158 u159 u160 u161 u162 u163 u164 u165 u166 u167 u168 u169 u170 u171 u172 u173 u174 u175 u176 u177 u178 u179 u180 u181 u182 u183 u184 u185 u186 u187 u188 u189 u190 u191 u192 u193 u194 u195 u196 u197 u198 u199 u200 u201 u202 u203 u204 u205 u206 u207 u208 u209 u210 u211 u212 u213 u214 u215 u216 u217 u218 u219 u220 u221 u222 u223 u224 u225 u226 u227 u228 u229 u230 u231 u232 u233 u234 u235 u236 u237 u238 u239 u240 u241 u242 u243 u244 u245 u246 u247 u248 u249 u250 u251 u252 u253 u254 u255 u256 u257 u258 u259 u260 u261 u262 u263 u264 u265 u266 u267 u268 u269 u270 u271 u272 u273 u274 u275 u276 u277 u278 u279 u280 u281 u282 u283 u284 u285 u286 u287 u288 u289 u290 u291 u292 u293 u294 u295 u296 u297 u298 u299 u300 u301 u302 u303 u304 u305 u306 u307 u308 u309 u310 wr Q0 hkd hlt ht
  obtain ⟨hl1, hl2⟩ := hlt
  obtain ⟨_, _, hA, hcc, es, ls, F, G, ht⟩ := ht
  obtain ⟨bk, off, rfl, hbl, hcell⟩ := hR (by omega)
  have hAt := (hcell i (by omega)).below ht.bel hbl
  have hox := hok (L.getD i a180) (by
    have e : L.getD i a180 = L[i]'(by omega) := by simp [List.getD, show i < L.length by omega]
    rw [e]; exact List.getElem_mem _)
  generalize L.getD i a180 = x at *
  unfold kind18 at hkd
  obtain ⟨what, ai, ⟨out, sw, who, sp, fl, sA, sn, sc, ys, bend, byv, tick⟩, err, port⟩ := x
  have hkn := ht.kn
  have hni := ht.ni
  have hwi := bounds_i64 hox.wi
  have hwp := bounds_i64 hox.wp
  have HT := Lib.hid ht
  have HAT := Lib.hid (show At wr ⟨bk, off + i * 13, none⟩ [.int .i64 what, .int .i64 ai, .bool out, .int .i64 sw, .int .i64 who, .int .i64 sp, .int .i64 fl, .slice sA sn sc, .int .i64 bend, .int .u8 byv, .int .i64 tick, .int .i64 err, .int .i64 port] from hAt)
  have HOX := Lib.hid hox.sk
  have hlw := ht.bel.size
  clear ht hcell hAt hox hR hok hL
  obtain ⟨q, hq, hql⟩ := pickN what 5 (by omega) (by omega)
  have HQK := Lib.hid (show (q : Int) = 0 by rw [← hq]; exact hkd)
  clear hkd
  have di1 : decide ((i : Int) < (nr : Int)) = true := decide_eq_true (by omega)
  have di2 : decide ((i : Int) < 40) = true := decide_eq_true (by omega)
  have i0 : (0 : Int) ≤ (i : Int) := by omega
  have i1 : (i : Int) < (nr : Int) := by omega
  conv => arg 2; whnf
  have HZ := Lib.hid (Blk.new wr 42 #[.int .i64 0, .int .i64 0, .bool false, .int .i64 0, .int .i64 0, .int .i64 0, .int .i64 0, .slice none 0 0, .int .i64 0, .int .u8 0, .int .i64 0, .int .i64 0, .int .i64 0])
  have HKb := Lib.hid (ball wr (.cells #[.int .i64 0, .int .i64 0, .bool false, .int .i64 0, .int .i64 0, .int .i64 0, .int .i64 0, .slice none 0 0, .int .i64 0, .int .u8 0, .int .i64 0, .int .i64 0, .int .i64 0] 42))
  go_upto_region 10 with (first
    | ((with_reducible refine gd_ldt 42 60 ?_); refine wpList_ldc rfl 42 (.tmp 60) rfl _ rfl _ (HAT.out) sAct18 ?_)
    | ((with_reducible refine gd_st 42 7 ?_); refine wpList_st rfl 42 (.tmp 7) _ rfl _ _ rfl _ rfl (HZ.out) sAct18.2 (#[.int .i64 what, .int .i64 ai, .bool out, .int .i64 sw, .int .i64 who, .int .i64 sp, .int .i64 fl, .slice sA sn sc, .int .i64 bend, .int .u8 byv, .int .i64 tick, .int .i64 err, .int .i64 port]) rfl (Nat.le_of_ble_eq_true rfl) rfl ?_; intro w4 hb4 hg4 hs4) | fail)
  have HX4 := Lib.hid hb4
  have HB4 := Lib.hid (show Below wr.heap.size wr w4 from bgrown HKb.out hg4 (Nat.le_refl _))
  have hs4' : w4.heap.size = wr.heap.size + 1 := by rw [hs4, World.size_alloc]
  have HS9 := Lib.hid (show At w4 ⟨wr.heap.size, 2, none⟩ [.bool out, .int .i64 sw, .int .i64 who, .int .i64 sp, .int .i64 fl, .slice sA sn sc, .int .i64 bend, .int .u8 byv, .int .i64 tick] from fun j v hv => by
    have hj : j < 9 := (List.getElem?_eq_some_iff.1 hv).1
    rw [addr_add, HX4.out.cell]
    obtain rfl | rfl | rfl | rfl | rfl | rfl | rfl | rfl | rfl : j = 0 ∨ j = 1 ∨ j = 2 ∨ j = 3 ∨ j = 4 ∨ j = 5 ∨ j = 6 ∨ j = 7 ∨ j = 8 := by omega
    all_goals exact hv)
  have HFr := Lib.hid (show Calls Try.prog 17 #[.agg #[.bool out, .int .i64 sw, .int .i64 who, .int .i64 sp, .int .i64 fl, .slice sA sn sc, .int .i64 bend, .int .u8 byv, .int .i64 tick]] w4 (F15 w4) from
    sent15_any out sw who sp fl sA sn sc ys bend byv tick w4 HOX.out.len HOX.out.cap HOX.out.max ((HOX.out.rd.below HT.out.bel).below HB4.out) HOX.out.b0 HOX.out.b1)
  clear hb4 hg4 hs4 HZ HKb HAT HOX
  go_upto_region 11 with (first
    | ((with_reducible refine gd_ldt 40 62 ?_); refine wpList_ldc rfl 40 (.tmp 62) rfl _ rfl _ (HS9.out) sS15 ?_)
    | (go_at_call 17; refine (HFr.out).mono ?_; rintro e w5 ⟨gf, m, cc, fz, rfl, hm20, hm120, hof, hb5⟩) | fail)
  have HX5 := Lib.hid (HX4.out.below hb5)
  have HT5 := Lib.hid ((HT.out.below HB4.out).below hb5)
  have HB5 := Lib.hid (bthen HB4.out hb5)
  have HOF := Lib.hid hof
  have hgf : w4.heap.size ≤ gf ∧ gf < w5.heap.size := by
    have := hof.row.lt gf rfl
    exact this
  have hs5 : w4.heap.size ≤ w5.heap.size := hb5.size
  clear hof hb5 HS9 HFr HX4 HB4
  generalize hgx : wr.heap.size = gx at *
  have HGX := Lib.hid hgx
  clear hgx
  have t0 : w5.cell? ⟨gx, 0, none⟩ = some (.int .i64 what) := HX5.out.cell 0
  go_upto_block 2 with fail
  rw [hq]
  clear hq t0
  go_cut [4, 5, 9, 10, 11, 12, 13, 14] from 70 to 268 (fun s4 s5 s9 s10 s11 s12 s13 s14 wx => SwN w gh (i + 1) s4 s5 wx)
  case first =>
    have HBW := Lib.hid (show Below wr.heap.size wr w5 by rw [HGX.out]; exact HB5.out)
    have hgfx : gx + 1 ≤ gf ∧ gf < w5.heap.size := by omega
    have hgf0 : wr.heap.size ≤ gf := by have := HGX.out; omega
    have HLW := Lib.hid (show ∀ b ∈ ntB gh hA k hcc lA lc, b < gx from fun b hb => by have := (HT.out.low b hb).2; have := HGX.out; omega)
    have q5 : q = 0 ∨ q = 1 ∨ q = 2 ∨ q = 3 ∨ q = 4 := by omega
    rcases q5 with hq | hq | hq | hq | hq
    · have b0 : ((q : Int) == 0) = true := by simp; omega
      clear hq hql
      go_upto_region 14 with fail
      have t2 : w5.cell? ⟨gx, 2, none⟩ = some (.bool out) := HX5.out.cell 2
      have t10 : w5.cell? ⟨gx, 10, none⟩ = some (.int .i64 tick) := HX5.out.cell 10
      have t12 : w5.cell? ⟨gx, 12, none⟩ = some (.int .i64 port) := HX5.out.cell 12
      have HBG := Lib.hid (begin_any HT5.out.hs HT5.out.hl (by omega) (by omega) (by omega) out tick port (some ⟨gf, 0, none⟩) m cc fz HOF.out.len (by omega) HOF.out.rd (fun h => by cases h))
      go_upto_region 16 with (go_at_call 11; refine (HBG.out).mono ?_; rintro e w6 ⟨rfl, hA', hc', fA', fc', hh6, hf6, hcp6, hcm6, hp6, hn6, hk6, ho6, hd6⟩)
      clear t2 t10 t12
      have hs6 : w5.heap.size ≤ w6.heap.size := hk6.size
      have hl6 : ∀ b ∈ hiL gh (.slice hA k hcc), b < gx := fun b hb => HLW.out b (by unfold ntB; exact List.mem_append_left _ hb)
      have hl7 : ∀ b ∈ ((Value.slice lA k lc).ownBlock.toList), b < gx := fun b hb => HLW.out b (by unfold ntB; exact List.mem_append_right _ hb)
      have HX6 := Lib.hid (hk6.blk HX5.out (fun hb => by have := hl6 _ hb; omega))
      have HF6 := Lib.hid (rd_keep HOF.out.rd hk6 (fun p hp hb => by injection hp with hp; have := hl6 _ hb; rw [← hp] at this; simp only at this; omega))
      have HRO6 := Lib.hid (show w6.ownsRow w.heap.size 47 11 (.slice lA k lc) k (enC ls) from own_keep HT5.out.ro hk6 (fun g hg hb => by
        unfold hiL at hb
        rcases List.mem_cons.1 hb with e | e
        · exact HT5.out.ghno (by rw [Option.mem_toList, hg, e])
        · rw [Option.mem_toList] at e
          exact own_types HT5.out.hs.row HT5.out.ro (by decide) e hg))
      have HH6 := Lib.hid hh6
      have HF6' := Lib.hid hf6
      have HP6 := Lib.hid hp6
      have HN6 := Lib.hid hn6
      have HK6 := Lib.hid hk6
      have HO6 := Lib.hid ho6
      have HD6 := Lib.hid hd6
      have HL7 := Lib.hid hl7
      clear hh6 hf6 hp6 hn6 hk6 ho6 hd6 hl6 hl7 hcp6 hcm6 HBG
      go_upto_region 18 with fail
      obtain ⟨Xa, hXa⟩ : ∃ q : Array Value, q = #[.int .i64 what, .int .i64 ai, .bool out, .int .i64 sw, .int .i64 who, .int .i64 sp, .int .i64 fl, .slice sA sn sc, .int .i64 bend, .int .u8 byv, .int .i64 tick, .int .i64 err, .int .i64 port] := ⟨_, rfl⟩
      obtain ⟨lb, hlb⟩ : ∃ q : List Nat, q = ((Value.slice lA k lc).ownBlock.toList) := ⟨_, rfl⟩
      have HXA := Lib.hid hXa
      have HLB := Lib.hid hlb
      have S0 : SN w6 gx Xa lb w6 := ⟨by rw [hXa]; exact HX6.out, Keep.refl _ _⟩
      have hsw : w.heap.size ≤ w6.heap.size := by have := HT.out.bel.size; have := HGX.out; omega
      clear hXa hlb
      have r2 : ∀ W, SN w6 gx Xa lb W → W.cell? ⟨gx, 2, none⟩ = some (.bool out) := fun W h => by rw [h.1.cell 2, HXA.out]; rfl
      have r10 : ∀ W, SN w6 gx Xa lb W → W.cell? ⟨gx, 10, none⟩ = some (.int .i64 tick) := fun W h => by rw [h.1.cell 10, HXA.out]; rfl
      have r12 : ∀ W, SN w6 gx Xa lb W → W.cell? ⟨gx, 12, none⟩ = some (.int .i64 port) := fun W h => by rw [h.1.cell 12, HXA.out]; rfl
      have O1 := Lib.hid (show Own ((w6.alloc (.cells #[] 5)).drew) w6.heap.size (some ⟨w6.heap.size, 0, none⟩) 0 0 [] from ⟨rfl, By.nil, (Own.empty w6 (Nat.le_refl _)).row⟩)
      have R1 := Lib.hid (show Rd ((w6.alloc (.cells #[] 5)).drew) (some ⟨gf, 0, none⟩) fz from HF6.out.alloc _)
      have FL := Lib.hid (show fz.length = m from HOF.out.len)
      have BA := Lib.hid (show Below w6.heap.size w6 ((w6.alloc (.cells #[] 5)).drew) from (ball w6 _).drew)
      have HLX := Lib.hid (show gx ∉ lb from fun hm => by rw [HLB.out] at hm; have := HL7.out _ hm; omega)
      go_region_held3 (fun W => SN w6 gx Xa lb W)
        (first | (with_reducible assumption) | (with_reducible exact SN.drew S0) | (with_reducible exact SN.drew (SN.alloc S0 _)) | (with_reducible exact SN.alloc (by assumption) _))
        (first
          | (refine app_new_step rfl (.tmp 96) (.tmp 97) rfl rfl (by with_reducible exact O1.out) fz rfl (by with_reducible exact R1.out) FL.out (by omega) ?_; intro A7 c7 w7 ho7 hg7; have S7 := SN.grownN (SN.drew (SN.alloc S0 _)) hg7 (Nat.le_refl _) (by omega); have hb7 := bgrown (BA.out) hg7 (Nat.le_refl _); have HRO7 := own_below HRO6.out hb7; have hz7 := Nat.le_trans hsw hb7.size)
          | (refine ev_new_step rfl (.tmp 91) (.tmp 106) rfl rfl HRO7 hz7 ⟨(now : Int) + 1, -1, false, out, A7, m, c7, tick, port, none, 0, 0, 0, 0, 0⟩ (by omega) rfl ?_; intro lA' lc' w8 hr8 hk8 ho8; have S8 := SN.kept S7 hk8 HLB.out HLX.out))
      have HF := Lib.hid (fun v => NtR.begun HT.out HBW.out HOF.out hgf0 hgfx.2 hm20 hm120 HH6.out HF6'.out HP6.out HN6.out HK6.out HO6.out HD6.out ho7 (Keep.of_below hb7) hr8 hk8 ho8 v)
      have hof6 := HOF.out.keep HK6.out (fun p hp hb => by injection hp with hp; have := HLW.out _ (List.mem_append_left _ hb); rw [← hp] at this; simp only at this; omega)
      have hof8 := (hof6.below hb7).keep hk8 (fun p hp hb => by injection hp with hp; have := HL7.out _ hb; rw [← hp] at this; simp only at this; omega)
      have z0 : w8.cell? ⟨gf, 0, none⟩ = some (.int .u8 (fz.getD 0 0)) := hof8.at (k := 0) (by omega)
      have zf := hof8.free 0
      generalize fz.getD 0 0 = zz at z0
      clear hof6 hof8 ho7 hg7 S7 hb7 HRO7 hz7 hr8 hk8 ho8 S8 S0 r2 r10 r12 HH6 HF6' HP6 HN6 HK6 HO6 HD6 O1 R1 FL BA HLX HXA HLB HX6 HF6 HRO6
      go_upto_region 19 with fail
      go_wp2
      go_meet
      obtain ⟨hA2, hc2, es2, lA2, lc2, ls2, F2, G2, rfl, rfl, hN⟩ := HF.out _
      exact ⟨now + 1, k + 1, _, _, rfl, by go_num, hA2, hc2, es2, ls2, F2, G2, hN⟩
    · exfalso; have := HQK.out; omega
    · exfalso; have := HQK.out; omega
    · exfalso; have := HQK.out; omega
    · exfalso; have := HQK.out; omega
  case rest =>
    obtain ⟨now2, k2, lA2, lc2, rfl, rfl, hA2, hc2, es2, ls2, F2, G2, ht⟩ := hcut
    have hkn2 := ht.kn
    have hni2 := ht.ni
    have HT2 := Lib.hid ht
    have HAL := Lib.hid (all_both ht.hs ht.hl (by omega) F2 G2 (fun j hj => (ht.fe j hj).fs))
    clear ht HT5 HT HOF HX5 HB5 HGX hgf
    go_upto_region 46 with (go_at_call 15; refine (HAL.out).mono ?_; rintro e w2 ⟨A2, L2, rfl, hL2, hR2, hb2, hlk2⟩)
    have hT2 := HT2.out.below hb2
    have hlike : ∀ j, j < es2.length → (es2.getD j en0).like (L2.getD j en0) := fun j hj => (hlk2 j (by rw [HT2.out.hl] at hj; exact hj)).1
    have hlen : L2.length = es2.length := by rw [hL2, HT2.out.hl]
    have et := likes_t3 hlen hlike
    have el := likes_t3 (by rw [HT2.out.ll, HT2.out.hl] : ls2.length = es2.length) (fun j hj => HT2.out.lk j (by rw [HT2.out.hl] at hj; exact hj))
    have hpl : ∀ j, j < es2.length → PlE now2 (es2.getD j en0) := fun j hj => HT2.out.pl j (by rw [HT2.out.hl] at hj; exact hj)
    have hrg : rgt (L2.map En.t3) = true := by rw [et]; exact pl_rgt hpl
    have hwf : ∀ x ∈ L2, x.wf := likes_wf hlen hlike (pl_wf hpl (by omega))
    have hwd : widR L2 = widR ls2 := by unfold widR; rw [et, el]
    have C1 := Lib.hid (show ∀ W, Below w2.heap.size w2 W → Calls Try.prog 19 #[.slice A2 k2 k2] W (fun e w' => e = .returned (.bool true) ∧ Below W.heap.size W w') from fun W h => by rw [← hrg]; exact right_any A2 k2 k2 L2 W hL2 (by omega) (hR2.below h))
    have HRV := Lib.hid (show RdE w2 lA2 ls2 from own_rdv hT2.ro hT2.ll)
    obtain ⟨wd, hwdd⟩ : ∃ x : Int, x = ((widR ls2 : Nat) : Int) := ⟨_, rfl⟩
    have C3 := Lib.hid (show ∀ W, Below w2.heap.size w2 W → Calls Try.prog 20 #[.slice A2 k2 k2] W (fun e w' => e = .returned (.int .i64 wd) ∧ Below W.heap.size W w') from fun W h => by rw [hwdd, ← hwd]; exact width_any A2 k2 k2 L2 W hL2 (by omega) (hR2.below h) hwf)
    have C4 := Lib.hid (show ∀ W, Below w2.heap.size w2 W → Calls Try.prog 21 #[.slice lA2 k2 lc2] W (fun e w' => e = .returned (.int .i64 wd) ∧ Below W.heap.size W w') from fun W h => by rw [hwdd]; exact rwidth18_any lA2 k2 lc2 ls2 W HT2.out.ll (by omega) (HRV.out.below h))
    have HT3 := Lib.hid hT2
    have HL2 := Lib.hid hL2
    have HR2 := Lib.hid hR2
    have HLK := Lib.hid hlk2
    have HLE := Lib.hid HT2.out.lk
    clear hT2 hL2 hR2 hlk2 hb2 hlike hlen et el hpl hrg hwf hwd hwdd HAL HT2
    have hww : (wd != wd) = false := by simp
    have hnn : ((now2 : Int) != (now2 : Int)) = false := by simp
    have c0 : Below w2.heap.size w2 w2 := Below.refl _ _
    go_wp2_with (first
      | (go_at_call 14; refine (hnow_any HT3.out.hs).mono ?_; rintro e W1 ⟨rfl, rfl⟩)
      | (go_at_call 19; refine (C1.out _ c0).mono ?_; rintro e W2 ⟨rfl, hx⟩; have c0 := bthen c0 hx; clear hx)
      | (go_at_call 20; refine (C3.out _ c0).mono ?_; rintro e W4 ⟨rfl, hx⟩; have c0 := bthen c0 hx; clear hx)
      | (go_at_call 21; refine (C4.out _ c0).mono ?_; rintro e W5 ⟨rfl, hx⟩; have c0 := bthen c0 hx; clear hx))
    have HC0 := Lib.hid c0
    clear c0 C1 C3 C4
    go_loopw [16] (fun s16 wx => ∃ j : Nat, j ≤ k2 ∧ s16 = .int .i64 j ∧ Below w2.heap.size w2 wx) (fun s16 _ => k2 - (intOf s16).toNat)
    case atStart => exact ⟨0, Nat.zero_le _, rfl, HC0.out⟩
    case round =>
      obtain ⟨j, hj, rfl, hb⟩ := hrel
      have HBj := Lib.hid hb
      clear hb
      by_cases hjt : j < k2
      · have hbj : decide ((j : Int) < (k2 : Int)) = true := decide_eq_true (by omega)
        have j0 : (0 : Int) ≤ (j : Int) := by omega
        have j1 : (j : Int) < (k2 : Int) := by omega
        obtain ⟨ga, oa, rfl, hga0, hca⟩ := HR2.out (by have := HL2.out; omega)
        obtain ⟨gb, ob, rfl, hgb0, hcb⟩ := HRV.out (by have := HT3.out.ll; omega)
        have hga : ga < wr.heap.size := Nat.lt_of_lt_of_le hga0 HBj.out.size
        have hgb : gb < wr.heap.size := Nat.lt_of_lt_of_le hgb0 HBj.out.size
        have hxa := (hca j (by have := HL2.out; omega)).below HBj.out hga0
        have hxb := (hcb j (by have := HT3.out.ll; omega)).below HBj.out hgb0
        obtain ⟨hla, hfa⟩ := HLK.out j hjt
        have hlb := HLE.out j hjt
        have hfb := (HT3.out.fl j hjt).fs
        generalize L2.getD j en0 = y at *
        generalize ls2.getD j en0 = z at *
        have HSM := Lib.hid (show ∀ W, Below wr.heap.size wr W → Calls Try.prog 22 #[y.val, z.val] W (fun e w' => e = .returned (.bool true) ∧ Below W.heap.size W w') from fun W h => same_both _ y z (F2 j) (G2 j) W hla hlb ((hfa.below HBj.out).below h) ((hfb.below HBj.out).below h))
        have HFR := Lib.hid (from_any y)
        obtain ⟨y0, y1, y2, y3, y4, y5, y6, y7, y8, y9, y10, y11, y12, y13, y14⟩ := y
        obtain ⟨z0, z1, z2, z3, z4, z5, z6, z7, z8, z9, z10, z11, z12, z13, z14⟩ := z
        unfold En.val En.cs at HSM HFR
        unfold En.cs at hxa hxb
        simp only at HSM HFR hxa hxb
        have Hra := Lib.hid hxa
        have Hrb := Lib.hid hxb
        clear hxa hxb hla hfa hlb hfb hca hcb
        have S0 : Below wr.heap.size wr wr := Below.refl _ _
        have ra0 : ∀ W, Below wr.heap.size wr W → W.cell? ⟨ga, oa + j * 11, none⟩ = some (.int .i64 y0) := fun W h => (Hra.out.below h hga).cell' 0 rfl
        have ra1 : ∀ W, Below wr.heap.size wr W → W.cell? ⟨ga, oa + j * 11 + 1, none⟩ = some (.int .i64 y1) := fun W h => (Hra.out.below h hga).cell' 1 rfl
        have ra2 : ∀ W, Below wr.heap.size wr W → W.cell? ⟨ga, oa + j * 11 + 2, none⟩ = some (.bool y2) := fun W h => (Hra.out.below h hga).cell' 2 rfl
        have ra3 : ∀ W, Below wr.heap.size wr W → W.cell? ⟨ga, oa + j * 11 + 3, none⟩ = some (.bool y3) := fun W h => (Hra.out.below h hga).cell' 3 rfl
        have ra4 : ∀ W, Below wr.heap.size wr W → W.cell? ⟨ga, oa + j * 11 + 4, none⟩ = some (.slice y4 y5 y6) := fun W h => (Hra.out.below h hga).cell' 4 rfl
        have ra5 : ∀ W, Below wr.heap.size wr W → W.cell? ⟨ga, oa + j * 11 + 5, none⟩ = some (.int .i64 y7) := fun W h => (Hra.out.below h hga).cell' 5 rfl
        have ra6 : ∀ W, Below wr.heap.size wr W → W.cell? ⟨ga, oa + j * 11 + 6, none⟩ = some (.int .i64 y8) := fun W h => (Hra.out.below h hga).cell' 6 rfl
        have ra7 : ∀ W, Below wr.heap.size wr W → W.cell? ⟨ga, oa + j * 11 + 7, none⟩ = some (.slice y9 y10 y11) := fun W h => (Hra.out.below h hga).cell' 7 rfl
        have ra8 : ∀ W, Below wr.heap.size wr W → W.cell? ⟨ga, oa + j * 11 + 8, none⟩ = some (.int .i64 y12) := fun W h => (Hra.out.below h hga).cell' 8 rfl
        have ra9 : ∀ W, Below wr.heap.size wr W → W.cell? ⟨ga, oa + j * 11 + 9, none⟩ = some (.int .i64 y13) := fun W h => (Hra.out.below h hga).cell' 9 rfl
        have ra10 : ∀ W, Below wr.heap.size wr W → W.cell? ⟨ga, oa + j * 11 + 10, none⟩ = some (.int .i64 y14) := fun W h => (Hra.out.below h hga).cell' 10 rfl
        have rb0 : ∀ W, Below wr.heap.size wr W → W.cell? ⟨gb, ob + j * 11, none⟩ = some (.int .i64 z0) := fun W h => (Hrb.out.below h hgb).cell' 0 rfl
        have rb1 : ∀ W, Below wr.heap.size wr W → W.cell? ⟨gb, ob + j * 11 + 1, none⟩ = some (.int .i64 z1) := fun W h => (Hrb.out.below h hgb).cell' 1 rfl
        have rb2 : ∀ W, Below wr.heap.size wr W → W.cell? ⟨gb, ob + j * 11 + 2, none⟩ = some (.bool z2) := fun W h => (Hrb.out.below h hgb).cell' 2 rfl
        have rb3 : ∀ W, Below wr.heap.size wr W → W.cell? ⟨gb, ob + j * 11 + 3, none⟩ = some (.bool z3) := fun W h => (Hrb.out.below h hgb).cell' 3 rfl
        have rb4 : ∀ W, Below wr.heap.size wr W → W.cell? ⟨gb, ob + j * 11 + 4, none⟩ = some (.slice z4 z5 z6) := fun W h => (Hrb.out.below h hgb).cell' 4 rfl
        have rb5 : ∀ W, Below wr.heap.size wr W → W.cell? ⟨gb, ob + j * 11 + 5, none⟩ = some (.int .i64 z7) := fun W h => (Hrb.out.below h hgb).cell' 5 rfl
        have rb6 : ∀ W, Below wr.heap.size wr W → W.cell? ⟨gb, ob + j * 11 + 6, none⟩ = some (.int .i64 z8) := fun W h => (Hrb.out.below h hgb).cell' 6 rfl
        have rb7 : ∀ W, Below wr.heap.size wr W → W.cell? ⟨gb, ob + j * 11 + 7, none⟩ = some (.slice z9 z10 z11) := fun W h => (Hrb.out.below h hgb).cell' 7 rfl
        have rb8 : ∀ W, Below wr.heap.size wr W → W.cell? ⟨gb, ob + j * 11 + 8, none⟩ = some (.int .i64 z12) := fun W h => (Hrb.out.below h hgb).cell' 8 rfl
        have rb9 : ∀ W, Below wr.heap.size wr W → W.cell? ⟨gb, ob + j * 11 + 9, none⟩ = some (.int .i64 z13) := fun W h => (Hrb.out.below h hgb).cell' 9 rfl
        have rb10 : ∀ W, Below wr.heap.size wr W → W.cell? ⟨gb, ob + j * 11 + 10, none⟩ = some (.int .i64 z14) := fun W h => (Hrb.out.below h hgb).cell' 10 rfl
        go_wp2
        go_region_held3 (fun W => Below wr.heap.size wr W)
          (first | (with_reducible exact Below.drew S0) | (with_reducible exact bthen (by assumption) (by assumption)) | (with_reducible assumption))
          (first
            | (go_at_call 23; refine (HFR.out _).mono ?_; rintro e W1 ⟨rfl, hy1⟩)
            | (go_at_call 22; (with_reducible refine (HSM.out _ (by assumption)).mono ?_); rintro e W2 ⟨rfl, hy2⟩))
        have HF := Lib.hid (show Below w2.heap.size w2 W2 from bthen HBj.out (by assumption))
        go_wp2
        go_roundw
        case rel => exact ⟨j + 1, by omega, by go_num, HF.out⟩
        case measure => simp [intOf]; omega
      · have hbj : decide ((j : Int) < (k2 : Int)) = false := decide_eq_false (by omega)
        have HF := Lib.hid (HT3.out.below HBj.out)
        go_wp2
        refine ⟨?_, by simp [WmuN, intOf]; omega⟩
        unfold WIN
        exact ⟨i + 1, now2, k2, lA2, lc2, _, _, _, _, _, _, _, _, _, _, _, _, _, _, _, _, _, _, _, _, _, _, _, _, _, _, _, _, _, _, _, _, _, _, _, _, _, _, _, _, _, _, _, _, _, _, _, _, _, _, _, _, _, _, _, _, _, _, _, _, _, _, _, _, _, _, _, _, _, _, _, _, _, _, _, _, _, _, _, _, _, _, _, _, _, _, _, _, _, _, _, _, _, _, _, _, _, _, _, _, _, _, _, _, _, _, _, _, _, _, _, _, _, _, _, _, _, _, _, _, _, _, _, _, _, _, _, _, _, _, _, _, _, _, _, _, _, _, _, _, _, _, _, _, _, _, _, _, _, _, _, _, _, _, _, _, _, _, _, _, _, _, _, _, _, _, _, _, _, _, _, _, _, _, _, _, _, _, _, _, _, _, _, _, _, _, _, _, _, _, _, _, _, _, _, _, _, _, _, _, _, _, _, _, _, _, _, _, _, _, _, _, _, _, _, _, _, _, _, _, _, _, _, _, _, _, _, _, _, _, _, _, _, _, _, _, _, _, _, _, _, _, _, _, _, _, _, _, _, _, _, _, _, _, _, _, _, _, _, _, _, _, _, _, _, _, _, _, _, _, _, _, _, _, ⟨by omega, by omega, _, _, _, _, _, _, HF.out⟩, rfl⟩
end Go.Proofs.Ytbnlpidhbilenaa
