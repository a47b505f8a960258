/-
  HistoryAhead: three Entries are made, and put into a row. Conditions stand in each theorem.
-/
import Derived.Test.YtbnlpidhbilenaaHa
import Derived.Test.YtbnlpidhbilenaaH9
import Derived.Deep.CutBlock
namespace Go.Proofs.Ytbnlpidhbilenaa
open Go.RowKit Go.Deep Plain
set_option linter.unusedVariables false
set_option linter.unusedSimpArgs false
set_option maxRecDepth 100000
/-- an Entry is put behind a row of one's own -/
theorem wpList_en {w w0 : World} {base na : Nat} {A : Option Addr} {c : Nat} {es : List En} {ops : Array Oper} {rest : List Oper} {o : Oper} {a : Act} {Q : Exit → Act → World → Prop} (hgd : o.guard = none) (sx xx : Operand)
    (ho : o.op = .call { callee := .builtin .append, args := #[sx, xx], argTypes := #[36, 36] })
    (hs : a.eval sx = .slice A na c) (hO : w.ownsRow base 55 11 (.slice A na c) na (enC es)) (B : Below base w0 w) (hbase : base ≤ w.heap.size) (x : En) (hn : na ≤ 100000)
    (H : Nat) (hx : a.eval xx = .slice (some ⟨H, 0, none⟩) 1 1) (hH : w.heap.size = H)
    (h : ∀ A' c' w', w'.ownsRow base 55 11 (.slice A' (na + 1) c') (na + 1) (enC (es ++ [x])) → Below base w0 w' → Keep ((Value.slice A na c).ownBlock.toList) w w' → wpList Try.prog ops Q rest (a.put o.dst (.slice A' (na + 1) c')) w') :
    wpList Try.prog ops Q (o :: rest) a (w.alloc (.cells x.cs.toArray 55)) := by
  obtain ⟨i, hi, hz, hsz, hb⟩ := info_parts infoEn
  have hal := ball w (.cells x.cs.toArray 55)
  have ra1 := own_below hO hal
  have hbk := Blk.new w 55 x.cs.toArray
  rw [hH] at hbk
  refine wpList_append_lies (P := Try.prog) (w := w.alloc (.cells x.cs.toArray 55)) hgd sx xx 36 ho base 55 i _ 11 120 Try.underlying36 hi hz hsz hb rfl (by omega) _ na (enC es) hs ra1 ⟨H, 0, none⟩ 1 1 x.cs hx rfl ?_ ?_ (by omega) (by unfold maxLen; omega) (by omega) (by simp; omega) _ rfl ?_
  · intro j u hu
    rw [addr_add, Nat.zero_add, hbk.cell]
    simpa using hu
  · intro u hu
    exact enC_one [x] u (by unfold enC; simpa using hu)
  · intro g cap w' how hg hgo hlt
    refine h (some ⟨g, 0, none⟩) cap w' ?_ ?_ ?_
    · rw [enC_snoc]; exact how
    · exact (B.alloc hbase _).grown hg (by simp; omega) (fun k hk => (own_blk ra1 hk).1)
    · exact ((Keep.refl _ w).alloc _).trans (Keep.of_grownO hg (fun g1 h1 => by rw [h1]; simp))
theorem blk_at {w : World} {g : Nat} {t : TypeId} {L : List En} (h : Blk w g t (enC L).toArray) (i : Nat) (hi : i < L.length) : At w ⟨g, i * 11, none⟩ (L.getD i en0).cs := fun j v hv => by
  have hj : j < 11 := (List.getElem?_eq_some_iff.1 hv).1
  rw [addr_add, h.cell]
  simp only [List.getElem?_toArray]
  rw [enC_at L i j hi hj, hv]
theorem own_notinE {w : World} {base n : Nat} {v : Value} {xs : List Value} (h : w.ownsRow base 55 11 v n xs) {g : Nat} {t : TypeId} {cs : Array Value} (hb : Blk w g t cs) (hne : t ≠ 55) : g ∉ v.ownBlock.toList := by
  intro hm
  rw [Option.mem_toList] at hm
  obtain ⟨_, _, cur, q⟩ := own_blk h hm
  unfold Blk at hb
  rw [hb] at q
  injection q with q
  injection q with _ q
  exact hne q
def upto (E : Nat → En) (k : Nat) : List En := (List.range 3).map fun i => if i < k then E i else en0
theorem upto_len (E : Nat → En) (k : Nat) : (upto E k).length = 3 := rfl
theorem upto_set (E : Nat → En) (k : Nat) (hk : k < 3) : (upto E k).set k (E k) = upto E (k + 1) := by
  obtain rfl | rfl | rfl : k = 0 ∨ k = 1 ∨ k = 2 := by omega
  all_goals rfl
theorem own_rde {w : World} {base n m c : Nat} {A : Option Addr} {L : List En} (h : w.ownsRow base 55 11 (.slice A m c) n (enC L)) (hn : L.length = n) : RdE w A L := fun hp => by
  rcases h.2 with ⟨_, e2⟩ | ⟨g, cap, cur, hv, hg, hh, hnc, hcm, hcs, htk⟩
  · omega
  · injection hv with e1 e2 e3
    subst e1
    refine ⟨g, 0, rfl, (Array.getElem?_eq_some_iff.1 hh).1, fun i hi j v hvj => ?_⟩
    have hj : j < 11 := (List.getElem?_eq_some_iff.1 hvj).1
    have e : cur.toList[i * 11 + j]? = some v := by
      have : (cur.toList.take (n * 11))[i * 11 + j]? = some v := by rw [htk, enC_at L i j hi hj, hvj]
      rw [List.getElem?_take_of_lt (by omega)] at this
      exact this
    simp only [Array.getElem?_toList] at e
    rw [addr_add]
    simp [World.cell?, hh, e]
theorem wf64 (x : Int) (h0 : -1000000 ≤ x) (h1 : x ≤ 1000000) : (Lit.int .i64 x).wf = true := by
  simp [Lit.wf, IntKind.min, IntKind.max, IntKind.signed, IntKind.bits]; omega
theorem ahd (b e b2 e2 : Int) (w : World) (h : e ≠ -1) : Calls Try.prog 26 #[.agg #[.int .i64 b, .int .i64 e, .bool false, .bool false, .slice none 0 0, .int .i64 0, .int .i64 0, .slice none 0 0, .int .i64 0, .int .i64 0, .int .i64 0], .agg #[.int .i64 b2, .int .i64 e2, .bool false, .bool false, .slice none 0 0, .int .i64 0, .int .i64 0, .slice none 0 0, .int .i64 0, .int .i64 0, .int .i64 0]] w fun e1 w' => e1 = .returned (.bool (decide (e < b2))) ∧ Below w.heap.size w w' := by
  have q := ahead_any (en2 b e) (en2 b2 e2) w
  have : ((en2 b e).e != -1 && decide ((en2 b e).e < (en2 b2 e2).b)) = decide (e < b2) := by
    have q2 : (e != -1) = true := by simpa using h
    show (e != -1 && decide (e < b2)) = decide (e < b2)
    rw [q2, Bool.true_and]
  rw [this] at q
  exact q
/-- the loop's state -/
def HaR (w0 : World) (g1 gx : Nat) (va : Array Value) (E : Nat → En) (k : Nat) (A : Option Addr) (c : Nat) (wr : World) : Prop :=
  Blk wr g1 61 va ∧ Blk wr gx 62 (enC (upto E k)).toArray ∧ wr.ownsRow w0.heap.size 55 11 (.slice A k c) k (enC ((List.range k).map E)) ∧ Below w0.heap.size w0 wr ∧ g1 ≠ gx ∧ w0.heap.size ≤ gx
theorem va_at {w : World} {g : Nat} {p q : Nat → Int} (h : Blk w g 61 #[.int .i64 (p 0), .int .i64 (q 0), .int .i64 (p 1), .int .i64 (q 1), .int .i64 (p 2), .int .i64 (q 2)]) (k : Nat) (hk : k < 3) : w.cell? ⟨g, k * 2, none⟩ = some (.int .i64 (p k)) ∧ w.cell? ⟨g, k * 2 + 1, none⟩ = some (.int .i64 (q k)) := by
  obtain rfl | rfl | rfl : k = 0 ∨ k = 1 ∨ k = 2 := by omega
  · exact ⟨h.cell 0, h.cell 1⟩
  · exact ⟨h.cell 2, h.cell 3⟩
  · exact ⟨h.cell 4, h.cell 5⟩
set_option maxHeartbeats 8000000 in
theorem ha_walk (p q : Nat → Int) (w : World) : Calls Try.prog 5 #[.agg #[.int .i64 (p 0), .int .i64 (q 0), .int .i64 (p 1), .int .i64 (q 1), .int .i64 (p 2), .int .i64 (q 2)]] w fun e w' => e = .returned (.bool true) ∧ Below w.heap.size w w' := by
  obtain ⟨KP, hKP⟩ := Classical.axiomOfChoice (fun k => pickN (p k) 50 (by omega) (by omega))
  obtain ⟨KQ, hKQ⟩ := Classical.axiomOfChoice (fun k => pickN (q k) 50 (by omega) (by omega))
  have HKP := Lib.hid hKP
  have HKQ := Lib.hid hKQ
  clear hKP hKQ
  obtain ⟨E, hE⟩ : ∃ E : Nat → En, E = fun k => en2 (1 + (KP k : Int)) (1 + (KP k : Int) + 1 + (KQ k : Int)) := ⟨_, rfl⟩
  have HE := Lib.hid (show ∀ k, E k = en2 (1 + (KP k : Int)) (1 + (KP k : Int) + 1 + (KQ k : Int)) from fun k => by rw [hE])
  clear hE
  obtain ⟨va, hva⟩ : ∃ va : Array Value, va = #[.int .i64 (p 0), .int .i64 (q 0), .int .i64 (p 1), .int .i64 (q 1), .int .i64 (p 2), .int .i64 (q 2)] := ⟨_, rfl⟩
  rw [← hva]
  have HVA := Lib.hid hva
  clear hva
  have HR0 := Lib.hid (show HaR w w.heap.size (w.heap.size + 1) va E 0 none 0 ((w.alloc (.cells va 61)).alloc (.cells #[.int .i64 0, .int .i64 0, .bool false, .bool false, .slice none 0 0, .int .i64 0, .int .i64 0, .slice none 0 0, .int .i64 0, .int .i64 0, .int .i64 0, .int .i64 0, .int .i64 0, .bool false, .bool false, .slice none 0 0, .int .i64 0, .int .i64 0, .slice none 0 0, .int .i64 0, .int .i64 0, .int .i64 0, .int .i64 0, .int .i64 0, .bool false, .bool false, .slice none 0 0, .int .i64 0, .int .i64 0, .slice none 0 0, .int .i64 0, .int .i64 0, .int .i64 0] 62)) from
    ⟨(Blk.new w _ _).alloc _, by have := Blk.new (w.alloc (.cells va 61)) 62 (enC (upto E 0)).toArray; rwa [World.size_alloc] at this, World.ownsRow_nil _ _ _ _, bthen (ball w _) (ball _ _), by omega, by omega⟩)
  go_enter Try.func5, Try.ntmps5
  go_upto_region 3 with fail
  generalize (w.alloc (.cells va 61)).alloc (.cells #[.int .i64 0, .int .i64 0, .bool false, .bool false, .slice none 0 0, .int .i64 0, .int .i64 0, .slice none 0 0, .int .i64 0, .int .i64 0, .int .i64 0, .int .i64 0, .int .i64 0, .bool false, .bool false, .slice none 0 0, .int .i64 0, .int .i64 0, .slice none 0 0, .int .i64 0, .int .i64 0, .int .i64 0, .int .i64 0, .int .i64 0, .bool false, .bool false, .slice none 0 0, .int .i64 0, .int .i64 0, .slice none 0 0, .int .i64 0, .int .i64 0, .int .i64 0] 62) = w1 at *
  obtain ⟨gx, hgx⟩ : ∃ g, g = w.heap.size + 1 := ⟨_, rfl⟩
  obtain ⟨g1, hg1⟩ : ∃ g, g = w.heap.size := ⟨_, rfl⟩
  have HR0 := Lib.hid (show HaR w g1 gx va E 0 none 0 w1 by rw [hgx, hg1]; exact HR0.out)
  rw [← hgx]
  rw [show Value.pointer (some ⟨w.heap.size, 0, none⟩) = Value.pointer (some ⟨g1, 0, none⟩) by rw [hg1]]
  clear hgx hg1
  go_wp2
  go_loopw [4, 5] (fun s4 s5 wr => ∃ (k : Nat) (A : Option Addr) (c : Nat), k ≤ 3 ∧ s5 = .int .i64 k ∧ s4 = .slice A k c ∧ HaR w g1 gx va E k A c wr) (fun _ s5 _ => 3 - (intOf s5).toNat)
  case atStart => exact ⟨0, none, 0, by omega, rfl, rfl, HR0.out⟩
  case round =>
    obtain ⟨k, A, c, hk, rfl, rfl, hR⟩ := hrel
    have HR := Lib.hid hR
    clear hR HR0
    by_cases hlt : k < 3
    · have hb : decide ((k : Int) < 3) = true := decide_eq_true (by omega)
      obtain ⟨hv, hx, hr, hbel, hne, hge⟩ := HR.out
      have hvat := va_at (show Blk wr g1 61 #[.int .i64 (p 0), .int .i64 (q 0), .int .i64 (p 1), .int .i64 (q 1), .int .i64 (p 2), .int .i64 (q 2)] by rw [← HVA.out]; exact hv) k hlt
      have v0 : wr.cell? ⟨g1, k * 2, none⟩ = some (.int .i64 (p k)) := hvat.1
      have p1 := (HKP.out k).1
      have p2 := (HKP.out k).2
      have HX := Lib.hid hx
      have HV := Lib.hid hv
      have HO := Lib.hid hr
      have HB := Lib.hid hbel
      have HS := Lib.hid (show (upto E k).set k (en2 (1 + (KP k : Int)) 0) = (upto E k).set k (en2 (1 + (KP k : Int)) 0) from rfl)
      have HP1 := Lib.hid (enC_put (upto E k) k (en2 (1 + (KP k : Int)) 0) (by rw [upto_len]; exact hlt))
      clear hv hx hr hbel hvat
      go_upto_region 7 with ((with_reducible refine gd_st 55 23 ?_); refine wpList_st rfl 55 (.tmp 23) _ rfl gx (k * 11) rfl (.agg #[.int .i64 (1 + (KP k : Int)), .int .i64 0, .bool false, .bool false, .slice none 0 0, .int .i64 0, .int .i64 0, .slice none 0 0, .int .i64 0, .int .i64 0, .int .i64 0]) rfl (HX.out) sEn.2 (enC ((upto E k).set k (en2 (1 + (KP k : Int)) 0))).toArray (congrArg List.toArray HP1.out.symm) (by have := enC_len (upto E k); have := upto_len E k; simp [Value.cells]; omega) rfl ?_; intro w2 hx2 hg2 hs2)
      obtain ⟨U, hU⟩ : ∃ U, U = (upto E k).set k (en2 (1 + (KP k : Int)) 0) := ⟨_, rfl⟩
      rw [← hU] at hx2
      have hUl : U.length = 3 := by rw [hU, List.length_set]; rfl
      have hUk : U.getD k en0 = en2 (1 + (KP k : Int)) 0 := by rw [hU]; simp [List.getD, upto_len, hlt]
      have HBX := Lib.hid (show w.heap.size ≤ gx from hge)
      have HV2 := Lib.hid (Blk.grown HV.out hg2 hne)
      have HO2 := Lib.hid (own_grown HO.out hg2 (fun g h1 h2 => by injection h2 with h2; subst h2; exact own_notinE HO.out HX.out (by decide) (by rw [h1]; simp)))
      have HB2 := Lib.hid (bgrown HB.out hg2 hge)
      have hA2 := blk_at hx2 k (by omega)
      rw [hUk] at hA2
      have q0 : w2.cell? ⟨gx, k * 11, none⟩ = some (.int .i64 (1 + (KP k : Int))) := hA2.cell' 0 rfl
      have q1 : w2.cell? ⟨gx, k * 11 + 1, none⟩ = some (.int .i64 0) := hA2.cell' 1 rfl
      have f1 := Blk.frozen hx2 (k * 11 + 1)
      have hvat := va_at (show Blk w2 g1 61 #[.int .i64 (p 0), .int .i64 (q 0), .int .i64 (p 1), .int .i64 (q 1), .int .i64 (p 2), .int .i64 (q 2)] by rw [← HVA.out]; exact HV2.out) k hlt
      have v1 : w2.cell? ⟨g1, k * 2 + 1, none⟩ = some (.int .i64 (q k)) := hvat.2
      have p3 := (HKQ.out k).1
      have p4 := (HKQ.out k).2
      have p6 : IntKind.i64.wrap ((IntKind.u64.wrap (q k)).tmod 50) = (KQ k : Int) := by
        have e : ∀ x, IntKind.i64.wrap x = wrap64 x := fun x => by rw [IntKind.wrap_i64]; unfold wrap64; omega
        rw [e]; exact p3
      have p0 : 0 ≤ (KP k : Int) := by omega
      have p5 : 0 ≤ (KQ k : Int) := by omega
      have e1 : IntKind.i64.wrap (1 + (KP k : Int) + 1) = 1 + (KP k : Int) + 1 := IntWalk.i64_in _ (by omega)
      have e2 : IntKind.i64.wrap (1 + (KP k : Int) + 1 + (KQ k : Int)) = 1 + (KP k : Int) + 1 + (KQ k : Int) := IntWalk.i64_in _ (by omega)
      have HX2 := Lib.hid hx2
      have HU := Lib.hid hU
      have HUl := Lib.hid hUl
      have HUk := Lib.hid hUk
      clear hx2 hg2 hs2 hA2 hvat hU hUl hUk HV HO HB HX HP1
      have i3 : (k : Int) < 3 := by omega
      have i4 : (0 : Int) ≤ (k : Int) := by omega
      go_region
      all_goals
        have hx3 : Blk (w2.setCell ⟨gx, k * 11 + 1, none⟩ (.int .i64 (1 + (KP k : Int) + 1 + (KQ k : Int)))).drew gx 62 (enC (upto E (k + 1))).toArray := by
          have h := Blk.drew (HX2.out.set (k * 11 + 1) (.int .i64 (1 + (KP k : Int) + 1 + (KQ k : Int))))
          rw [List.setIfInBounds_toArray, enC_set U k 1 (E k) _ (by have := HUl.out; omega) (by omega) (by rw [HUk.out, HE.out]; rfl), HU.out, List.set_set, upto_set E k hlt] at h
          exact h
        have HX3 := Lib.hid hx3
        have HV3 := Lib.hid (Blk.drew (HV2.out.ne (p := ⟨gx, k * 11 + 1, none⟩) (show gx ≠ g1 from Ne.symm hne) (.int .i64 (1 + (KP k : Int) + 1 + (KQ k : Int)))))
        have HO3 := Lib.hid (show (w2.setCell ⟨gx, k * 11 + 1, none⟩ (.int .i64 (1 + (KP k : Int) + 1 + (KQ k : Int)))).drew.ownsRow w.heap.size 55 11 (.slice A k c) k (enC ((List.range k).map E)) from own_grown HO2.out (grown_drew (grown_setCell w2 gx (k * 11 + 1) (.int .i64 (1 + (KP k : Int) + 1 + (KQ k : Int))))) (fun g h1 h2 => by injection h2 with h2; subst h2; exact own_notinE HO2.out HX2.out (by decide) (by rw [h1]; simp)))
        have HB3 := Lib.hid (Below.drew (HB2.out.setCell (p := ⟨gx, k * 11 + 1, none⟩) HBX.out (.int .i64 (1 + (KP k : Int) + 1 + (KQ k : Int)))))
        clear q0 q1 f1 v0 v1 p1 p3 p6 e1 e2 hx3
        generalize (w2.setCell ⟨gx, k * 11 + 1, none⟩ (.int .i64 (1 + (KP k : Int) + 1 + (KQ k : Int)))).drew = w3 at *
        have HA3 := Lib.hid (show At w3 ⟨gx, k * 11, none⟩ [.int .i64 (1 + (KP k : Int)), .int .i64 (1 + (KP k : Int) + 1 + (KQ k : Int)), .bool false, .bool false, .slice none 0 0, .int .i64 0, .int .i64 0, .slice none 0 0, .int .i64 0, .int .i64 0, .int .i64 0] by
          have h := blk_at HX3.out k (by rw [upto_len]; exact hlt)
          have e : (upto E (k + 1)).getD k en0 = E k := by
            obtain rfl | rfl | rfl : k = 0 ∨ k = 1 ∨ k = 2 := by omega
            all_goals rfl
          rw [e, HE.out] at h; exact h)
        go_wp2_with (first
          | ((with_reducible refine gd_ldt 55 42 ?_); refine wpList_ldc rfl 55 (.tmp 42) rfl _ rfl _ (HA3.out) sEn ?_)
          | (at_builtin; refine wpList_en rfl (.tmp 40) (.tmp 44) rfl rfl (HO3.out) (HB3.out) (HB3.out.size) (en2 (1 + (KP k : Int)) (1 + (KP k : Int) + 1 + (KQ k : Int))) (by omega) _ rfl rfl ?_; intro A' c' w5 hO5 hb5 hk5; have HV5 := Lib.hid (hk5.blk HV3.out (own_notinE HO3.out HV3.out (by decide))); have HX5 := Lib.hid (hk5.blk HX3.out (own_notinE HO3.out HX3.out (by decide))); have HO5 := Lib.hid hO5; have HB5 := Lib.hid hb5; clear hO5 hb5 hk5))
        go_roundw
        case rel => exact ⟨k + 1, A', c', by omega, by go_num, rfl, HV5.out, HX5.out, by have := HO5.out; rw [← HE.out] at this; rw [List.range_succ, List.map_append]; exact this, HB5.out, hne, hge⟩
        case measure => simp [intOf]; omega
    · obtain rfl : k = 3 := by omega
      have hb : decide (((3 : Nat) : Int) < 3) = false := by decide
      obtain ⟨hv, hx, hr, hbel, hne, hge⟩ := HR.out
      obtain ⟨B0, hB0⟩ : ∃ x, x = 1 + (KP 0 : Int) := ⟨_, rfl⟩
      obtain ⟨B1, hB1⟩ : ∃ x, x = 1 + (KP 1 : Int) := ⟨_, rfl⟩
      obtain ⟨B2, hB2⟩ : ∃ x, x = 1 + (KP 2 : Int) := ⟨_, rfl⟩
      obtain ⟨F0, hF0⟩ : ∃ x, x = B0 + 1 + (KQ 0 : Int) := ⟨_, rfl⟩
      obtain ⟨F1, hF1⟩ : ∃ x, x = B1 + 1 + (KQ 1 : Int) := ⟨_, rfl⟩
      obtain ⟨F2, hF2⟩ : ∃ x, x = B2 + 1 + (KQ 2 : Int) := ⟨_, rfl⟩
      have e0 := HE.out 0
      have e1 := HE.out 1
      have e2 := HE.out 2
      rw [← hB0, ← hF0] at e0
      rw [← hB1, ← hF1] at e1
      rw [← hB2, ← hF2] at e2
      have bd0 : 1 ≤ B0 ∧ B0 < F0 ∧ F0 ≤ 200 := by have := (HKP.out 0).2; have := (HKQ.out 0).2; omega
      have bd1 : 1 ≤ B1 ∧ B1 < F1 ∧ F1 ≤ 200 := by have := (HKP.out 1).2; have := (HKQ.out 1).2; omega
      have bd2 : 1 ≤ B2 ∧ B2 < F2 ∧ F2 ≤ 200 := by have := (HKP.out 2).2; have := (HKQ.out 2).2; omega
      have hup : upto E 3 = [en2 B0 F0, en2 B1 F1, en2 B2 F2] := by rw [← e0, ← e1, ← e2]; rfl
      have hrg : (List.range 3).map E = [en2 B0 F0, en2 B1 F1, en2 B2 F2] := by rw [← e0, ← e1, ← e2]; rfl
      rw [hup] at hx
      rw [hrg] at hr
      have HX0 := Lib.hid (blk_at hx 0 (by simp))
      have HX1 := Lib.hid (blk_at hx 1 (by simp))
      have HX2 := Lib.hid (blk_at hx 2 (by simp))
      have hltx := hx.lt
      clear hB0 hB1 hB2 hF0 hF1 hF2 e0 e1 e2 hup hrg hx hv HR hlt
      have HX0 := Lib.hid (show At wr ⟨gx, 0, none⟩ [.int .i64 B0, .int .i64 F0, .bool false, .bool false, .slice none 0 0, .int .i64 0, .int .i64 0, .slice none 0 0, .int .i64 0, .int .i64 0, .int .i64 0] from HX0.out)
      have HX1 := Lib.hid (show At wr ⟨gx, 11, none⟩ [.int .i64 B1, .int .i64 F1, .bool false, .bool false, .slice none 0 0, .int .i64 0, .int .i64 0, .slice none 0 0, .int .i64 0, .int .i64 0, .int .i64 0] from HX1.out)
      have HX2 := Lib.hid (show At wr ⟨gx, 22, none⟩ [.int .i64 B2, .int .i64 F2, .bool false, .bool false, .slice none 0 0, .int .i64 0, .int .i64 0, .slice none 0 0, .int .i64 0, .int .i64 0, .int .i64 0] from HX2.out)
      have hrd := own_rde hr rfl
      have HRt := Lib.hid (show ∀ W, Below wr.heap.size wr W → Calls Try.prog 19 #[.slice A 3 c] W (fun e w' => e = .returned (.bool true) ∧ Below W.heap.size W w') from fun W hW => by
        have h := right_any A 3 c _ W rfl (by omega) (hrd.below hW)
        rw [three_rgt B0 F0 B1 F1 B2 F2 bd0.1 bd0.2.1 bd1.1 bd1.2.1 bd2.1 bd2.2.1] at h
        exact h)
      have h3 := three_wid B0 F0 B1 F1 B2 F2 bd0.1 bd0.2.1 bd1.1 bd1.2.1 bd2.1 bd2.2.1
      have HWd := Lib.hid (show ∀ W, Below wr.heap.size wr W → Calls Try.prog 20 #[.slice A 3 c] W (fun e w' => e = .returned (.int .i64 (widR [en2 B0 F0, en2 B1 F1, en2 B2 F2])) ∧ Below W.heap.size W w') from fun W hW =>
        width_any A 3 c _ W rfl (by omega) (hrd.below hW) (by
          intro x hx
          simp only [List.mem_cons, List.not_mem_nil, or_false] at hx
          rcases hx with rfl | rfl | rfl
          · exact ⟨wf64 B0 (by omega) (by omega), wf64 F0 (by omega) (by omega)⟩
          · exact ⟨wf64 B1 (by omega) (by omega), wf64 F1 (by omega) (by omega)⟩
          · exact ⟨wf64 B2 (by omega) (by omega), wf64 F2 (by omega) (by omega)⟩))
      obtain ⟨wd, hwd⟩ : ∃ wd, wd = widR [en2 B0 F0, en2 B1 F1, en2 B2 F2] := ⟨_, rfl⟩
      rw [← hwd] at HWd h3
      clear hwd hr hrd
      have HA1 := Lib.hid (fun W => ahd B0 F0 B1 F1 W (by omega))
      have HA2 := Lib.hid (fun W => ahd B1 F1 B2 F2 W (by omega))
      have HA3 := Lib.hid (fun W => ahd B0 F0 B2 F2 W (by omega))
      have H00 := Lib.hid (fun W => ahd B0 F0 B0 F0 W (by omega))
      have H10 := Lib.hid (fun W => ahd B1 F1 B0 F0 W (by omega))
      have S0 : Below wr.heap.size wr wr := Below.refl _ _
      have n00 : decide (F0 < B0) = false := decide_eq_false (by omega)
      have r0_0 : ∀ W, Below wr.heap.size wr W → W.cell? ⟨gx, 0, none⟩ = some (.int .i64 B0) := fun W h => (HX0.out.below h hltx).cell' 0 rfl
      have r0_1 : ∀ W, Below wr.heap.size wr W → W.cell? ⟨gx, 1, none⟩ = some (.int .i64 F0) := fun W h => (HX0.out.below h hltx).cell' 1 rfl
      have r0_2 : ∀ W, Below wr.heap.size wr W → W.cell? ⟨gx, 2, none⟩ = some (.bool false) := fun W h => (HX0.out.below h hltx).cell' 2 rfl
      have r0_3 : ∀ W, Below wr.heap.size wr W → W.cell? ⟨gx, 3, none⟩ = some (.bool false) := fun W h => (HX0.out.below h hltx).cell' 3 rfl
      have r0_4 : ∀ W, Below wr.heap.size wr W → W.cell? ⟨gx, 4, none⟩ = some (.slice none 0 0) := fun W h => (HX0.out.below h hltx).cell' 4 rfl
      have r0_5 : ∀ W, Below wr.heap.size wr W → W.cell? ⟨gx, 5, none⟩ = some (.int .i64 0) := fun W h => (HX0.out.below h hltx).cell' 5 rfl
      have r0_6 : ∀ W, Below wr.heap.size wr W → W.cell? ⟨gx, 6, none⟩ = some (.int .i64 0) := fun W h => (HX0.out.below h hltx).cell' 6 rfl
      have r0_7 : ∀ W, Below wr.heap.size wr W → W.cell? ⟨gx, 7, none⟩ = some (.slice none 0 0) := fun W h => (HX0.out.below h hltx).cell' 7 rfl
      have r0_8 : ∀ W, Below wr.heap.size wr W → W.cell? ⟨gx, 8, none⟩ = some (.int .i64 0) := fun W h => (HX0.out.below h hltx).cell' 8 rfl
      have r0_9 : ∀ W, Below wr.heap.size wr W → W.cell? ⟨gx, 9, none⟩ = some (.int .i64 0) := fun W h => (HX0.out.below h hltx).cell' 9 rfl
      have r0_10 : ∀ W, Below wr.heap.size wr W → W.cell? ⟨gx, 10, none⟩ = some (.int .i64 0) := fun W h => (HX0.out.below h hltx).cell' 10 rfl
      have r1_0 : ∀ W, Below wr.heap.size wr W → W.cell? ⟨gx, 11, none⟩ = some (.int .i64 B1) := fun W h => (HX1.out.below h hltx).cell' 0 rfl
      have r1_1 : ∀ W, Below wr.heap.size wr W → W.cell? ⟨gx, 12, none⟩ = some (.int .i64 F1) := fun W h => (HX1.out.below h hltx).cell' 1 rfl
      have r1_2 : ∀ W, Below wr.heap.size wr W → W.cell? ⟨gx, 13, none⟩ = some (.bool false) := fun W h => (HX1.out.below h hltx).cell' 2 rfl
      have r1_3 : ∀ W, Below wr.heap.size wr W → W.cell? ⟨gx, 14, none⟩ = some (.bool false) := fun W h => (HX1.out.below h hltx).cell' 3 rfl
      have r1_4 : ∀ W, Below wr.heap.size wr W → W.cell? ⟨gx, 15, none⟩ = some (.slice none 0 0) := fun W h => (HX1.out.below h hltx).cell' 4 rfl
      have r1_5 : ∀ W, Below wr.heap.size wr W → W.cell? ⟨gx, 16, none⟩ = some (.int .i64 0) := fun W h => (HX1.out.below h hltx).cell' 5 rfl
      have r1_6 : ∀ W, Below wr.heap.size wr W → W.cell? ⟨gx, 17, none⟩ = some (.int .i64 0) := fun W h => (HX1.out.below h hltx).cell' 6 rfl
      have r1_7 : ∀ W, Below wr.heap.size wr W → W.cell? ⟨gx, 18, none⟩ = some (.slice none 0 0) := fun W h => (HX1.out.below h hltx).cell' 7 rfl
      have r1_8 : ∀ W, Below wr.heap.size wr W → W.cell? ⟨gx, 19, none⟩ = some (.int .i64 0) := fun W h => (HX1.out.below h hltx).cell' 8 rfl
      have r1_9 : ∀ W, Below wr.heap.size wr W → W.cell? ⟨gx, 20, none⟩ = some (.int .i64 0) := fun W h => (HX1.out.below h hltx).cell' 9 rfl
      have r1_10 : ∀ W, Below wr.heap.size wr W → W.cell? ⟨gx, 21, none⟩ = some (.int .i64 0) := fun W h => (HX1.out.below h hltx).cell' 10 rfl
      have r2_0 : ∀ W, Below wr.heap.size wr W → W.cell? ⟨gx, 22, none⟩ = some (.int .i64 B2) := fun W h => (HX2.out.below h hltx).cell' 0 rfl
      have r2_1 : ∀ W, Below wr.heap.size wr W → W.cell? ⟨gx, 23, none⟩ = some (.int .i64 F2) := fun W h => (HX2.out.below h hltx).cell' 1 rfl
      have r2_2 : ∀ W, Below wr.heap.size wr W → W.cell? ⟨gx, 24, none⟩ = some (.bool false) := fun W h => (HX2.out.below h hltx).cell' 2 rfl
      have r2_3 : ∀ W, Below wr.heap.size wr W → W.cell? ⟨gx, 25, none⟩ = some (.bool false) := fun W h => (HX2.out.below h hltx).cell' 3 rfl
      have r2_4 : ∀ W, Below wr.heap.size wr W → W.cell? ⟨gx, 26, none⟩ = some (.slice none 0 0) := fun W h => (HX2.out.below h hltx).cell' 4 rfl
      have r2_5 : ∀ W, Below wr.heap.size wr W → W.cell? ⟨gx, 27, none⟩ = some (.int .i64 0) := fun W h => (HX2.out.below h hltx).cell' 5 rfl
      have r2_6 : ∀ W, Below wr.heap.size wr W → W.cell? ⟨gx, 28, none⟩ = some (.int .i64 0) := fun W h => (HX2.out.below h hltx).cell' 6 rfl
      have r2_7 : ∀ W, Below wr.heap.size wr W → W.cell? ⟨gx, 29, none⟩ = some (.slice none 0 0) := fun W h => (HX2.out.below h hltx).cell' 7 rfl
      have r2_8 : ∀ W, Below wr.heap.size wr W → W.cell? ⟨gx, 30, none⟩ = some (.int .i64 0) := fun W h => (HX2.out.below h hltx).cell' 8 rfl
      have r2_9 : ∀ W, Below wr.heap.size wr W → W.cell? ⟨gx, 31, none⟩ = some (.int .i64 0) := fun W h => (HX2.out.below h hltx).cell' 9 rfl
      have r2_10 : ∀ W, Below wr.heap.size wr W → W.cell? ⟨gx, 32, none⟩ = some (.int .i64 0) := fun W h => (HX2.out.below h hltx).cell' 10 rfl
      go_upto_region 9 with fail
      obtain ⟨ab, hab⟩ : ∃ x, x = decide (F0 < B1) := ⟨_, rfl⟩
      obtain ⟨bb, hbb⟩ : ∃ x, x = decide (F1 < B2) := ⟨_, rfl⟩
      obtain ⟨cb, hcb⟩ : ∃ x, x = decide (F0 < B2) := ⟨_, rfl⟩
      rw [← hab] at HA1
      rw [← hbb] at HA2
      rw [← hcb] at HA3
      rw [n00] at H00
      have HAB := Lib.hid hab
      have HBB := Lib.hid hbb
      have HCB := Lib.hid hcb
      clear hab hbb hcb n00
      have HBL := Lib.hid hbel
      have H3 := Lib.hid h3
      clear h3 hbel
      go_region_held3 (fun W => Below wr.heap.size wr W)
        (first | (with_reducible exact Below.drew S0) | (with_reducible exact bthen (by assumption) (by assumption)) | (with_reducible assumption))
        (first
          | (go_at_call 26; (with_reducible refine (HA1.out _).mono ?_); rintro ee W1 ⟨rfl, hy1⟩)
          | (go_at_call 26; (with_reducible refine (HA2.out _).mono ?_); rintro ee W2 ⟨rfl, hy2⟩)
          | (go_at_call 26; (with_reducible refine (HA3.out _).mono ?_); rintro ee W3 ⟨rfl, hy3⟩))
      have hBc : Below wr.heap.size wr W3 := by assumption
      have HF := Lib.hid (show ∀ W, Below wr.heap.size wr W → Below w.heap.size w W from fun W h => bthen HBL.out h)
      have HAB2 := Lib.hid (show ab = true → decide (F1 < B0) = false from fun h => by rw [HAB.out] at h; have := of_decide_eq_true h; exact decide_eq_false (by omega))
      have HABC := Lib.hid (show ab = true → bb = true → cb = true ∧ wd = 1 from fun h1 h2 => by
        rw [HAB.out] at h1
        rw [HBB.out] at h2
        have g1 := of_decide_eq_true h1
        have g2 := of_decide_eq_true h2
        exact ⟨by rw [HCB.out]; exact decide_eq_true (by omega), H3.out.2.2 g1 g2⟩)
      have HW3 := Lib.hid (show wd = 1 ∨ wd = 2 ∨ wd = 3 by have := H3.out; omega)
      clear r0_0 r0_1 r0_2 r0_3 r0_4 r0_5 r0_6 r0_7 r0_8 r0_9 r0_10 r1_0 r1_1 r1_2 r1_3 r1_4 r1_5 r1_6 r1_7 r1_8 r1_9 r1_10 r2_0 r2_1 r2_2 r2_3 r2_4 r2_5 r2_6 r2_7 r2_8 r2_9 r2_10
      clear HAB HBB HCB H3 HA1 HA2 HA3 hy1 hy2 hy3 S0 HR0 HE HKP HKQ HVA
      cases ab with
      | false =>
        rcases HW3.out with rfl | rfl | rfl
        all_goals as_aux_lemma =>
          go_wp2_with (first | ((with_reducible refine gd_ldt 55 67 ?_); refine wpList_ldw (by rfl) 55 (.tmp 67) rfl _ rfl _ ((HX0.out).below hBc hltx) sEn ?_) | ((with_reducible refine gd_ldt 55 69 ?_); refine wpList_ldw (by rfl) 55 (.tmp 69) rfl _ rfl _ ((HX0.out).below hBc hltx) sEn ?_) | ((with_reducible refine gd_ldt 55 78 ?_); refine wpList_ldw (by rfl) 55 (.tmp 78) rfl _ rfl _ ((HX1.out).below hBc hltx) sEn ?_) | ((with_reducible refine gd_ldt 55 80 ?_); refine wpList_ldw (by rfl) 55 (.tmp 80) rfl _ rfl _ ((HX0.out).below hBc hltx) sEn ?_) | (go_at_call 9; refine (notes_any _).mono ?_; rintro ee W1 ⟨rfl, hx⟩; have hBc := bthen hBc hx; clear hx) | (go_at_call 19; refine (HRt.out _ hBc).mono ?_; rintro ee W1 ⟨rfl, hx⟩; have hBc := bthen hBc hx; clear hx) | (go_at_call 26; first | ((with_reducible refine (H00.out _).mono ?_); rintro ee W1 ⟨rfl, hx⟩; have hBc := bthen hBc hx; clear hx) | ((with_reducible refine (H10.out _).mono ?_); rintro ee W1 ⟨rfl, hx⟩; have hBc := bthen hBc hx; clear hx)) | (go_at_call 20; refine (HWd.out _ hBc).mono ?_; rintro ee W1 ⟨rfl, hx⟩; have hBc := bthen hBc hx; clear hx))
          go_ret
          exact ⟨rfl, HF.out _ hBc⟩
      | true =>
        have h10 := HAB2.out rfl
        rw [h10] at H10
        clear h10
        cases bb with
        | false =>
          rcases HW3.out with rfl | rfl | rfl
          all_goals as_aux_lemma =>
            go_wp2_with (first | ((with_reducible refine gd_ldt 55 67 ?_); refine wpList_ldw (by rfl) 55 (.tmp 67) rfl _ rfl _ ((HX0.out).below hBc hltx) sEn ?_) | ((with_reducible refine gd_ldt 55 69 ?_); refine wpList_ldw (by rfl) 55 (.tmp 69) rfl _ rfl _ ((HX0.out).below hBc hltx) sEn ?_) | ((with_reducible refine gd_ldt 55 78 ?_); refine wpList_ldw (by rfl) 55 (.tmp 78) rfl _ rfl _ ((HX1.out).below hBc hltx) sEn ?_) | ((with_reducible refine gd_ldt 55 80 ?_); refine wpList_ldw (by rfl) 55 (.tmp 80) rfl _ rfl _ ((HX0.out).below hBc hltx) sEn ?_) | (go_at_call 9; refine (notes_any _).mono ?_; rintro ee W1 ⟨rfl, hx⟩; have hBc := bthen hBc hx; clear hx) | (go_at_call 19; refine (HRt.out _ hBc).mono ?_; rintro ee W1 ⟨rfl, hx⟩; have hBc := bthen hBc hx; clear hx) | (go_at_call 26; first | ((with_reducible refine (H00.out _).mono ?_); rintro ee W1 ⟨rfl, hx⟩; have hBc := bthen hBc hx; clear hx) | ((with_reducible refine (H10.out _).mono ?_); rintro ee W1 ⟨rfl, hx⟩; have hBc := bthen hBc hx; clear hx)) | (go_at_call 20; refine (HWd.out _ hBc).mono ?_; rintro ee W1 ⟨rfl, hx⟩; have hBc := bthen hBc hx; clear hx))
            go_ret
            exact ⟨rfl, HF.out _ hBc⟩
        | true =>
          obtain ⟨rfl, rfl⟩ := HABC.out rfl rfl
          go_wp2_with (first | ((with_reducible refine gd_ldt 55 67 ?_); refine wpList_ldw (by rfl) 55 (.tmp 67) rfl _ rfl _ ((HX0.out).below hBc hltx) sEn ?_) | ((with_reducible refine gd_ldt 55 69 ?_); refine wpList_ldw (by rfl) 55 (.tmp 69) rfl _ rfl _ ((HX0.out).below hBc hltx) sEn ?_) | ((with_reducible refine gd_ldt 55 78 ?_); refine wpList_ldw (by rfl) 55 (.tmp 78) rfl _ rfl _ ((HX1.out).below hBc hltx) sEn ?_) | ((with_reducible refine gd_ldt 55 80 ?_); refine wpList_ldw (by rfl) 55 (.tmp 80) rfl _ rfl _ ((HX0.out).below hBc hltx) sEn ?_) | (go_at_call 9; refine (notes_any _).mono ?_; rintro ee W1 ⟨rfl, hx⟩; have hBc := bthen hBc hx; clear hx) | (go_at_call 19; refine (HRt.out _ hBc).mono ?_; rintro ee W1 ⟨rfl, hx⟩; have hBc := bthen hBc hx; clear hx) | (go_at_call 26; first | ((with_reducible refine (H00.out _).mono ?_); rintro ee W1 ⟨rfl, hx⟩; have hBc := bthen hBc hx; clear hx) | ((with_reducible refine (H10.out _).mono ?_); rintro ee W1 ⟨rfl, hx⟩; have hBc := bthen hBc hx; clear hx)) | (go_at_call 20; refine (HWd.out _ hBc).mono ?_; rintro ee W1 ⟨rfl, hx⟩; have hBc := bthen hBc hx; clear hx))
          go_ret
          exact ⟨rfl, HF.out _ hBc⟩
end Go.Proofs.Ytbnlpidhbilenaa
