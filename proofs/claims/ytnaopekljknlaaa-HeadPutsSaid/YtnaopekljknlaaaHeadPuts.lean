/-
  HeadPuts: its walk.
-/
import Derived.Test.YtnaopekljknlaaaOpenH
import Derived.Test.YtnaopekljknlaaaCut
import Derived.Deep.RegionLaw
namespace Go.Proofs.Ytnaopekljknlaaa
open Go.RowKit Plain
set_option linter.unusedVariables false

/-- append as one step of a region that draws its order -/
theorem step_app {w : World} {base n c : Nat} {A : Option Addr} {zs : List Int} {ops : Array Oper} {o : Oper} {a : Act} {K : Act → World → Prop} {Q : Exit → Act → World → Prop} {E : Prop} (hgd : o.guard = none) (s x : Operand)
    (ho : o.op = .call { callee := .builtin .append, args := #[s, x], argTypes := #[22, 22] })
    (hs : a.eval s = .slice A n c) (hown : Own w base A n c zs) {B : Option Addr} {m d : Nat} (ys : List Int) (hx : a.eval x = .slice B m d) (hR : Rd w B ys) (hm : ys.length = m) (hl : n + m ≤ 1000000000) (hbase : base ≤ w.heap.size)
    (h : ∀ A' c' w', Own w' base A' (n + m) c' (zs ++ ys) → w.grownBy w' (Value.slice A n c).ownBlock → (A' = A ∨ A' = some ⟨w.heap.size, 0, none⟩) → K (a.put o.dst (.slice A' (n + m) c')) w') :
    if Region.wanted o (yielded ops a.tmps) = true then Oper.wp Try.prog o a w K Q else E := by
  have hw : Region.wanted o (yielded ops a.tmps) = true := by simp [Region.wanted, hgd]
  rw [if_pos hw]
  obtain ⟨A', c', w', hrun, h2, h3, h4⟩ := run_app hown hR hm hl hbase o.type (d := d)
  unfold Oper.wp execOp
  simp only [ho, resolve, invoke, builtin, Sem.run_bind, Sem.run_pure, Result.andThen_ok, List.map_toArray, List.map_cons, List.map_nil, hs, hx, hrun]
  exact h A' c' w' h2 h3 h4

/-- a block of another kind is kept when a row of one's own grew -/
theorem blk_grown {W W' : World} {pz : Nat} {ty : TypeId} {cs : Array Value} {A : Option Addr} {n c base : Nat} {zs : List Int} (hz : Blk W pz ty cs) (hg : W.grownBy W' (Value.slice A n c).ownBlock) (ho : Own W base A n c zs) (ht : ty ≠ 5) : Blk W' pz ty cs := by
  refine (hg.block pz hz.lt ?_).trans hz
  rcases ho.row.2 with ⟨e, _⟩ | ⟨g, cap, cur, e, _, hh, _⟩
  · injection e with e1 e2 e3
    subst e1
    simp [Value.ownBlock]
  · injection e with e1 e2 e3
    subst e1
    simp only [Value.ownBlock]
    intro he
    injection he with he
    subst he
    unfold Blk at hz
    rw [hh] at hz
    injection hz with hz
    injection hz with _ h2
    exact ht h2.symm
theorem blk_set {w : World} {g : Nat} {ty : TypeId} {cs : Array Value} (h : Blk w g ty cs) (i : Nat) (u : Value) : Blk (w.setCell ⟨g, i, none⟩ u) g ty (cs.setIfInBounds i u) := by
  unfold Blk at h ⊢
  simp [World.setCell, Array.getElem?_modify, h]
theorem blk_set6 {w : World} {g : Nat} {ty : TypeId} {a0 a1 a2 a3 a4 a5 : Value} (h : Blk w g ty #[a0, a1, a2, a3, a4, a5]) (v0 v1 v2 v3 v4 v5 : Value) :
    Blk ((((((w.setCell ⟨g, 0, none⟩ v0).setCell ⟨g, 1, none⟩ v1).setCell ⟨g, 2, none⟩ v2).setCell ⟨g, 3, none⟩ v3).setCell ⟨g, 4, none⟩ v4).setCell ⟨g, 5, none⟩ v5) g ty #[v0, v1, v2, v3, v4, v5] := by
  have := blk_set (blk_set (blk_set (blk_set (blk_set (blk_set h 0 v0) 1 v1) 2 v2) 3 v3) 4 v4) 5 v5
  simpa using this
theorem blk_far {w : World} {g : Nat} {ty : TypeId} {cs : Array Value} (h : Blk w g ty cs) {m : Nat} (hm : g ≠ m) (v0 v1 v2 v3 v4 v5 : Value) :
    Blk ((((((w.setCell ⟨m, 0, none⟩ v0).setCell ⟨m, 1, none⟩ v1).setCell ⟨m, 2, none⟩ v2).setCell ⟨m, 3, none⟩ v3).setCell ⟨m, 4, none⟩ v4).setCell ⟨m, 5, none⟩ v5) g ty cs := by
  have f : ∀ (W : World) (i : Nat) (u : Value), Blk W g ty cs → Blk (W.setCell ⟨m, i, none⟩ u) g ty cs := fun W i u hW => (Below.heap_setCell W ⟨m, i, none⟩ u g hm).trans hW
  exact f _ _ _ (f _ _ _ (f _ _ _ (f _ _ _ (f _ _ _ (f _ _ _ h)))))

theorem Blk.ne' {w : World} {g g' : Nat} {cs cs' : Array Value} (h : Blk w g 47 cs) (h' : Blk w g' 51 cs') : g ≠ g' := by
  rintro rfl
  unfold Blk at h h'
  rw [h] at h'
  injection h' with h'
  injection h' with _ ht
  exact absurd ht (by decide)

theorem Own.drew' {w : World} {base n c : Nat} {A : Option Addr} {zs : List Int} (h : Own w base A n c zs) : Own w.drew base A n c zs := ⟨h.len, h.byt, h.row⟩
theorem own_e2 (w : World) (o : Obj) : Own ((w.alloc o).alloc (.cells #[] 5)).drew w.heap.size (some ⟨w.heap.size + 1, 0, none⟩) 0 0 [] := by
  have := (Own.empty (base := w.heap.size) (w.alloc o) (by simp)).drew'
  rw [World.size_alloc] at this
  exact this
theorem blk_drew {w : World} {g : Nat} {ty : TypeId} {cs : Array Value} (h : Blk w g ty cs) : Blk w.drew g ty cs := h

/-- a frame is got, whatever stands behind -/
theorem frm_got (t p s d : Int) (ys ms : List Int) (hl : ys.length ≤ 1480) (hy : By ys) (t0 : 0 ≤ t) (t1 : t ≤ 255) (p0 : 0 ≤ p) (p1 : p ≤ 255) (s0 : 0 ≤ s) (s1 : s ≤ 4294967295) (d0 : 0 ≤ d) (d1 : d ≤ 4294967295) :
    gtE (frm t p s d ys ++ ms) = 0 ∧ gtH (frm t p s d ys ++ ms) = ⟨20, 20 + (ys.length : Int), t, p, s, d⟩ := by
  obtain ⟨hb, hm⟩ := frm_by t p s d ys hy hl t0 t1 p0 p1 s0 s1 d0 d1
  have hlen : (frm t p s d ys ++ ms).length = 20 + ys.length + ms.length := by rw [List.length_append, frm_len]
  have e16 : ∀ i, i + 1 < 20 → G16 (frm t p s d ys ++ ms) i = G16 (hb1 t p s d (20 + (ys.length : Int))) i := fun i hi => by
    unfold G16 frm
    simp only [List.getD]
    rw [List.append_assoc, List.getElem?_append_left (by rw [hb1_len]; omega), List.getElem?_append_left (by rw [hb1_len]; omega)]
  have e1 : ∀ i, i < 20 → (frm t p s d ys ++ ms).getD i 0 = (hb1 t p s d (20 + (ys.length : Int))).getD i 0 := fun i hi => by
    unfold frm
    simp only [List.getD]
    rw [List.append_assoc, List.getElem?_append_left (by rw [hb1_len]; omega)]
  have hfl : fld (frm t p s d ys ++ ms) = ⟨20, 20 + (ys.length : Int), t, p, s, d⟩ := by
    unfold fld G32
    rw [e1 0 (by omega), e1 8 (by omega), e1 9 (by omega), e16 2 (by omega), e16 12 (by omega), e16 14 (by omega), e16 16 (by omega), e16 18 (by omega)]
    show Hd.mk (69 % 16 * 4) ((20 + (ys.length : Int)) / 256 * 256 + (20 + (ys.length : Int)) % 256) t p ((s / 65536 / 256 * 256 + s / 65536 % 256) * 65536 + (s % 65536 / 256 * 256 + s % 65536 % 256)) ((d / 65536 / 256 * 256 + d / 65536 % 256) * 65536 + (d % 65536 / 256 * 256 + d % 65536 % 256)) = _
    congr 1 <;> omega
  have hr : rdE (frm t p s d ys ++ ms) 1500 = 0 := by
    unfold rdE
    rw [if_neg (by omega), e1 0 (by omega), if_neg (by show ¬ ((69 : Int) / 16 ≠ 4); decide), hfl]
    rw [if_neg (by show ¬ ((20 : Int) < 20); decide), if_neg (by rw [hlen]; show ¬ ((_ : Int) < 20); omega), if_neg (by show ¬ ((20 + (ys.length : Int)) < 20); omega), if_neg (by show ¬ (1500 < (20 + (ys.length : Int))); omega)]
  have htk : (frm t p s d ys ++ ms).take 20 = hb1 t p s d (20 + (ys.length : Int)) := by
    unfold frm
    rw [List.append_assoc, List.take_append_of_le_length (by rw [hb1_len]; omega), List.take_of_length_le (by rw [hb1_len]; omega)]
  have hcs : Cs (hb1 t p s d (20 + (ys.length : Int))) = 0 := by
    have h0 := tot_nonneg _ hb
    have hF := F_mod _ h0
    have hr2 := F_range _ h0
    have hz : F (tot (hb1 t p s d (20 + (ys.length : Int)))) ≠ 0 := fun e => by
      have hz := F_zero _ h0 e
      have hp : 17664 ≤ tot (hb1 t p s d (20 + (ys.length : Int))) := by
        have h2 : tot (hb1 t p s d (20 + (ys.length : Int))) = 69 * 256 + 0 + tot ((hb1 t p s d (20 + (ys.length : Int))).drop 2) := rfl
        have h3 := tot_nonneg _ (hb.drop 2)
        omega
      omega
    unfold Cs
    omega
  have hpc : G16 (frm t p s d ys ++ ms) 6 % 16384 = 0 := by
    rw [e16 6 (by omega)]; show ((64 : Int) * 256 + 0) % 16384 = 0; decide
  have he : gtE (frm t p s d ys ++ ms) = 0 := by
    unfold gtE
    rw [hr, if_neg (by decide), hfl, if_neg (by rw [hlen]; show ¬ ((_ : Int) < 20 + (ys.length : Int)); omega)]
    rw [show (Hd.mk 20 (20 + (ys.length : Int)) t p s d).size.toNat = 20 from rfl, htk, hcs, if_neg (by decide), hpc, if_neg (by decide)]
  exact ⟨he, by unfold gtH; rw [he, if_pos rfl, hfl]⟩

set_option maxHeartbeats 1000000 in
theorem to_any (d0 d1 d2 d3 d4 d5 : Int) (w : World) :
    Calls Try.prog 26 #[.agg #[.int .i64 d0, .int .i64 d1, .int .i64 d2, .int .i64 d3, .int .u32 d4, .int .u32 d5]] w fun e w' => e = .returned (.agg #[.int .i64 d0, .int .i64 d1, .int .i64 d2, .int .i64 d3, .int .u32 d4, .int .u32 d5]) ∧ Below w.heap.size w w' := by
  go_enter Try.func26, Try.ntmps26
  go_wp2
  refine bodyPost_ret (v := .agg #[.int .i64 d0, .int .i64 d1, .int .i64 d2, .int .i64 d3, .int .u32 d4, .int .u32 d5]) (by simp [results, Try.results26, go_sem]) rfl ⟨rfl, ?_⟩
  exact ((Below.refl _ _).alloc (Nat.le_refl _) _).alloc (by simp) _

set_option maxRecDepth 100000 in
set_option maxHeartbeats 16000000 in
theorem headPuts_walk (h : Hd) (A : Option Addr) (n c : Nat) (zs : List Int) (A2 : Option Addr) (n2 c2 : Nat) (zs2 : List Int) (w : World) (ok : Hok h) (hn : zs.length = n) (hnc : n ≤ c) (hm : c ≤ maxLen) (hR : Rd w A zs)
    (hn2 : zs2.length = n2) (hnc2 : n2 ≤ c2) (hm2 : c2 ≤ maxLen) (hR2 : Rd w A2 zs2) :
    Calls Try.prog 10 #[h.val, .slice A n c, .slice A2 n2 c2] w fun e w' => e = .returned (.bool true) ∧ Below w.heap.size w w' := by
  unfold maxLen at hm hm2
  have Hn := Lib.hid hn
  have Hn2 := Lib.hid hn2
  clear hn hn2
  obtain ⟨hs, hln, t, p, s, d⟩ := h
  obtain ⟨ot0, ot1, op0, op1, s0, s1, d0, d1, _, _, _, _⟩ := ok
  simp only at ot0 ot1 op0 op1 s0 s1 d0 d1
  rw [show (Hd.mk hs hln t p s d).val = .agg #[.int .i64 hs, .int .i64 hln, .int .i64 t, .int .i64 p, .int .u32 s, .int .u32 d] from rfl]
  go_enter Try.func10, Try.ntmps10
  go_upto_region 1 with fail
  obtain ⟨w1, hw1⟩ : ∃ w1, w1 = w.alloc (.cells #[.int .i64 hs, .int .i64 hln, .int .i64 t, .int .i64 p, .int .u32 s, .int .u32 d] 47) := ⟨_, rfl⟩
  have bk : Blk w1 w.heap.size 47 #[.int .i64 hs, .int .i64 hln, .int .i64 t, .int .i64 p, .int .u32 s, .int .u32 d] := by rw [hw1]; exact Blk.new w _ _
  have hbw : Below w.heap.size w w1 := by rw [hw1]; exact (Below.refl _ _).alloc (Nat.le_refl _) _
  have Hbw := Lib.hid hbw
  have HR1 := Lib.hid (hR.below hbw)
  have HR2 := Lib.hid (hR2.below hbw)
  have Hbk := Lib.hid bk
  rw [← hw1]
  clear hw1 bk hR hR2 hbw
  go_cut [1] (fun s1 wx => ∃ (k : Nat) (ys : List Int), s1 = .slice A k c ∧ ys.length = k ∧ k ≤ 1490 ∧ k ≤ c ∧ Rd w1 A ys ∧ wx = w1)
  case first =>
    by_cases h1 : n ≤ 1490
    · go_wp2
      go_meet
      exact ⟨n, zs, rfl, Hn.out, h1, hnc, HR1.out, rfl⟩
    · go_wp2
      go_meet
      exact ⟨1490, zs.take 1490, rfl, by rw [List.length_take, Hn.out]; omega, Nat.le_refl _, by omega, HR1.out.take 1490, rfl⟩
  case rest =>
    obtain ⟨k, ys, rfl, hyl, hk, hkc, hRy, rfl⟩ := hcut
    have Hyl := Lib.hid hyl
    have HRy := Lib.hid hRy
    have q0 := Hbk.out.cell 0
    have q1 := Hbk.out.cell 1
    have q2 := Hbk.out.cell 2
    have q3 := Hbk.out.cell 3
    have q4 := Hbk.out.cell 4
    have q5 := Hbk.out.cell 5
    simp only [List.getElem?_toArray, List.getElem?_cons_zero, List.getElem?_cons_succ] at q0 q1 q2 q3 q4 q5
    clear hyl hRy HR1
    go_wp2_with fail
    refine (to_any hs hln t p s d _).mono ?_
    rintro e w2 ⟨rfl, hb2⟩
    have Hb2 := Lib.hid hb2
    have HRy2 := Lib.hid (HRy.out.below hb2)
    have Hbk2 := Lib.hid (Hbk.out.below hb2)
    have Hbw2 := Lib.hid (Hbw.out.trans (hb2.mono Hbw.out.size))
    clear hb2
    go_wp2_with fail
    by_cases fit : (0 ≤ t ∧ t ≤ 255) ∧ (0 ≤ p ∧ p ≤ 255) ∧ k ≤ 1480
    · obtain ⟨⟨t0, t1⟩, ⟨p0, p1⟩, hk80⟩ := fit
      refine (put_yes hs hln t p s d A k c ys _ hk80 Hyl.out HRy2.out t0 t1 p0 p1 s0 s1 d0 d1).mono ?_
      rintro e w3 ⟨g, rfl, ho3, hb3⟩
      have bk3 := Hbk2.out.below hb3
      have r0 := bk3.cell 0
      have r1 := bk3.cell 1
      have r2 := bk3.cell 2
      have r3 := bk3.cell 3
      have r4 := bk3.cell 4
      have r5 := bk3.cell 5
      simp only [List.getElem?_toArray, List.getElem?_cons_zero, List.getElem?_cons_succ] at r0 r1 r2 r3 r4 r5
      have Hb3 := Lib.hid (Hbw2.out.trans (hb3.mono Hbw2.out.size))
      have Hb23 := Lib.hid hb3
      have Ho3 := Lib.hid ho3
      have Hbk3 := Lib.hid bk3
      have HRy3 := Lib.hid (HRy2.out.below hb3)
      clear hb3 bk3 ho3 q0 q1 q2 q3 q4 q5 Hbk2 HRy2
      go_wp2_with fail
      refine (rput_yes hs hln t p s d A k c ys _ hk80 Hyl.out HRy3.out t0 t1 p0 p1 s0 s1 d0 d1).mono ?_
      rintro e w4 ⟨g4, c4, rfl, ho4, hb4⟩
      have Hb4 := Lib.hid (Hb3.out.trans (hb4.mono Hb3.out.size))
      have Hb24 := Lib.hid (Hb23.out.trans (hb4.mono Hb23.out.size))
      have Ho4 := Lib.hid ho4
      have Ho34 := Lib.hid (Ho3.out.below hb4)
      have Hbk4 := Lib.hid (Hbk3.out.below hb4)
      clear ho4 hb4 r0 r1 r2 r3 r4 r5
      go_wp2_with fail
      refine (heads_any _).mono ?_
      rintro e w5 ⟨rfl, hb5⟩
      have Hb5 := Lib.hid (Hb4.out.trans (hb5.mono Hb4.out.size))
      have Hb3s := Lib.hid (Hb24.out.trans (hb5.mono Hb24.out.size))
      have Hbk5 := Lib.hid (Hbk4.out.below hb5)
      have Ho5 := Lib.hid (Ho34.out.below hb5)
      have hcv := run_str w5 (some ⟨g, 0, none⟩) (20 + k) (20 + k) (frm t p s d ys) Ho5.out.len Ho5.out.rd
      have hcv2 := run_str w5 (some ⟨g4, 0, none⟩) (20 + k) c4 (frm t p s d ys) Ho4.out.len (Ho4.out.below hb5).rd
      clear hb5
      go_upto_region 8 with fail
      have HR5 := Lib.hid (HR2.out.below (show Below wc.heap.size wc w5 from ((Hb2.out.trans (Hb3s.out.mono Hb2.out.size)))))
      clear hcv hcv2
      have Hgot := Lib.hid (fun ms => frm_got t p s d ys ms (by rw [Hyl.out]; exact hk80) HRy.out.1 t0 t1 p0 p1 s0 s1 d0 d1)
      have Hval := Lib.hid (show (Hd.mk 20 (20 + (ys.length : Int)) t p s d).val = .agg #[.int .i64 20, .int .i64 (20 + (k : Int)), .int .i64 t, .int .i64 p, .int .u32 s, .int .u32 d] by rw [Hyl.out]; rfl)
      go_cut [11, 12] (fun s11 s12 wx => ∃ p11 : Nat, s11 = .pointer (some ⟨p11, 0, none⟩) ∧ s12 = .int .i64 0 ∧ Blk wx p11 51 #[.int .i64 20, .int .i64 (20 + (k : Int)), .int .i64 t, .int .i64 p, .int .u32 s, .int .u32 d] ∧ Blk wx w.heap.size 47 #[.int .i64 hs, .int .i64 hln, .int .i64 t, .int .i64 p, .int .u32 s, .int .u32 d] ∧ Below w.heap.size w wx)
      case first =>
       by_cases h20 : n2 ≤ 20
       · have i1 : (if (20 : Int) < (n2 : Int) then (20 : Int) else (n2 : Int)) = (n2 : Int) := by rw [if_neg (by omega)]
         have i2 : (n2 : Int) ≤ (c2 : Int) := by omega
         go_region_law (first
           | ((with_reducible refine step_app (base := w5.heap.size) rfl (.tmp 51) (.tmp 52) rfl rfl (Own.empty (base := w5.heap.size) w5 (Nat.le_refl _)).drew' (frm t p s d ys) rfl (Ho5.out.rd.alloc _).drew Ho5.out.len (by omega) (by first | (simp; done) | (simp; omega)) ?_); intro A6 c6 w6 ho6 hg6 hA6; have hb6 := below_app (((Below.refl w5.heap.size w5).alloc (Nat.le_refl _) _).drew) hg6 (Own.empty (base := w5.heap.size) w5 (Nat.le_refl _)).drew' (Nat.le_refl _) (by first | (simp; done) | (simp; omega)); rw [Nat.zero_add, List.nil_append] at ho6; have HO6 := Lib.hid ho6; have HB6 := Lib.hid hb6; clear ho6 hg6 hA6 hb6)
           | ((with_reducible refine step_app (base := w5.heap.size) rfl (.tmp 51) (.tmp 52) rfl rfl (own_e2 w5 (.cells #[.int .i64 0, .int .i64 0, .int .i64 0, .int .i64 0, .int .u32 0, .int .u32 0] 51)) (frm t p s d ys) rfl ((Ho5.out.rd.alloc _).alloc _).drew Ho5.out.len (by omega) (by first | (simp; done) | (simp; omega)) ?_); intro A6 c6 w6 ho6 hg6 hA6; have hb6 := below_app ((((Below.refl w5.heap.size w5).alloc (Nat.le_refl _) _).alloc (by simp) _).drew) hg6 (own_e2 w5 (.cells #[.int .i64 0, .int .i64 0, .int .i64 0, .int .i64 0, .int .u32 0, .int .u32 0] 51)) (Nat.le_refl _) (by first | (simp; done) | (simp; omega)); have HZ6 := Lib.hid (blk_grown (blk_drew ((Blk.new w5 51 #[.int .i64 0, .int .i64 0, .int .i64 0, .int .i64 0, .int .u32 0, .int .u32 0]).alloc _)) hg6 (own_e2 w5 (.cells #[.int .i64 0, .int .i64 0, .int .i64 0, .int .i64 0, .int .u32 0, .int .u32 0] 51)) (by decide)); rw [Nat.zero_add, List.nil_append] at ho6; have HO6 := Lib.hid ho6; have HB6 := Lib.hid hb6; clear ho6 hg6 hA6 hb6)
           | ((with_reducible refine step_app (base := w5.heap.size) rfl (.tmp 51) (.tmp 52) rfl rfl ((Own.empty (base := w5.heap.size) w5 (Nat.le_refl _)).alloc (.cells #[.int .i64 0, .int .i64 0, .int .i64 0, .int .i64 0, .int .u32 0, .int .u32 0] 51)).drew' (frm t p s d ys) rfl ((Ho5.out.rd.alloc _).alloc _).drew Ho5.out.len (by omega) (by first | (simp; done) | (simp; omega)) ?_); intro A6 c6 w6 ho6 hg6 hA6; have hb6 := below_app ((((Below.refl w5.heap.size w5).alloc (Nat.le_refl _) _).alloc (by simp) _).drew) hg6 ((Own.empty (base := w5.heap.size) w5 (Nat.le_refl _)).alloc (.cells #[.int .i64 0, .int .i64 0, .int .i64 0, .int .i64 0, .int .u32 0, .int .u32 0] 51)).drew' (Nat.le_refl _) (by first | (simp; done) | (simp; omega)); have hz6 := (blk_grown (blk_drew (Blk.new (w5.alloc (.cells #[] 5)) 51 #[.int .i64 0, .int .i64 0, .int .i64 0, .int .i64 0, .int .u32 0, .int .u32 0])) hg6 ((Own.empty (base := w5.heap.size) w5 (Nat.le_refl _)).alloc (.cells #[.int .i64 0, .int .i64 0, .int .i64 0, .int .i64 0, .int .u32 0, .int .u32 0] 51)).drew' (by decide)); rw [World.size_alloc] at hz6; have HZ6 := Lib.hid hz6; clear hz6; rw [Nat.zero_add, List.nil_append] at ho6; have HO6 := Lib.hid ho6; have HB6 := Lib.hid hb6; clear ho6 hg6 hA6 hb6)
           | ((with_reducible refine step_app rfl (.tmp 53) (.tmp 58) rfl rfl HO6.out zs2 rfl ((HR5.out.below HB6.out)) Hn2.out (by omega) HB6.out.size ?_); intro A7 c7 w7 ho7 hg7 hA7; have hb7 := below_app HB6.out hg7 HO6.out (Nat.le_refl _) HB6.out.size; (try have HZ7 := Lib.hid (blk_grown HZ6.out hg7 HO6.out (by decide))); have HO7 := Lib.hid ho7; have HB7 := Lib.hid hb7; clear ho7 hg7 hA7 hb7)
           | ((with_reducible refine step_app rfl (.tmp 53) (.tmp 58) rfl rfl (HO6.out.alloc (.cells #[.int .i64 0, .int .i64 0, .int .i64 0, .int .i64 0, .int .u32 0, .int .u32 0] 51)) zs2 rfl ((((HR5.out.below HB6.out).alloc _))) Hn2.out (by omega) (by have := HB6.out.size; simp only [World.size_alloc]; omega) ?_); intro A7 c7 w7 ho7 hg7 hA7; have hb7 := below_app (HB6.out.alloc HB6.out.size (.cells #[.int .i64 0, .int .i64 0, .int .i64 0, .int .i64 0, .int .u32 0, .int .u32 0] 51)) hg7 (HO6.out.alloc (.cells #[.int .i64 0, .int .i64 0, .int .i64 0, .int .i64 0, .int .u32 0, .int .u32 0] 51)) (Nat.le_refl _) (by have := HB6.out.size; simp only [World.size_alloc]; omega); have HZ7 := Lib.hid (blk_grown (Blk.new w6 51 #[.int .i64 0, .int .i64 0, .int .i64 0, .int .i64 0, .int .u32 0, .int .u32 0]) hg7 (HO6.out.alloc (.cells #[.int .i64 0, .int .i64 0, .int .i64 0, .int .i64 0, .int .u32 0, .int .u32 0] 51)) (by decide)); have HO7 := Lib.hid ho7; have HB7 := Lib.hid hb7; clear ho7 hg7 hA7 hb7)
           | (go_simp; go_at_call 29; (with_reducible refine (get_any _ _ _ _ w7 HO7.out.len HO7.out.cap (by omega) HO7.out.rd).mono ?_); rintro e w8 ⟨rfl, hb8⟩; rw [(Hgot.out zs2).1, (Hgot.out zs2).2, Hval.out]; have HB8 := Lib.hid (HB7.out.trans (hb8.mono HB7.out.size)); (try have HZ8 := Lib.hid (HZ7.out.below hb8)); clear hb8; (try have z0 := HZ8.out.cell 0); (try have z1 := HZ8.out.cell 1); (try have z2 := HZ8.out.cell 2); (try have z3 := HZ8.out.cell 3); (try have z4 := HZ8.out.cell 4); (try have z5 := HZ8.out.cell 5); (try simp only [List.getElem?_toArray, List.getElem?_cons_zero, List.getElem?_cons_succ] at z0 z1 z2 z3 z4 z5); (try have y0 := HZ8.out.frozen 0); (try have y1 := HZ8.out.frozen 1); (try have y2 := HZ8.out.frozen 2); (try have y3 := HZ8.out.frozen 3); (try have y4 := HZ8.out.frozen 4); (try have y5 := HZ8.out.frozen 5))
           | (go_simp; go_at_call 29; (with_reducible refine (get_any _ _ _ _ (w7.alloc (.cells #[.int .i64 0, .int .i64 0, .int .i64 0, .int .i64 0, .int .u32 0, .int .u32 0] 51)) HO7.out.len HO7.out.cap (by omega) (HO7.out.rd.alloc _)).mono ?_); rintro e w8 ⟨rfl, hb8⟩; rw [(Hgot.out zs2).1, (Hgot.out zs2).2, Hval.out]; have HB8 := Lib.hid ((HB7.out.alloc HB7.out.size (.cells #[.int .i64 0, .int .i64 0, .int .i64 0, .int .i64 0, .int .u32 0, .int .u32 0] 51)).trans (hb8.mono (by have := HB7.out.size; simp only [World.size_alloc]; omega))); have HZ8 := Lib.hid ((Blk.new w7 51 #[.int .i64 0, .int .i64 0, .int .i64 0, .int .i64 0, .int .u32 0, .int .u32 0]).below hb8); clear hb8; (try have z0 := HZ8.out.cell 0); (try have z1 := HZ8.out.cell 1); (try have z2 := HZ8.out.cell 2); (try have z3 := HZ8.out.cell 3); (try have z4 := HZ8.out.cell 4); (try have z5 := HZ8.out.cell 5); (try simp only [List.getElem?_toArray, List.getElem?_cons_zero, List.getElem?_cons_succ] at z0 z1 z2 z3 z4 z5); (try have y0 := HZ8.out.frozen 0); (try have y1 := HZ8.out.frozen 1); (try have y2 := HZ8.out.frozen 2); (try have y3 := HZ8.out.frozen 3); (try have y4 := HZ8.out.frozen 4); (try have y5 := HZ8.out.frozen 5)))
         all_goals
           go_wp2_with fail
           go_meet
           have h8 := Hbk5.out.below HB8.out
           have hw58 := Hb5.out.trans (HB8.out.mono Hb5.out.size)
           have s5 := Hb5.out.size
           have s6 := HB6.out.size
           have s7 := HB7.out.size
           refine ⟨_, rfl, rfl, ?_, ?_, ?_⟩
           · first | (with_reducible exact Blk.new w8 _ _) | (with_reducible exact blk_set6 HZ8.out _ _ _ _ _ _)
           · first | (with_reducible exact h8.alloc _) | (with_reducible exact blk_far h8 (Blk.ne' h8 HZ8.out) _ _ _ _ _ _)
           · first | (with_reducible exact hw58.alloc hw58.size _) | (with_reducible exact below_set6 hw58 (by omega) _ _ _ _ _ _)
       · have i1 : (if (20 : Int) < (n2 : Int) then (20 : Int) else (n2 : Int)) = 20 := by rw [if_pos (by omega)]
         have i2 : (20 : Int) ≤ (c2 : Int) := by omega
         have Hl20 := Lib.hid (show (zs2.take 20).length = 20 by rw [List.length_take, Hn2.out]; omega)
         go_region_law (first
           | ((with_reducible refine step_app (base := w5.heap.size) rfl (.tmp 51) (.tmp 52) rfl rfl (Own.empty (base := w5.heap.size) w5 (Nat.le_refl _)).drew' (frm t p s d ys) rfl (Ho5.out.rd.alloc _).drew Ho5.out.len (by omega) (by first | (simp; done) | (simp; omega)) ?_); intro A6 c6 w6 ho6 hg6 hA6; have hb6 := below_app (((Below.refl w5.heap.size w5).alloc (Nat.le_refl _) _).drew) hg6 (Own.empty (base := w5.heap.size) w5 (Nat.le_refl _)).drew' (Nat.le_refl _) (by first | (simp; done) | (simp; omega)); rw [Nat.zero_add, List.nil_append] at ho6; have HO6 := Lib.hid ho6; have HB6 := Lib.hid hb6; clear ho6 hg6 hA6 hb6)
           | ((with_reducible refine step_app (base := w5.heap.size) rfl (.tmp 51) (.tmp 52) rfl rfl (own_e2 w5 (.cells #[.int .i64 0, .int .i64 0, .int .i64 0, .int .i64 0, .int .u32 0, .int .u32 0] 51)) (frm t p s d ys) rfl ((Ho5.out.rd.alloc _).alloc _).drew Ho5.out.len (by omega) (by first | (simp; done) | (simp; omega)) ?_); intro A6 c6 w6 ho6 hg6 hA6; have hb6 := below_app ((((Below.refl w5.heap.size w5).alloc (Nat.le_refl _) _).alloc (by simp) _).drew) hg6 (own_e2 w5 (.cells #[.int .i64 0, .int .i64 0, .int .i64 0, .int .i64 0, .int .u32 0, .int .u32 0] 51)) (Nat.le_refl _) (by first | (simp; done) | (simp; omega)); have HZ6 := Lib.hid (blk_grown (blk_drew ((Blk.new w5 51 #[.int .i64 0, .int .i64 0, .int .i64 0, .int .i64 0, .int .u32 0, .int .u32 0]).alloc _)) hg6 (own_e2 w5 (.cells #[.int .i64 0, .int .i64 0, .int .i64 0, .int .i64 0, .int .u32 0, .int .u32 0] 51)) (by decide)); rw [Nat.zero_add, List.nil_append] at ho6; have HO6 := Lib.hid ho6; have HB6 := Lib.hid hb6; clear ho6 hg6 hA6 hb6)
           | ((with_reducible refine step_app (base := w5.heap.size) rfl (.tmp 51) (.tmp 52) rfl rfl ((Own.empty (base := w5.heap.size) w5 (Nat.le_refl _)).alloc (.cells #[.int .i64 0, .int .i64 0, .int .i64 0, .int .i64 0, .int .u32 0, .int .u32 0] 51)).drew' (frm t p s d ys) rfl ((Ho5.out.rd.alloc _).alloc _).drew Ho5.out.len (by omega) (by first | (simp; done) | (simp; omega)) ?_); intro A6 c6 w6 ho6 hg6 hA6; have hb6 := below_app ((((Below.refl w5.heap.size w5).alloc (Nat.le_refl _) _).alloc (by simp) _).drew) hg6 ((Own.empty (base := w5.heap.size) w5 (Nat.le_refl _)).alloc (.cells #[.int .i64 0, .int .i64 0, .int .i64 0, .int .i64 0, .int .u32 0, .int .u32 0] 51)).drew' (Nat.le_refl _) (by first | (simp; done) | (simp; omega)); have hz6 := (blk_grown (blk_drew (Blk.new (w5.alloc (.cells #[] 5)) 51 #[.int .i64 0, .int .i64 0, .int .i64 0, .int .i64 0, .int .u32 0, .int .u32 0])) hg6 ((Own.empty (base := w5.heap.size) w5 (Nat.le_refl _)).alloc (.cells #[.int .i64 0, .int .i64 0, .int .i64 0, .int .i64 0, .int .u32 0, .int .u32 0] 51)).drew' (by decide)); rw [World.size_alloc] at hz6; have HZ6 := Lib.hid hz6; clear hz6; rw [Nat.zero_add, List.nil_append] at ho6; have HO6 := Lib.hid ho6; have HB6 := Lib.hid hb6; clear ho6 hg6 hA6 hb6)
           | ((with_reducible refine step_app rfl (.tmp 53) (.tmp 58) rfl rfl HO6.out (zs2.take 20) rfl ((HR5.out.below HB6.out).take 20) Hl20.out (by omega) HB6.out.size ?_); intro A7 c7 w7 ho7 hg7 hA7; have hb7 := below_app HB6.out hg7 HO6.out (Nat.le_refl _) HB6.out.size; (try have HZ7 := Lib.hid (blk_grown HZ6.out hg7 HO6.out (by decide))); have HO7 := Lib.hid ho7; have HB7 := Lib.hid hb7; clear ho7 hg7 hA7 hb7)
           | ((with_reducible refine step_app rfl (.tmp 53) (.tmp 58) rfl rfl (HO6.out.alloc (.cells #[.int .i64 0, .int .i64 0, .int .i64 0, .int .i64 0, .int .u32 0, .int .u32 0] 51)) (zs2.take 20) rfl ((((HR5.out.below HB6.out).alloc _)).take 20) Hl20.out (by omega) (by have := HB6.out.size; simp only [World.size_alloc]; omega) ?_); intro A7 c7 w7 ho7 hg7 hA7; have hb7 := below_app (HB6.out.alloc HB6.out.size (.cells #[.int .i64 0, .int .i64 0, .int .i64 0, .int .i64 0, .int .u32 0, .int .u32 0] 51)) hg7 (HO6.out.alloc (.cells #[.int .i64 0, .int .i64 0, .int .i64 0, .int .i64 0, .int .u32 0, .int .u32 0] 51)) (Nat.le_refl _) (by have := HB6.out.size; simp only [World.size_alloc]; omega); have HZ7 := Lib.hid (blk_grown (Blk.new w6 51 #[.int .i64 0, .int .i64 0, .int .i64 0, .int .i64 0, .int .u32 0, .int .u32 0]) hg7 (HO6.out.alloc (.cells #[.int .i64 0, .int .i64 0, .int .i64 0, .int .i64 0, .int .u32 0, .int .u32 0] 51)) (by decide)); have HO7 := Lib.hid ho7; have HB7 := Lib.hid hb7; clear ho7 hg7 hA7 hb7)
           | (go_simp; go_at_call 29; (with_reducible refine (get_any _ _ _ _ w7 HO7.out.len HO7.out.cap (by omega) HO7.out.rd).mono ?_); rintro e w8 ⟨rfl, hb8⟩; rw [(Hgot.out (zs2.take 20)).1, (Hgot.out (zs2.take 20)).2, Hval.out]; have HB8 := Lib.hid (HB7.out.trans (hb8.mono HB7.out.size)); (try have HZ8 := Lib.hid (HZ7.out.below hb8)); clear hb8; (try have z0 := HZ8.out.cell 0); (try have z1 := HZ8.out.cell 1); (try have z2 := HZ8.out.cell 2); (try have z3 := HZ8.out.cell 3); (try have z4 := HZ8.out.cell 4); (try have z5 := HZ8.out.cell 5); (try simp only [List.getElem?_toArray, List.getElem?_cons_zero, List.getElem?_cons_succ] at z0 z1 z2 z3 z4 z5); (try have y0 := HZ8.out.frozen 0); (try have y1 := HZ8.out.frozen 1); (try have y2 := HZ8.out.frozen 2); (try have y3 := HZ8.out.frozen 3); (try have y4 := HZ8.out.frozen 4); (try have y5 := HZ8.out.frozen 5))
           | (go_simp; go_at_call 29; (with_reducible refine (get_any _ _ _ _ (w7.alloc (.cells #[.int .i64 0, .int .i64 0, .int .i64 0, .int .i64 0, .int .u32 0, .int .u32 0] 51)) HO7.out.len HO7.out.cap (by omega) (HO7.out.rd.alloc _)).mono ?_); rintro e w8 ⟨rfl, hb8⟩; rw [(Hgot.out (zs2.take 20)).1, (Hgot.out (zs2.take 20)).2, Hval.out]; have HB8 := Lib.hid ((HB7.out.alloc HB7.out.size (.cells #[.int .i64 0, .int .i64 0, .int .i64 0, .int .i64 0, .int .u32 0, .int .u32 0] 51)).trans (hb8.mono (by have := HB7.out.size; simp only [World.size_alloc]; omega))); have HZ8 := Lib.hid ((Blk.new w7 51 #[.int .i64 0, .int .i64 0, .int .i64 0, .int .i64 0, .int .u32 0, .int .u32 0]).below hb8); clear hb8; (try have z0 := HZ8.out.cell 0); (try have z1 := HZ8.out.cell 1); (try have z2 := HZ8.out.cell 2); (try have z3 := HZ8.out.cell 3); (try have z4 := HZ8.out.cell 4); (try have z5 := HZ8.out.cell 5); (try simp only [List.getElem?_toArray, List.getElem?_cons_zero, List.getElem?_cons_succ] at z0 z1 z2 z3 z4 z5); (try have y0 := HZ8.out.frozen 0); (try have y1 := HZ8.out.frozen 1); (try have y2 := HZ8.out.frozen 2); (try have y3 := HZ8.out.frozen 3); (try have y4 := HZ8.out.frozen 4); (try have y5 := HZ8.out.frozen 5)))
         all_goals
           go_wp2_with fail
           go_meet
           have h8 := Hbk5.out.below HB8.out
           have hw58 := Hb5.out.trans (HB8.out.mono Hb5.out.size)
           have s5 := Hb5.out.size
           have s6 := HB6.out.size
           have s7 := HB7.out.size
           refine ⟨_, rfl, rfl, ?_, ?_, ?_⟩
           · first | (with_reducible exact Blk.new w8 _ _) | (with_reducible exact blk_set6 HZ8.out _ _ _ _ _ _)
           · first | (with_reducible exact h8.alloc _) | (with_reducible exact blk_far h8 (Blk.ne' h8 HZ8.out) _ _ _ _ _ _)
           · first | (with_reducible exact hw58.alloc hw58.size _) | (with_reducible exact below_set6 hw58 (by omega) _ _ _ _ _ _)
      case rest =>
        obtain ⟨p11, rfl, rfl, hb11, hb47, hbel⟩ := hcut
        have a0 := hb11.cell 0
        have a1 := hb11.cell 1
        have a2 := hb11.cell 2
        have a3 := hb11.cell 3
        have a4 := hb11.cell 4
        have a5 := hb11.cell 5
        have e2 := hb47.cell 2
        have e3 := hb47.cell 3
        have e4 := hb47.cell 4
        have e5 := hb47.cell 5
        simp only [List.getElem?_toArray, List.getElem?_cons_zero, List.getElem?_cons_succ] at a0 a1 a2 a3 a4 a5 e2 e3 e4 e5
        have HB := Lib.hid hbel
        clear hb11 hb47 hbel
        go_wp2
        go_ret
        exact ⟨rfl, HB.out⟩
    · have hno : ¬ (0 ≤ t ∧ t ≤ 255) ∨ ¬ (0 ≤ p ∧ p ≤ 255) ∨ 1480 < k := by
        by_cases h1 : 0 ≤ t ∧ t ≤ 255
        · by_cases h2 : 0 ≤ p ∧ p ≤ 255
          · exact .inr (.inr (by rcases Nat.lt_or_ge 1480 k with h | h; exact h; exact absurd ⟨h1, h2, h⟩ fit))
          · exact .inr (.inl h2)
        · exact .inl h1
      have Hno := Lib.hid hno
      clear hno fit
      refine (put_no hs hln t p s d A k c _ (by omega) Hno.out).mono ?_
      rintro e w3 ⟨rfl, hb3⟩
      have bk3 := Hbk2.out.below hb3
      have r0 := bk3.cell 0
      have r1 := bk3.cell 1
      have r2 := bk3.cell 2
      have r3 := bk3.cell 3
      have r4 := bk3.cell 4
      have r5 := bk3.cell 5
      simp only [List.getElem?_toArray, List.getElem?_cons_zero, List.getElem?_cons_succ] at r0 r1 r2 r3 r4 r5
      have Hb3 := Lib.hid (Hbw2.out.trans (hb3.mono Hbw2.out.size))
      clear hb3 bk3 q0 q1 q2 q3 q4 q5
      go_wp2_with fail
      refine (rput_no hs hln t p s d A k c _ (by omega) Hno.out).mono ?_
      rintro e w4 ⟨rfl, hb4⟩
      have Hb4 := Lib.hid (Hb3.out.trans (hb4.mono Hb3.out.size))
      clear hb4
      go_wp2_with fail
      refine (heads_any _).mono ?_
      rintro e w5 ⟨rfl, hb5⟩
      have Hb5 := Lib.hid (Hb4.out.trans (hb5.mono Hb4.out.size))
      have hcv := run_str w5 none 0 0 [] rfl (Rd.nil _ _)
      clear hb5
      go_wp2
      go_ret
      exact ⟨rfl, Hb5.out⟩
end Go.Proofs.Ytnaopekljknlaaa
