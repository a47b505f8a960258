/-
  Package history: End. Conditions stand in each theorem.
-/
import Derived.Test.YtbnlpidhbilenaaH6
import Derived.RegionTactic
import Derived.BigRegion
namespace Go.Proofs.Ytbnlpidhbilenaa
open Go.RowKit Go.Deep Plain
set_option linter.unusedVariables false
set_option linter.unusedSimpArgs false
set_option maxRecDepth 100000
theorem enC_len (es : List En) : (enC es).length = es.length * 11 := by
  unfold enC
  induction es with
  | nil => rfl
  | cons o l ih => simp only [List.flatMap_cons, List.length_append, ih]; simp [En.cs]; omega
theorem enC_at (es : List En) : ∀ (i j : Nat), i < es.length → j < 11 → (enC es)[i * 11 + j]? = ((es.getD i en0).cs)[j]? := by
  induction es with
  | nil => intro i j h; simp at h
  | cons o l ih =>
    intro i j hi hj
    have e : enC (o :: l) = o.cs ++ enC l := rfl
    have hl : o.cs.length = 11 := rfl
    rw [e]
    cases i with
    | zero =>
      rw [List.getElem?_append_left (by omega)]
      simp [List.getD]
    | succ i =>
      rw [List.getElem?_append_right (by omega), hl, show (i + 1) * 11 + j - 11 = i * 11 + j by omega, ih i j (by simpa using hi) hj]
      simp [List.getD]
theorem enC_set (es : List En) : ∀ (i j : Nat) (y : En) (v : Value), i < es.length → j < 11 → y.cs = (es.getD i en0).cs.set j v → (enC es).set (i * 11 + j) v = enC (es.set i y) := by
  induction es with
  | nil => intro i j y v h; simp at h
  | cons o l ih =>
    intro i j y v hi hj hy
    have e : enC (o :: l) = o.cs ++ enC l := rfl
    have hl : o.cs.length = 11 := rfl
    cases i with
    | zero =>
      have hy' : y.cs = o.cs.set j v := by rw [hy]; simp [List.getD]
      have e2 : enC ((o :: l).set 0 y) = y.cs ++ enC l := rfl
      rw [e, e2, hy', List.set_append_left _ _ (by omega), Nat.zero_mul, Nat.zero_add]
    | succ i =>
      have e2 : enC ((o :: l).set (i + 1) y) = o.cs ++ enC (l.set i y) := rfl
      rw [e, e2, List.set_append_right _ _ (by omega), hl, show (i + 1) * 11 + j - 11 = i * 11 + j by omega, ih i j y v (by simpa using hi) hj (by rw [hy]; simp [List.getD])]
theorem HiS.at {w : World} {base gh gE : Nat} {now : Int} {n c : Nat} {es : List En} (h : HiS w base gh now (.slice (some ⟨gE, 0, none⟩) n c) es) (hn : es.length = n) (i : Nat) (hi : i < n) : At w ⟨gE, i * 11, none⟩ (es.getD i en0).cs := by
  intro j v hv
  have hj : j < 11 := by
    have := (List.getElem?_eq_some_iff.1 hv).1
    exact this
  have e : (⟨gE, i * 11, none⟩ : Addr).add j = ⟨gE, i * 11 + j, none⟩ := addr_add _ _ _
  have hr := h.row
  rw [hn] at hr
  rw [e, hr.cellAt (i * 11 + j) (by omega), enC_at es i j (by omega) hj, hv]
/-- one cell of an Entry is written -/
theorem HiS.put {w : World} {base gh gE : Nat} {now : Int} {n c : Nat} {es : List En} (h : HiS w base gh now (.slice (some ⟨gE, 0, none⟩) n c) es) (hn : es.length = n) (i j : Nat) (hi : i < n) (hj : j < 11) (v : Value) (y : En) (hy : y.cs = (es.getD i en0).cs.set j v) :
    HiS (w.setCell ⟨gE, i * 11 + j, none⟩ v) base gh now (.slice (some ⟨gE, 0, none⟩) n c) (es.set i y) := by
  have hr := h.row
  rw [hn] at hr
  refine ⟨h.st.ne (fun e => h.ne (show some gE = some gh by rw [show gE = gh from e])) v, ?_, h.gb⟩
  rw [List.length_set, hn, ← enC_set es i j y v (by omega) hj hy]
  exact (hr.stored (i * 11 + j) v).1
theorem HiS.put2 {w : World} {base gh gE : Nat} {now : Int} {n c : Nat} {es : List En} {i : Nat} {x0 : En} (h : HiS w base gh now (.slice (some ⟨gE, 0, none⟩) n c) (es.set i x0)) (hn : es.length = n) (j : Nat) (hi : i < n) (hj : j < 11) (v : Value) (y : En) (hy : y.cs = x0.cs.set j v) :
    HiS (w.setCell ⟨gE, i * 11 + j, none⟩ v) base gh now (.slice (some ⟨gE, 0, none⟩) n c) (es.set i y) := by
  have q := h.put (by rw [List.length_set]; exact hn) i j hi hj v y (by
    have hil : i < es.length := by omega
    have e : (es.set i x0).getD i en0 = x0 := by simp [List.getD, hil]
    rw [e]; exact hy)
  rw [List.set_set] at q
  exact q
theorem At.cell' {w : World} {b o : Nat} {cs : List Value} (h : At w ⟨b, o, none⟩ cs) (j : Nat) {v : Value} (hv : cs[j]? = some v) : w.cell? ⟨b, o + j, none⟩ = some v := by
  have := h j v hv
  rw [addr_add] at this
  exact this
theorem HiS.free {w : World} {base gh gE : Nat} {now : Int} {n c : Nat} {es : List En} (h : HiS w base gh now (.slice (some ⟨gE, 0, none⟩) n c) es) (j : Nat) : w.frozen? ⟨gE, j, none⟩ = false := by
  obtain ⟨_, _, cur, q⟩ := own_blk h.row (g := gE) rfl
  simp [World.frozen?, q]
theorem HiS.some {w : World} {base gh : Nat} {now : Int} {A : Option Addr} {n c : Nat} {es : List En} (h : HiS w base gh now (.slice A n c) es) (hn : es.length = n) (h0 : 0 < n) : ∃ gE, A = some ⟨gE, 0, none⟩ := by
  rcases h.row.2 with ⟨e, e2⟩ | ⟨g, cap, cur, e, _⟩
  · omega
  · injection e with e
    exact ⟨g, e⟩
/-- what End makes of it -/
def EdOk (base gh gE : Nat) (now : Int) (n c : Nat) (es : List En) (i : Nat) (x : En) (aA : Option Addr) (an : Nat) (az : List Int) (err P : Int) (w : World) (e : Ending) (w' : World) : Prop :=
  e = .returned (.int .i64 0) ∧ ∃ A' c', HiS w' base gh (now + 1) (.slice (some ⟨gE, 0, none⟩) n c) (es.set i { x with e := now + 1, aA := A', an := an, ac := c', err := err, port := P }) ∧ Rd w' A' az ∧ an ≤ c' ∧ c' ≤ 9223372036854775807 ∧
    (∀ p, A' = some p → w.heap.size ≤ p.block) ∧ (A' = none → c' = 0) ∧ Keep (hiL gh (.slice (some ⟨gE, 0, none⟩) n c)) w w'
set_option maxHeartbeats 8000000 in
theorem end_any {w : World} {base gh gE : Nat} {now : Int} {n c : Nat} {es : List En} (h : HiS w base gh now (.slice (some ⟨gE, 0, none⟩) n c) es) (hn : es.length = n) (hl : n ≤ 1000) (n0 : 0 ≤ now) (n1 : now ≤ 100000) (i : Nat) (hi : i < n) (x : En) (hx : es.getD i en0 = x) (hxe : x.e = -1)
    (aA : Option Addr) (an ac : Nat) (az : List Int) (hz : az.length = an) (hal : an ≤ 1000000) (hR : Rd w aA az) (hA : aA = none → ac = 0) (err P : Int)
    (hP : ∀ W A' c', Rd W A' az → an ≤ c' → (A' = none → c' = 0) → Calls Try.prog 42 #[.agg #[.bool x.out, .slice x.fA x.fn x.fc, .int .i64 x.tick, .int .i64 x.port], .agg #[.slice A' an c', .int .i64 err]] W (fun e w' => e = .returned (.int .i64 P) ∧ Below W.heap.size W w')) :
    Calls Try.prog 12 #[.pointer (some ⟨gh, 0, none⟩), .int .i64 i, .agg #[.slice aA an ac, .int .i64 err]] w (EdOk base gh gE now n c es i x aA an az err P w) := by
  have hAt := h.at hn i hi
  rw [hx] at hAt
  have HX := Lib.hid hx
  have HD := Lib.hid (isDone_any x)
  have HPO := Lib.hid hP
  clear hx hP
  obtain ⟨b, e, ends, out, fA, fn, fc, tick, port, oA, on, oc, oer, pr, po⟩ := x
  obtain rfl : e = -1 := hxe
  unfold En.val at HD
  unfold En.cs at HD hAt
  simp only at HPO hAt HD
  have hal1 := ball w (.cells #[.slice aA an ac, .int .i64 err] 33)
  have hgl := h.st.lt
  have hgE : gE < w.heap.size := (own_blk h.row rfl).2.1
  have HNE := Lib.hid (show gE ≠ gh from fun e => h.ne (show some gE = some gh by rw [e]))
  have HCl := Lib.hid (show ∀ W, Below w.heap.size w W → Calls Try.prog 39 #[.slice aA an ac] W (ClOk aA an az W) from fun W hW => clone_any aA an ac az W hz hal (hR.below hW) hA)
  have hb1 := Blk.new w 33 #[.slice aA an ac, .int .i64 err]
  have h1 := h.below hal1
  have hA1 := hAt.below hal1 hgE
  obtain ⟨w1, hw1⟩ : ∃ w1, w1 = w.alloc (.cells #[.slice aA an ac, .int .i64 err] 33) := ⟨_, rfl⟩
  rw [← hw1] at h1 hb1 hal1 hA1
  have HW := Lib.hid hw1
  have HAL := Lib.hid hal1
  have H1 := Lib.hid h1
  have HBa := Lib.hid hb1
  have HA1 := Lib.hid hA1
  have Hn := Lib.hid hn
  have q0 : w1.cell? ⟨w.heap.size, 0, none⟩ = some (.slice aA an ac) := hb1.cell 0
  have c1 : w1.cell? ⟨gh, 1, none⟩ = some (.slice (some ⟨gE, 0, none⟩) n c) := h1.st.cell 1
  have b1 : decide ((i : Int) < 0) = false := decide_eq_false (by omega)
  have b2 : decide ((n : Int) ≤ (i : Int)) = false := decide_eq_false (by omega)
  have b2' : decide (n ≤ i) = false := decide_eq_false (by omega)
  have b3 : ((-1 : Int) != -1) = false := by decide
  clear h h1 hal1 hb1 hw1 hz hR hA hn hAt hA1
  go_enter Try.func12, Try.ntmps12
  go_upto_region 1 with fail
  rw [← HW.out]
  go_upto_region 3 with (first | ((with_reducible refine gd_ldt 55 29 ?_); refine wpList_ldw (by rfl) 55 (.tmp 29) rfl _ rfl _ (HA1.out) sEn ?_) | (go_at_call 41; refine (HD.out _).mono ?_; rintro ee w2 ⟨rfl, hx2⟩; have HX2 := Lib.hid hx2; clear hx2))
  have q0 : w2.cell? ⟨w.heap.size, 0, none⟩ = some (.slice aA an ac) := (HBa.out.below HX2.out).cell 0
  have HC2 := Lib.hid (HCl.out w2 (bthen HAL.out HX2.out))
  go_upto_region 4 with (go_at_call 39; refine (HC2.out).mono ?_; rintro ee w3 ⟨A', c', rfl, hc1, hc2, hr3, hp3, hnn3, hb3⟩; have f1 := Blk.frozen ((HBa.out.below HX2.out).below hb3) 0; have q1 := Blk.cell ((HBa.out.below HX2.out).below hb3) 0; have q3 := Blk.cell (((HBa.out.below HX2.out).below hb3).set 0 (.slice A' an c')) 1)
  have hs1 : w.heap.size ≤ w1.heap.size := HAL.out.size
  have hs2 : w1.heap.size ≤ w2.heap.size := HX2.out.size
  have hs3 : w2.heap.size ≤ w3.heap.size := hb3.size
  have hng : w.heap.size < w1.heap.size := by rw [HW.out]; simp
  have HH3 := Lib.hid ((H1.out.below HX2.out).below hb3)
  have HH4 := Lib.hid (HH3.out.keep (bs := [w.heap.size]) ((Keep.refl _ w3).setCell (p := ⟨w.heap.size, 0, none⟩) (.inl (by simp)) (.slice A' an c')) (by simp; omega) (fun g hg => by simp [Value.ownBlock] at hg; simp; omega))
  have HB4 := Lib.hid (((HBa.out.below HX2.out).below hb3).set 0 (.slice A' an c'))
  have HK4 := Lib.hid ((((Keep.of_below (bs := hiL gh (.slice (some ⟨gE, 0, none⟩) n c)) HAL.out).trans (Keep.of_below HX2.out)).trans (Keep.of_below hb3)).setCell (p := ⟨w.heap.size, 0, none⟩) (.inr (Nat.le_refl _)) (.slice A' an c'))
  have HR4 := Lib.hid (rd_keep hr3 (bs := [w.heap.size]) ((Keep.refl _ w3).setCell (p := ⟨w.heap.size, 0, none⟩) (.inl (by simp)) (.slice A' an c')) (fun p hp => by have := hp3 p hp; simp; omega))
  have HP3 := Lib.hid hp3
  have HNN := Lib.hid hnn3
  clear f1 q1 q0 q3 hb3 hr3 hp3 hnn3 HH3 HC2
  generalize w3.setCell ⟨w.heap.size, 0, none⟩ (.slice A' an c') = w4 at *
  have c0 : w4.cell? ⟨gh, 0, none⟩ = some (.int .i64 now) := HH4.out.st.cell 0
  have f0 : w4.frozen? ⟨gh, 0, none⟩ = false := Blk.frozen HH4.out.st 0
  have hne2 : gh ≠ w.heap.size := by omega
  have HH5 := Lib.hid (HH4.out.tick (now + 1))
  have c5 : (w4.setCell ⟨gh, 0, none⟩ (.int .i64 (now + 1))).cell? ⟨gh, 1, none⟩ = some (.slice (some ⟨gE, 0, none⟩) n c) := HH5.out.st.cell 1
  have HB5 := Lib.hid (HB4.out.ne (p := ⟨gh, 0, none⟩) hne2 (.int .i64 (now + 1)))
  have HK5 := Lib.hid (HK4.out.setCell (p := ⟨gh, 0, none⟩) (.inl (by unfold hiL; simp)) (.int .i64 (now + 1)))
  have HR5 := Lib.hid (rd_keep HR4.out (bs := [gh]) ((Keep.refl _ w4).setCell (p := ⟨gh, 0, none⟩) (.inl (by simp)) (.int .i64 (now + 1))) (fun p hp => by have := HP3.out p hp; simp; omega))
  go_upto_region 6 with fail
  generalize w4.setCell ⟨gh, 0, none⟩ (.int .i64 (now + 1)) = w5 at *
  clear c0 f0 c5
  have hA5 := HH5.out.at Hn.out i hi
  rw [HX.out] at hA5
  have hgEs : gE ≠ w.heap.size := by omega
  have hgEh : gE ≠ gh := HNE.out
  have z0 : w5.cell? ⟨gh, 0, none⟩ = some (.int .i64 (now + 1)) := HH5.out.st.cell 0
  have z1 : w5.cell? ⟨w.heap.size, 0, none⟩ = some (.slice A' an c') := HB5.out.cell 0
  have z2 : w5.cell? ⟨w.heap.size, 1, none⟩ = some (.int .i64 err) := HB5.out.cell 1
  have y1 : w5.cell? ⟨gE, i * 11 + 1, none⟩ = some (.int .i64 (-1)) := hA5.cell' 1 rfl
  have y7 : w5.cell? ⟨gE, i * 11 + 7, none⟩ = some (.slice oA on oc) := hA5.cell' 7 rfl
  have y8 : w5.cell? ⟨gE, i * 11 + 8, none⟩ = some (.int .i64 oer) := hA5.cell' 8 rfl
  have g1 := HH5.out.free (i * 11 + 1)
  have g7 := HH5.out.free (i * 11 + 7)
  have g8 := HH5.out.free (i * 11 + 8)
  clear hA5
  go_region
  have HH6 := Lib.hid (((HH5.out.put Hn.out i 1 hi (by omega) (.int .i64 (now + 1)) ⟨b, now + 1, ends, out, fA, fn, fc, tick, port, oA, on, oc, oer, pr, po⟩ (by rw [HX.out]; rfl)).put2 Hn.out 7 hi (by omega) (.slice A' an c') ⟨b, now + 1, ends, out, fA, fn, fc, tick, port, A', an, c', oer, pr, po⟩ rfl).put2 Hn.out 8 hi (by omega) (.int .i64 err) ⟨b, now + 1, ends, out, fA, fn, fc, tick, port, A', an, c', err, pr, po⟩ rfl).drew
  have HB6 := Lib.hid (((HB5.out.ne (p := ⟨gE, i * 11 + 1, none⟩) hgEs (.int .i64 (now + 1))).ne (p := ⟨gE, i * 11 + 7, none⟩) hgEs (.slice A' an c')).ne (p := ⟨gE, i * 11 + 8, none⟩) hgEs (.int .i64 err)).drew
  have hm : gE ∈ hiL gh (.slice (some ⟨gE, 0, none⟩) n c) := by unfold hiL; simp [Value.ownBlock]
  have HK6 := Lib.hid (((HK5.out.setCell (p := ⟨gE, i * 11 + 1, none⟩) (.inl hm) (.int .i64 (now + 1))).setCell (p := ⟨gE, i * 11 + 7, none⟩) (.inl hm) (.slice A' an c')).setCell (p := ⟨gE, i * 11 + 8, none⟩) (.inl hm) (.int .i64 err)).drew
  have HR6 := Lib.hid (rd_keep HR5.out (bs := [gE]) ((((Keep.refl _ w5).setCell (p := ⟨gE, i * 11 + 1, none⟩) (.inl (by simp)) (.int .i64 (now + 1))).setCell (p := ⟨gE, i * 11 + 7, none⟩) (.inl (by simp)) (.slice A' an c')).setCell (p := ⟨gE, i * 11 + 8, none⟩) (.inl (by simp)) (.int .i64 err)).drew (fun p hp => by have := HP3.out p hp; simp; omega))
  have HK2 := Lib.hid ((((Keep.refl [gE] w5).setCell (p := ⟨gE, i * 11 + 1, none⟩) (.inl (by simp)) (.int .i64 (now + 1))).setCell (p := ⟨gE, i * 11 + 7, none⟩) (.inl (by simp)) (.slice A' an c')).setCell (p := ⟨gE, i * 11 + 8, none⟩) (.inl (by simp)) (.int .i64 err)).drew
  clear z0 z1 z2 y1 y7 y8 g1 g7 g8 HH5 HB5 HK5 HR5 HH4 HB4 HK4 HR4
  rw [show i * 11 + 7 + 1 = i * 11 + 8 from rfl]
  generalize (((w5.setCell ⟨gE, i * 11 + 1, none⟩ (.int .i64 (now + 1))).setCell ⟨gE, i * 11 + 7, none⟩ (.slice A' an c')).setCell ⟨gE, i * 11 + 8, none⟩ (.int .i64 err)).drew = w6 at *
  have hA6 := HH6.at (by rw [List.length_set]; exact Hn.out) i hi
  rw [show ((es.set i ⟨b, now + 1, ends, out, fA, fn, fc, tick, port, A', an, c', err, pr, po⟩).getD i en0) = ⟨b, now + 1, ends, out, fA, fn, fc, tick, port, A', an, c', err, pr, po⟩ by have := Hn.out; simp [List.getD, show i < es.length by omega]] at hA6
  have x3 : w6.cell? ⟨gE, i * 11 + 3, none⟩ = some (.bool out) := hA6.cell' 3 rfl
  have x4 : w6.cell? ⟨gE, i * 11 + 3 + 1, none⟩ = some (.slice fA fn fc) := hA6.cell' 4 rfl
  have x5 : w6.cell? ⟨gE, i * 11 + 3 + 2, none⟩ = some (.int .i64 tick) := hA6.cell' 5 rfl
  have x6 : w6.cell? ⟨gE, i * 11 + 3 + 3, none⟩ = some (.int .i64 port) := hA6.cell' 6 rfl
  have z1 : w6.cell? ⟨w.heap.size, 0, none⟩ = some (.slice A' an c') := HB6.cell 0
  have z2 : w6.cell? ⟨w.heap.size, 1, none⟩ = some (.int .i64 err) := HB6.cell 1
  have hls : gE < w6.heap.size := (own_blk HH6.row (g := gE) rfl).2.1
  have HC7 := Lib.hid (HPO.out w6.drew A' c' HR6.out hc1 HNN.out)
  have H6 := Lib.hid (show HiS w6.drew base gh (now + 1) (.slice (some ⟨gE, 0, none⟩) n c) (es.set i ⟨b, now + 1, ends, out, fA, fn, fc, tick, port, A', an, c', err, pr, po⟩) from HH6.drew)
  have HSZ6 := Lib.hid (show w.heap.size ≤ w6.heap.size from HK6.size)
  have HK6 := Lib.hid (show Keep (hiL gh (.slice (some ⟨gE, 0, none⟩) n c)) w w6 from HK6)
  clear hA6 HH6 HB6 HK2
  go_upto_region 7 with fail
  go_region_law (go_simp; go_at_call 42; refine (HC7.out).mono ?_; rintro ee w7 ⟨rfl, hb7⟩; have y6 := (hb7.cell (p := ⟨gE, i * 11 + 3 + 3, none⟩) hls).trans x6; have g6 := (H6.out.below hb7).free (i * 11 + 3 + 3))
  all_goals
    have HF := Lib.hid (show EdOk base gh gE now n c es i ⟨b, -1, ends, out, fA, fn, fc, tick, port, oA, on, oc, oer, pr, po⟩ aA an az err P w (.returned (.int .i64 0)) (w7.setCell ⟨gE, i * 11 + 6, none⟩ (.int .i64 P)) from
      ⟨rfl, A', c', (H6.out.below hb7).put2 Hn.out 6 hi (by omega) (.int .i64 P) ⟨b, now + 1, ends, out, fA, fn, fc, tick, P, A', an, c', err, pr, po⟩ rfl,
        rd_keep HR6.out (bs := [gE]) (((Keep.refl _ w6).drew.trans (Keep.of_below hb7)).setCell (p := ⟨gE, i * 11 + 6, none⟩) (.inl (by simp)) (.int .i64 P)) (fun p hp => by have := HP3.out p hp; simp; omega),
        hc1, hc2, (fun p hp => by have := HP3.out p hp; omega), HNN.out,
        ((HK6.out.drew).trans (Keep.of_below hb7)).setCell (p := ⟨gE, i * 11 + 6, none⟩) (.inl hm) (.int .i64 P)⟩)
    clear hb7 y6 g6 x3 x4 x5 x6 z1 z2
    rw [show i * 11 + 3 + 3 = i * 11 + 6 from rfl]
    generalize w7.setCell ⟨gE, i * 11 + 6, none⟩ (.int .i64 P) = w8 at *
    go_wp2
    go_ret
    exact HF.out
end Go.Proofs.Ytbnlpidhbilenaa
