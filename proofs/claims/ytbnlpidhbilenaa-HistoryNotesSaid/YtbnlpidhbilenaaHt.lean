/-
  HistoryTells: its walk. Conditions stand in each theorem.
-/
import Derived.Test.YtbnlpidhbilenaaTo
import Derived.Test.YtbnlpidhbilenaaHw
import Derived.Test.YtbnlpidhbilenaaHa2
namespace Go.Proofs.Ytbnlpidhbilenaa
open Go.RowKit Go.Deep Plain
set_option linter.unusedVariables false
set_option linter.unusedSimpArgs false
set_option maxRecDepth 100000
theorem sEv : Sty 47 11 := ⟨⟨_, Try.underlying47, rfl⟩, by unfold Siz; kernel_rfl⟩
theorem RdE.take {w : World} {A : Option Addr} {L : List En} (h : RdE w A L) (u : Nat) : RdE w A (L.take u) := fun hp => by
  rw [List.length_take] at hp
  obtain ⟨b, off, e, hl, hc⟩ := h (by omega)
  refine ⟨b, off, e, hl, fun i hi => ?_⟩
  rw [List.length_take] at hi
  have := hc i (by omega)
  have e2 : (L.take u).getD i en0 = L.getD i en0 := by simp [List.getD, List.getElem?_take, show i < u by omega]
  rw [e2]; exact this
theorem FrT.below {w w' : World} {x : En} {f a : List Int} (h : FrT w x f a) (hb : Below w.heap.size w w') : FrT w' x f a := ⟨h.fr.below hb, h.fl, h.fm, h.ar.below hb, h.al, h.am⟩
theorem like_t3 {x y : En} (h : x.like y) : y.t3 = x.t3 := by
  obtain ⟨h1, h2, h3, _⟩ := h
  unfold En.t3; rw [h1, h2, h3]
theorem likes_t3 {L ys : List En} (hl : ys.length = L.length) (h : ∀ i, i < L.length → (L.getD i en0).like (ys.getD i en0)) : ys.map En.t3 = L.map En.t3 := by
  apply List.ext_getElem
  · simp [hl]
  · intro i h1 h2
    have hi : i < L.length := by simpa using h2
    have hi2 : i < ys.length := by omega
    have := like_t3 (h i hi)
    simp only [List.getElem_map]
    have e1 : L.getD i en0 = L[i] := by simp [List.getD, hi]
    have e2 : ys.getD i en0 = ys[i] := by simp [List.getD, hi2]
    rw [e1, e2] at this
    exact this
theorem likes_snoc {L ys : List En} {k : Nat} (hl : ys.length = k) (h : ∀ i, i < k → (L.getD i en0).like (ys.getD i en0)) {y : En} (hy : (L.getD k en0).like y) : ∀ i, i < k + 1 → (L.getD i en0).like ((ys ++ [y]).getD i en0) := by
  intro i hi
  by_cases h1 : i < k
  · have e : (ys ++ [y]).getD i en0 = ys.getD i en0 := by simp [List.getD, List.getElem?_append, show i < ys.length by omega]
    rw [e]; exact h i h1
  · obtain rfl : i = k := by omega
    have e : (ys ++ [y]).getD i en0 = y := by simp [List.getD, List.getElem?_append, hl]
    rw [e]; exact hy
theorem likes_wf {L ys : List En} (hl : ys.length = L.length) (h : ∀ i, i < L.length → (L.getD i en0).like (ys.getD i en0)) (hw : ∀ x ∈ L, x.wf) : ∀ x ∈ ys, x.wf := by
  intro x hx
  obtain ⟨i, hi, rfl⟩ := List.getElem_of_mem hx
  have h1 := h i (by omega)
  have e1 : L.getD i en0 = L[i]'(by omega) := by simp [List.getD, show i < L.length by omega]
  have e2 : ys.getD i en0 = ys[i] := by simp [List.getD, hi]
  rw [e1, e2] at h1
  have h2 := hw (L[i]'(by omega)) (List.getElem_mem _)
  unfold En.wf at *
  rw [h1.1, h1.2.1]; exact h2
set_option maxHeartbeats 8000000 in
theorem ht_walk (A : Option Addr) (n c : Nat) (L0 : List En) (w : World) (hn : L0.length = n) (hnc : n ≤ c) (hcm : c ≤ maxLen) (hR0 : RdE w A L0) (hw0 : ∀ x ∈ L0, x.wf) (F G : Nat → List Int) (hF0 : ∀ i, i < n → FrT w (L0.getD i en0) (F i) (G i)) :
    Calls Try.prog 4 #[.slice A n c] w fun e w' => e = .returned (.bool true) ∧ Below w.heap.size w w' := by
  unfold maxLen at hcm
  obtain ⟨u, hu⟩ : ∃ u, u = min n 20 := ⟨_, rfl⟩
  have hu20 : u ≤ 20 := by omega
  have hun : u ≤ n := by omega
  obtain ⟨L, hL⟩ : ∃ L, L = L0.take u := ⟨_, rfl⟩
  have HL := Lib.hid (show L.length = u by rw [hL, List.length_take]; omega)
  have HR := Lib.hid (show RdE w A L by rw [hL]; exact hR0.take u)
  have HWf := Lib.hid (show ∀ x ∈ L, x.wf from fun x hx => hw0 x (by rw [hL] at hx; exact List.mem_of_mem_take hx))
  have HF := Lib.hid (show ∀ i, i < u → FrT w (L.getD i en0) (F i) (G i) from fun i hi => by
    have e2 : L.getD i en0 = L0.getD i en0 := by rw [hL]; simp [List.getD, List.getElem?_take, hi]
    rw [e2]; exact hF0 i (by omega))
  have HU := Lib.hid hu
  clear hL hR0 hw0 hF0 hu hn
  go_enter Try.func4, Try.ntmps4
  go_upto_region 1 with fail
  go_cut [0] (fun s0 wx => s0 = .slice A u c ∧ w = wx)
  case first =>
    by_cases h : n ≤ 20
    · have h' : (n : Int) ≤ 20 := by omega
      have i1 : (n : Int) ≤ (c : Int) := by omega
      have e : u = n := by have := HU.out; omega
      have HE := Lib.hid e
      clear e
      go_wp2
      go_meet
      exact ⟨by rw [HE.out, show (min (n : Int) 20).toNat = n by omega], rfl⟩
    · have h' : (20 : Int) < (n : Int) := by omega
      have i1 : (20 : Int) ≤ (c : Int) := by omega
      have i2 : 20 ≤ c := by omega
      have e : u = 20 := by have := HU.out; omega
      have HE := Lib.hid e
      clear e
      go_wp2
      go_meet
      exact ⟨by rw [HE.out, show (min (n : Int) 20).toNat = 20 by omega], rfl⟩
  case rest =>
  obtain ⟨rfl, rfl⟩ := hcut
  go_wp2
  go_loopw [3, 4] (fun s3 s4 wr => ∃ (k : Nat) (B : Option Addr) (d : Nat) (ys : List En), k ≤ u ∧ s4 = .int .i64 k ∧ s3 = .slice B k d ∧ ys.length = k ∧ (∀ i, i < k → (L.getD i en0).like (ys.getD i en0)) ∧ wr.ownsRow w.heap.size 55 11 (.slice B k d) k (enC ys) ∧ Below w.heap.size w wr) (fun _ s4 _ => u - (intOf s4).toNat)
  case atStart => exact ⟨0, none, 0, [], Nat.zero_le _, rfl, rfl, rfl, fun i hi => absurd hi (Nat.not_lt_zero _), World.ownsRow_nil _ _ _ _, Below.refl _ _⟩
  case round =>
    obtain ⟨k, B, d, ys, hk, rfl, rfl, hyl, hlk, hO, hB⟩ := hrel
    have HY := Lib.hid hyl
    have HK := Lib.hid hlk
    have HO := Lib.hid hO
    have HB := Lib.hid hB
    clear hyl hlk hO hB
    by_cases hlt : k < u
    · have hbk : decide ((k : Int) < (u : Int)) = true := decide_eq_true (by omega)
      have i0 : (0 : Int) ≤ (k : Int) := by omega
      have i1 : (k : Int) < (u : Int) := by omega
      obtain ⟨g, off, rfl, hg, hc⟩ := HR.out (by have := HL.out; omega)
      have hA := (hc k (by have := HL.out; omega)).below HB.out hg
      have HFk := Lib.hid ((HF.out k hlt).below HB.out)
      have HSn := Lib.hid (fun (y : En) (hy : (L.getD k en0).like y) => likes_snoc HY.out HK.out hy)
      clear hc
      generalize L.getD k en0 = x at *
      have HTo := Lib.hid (to_any x (F k) (G k) wr HFk.out)
      obtain ⟨b, e, ends, out, fA, fn, fc, tick, port, aA, an, ac, err, pr, po⟩ := x
      unfold En.val En.cs at HTo
      unfold En.cs at hA
      have HA := Lib.hid hA
      clear hA HFk
      go_wp2_with (first
        | ((with_reducible refine gd_ldt 47 21 ?_); refine wpList_ldc rfl 47 (.tmp 21) rfl _ rfl _ (HA.out) sEv ?_)
        | (go_at_call 24; refine (HTo.out).mono ?_; rintro ee w2 ⟨y, rfl, hy, hb2⟩; have HO2 := Lib.hid (own_below HO.out hb2); have HB2 := Lib.hid (bthen HB.out hb2); have HLy := Lib.hid hy; obtain ⟨y0, y1, y2, y3, y4, y5, y6, y7, y8, y9, y10, y11, y12, y13, y14⟩ := y; simp only; clear hb2 hy)
        | (at_builtin; refine wpList_en rfl (.tmp 18) (.tmp 24) rfl rfl (HO2.out) (HB2.out) (HB2.out.size) ⟨y0, y1, y2, y3, y4, y5, y6, y7, y8, y9, y10, y11, y12, y13, y14⟩ (by omega) _ rfl rfl ?_; intro A' c' w5 hO5 hb5 hk5; have HO5 := Lib.hid hO5; have HB5 := Lib.hid hb5; clear hO5 hb5 hk5)
        | fail)
      go_roundw
      case rel => exact ⟨k + 1, A', c', ys ++ [⟨y0, y1, y2, y3, y4, y5, y6, y7, y8, y9, y10, y11, y12, y13, y14⟩], by omega, by go_num, rfl, by rw [List.length_append, HY.out]; rfl, HSn.out _ HLy.out, HO5.out, HB5.out⟩
      case measure => simp [intOf]; omega
    · have hbk : decide ((k : Int) < (u : Int)) = false := decide_eq_false (by omega)
      have hku : k = u := by omega
      subst hku
      have hlk : ∀ i, i < L.length → (L.getD i en0).like (ys.getD i en0) := fun i hi => HK.out i (by rw [HL.out] at hi; exact hi)
      have hyl : ys.length = L.length := by rw [HY.out, HL.out]
      have hT := likes_t3 hyl hlk
      have HRD := Lib.hid (own_rde HO.out HY.out)
      have HRL := Lib.hid (HR.out.below HB.out)
      have HYW := Lib.hid (likes_wf hyl hlk HWf.out)
      have c1 : ∀ W, Below wr.heap.size wr W → Calls Try.prog 19 #[.slice B k d] W (fun e w' => e = .returned (.bool (rgt (L.map En.t3))) ∧ Below W.heap.size W w') := fun W h => by rw [← hT]; exact right_any B k d ys W HY.out (by omega) (HRD.out.below h)
      have c2 : ∀ W, Below wr.heap.size wr W → Calls Try.prog 25 #[.slice A k c] W (fun e w' => e = .returned (.bool (rgt (L.map En.t3))) ∧ Below W.heap.size W w') := fun W h => rright18_any A k c L W HL.out (by omega) (HRL.out.below h)
      have hwd : widR ys = widR L := by unfold widR; rw [hT]
      have c3 : ∀ W, Below wr.heap.size wr W → Calls Try.prog 20 #[.slice B k d] W (fun e w' => e = .returned (.int .i64 (widR L)) ∧ Below W.heap.size W w') := fun W h => by rw [← hwd]; exact width_any B k d ys W HY.out (by omega) (HRD.out.below h) HYW.out
      have c4 : ∀ W, Below wr.heap.size wr W → Calls Try.prog 21 #[.slice A k c] W (fun e w' => e = .returned (.int .i64 (widR L)) ∧ Below W.heap.size W w') := fun W h => rwidth18_any A k c L W HL.out (by omega) (HRL.out.below h)
      clear hT hwd hyl HYW
      have HLK := Lib.hid hlk
      clear hlk
      generalize rgt (L.map En.t3) = rb at c1 c2
      obtain ⟨wd, hwd⟩ : ∃ x : Int, x = ((widR L : Nat) : Int) := ⟨_, rfl⟩
      rw [← hwd] at c3 c4
      clear hwd
      have C1 := Lib.hid c1
      have C2 := Lib.hid c2
      have C3 := Lib.hid c3
      have C4 := Lib.hid c4
      have hrr : (rb != rb) = false := by simp
      have hww : (wd != wd) = false := by simp
      clear c1 c2 c3 c4
      have c0 : Below wr.heap.size wr wr := Below.refl _ _
      go_wp2_with (first
        | (go_at_call 9; refine (notes_any _).mono ?_; rintro e W1 ⟨rfl, hx⟩; have c0 := bthen c0 hx; clear hx)
        | (go_at_call 19; refine (C1.out _ c0).mono ?_; rintro e W2 ⟨rfl, hx⟩; have c0 := bthen c0 hx; clear hx)
        | (go_at_call 25; refine (C2.out _ c0).mono ?_; rintro e W3 ⟨rfl, hx⟩; have c0 := bthen c0 hx; clear hx)
        | (go_at_call 20; refine (C3.out _ c0).mono ?_; rintro e W4 ⟨rfl, hx⟩; have c0 := bthen c0 hx; clear hx)
        | (go_at_call 21; refine (C4.out _ c0).mono ?_; rintro e W5 ⟨rfl, hx⟩; have c0 := bthen c0 hx; clear hx))
      have S7 := c0
      clear C1 C2 C3 C4
      obtain ⟨wb, rfl⟩ : ∃ q, q = wr := ⟨_, rfl⟩
      go_loopw [5] (fun s5 wx => ∃ i : Nat, i ≤ k ∧ s5 = .int .i64 i ∧ Below wb.heap.size wb wx) (fun s5 _ => k - (intOf s5).toNat)
      case atStart => exact ⟨0, Nat.zero_le _, rfl, S7⟩
      case round =>
        obtain ⟨i, hi, rfl, hb⟩ := hrel
        have HBi := Lib.hid hb
        clear hb
        by_cases hit : i < k
        · have hbi : decide ((i : Int) < (k : Int)) = true := decide_eq_true (by omega)
          go_wp2
          go_loopw [6] (fun s6 wx => ∃ j : Nat, j ≤ k ∧ s6 = .int .i64 j ∧ Below wb.heap.size wb wx) (fun s6 _ => k - (intOf s6).toNat)
          case atStart => exact ⟨0, Nat.zero_le _, rfl, HBi.out⟩
          case round =>
            obtain ⟨j, hj, rfl, hb⟩ := hrel
            have HBj := Lib.hid hb
            clear hb
            by_cases hjt : j < k
            · have hbj : decide ((j : Int) < (k : Int)) = true := decide_eq_true (by omega)
              have i0 : (0 : Int) ≤ (i : Int) := by omega
              have i1 : (i : Int) < (k : Int) := by omega
              have j0 : (0 : Int) ≤ (j : Int) := by omega
              have j1 : (j : Int) < (k : Int) := by omega
              obtain ⟨g, off, rfl, hg, hc⟩ := HRL.out (by have := HL.out; omega)
              obtain ⟨gy, oy, rfl, hgy, hcy⟩ := HRD.out (by have := HY.out; omega)
              have hgw : g < wr.heap.size := Nat.lt_of_lt_of_le hg HBj.out.size
              have hgyw : gy < wr.heap.size := Nat.lt_of_lt_of_le hgy HBj.out.size
              have HXi := (hc i (by have := HL.out; omega)).below HBj.out hg
              have HXj := (hc j (by have := HL.out; omega)).below HBj.out hg
              have HYi := (hcy i (by have := HY.out; omega)).below HBj.out hgy
              have HYj := (hcy j (by have := HY.out; omega)).below HBj.out hgy
              have hli := HLK.out i (by have := HL.out; omega)
              have hlj := HLK.out j (by have := HL.out; omega)
              have HAh := ahead_any (ys.getD i en0) (ys.getD j en0)
              rw [hli.2.1, hlj.1] at HAh
              have XE := HXi 1 _ rfl
              have XB := HXj 0 _ rfl
              obtain ⟨e, he⟩ : ∃ e, e = (L.getD i en0).e := ⟨_, rfl⟩
              obtain ⟨b, hb⟩ : ∃ b, b = (L.getD j en0).b := ⟨_, rfl⟩
              rw [← he, ← hb] at HAh
              rw [← he] at XE
              rw [← hb] at XB
              generalize ys.getD i en0 = yi at *
              generalize ys.getD j en0 = yj at *
              clear hli hlj hc hcy HXi HXj he hb
              obtain ⟨b1, e1, n1, o1, f1, k1, d1, t1, p1, a1, m1, c1, r1, q1, v1⟩ := yi
              obtain ⟨b2, e2, n2, o2, f2, k2, d2, t2, p2, a2, m2, c2, r2, q2, v2⟩ := yj
              unfold En.val En.cs at HAh
              unfold En.cs at HYi HYj
              have HYI := Lib.hid HYi
              have HYJ := Lib.hid HYj
              have HXE := Lib.hid XE
              have HXB := Lib.hid XB
              have HA := Lib.hid HAh
              clear HYi HYj XE XB HAh
              have y0 : ∀ W, Below wr.heap.size wr W → W.cell? ⟨gy, oy + i * 11, none⟩ = some (.int .i64 b1) := fun W h => (h.cell (p := ⟨gy, oy + i * 11, none⟩) hgyw).trans (by have := HYI.out 0 _ rfl; simpa [addr_add] using this)
              have y1 : ∀ W, Below wr.heap.size wr W → W.cell? ⟨gy, oy + i * 11 + 1, none⟩ = some (.int .i64 e1) := fun W h => (h.cell (p := ⟨gy, oy + i * 11 + 1, none⟩) hgyw).trans (by have := HYI.out 1 _ rfl; simpa [addr_add] using this)
              have y2 : ∀ W, Below wr.heap.size wr W → W.cell? ⟨gy, oy + i * 11 + 2, none⟩ = some (.bool n1) := fun W h => (h.cell (p := ⟨gy, oy + i * 11 + 2, none⟩) hgyw).trans (by have := HYI.out 2 _ rfl; simpa [addr_add] using this)
              have y3 : ∀ W, Below wr.heap.size wr W → W.cell? ⟨gy, oy + i * 11 + 3, none⟩ = some (.bool o1) := fun W h => (h.cell (p := ⟨gy, oy + i * 11 + 3, none⟩) hgyw).trans (by have := HYI.out 3 _ rfl; simpa [addr_add] using this)
              have y4 : ∀ W, Below wr.heap.size wr W → W.cell? ⟨gy, oy + i * 11 + 4, none⟩ = some (.slice f1 k1 d1) := fun W h => (h.cell (p := ⟨gy, oy + i * 11 + 4, none⟩) hgyw).trans (by have := HYI.out 4 _ rfl; simpa [addr_add] using this)
              have y5 : ∀ W, Below wr.heap.size wr W → W.cell? ⟨gy, oy + i * 11 + 5, none⟩ = some (.int .i64 t1) := fun W h => (h.cell (p := ⟨gy, oy + i * 11 + 5, none⟩) hgyw).trans (by have := HYI.out 5 _ rfl; simpa [addr_add] using this)
              have y6 : ∀ W, Below wr.heap.size wr W → W.cell? ⟨gy, oy + i * 11 + 6, none⟩ = some (.int .i64 p1) := fun W h => (h.cell (p := ⟨gy, oy + i * 11 + 6, none⟩) hgyw).trans (by have := HYI.out 6 _ rfl; simpa [addr_add] using this)
              have y7 : ∀ W, Below wr.heap.size wr W → W.cell? ⟨gy, oy + i * 11 + 7, none⟩ = some (.slice a1 m1 c1) := fun W h => (h.cell (p := ⟨gy, oy + i * 11 + 7, none⟩) hgyw).trans (by have := HYI.out 7 _ rfl; simpa [addr_add] using this)
              have y8 : ∀ W, Below wr.heap.size wr W → W.cell? ⟨gy, oy + i * 11 + 8, none⟩ = some (.int .i64 r1) := fun W h => (h.cell (p := ⟨gy, oy + i * 11 + 8, none⟩) hgyw).trans (by have := HYI.out 8 _ rfl; simpa [addr_add] using this)
              have y9 : ∀ W, Below wr.heap.size wr W → W.cell? ⟨gy, oy + i * 11 + 9, none⟩ = some (.int .i64 q1) := fun W h => (h.cell (p := ⟨gy, oy + i * 11 + 9, none⟩) hgyw).trans (by have := HYI.out 9 _ rfl; simpa [addr_add] using this)
              have y10 : ∀ W, Below wr.heap.size wr W → W.cell? ⟨gy, oy + i * 11 + 10, none⟩ = some (.int .i64 v1) := fun W h => (h.cell (p := ⟨gy, oy + i * 11 + 10, none⟩) hgyw).trans (by have := HYI.out 10 _ rfl; simpa [addr_add] using this)
              have z0 : ∀ W, Below wr.heap.size wr W → W.cell? ⟨gy, oy + j * 11, none⟩ = some (.int .i64 b2) := fun W h => (h.cell (p := ⟨gy, oy + j * 11, none⟩) hgyw).trans (by have := HYJ.out 0 _ rfl; simpa [addr_add] using this)
              have z1 : ∀ W, Below wr.heap.size wr W → W.cell? ⟨gy, oy + j * 11 + 1, none⟩ = some (.int .i64 e2) := fun W h => (h.cell (p := ⟨gy, oy + j * 11 + 1, none⟩) hgyw).trans (by have := HYJ.out 1 _ rfl; simpa [addr_add] using this)
              have z2 : ∀ W, Below wr.heap.size wr W → W.cell? ⟨gy, oy + j * 11 + 2, none⟩ = some (.bool n2) := fun W h => (h.cell (p := ⟨gy, oy + j * 11 + 2, none⟩) hgyw).trans (by have := HYJ.out 2 _ rfl; simpa [addr_add] using this)
              have z3 : ∀ W, Below wr.heap.size wr W → W.cell? ⟨gy, oy + j * 11 + 3, none⟩ = some (.bool o2) := fun W h => (h.cell (p := ⟨gy, oy + j * 11 + 3, none⟩) hgyw).trans (by have := HYJ.out 3 _ rfl; simpa [addr_add] using this)
              have z4 : ∀ W, Below wr.heap.size wr W → W.cell? ⟨gy, oy + j * 11 + 4, none⟩ = some (.slice f2 k2 d2) := fun W h => (h.cell (p := ⟨gy, oy + j * 11 + 4, none⟩) hgyw).trans (by have := HYJ.out 4 _ rfl; simpa [addr_add] using this)
              have z5 : ∀ W, Below wr.heap.size wr W → W.cell? ⟨gy, oy + j * 11 + 5, none⟩ = some (.int .i64 t2) := fun W h => (h.cell (p := ⟨gy, oy + j * 11 + 5, none⟩) hgyw).trans (by have := HYJ.out 5 _ rfl; simpa [addr_add] using this)
              have z6 : ∀ W, Below wr.heap.size wr W → W.cell? ⟨gy, oy + j * 11 + 6, none⟩ = some (.int .i64 p2) := fun W h => (h.cell (p := ⟨gy, oy + j * 11 + 6, none⟩) hgyw).trans (by have := HYJ.out 6 _ rfl; simpa [addr_add] using this)
              have z7 : ∀ W, Below wr.heap.size wr W → W.cell? ⟨gy, oy + j * 11 + 7, none⟩ = some (.slice a2 m2 c2) := fun W h => (h.cell (p := ⟨gy, oy + j * 11 + 7, none⟩) hgyw).trans (by have := HYJ.out 7 _ rfl; simpa [addr_add] using this)
              have z8 : ∀ W, Below wr.heap.size wr W → W.cell? ⟨gy, oy + j * 11 + 8, none⟩ = some (.int .i64 r2) := fun W h => (h.cell (p := ⟨gy, oy + j * 11 + 8, none⟩) hgyw).trans (by have := HYJ.out 8 _ rfl; simpa [addr_add] using this)
              have z9 : ∀ W, Below wr.heap.size wr W → W.cell? ⟨gy, oy + j * 11 + 9, none⟩ = some (.int .i64 q2) := fun W h => (h.cell (p := ⟨gy, oy + j * 11 + 9, none⟩) hgyw).trans (by have := HYJ.out 9 _ rfl; simpa [addr_add] using this)
              have z10 : ∀ W, Below wr.heap.size wr W → W.cell? ⟨gy, oy + j * 11 + 10, none⟩ = some (.int .i64 v2) := fun W h => (h.cell (p := ⟨gy, oy + j * 11 + 10, none⟩) hgyw).trans (by have := HYJ.out 10 _ rfl; simpa [addr_add] using this)
              have x1 : ∀ W, Below wr.heap.size wr W → W.cell? ⟨g, off + i * 11 + 1, none⟩ = some (.int .i64 e) := fun W h => (h.cell (p := ⟨g, off + i * 11 + 1, none⟩) hgw).trans (by have := HXE.out; simpa [addr_add] using this)
              have x2 : ∀ W, Below wr.heap.size wr W → W.cell? ⟨g, off + j * 11, none⟩ = some (.int .i64 b) := fun W h => (h.cell (p := ⟨g, off + j * 11, none⟩) hgw).trans (by have := HXB.out; simpa [addr_add] using this)
              have S0 : Below wr.heap.size wr wr := Below.refl _ _
              go_upto_region 15 with fail
              by_cases h1 : e = -1
              · subst h1
                have q : ((-1 : Int) != -1) = false := by decide
                have HA2 := Lib.hid (show ∀ W, Calls Try.prog 26 #[.agg #[.int .i64 b1, .int .i64 e1, .bool n1, .bool o1, .slice f1 k1 d1, .int .i64 t1, .int .i64 p1, .slice a1 m1 c1, .int .i64 r1, .int .i64 q1, .int .i64 v1], .agg #[.int .i64 b2, .int .i64 e2, .bool n2, .bool o2, .slice f2 k2 d2, .int .i64 t2, .int .i64 p2, .slice a2 m2 c2, .int .i64 r2, .int .i64 q2, .int .i64 v2]] W (fun e1 w' => e1 = .returned (.bool false) ∧ Below W.heap.size W w') from fun W => by have := HA.out W; rw [q, Bool.false_and] at this; exact this)
                clear HA
                refine wp_region_held_drew (S := fun W => Below wr.heap.size wr W) (by kernel_rfl) (Below.drew S0) (fun hHeld => ?_)
                refine wpAnyH_take (i := 0) (oi := ⟨some 54, _, _, _, _, _⟩) (v := ?tvd0) rfl (by kernel_rfl) (by kernel_rfl) (by kernel_rfl) (fun _ _ _ h => h) (Or.inl ⟨by kernel_rfl, ?tyd0⟩) (by assumption) ?trd0
                case tyd0 => (intro w hSw; first | (go_simp; done) | (go_simp; with_reducible rfl))
                case' trd0 => try simp only [Act.put, List.setIfInBounds_toArray, List.set_cons_zero, List.set_cons_succ]
                refine wpAnyH_take (i := 1) (oi := ⟨some 55, _, _, _, _, _⟩) (v := ?tvd1) rfl (by kernel_rfl) (by kernel_rfl) (by kernel_rfl) (fun _ _ _ h => h) (Or.inl ⟨by kernel_rfl, ?tyd1⟩) (by assumption) ?trd1
                case tyd1 => (intro w hSw; first | (go_simp; done) | (go_simp; with_reducible rfl))
                case' trd1 => try simp only [Act.put, List.setIfInBounds_toArray, List.set_cons_zero, List.set_cons_succ]
                refine wpAnyH_take (i := 2) (oi := ⟨some 56, _, _, _, _, _⟩) (v := ?tvd2) rfl (by kernel_rfl) (by kernel_rfl) (by kernel_rfl) (fun _ _ _ h => h) (Or.inl ⟨by kernel_rfl, ?tyd2⟩) (by assumption) ?trd2
                case tyd2 => (intro w hSw; first | (go_simp; done) | (go_simp; with_reducible rfl))
                case' trd2 => try simp only [Act.put, List.setIfInBounds_toArray, List.set_cons_zero, List.set_cons_succ]
                refine wpAnyH_take (i := 3) (oi := ⟨some 57, _, _, _, _, _⟩) (v := ?tvd3) rfl (by kernel_rfl) (by kernel_rfl) (by kernel_rfl) (fun _ _ _ h => h) (Or.inl ⟨by kernel_rfl, ?tyd3⟩) (by assumption) ?trd3
                case tyd3 => (intro w hSw; first | (go_simp; done) | (go_simp; with_reducible rfl))
                case' trd3 => try simp only [Act.put, List.setIfInBounds_toArray, List.set_cons_zero, List.set_cons_succ]
                refine wpAnyH_take (i := 4) (oi := ⟨some 58, _, _, _, _, _⟩) (v := ?tvd4) rfl (by kernel_rfl) (by kernel_rfl) (by kernel_rfl) (fun _ _ _ h => h) (Or.inl ⟨by kernel_rfl, ?tyd4⟩) (by assumption) ?trd4
                case tyd4 => (intro w hSw; first | (go_simp; done) | (go_simp; with_reducible rfl))
                case' trd4 => try simp only [Act.put, List.setIfInBounds_toArray, List.set_cons_zero, List.set_cons_succ]
                refine wpAnyH_take (i := 5) (oi := ⟨some 59, _, _, _, _, _⟩) (v := ?tvd5) rfl (by kernel_rfl) (by kernel_rfl) (by kernel_rfl) (fun _ _ _ h => h) (Or.inl ⟨by kernel_rfl, ?tyd5⟩) (by assumption) ?trd5
                case tyd5 => (intro w hSw; first | (go_simp; done) | (go_simp; with_reducible rfl))
                case' trd5 => try simp only [Act.put, List.setIfInBounds_toArray, List.set_cons_zero, List.set_cons_succ]
                refine wpAnyH_take (i := 6) (oi := ⟨some 60, _, _, _, _, _⟩) (v := ?tvd6) rfl (by kernel_rfl) (by kernel_rfl) (by kernel_rfl) (fun _ _ _ h => h) (Or.inl ⟨by kernel_rfl, ?tyd6⟩) (by assumption) ?trd6
                case tyd6 => (intro w hSw; first | (go_simp; done) | (go_simp; with_reducible rfl))
                case' trd6 => try simp only [Act.put, List.setIfInBounds_toArray, List.set_cons_zero, List.set_cons_succ]
                refine wpAnyH_take (i := 7) (oi := ⟨some 61, _, _, _, _, _⟩) (v := ?tvd7) rfl (by kernel_rfl) (by kernel_rfl) (by kernel_rfl) (fun _ _ _ h => h) (Or.inl ⟨by kernel_rfl, ?tyd7⟩) (by assumption) ?trd7
                case tyd7 => (intro w hSw; first | (go_simp; done) | (go_simp; with_reducible rfl))
                case' trd7 => try simp only [Act.put, List.setIfInBounds_toArray, List.set_cons_zero, List.set_cons_succ]
                refine wpAnyH_take (i := 9) (oi := ⟨some 63, _, _, _, _, _⟩) (v := ?tvd9) rfl (by kernel_rfl) (by kernel_rfl) (by kernel_rfl) (fun _ _ _ h => h) (Or.inl ⟨by kernel_rfl, ?tyd9⟩) (by assumption) ?trd9
                case tyd9 => (intro w hSw; first | (go_simp; done) | (go_simp; with_reducible rfl))
                case' trd9 => try simp only [Act.put, List.setIfInBounds_toArray, List.set_cons_zero, List.set_cons_succ]
                refine wpAnyH_take (i := 10) (oi := ⟨some 64, _, _, _, _, _⟩) (v := ?tvd10) rfl (by kernel_rfl) (by kernel_rfl) (by kernel_rfl) (fun _ _ _ h => h) (Or.inl ⟨by kernel_rfl, ?tyd10⟩) (by assumption) ?trd10
                case tyd10 => (intro w hSw; first | (go_simp; done) | (go_simp; with_reducible rfl))
                case' trd10 => try simp only [Act.put, List.setIfInBounds_toArray, List.set_cons_zero, List.set_cons_succ]
                refine wpAnyH_take (i := 11) (oi := ⟨some 65, _, _, _, _, _⟩) (v := ?tvd11) rfl (by kernel_rfl) (by kernel_rfl) (by kernel_rfl) (fun _ _ _ h => h) (Or.inl ⟨by kernel_rfl, ?tyd11⟩) (by assumption) ?trd11
                case tyd11 => (intro w hSw; first | (go_simp; done) | (go_simp; with_reducible rfl))
                case' trd11 => try simp only [Act.put, List.setIfInBounds_toArray, List.set_cons_zero, List.set_cons_succ]
                refine wpAnyH_take (i := 12) (oi := ⟨some 66, _, _, _, _, _⟩) (v := ?tvd12) rfl (by kernel_rfl) (by kernel_rfl) (by kernel_rfl) (fun _ _ _ h => h) (Or.inl ⟨by kernel_rfl, ?tyd12⟩) (by assumption) ?trd12
                case tyd12 => (intro w hSw; first | (go_simp; done) | (go_simp; with_reducible rfl))
                case' trd12 => try simp only [Act.put, List.setIfInBounds_toArray, List.set_cons_zero, List.set_cons_succ]
                refine wpAnyH_take (i := 13) (oi := ⟨some 67, _, _, _, _, _⟩) (v := ?tvd13) rfl (by kernel_rfl) (by kernel_rfl) (by kernel_rfl) (fun _ _ _ h => h) (Or.inl ⟨by kernel_rfl, ?tyd13⟩) (by assumption) ?trd13
                case tyd13 => (intro w hSw; first | (go_simp; done) | (go_simp; with_reducible rfl))
                case' trd13 => try simp only [Act.put, List.setIfInBounds_toArray, List.set_cons_zero, List.set_cons_succ]
                refine wpAnyH_take (i := 14) (oi := ⟨some 68, _, _, _, _, _⟩) (v := ?tvd14) rfl (by kernel_rfl) (by kernel_rfl) (by kernel_rfl) (fun _ _ _ h => h) (Or.inl ⟨by kernel_rfl, ?tyd14⟩) (by assumption) ?trd14
                case tyd14 => (intro w hSw; first | (go_simp; done) | (go_simp; with_reducible rfl))
                case' trd14 => try simp only [Act.put, List.setIfInBounds_toArray, List.set_cons_zero, List.set_cons_succ]
                refine wpAnyH_ready (rs := [8]) (by kernel_rfl) (by simp) ?_
                refine AllReadyH.cons (o := ⟨some 62, _, _, _, _, _⟩) rfl (fun K hK => ?_) AllReadyH.nil
                go_simp
                go_at_call 26
                refine (HA2.out _).mono ?_
                rintro e W2 ⟨rfl, hy2⟩
                have hSd8 : (fun W => Below wr.heap.size wr W) W2 := bthen hHeld hy2
                refine hK.out _ _ hSd8 (fun hHeld0 => ?_)
                clear hK K hHeld0 hHeld
                try simp only [Act.put, List.setIfInBounds_toArray, List.set_cons_zero, List.set_cons_succ]
                have hHeld : (fun W => Below wr.heap.size wr W) W2 := hSd8
                clear hSd8
                refine wpAnyH_take (i := 15) (oi := ⟨some 69, _, _, _, _, _⟩) (v := ?tvd15) rfl (by kernel_rfl) (by kernel_rfl) (by kernel_rfl) (fun _ _ _ h => h) (Or.inl ⟨by kernel_rfl, ?tyd15⟩) (by assumption) ?trd15
                case tyd15 => (intro w hSw; first | (go_simp; done) | (go_simp; with_reducible rfl))
                case' trd15 => try simp only [Act.put, List.setIfInBounds_toArray, List.set_cons_zero, List.set_cons_succ]
                refine wpAnyH_take (i := 16) (oi := ⟨some 70, _, _, _, _, _⟩) (v := undef) rfl (by kernel_rfl) (by kernel_rfl) (by kernel_rfl) (fun _ _ _ h => h) (Or.inr ⟨by kernel_rfl, rfl⟩) (by assumption) ?_
                try simp only [Act.put, List.setIfInBounds_toArray, List.set_cons_zero, List.set_cons_succ]
                refine wpAnyH_take (i := 17) (oi := ⟨some 71, _, _, _, _, _⟩) (v := undef) rfl (by kernel_rfl) (by kernel_rfl) (by kernel_rfl) (fun _ _ _ h => h) (Or.inr ⟨by kernel_rfl, rfl⟩) (by assumption) ?_
                try simp only [Act.put, List.setIfInBounds_toArray, List.set_cons_zero, List.set_cons_succ]
                refine wpAnyH_take (i := 18) (oi := ⟨some 72, _, _, _, _, _⟩) (v := undef) rfl (by kernel_rfl) (by kernel_rfl) (by kernel_rfl) (fun _ _ _ h => h) (Or.inr ⟨by kernel_rfl, rfl⟩) (by assumption) ?_
                try simp only [Act.put, List.setIfInBounds_toArray, List.set_cons_zero, List.set_cons_succ]
                refine wpAnyH_take (i := 19) (oi := ⟨some 73, _, _, _, _, _⟩) (v := undef) rfl (by kernel_rfl) (by kernel_rfl) (by kernel_rfl) (fun _ _ _ h => h) (Or.inr ⟨by kernel_rfl, rfl⟩) (by assumption) ?_
                try simp only [Act.put, List.setIfInBounds_toArray, List.set_cons_zero, List.set_cons_succ]
                refine wpAnyH_take (i := 20) (oi := ⟨some 74, _, _, _, _, _⟩) (v := undef) rfl (by kernel_rfl) (by kernel_rfl) (by kernel_rfl) (fun _ _ _ h => h) (Or.inr ⟨by kernel_rfl, rfl⟩) (by assumption) ?_
                try simp only [Act.put, List.setIfInBounds_toArray, List.set_cons_zero, List.set_cons_succ]
                refine wpAnyH_take (i := 21) (oi := ⟨some 75, _, _, _, _, _⟩) (v := undef) rfl (by kernel_rfl) (by kernel_rfl) (by kernel_rfl) (fun _ _ _ h => h) (Or.inr ⟨by kernel_rfl, rfl⟩) (by assumption) ?_
                try simp only [Act.put, List.setIfInBounds_toArray, List.set_cons_zero, List.set_cons_succ]
                refine wpAnyH_take (i := 22) (oi := ⟨some 76, _, _, _, _, _⟩) (v := undef) rfl (by kernel_rfl) (by kernel_rfl) (by kernel_rfl) (fun _ _ _ h => h) (Or.inr ⟨by kernel_rfl, rfl⟩) (by assumption) ?_
                try simp only [Act.put, List.setIfInBounds_toArray, List.set_cons_zero, List.set_cons_succ]
                refine wpAnyH_take (i := 23) (oi := ⟨some 77, _, _, _, _, _⟩) (v := undef) rfl (by kernel_rfl) (by kernel_rfl) (by kernel_rfl) (fun _ _ _ h => h) (Or.inr ⟨by kernel_rfl, rfl⟩) (by assumption) ?_
                try simp only [Act.put, List.setIfInBounds_toArray, List.set_cons_zero, List.set_cons_succ]
                refine wpAnyH_take (i := 24) (oi := ⟨some 78, _, _, _, _, _⟩) (v := undef) rfl (by kernel_rfl) (by kernel_rfl) (by kernel_rfl) (fun _ _ _ h => h) (Or.inr ⟨by kernel_rfl, rfl⟩) (by assumption) ?_
                try simp only [Act.put, List.setIfInBounds_toArray, List.set_cons_zero, List.set_cons_succ]
                refine wpAnyH_take (i := 25) (oi := ⟨some 79, _, _, _, _, _⟩) (v := undef) rfl (by kernel_rfl) (by kernel_rfl) (by kernel_rfl) (fun _ _ _ h => h) (Or.inr ⟨by kernel_rfl, rfl⟩) (by assumption) ?_
                try simp only [Act.put, List.setIfInBounds_toArray, List.set_cons_zero, List.set_cons_succ]
                refine wpAnyH_take (i := 26) (oi := ⟨some 80, _, _, _, _, _⟩) (v := undef) rfl (by kernel_rfl) (by kernel_rfl) (by kernel_rfl) (fun _ _ _ h => h) (Or.inr ⟨by kernel_rfl, rfl⟩) (by assumption) ?_
                try simp only [Act.put, List.setIfInBounds_toArray, List.set_cons_zero, List.set_cons_succ]
                refine wpAnyH_take (i := 27) (oi := ⟨some 81, _, _, _, _, _⟩) (v := ?tvd27) rfl (by kernel_rfl) (by kernel_rfl) (by kernel_rfl) (fun _ _ _ h => h) (Or.inl ⟨by kernel_rfl, ?tyd27⟩) (by assumption) ?trd27
                case tyd27 => (intro w hSw; first | (go_simp; done) | (go_simp; with_reducible rfl))
                case' trd27 => try simp only [Act.put, List.setIfInBounds_toArray, List.set_cons_zero, List.set_cons_succ]
                refine wpAnyH_take (i := 28) (oi := ⟨some 82, _, _, _, _, _⟩) (v := ?tvd28) rfl (by kernel_rfl) (by kernel_rfl) (by kernel_rfl) (fun _ _ _ h => h) (Or.inl ⟨by kernel_rfl, ?tyd28⟩) (by assumption) ?trd28
                case tyd28 => (intro w hSw; first | (go_simp; done) | (go_simp; with_reducible rfl))
                case' trd28 => try simp only [Act.put, List.setIfInBounds_toArray, List.set_cons_zero, List.set_cons_succ]
                refine wpAnyH_done (by kernel_rfl) ?_ _
                have HQ := bthen HBj.out hHeld
                go_wp2
                go_roundw
                case rel => exact ⟨j + 1, by omega, by go_num, HQ⟩
                case measure => simp [intOf]; omega
              · have q : (e != -1) = true := by simp [h1]
                have HA2 := Lib.hid (show ∀ W, Calls Try.prog 26 #[.agg #[.int .i64 b1, .int .i64 e1, .bool n1, .bool o1, .slice f1 k1 d1, .int .i64 t1, .int .i64 p1, .slice a1 m1 c1, .int .i64 r1, .int .i64 q1, .int .i64 v1], .agg #[.int .i64 b2, .int .i64 e2, .bool n2, .bool o2, .slice f2 k2 d2, .int .i64 t2, .int .i64 p2, .slice a2 m2 c2, .int .i64 r2, .int .i64 q2, .int .i64 v2]] W (fun e1 w' => e1 = .returned (.bool (decide (e < b))) ∧ Below W.heap.size W w') from fun W => by have := HA.out W; rw [q, Bool.true_and] at this; exact this)
                have hdd : (decide (e < b) != decide (e < b)) = false := by simp
                obtain ⟨db, hdb⟩ : ∃ q, decide (e < b) = q := ⟨_, rfl⟩
                rw [hdb] at HA2 hdd
                clear h1 HA
                go_region_held3 (fun W => Below wr.heap.size wr W)
                  (first | (with_reducible exact Below.drew S0) | (with_reducible exact bthen (by assumption) (by assumption)) | (with_reducible assumption))
                  (first
                    | (go_at_call 26; refine (HA2.out _).mono ?_; rintro e1 W2 ⟨rfl, hy2⟩))
                have HQ := bthen HBj.out (by assumption)
                go_wp2
                go_roundw
                case rel => exact ⟨j + 1, by omega, by go_num, HQ⟩
                case measure => simp [intOf]; omega
            · have hbj : decide ((j : Int) < (k : Int)) = false := decide_eq_false (by omega)
              go_wp2
              go_roundw
              case rel => exact ⟨i + 1, by omega, by go_num, HBj.out⟩
              case measure => simp [intOf]; omega
        · have hbi : decide ((i : Int) < (k : Int)) = false := decide_eq_false (by omega)
          go_wp2
          go_ret
          exact ⟨rfl, bthen HB.out HBi.out⟩
end Go.Proofs.Ytbnlpidhbilenaa
