/-
  Package turns: one step of a worker. Conditions stand in each theorem.
-/
import Derived.Test.YtgengboaoniogaaKeep
import Derived.Test.YtgengboaoniogaaRDo5
import Derived.RegionTactic
import Derived.BigRegion
import Derived.Deep.QuietTactic
import Derived.BigQuiet
import Derived.Deep.DeepCutAuto
namespace Go.Proofs.Ytgengboaoniogaa
open Go.RowKit Plain
set_option linter.unusedVariables false
set_option maxRecDepth 100000

theorem Cl.keep {bs : List Nat} {w w' : World} {gc gn n : Nat} {l : List Int} (h : Cl w gc gn n l) (hk : Keep bs w w') (h1 : gc ∉ bs) (h2 : gn ∉ bs) : Cl w' gc gn n l := ⟨h.len, hk.blk h.st h1, hk.blk h.nu h2, h.ne, h.rg⟩

/-- an Op -/
structure OpV where
  kind : Int
  cell : Int
  a : Int
  b : Int
  kept : Bool
  deriving Inhabited
def OpV.ok (o : OpV) : Prop := (-9223372036854775808 ≤ o.kind ∧ o.kind ≤ 9223372036854775807) ∧ (-9223372036854775808 ≤ o.cell ∧ o.cell ≤ 9223372036854775807) ∧ U64 o.a ∧ U64 o.b
/-- a program: Ops that lie one behind the other -/
def RdP (w : World) (A : Option Addr) (os : List OpV) : Prop :=
  (∀ o ∈ os, o.ok) ∧ (0 < os.length → ∃ b off, A = some ⟨b, off, none⟩ ∧ b < w.heap.size ∧ ∀ i, i < os.length →
    w.cell? ⟨b, off + i * 5, none⟩ = some (.int .i64 (os.getD i default).kind) ∧ w.cell? ⟨b, off + i * 5 + 1, none⟩ = some (.int .i64 (os.getD i default).cell) ∧
    w.cell? ⟨b, off + i * 5 + 2, none⟩ = some (.int .u64 (os.getD i default).a) ∧ w.cell? ⟨b, off + i * 5 + 3, none⟩ = some (.int .u64 (os.getD i default).b) ∧ w.cell? ⟨b, off + i * 5 + 4, none⟩ = some (.bool (os.getD i default).kept))
def offB (bs : List Nat) (A : Option Addr) : Prop := ∀ b off, A = some ⟨b, off, none⟩ → b ∉ bs
theorem RdP.keep {bs : List Nat} {w w' : World} {A : Option Addr} {os : List OpV} (h : RdP w A os) (hk : Keep bs w w') (hb : offB bs A) : RdP w' A os :=
  ⟨h.1, fun hp => by
    obtain ⟨b, off, e, hl, hc⟩ := h.2 hp
    have hn := hb b off e
    refine ⟨b, off, e, Nat.lt_of_lt_of_le hl hk.size, fun i hi => ?_⟩
    obtain ⟨h0, h1, h2, h3, h4⟩ := hc i hi
    exact ⟨(hk.cell hl hn).trans h0, (hk.cell hl hn).trans h1, (hk.cell hl hn).trans h2, (hk.cell hl hn).trans h3, (hk.cell hl hn).trans h4⟩⟩
theorem RdP.okAt {w : World} {A : Option Addr} {os : List OpV} (h : RdP w A os) {i : Nat} (hi : i < os.length) : (os.getD i default).ok := by
  have : os.getD i default = os[i] := by simp [List.getD, hi]
  rw [this]; exact h.1 _ (List.getElem_mem hi)

/-- a function with another value at one place -/
def upd {α : Type} (f : Nat → α) (i : Nat) (x : α) (j : Nat) : α := if j = i then x else f j

/-- workers: of each its program, how many Ops are done, and what it keeps -/
structure Wks (w : World) (gw n : Nat) (P : Nat → Value) (D : Nat → Nat) (K : Nat → Int) : Prop where
  bl : ∃ cs, Blk w gw 109 cs
  pr : ∀ i, i < n → w.cell? ⟨gw, i * 3, none⟩ = some (P i)
  dn : ∀ i, i < n → w.cell? ⟨gw, i * 3 + 1, none⟩ = some (.int .i64 (D i))
  kp : ∀ i, i < n → w.cell? ⟨gw, i * 3 + 2, none⟩ = some (.int .u64 (K i))
section
variable {w w' : World} {gw n : Nat} {P : Nat → Value} {D : Nat → Nat} {K : Nat → Int}
theorem Wks.free (h : Wks w gw n P D K) (i : Nat) : w.frozen? ⟨gw, i, none⟩ = false := by obtain ⟨cs, hb⟩ := h.bl; exact hb.frozen i
theorem Wks.lt (h : Wks w gw n P D K) : gw < w.heap.size := by obtain ⟨cs, hb⟩ := h.bl; exact hb.lt
theorem Wks.keep {bs : List Nat} (h : Wks w gw n P D K) (hk : Keep bs w w') (hg : gw ∉ bs) : Wks w' gw n P D K := by
  obtain ⟨cs, hb⟩ := h.bl
  exact ⟨⟨cs, hk.blk hb hg⟩, fun i hi => (hk.cell (p := ⟨gw, i * 3, none⟩) h.lt hg).trans (h.pr i hi), fun i hi => (hk.cell (p := ⟨gw, i * 3 + 1, none⟩) h.lt hg).trans (h.dn i hi), fun i hi => (hk.cell (p := ⟨gw, i * 3 + 2, none⟩) h.lt hg).trans (h.kp i hi)⟩
theorem Wks.setD (h : Wks w gw n P D K) (i : Nat) (hi : i < n) (d : Nat) : Wks (w.setCell ⟨gw, i * 3 + 1, none⟩ (.int .i64 d)) gw n P (upd D i d) K := by
  obtain ⟨cs, hb⟩ := h.bl
  refine ⟨⟨_, hb.set _ _⟩, fun j hj => ?_, fun j hj => ?_, fun j hj => ?_⟩
  · rw [World.cell?_setCell_other _ _ _ _ (by simp <;> omega)]; exact h.pr j hj
  · by_cases e : j = i
    · subst e; unfold upd; rw [if_pos rfl]; exact World.cell?_setCell_same _ _ _ (h.dn j hj)
    · unfold upd; rw [if_neg e, World.cell?_setCell_other _ _ _ _ (by simp <;> omega)]; exact h.dn j hj
  · rw [World.cell?_setCell_other _ _ _ _ (by simp <;> omega)]; exact h.kp j hj
theorem Wks.setK (h : Wks w gw n P D K) (i : Nat) (hi : i < n) (x : Int) : Wks (w.setCell ⟨gw, i * 3 + 2, none⟩ (.int .u64 x)) gw n P D (upd K i x) := by
  obtain ⟨cs, hb⟩ := h.bl
  refine ⟨⟨_, hb.set _ _⟩, fun j hj => ?_, fun j hj => ?_, fun j hj => ?_⟩
  · rw [World.cell?_setCell_other _ _ _ _ (by simp <;> omega)]; exact h.pr j hj
  · rw [World.cell?_setCell_other _ _ _ _ (by simp <;> omega)]; exact h.dn j hj
  · by_cases e : j = i
    · subst e; unfold upd; rw [if_pos rfl]; exact World.cell?_setCell_same _ _ _ (h.kp j hj)
    · unfold upd; rw [if_neg e, World.cell?_setCell_other _ _ _ _ (by simp <;> omega)]; exact h.kp j hj
end

/-- what a step tells, what the cells are then, what is kept -/
def stA (o : OpV) (k : Int) : Int := if o.kept then k else o.a
def stIn (l : List Int) (o : OpV) : Bool := inC l.length o.cell && decide (0 ≤ o.kind ∧ o.kind < 4)
def stG (l : List Int) (o : OpV) (k : Int) : Int := if stIn l o then opG l o.kind.toNat o.cell.toNat (stA o k) else 0
def stL (l : List Int) (o : OpV) (k : Int) : List Int := if stIn l o then opL l o.kind.toNat o.cell.toNat (stA o k) o.b else l
def stK (l : List Int) (o : OpV) (k : Int) : Int := if o.kind = 0 then stG l o k else k

theorem stK_zero (l : List Int) (kind cell a b : Int) (kept : Bool) (k : Int) (h : kind = 0) : stK l ⟨kind, cell, a, b, kept⟩ k = stG l ⟨kind, cell, a, b, kept⟩ k := by unfold stK; rw [if_pos h]
theorem stK_not (l : List Int) (kind cell a b : Int) (kept : Bool) (k : Int) (h : ¬ kind = 0) : stK l ⟨kind, cell, a, b, kept⟩ k = k := by unfold stK; rw [if_neg h]

theorem hasNext_any {w : World} {gw n : Nat} {P : Nat → Value} {D : Nat → Nat} {K : Nat → Int} (h : Wks w gw n P D K) (i : Nat) (hi : i < n) (A : Option Addr) (m c : Nat) (hP : P i = .slice A m c) :
    Calls Try.prog 43 #[.pointer (some ⟨gw, i * 3, none⟩)] w fun e w' => e = .returned (.bool (decide (D i < m))) ∧ ∃ q, w' = w.drewN q := by
  have c0 := h.pr i hi
  rw [hP] at c0
  have c1 := h.dn i hi
  clear hP h
  go_enter Try.func43, Try.ntmps43
  go_wp2
  go_quiet (fail)
  go_wp2
  go_ret
  exact ⟨rfl, _, rfl⟩

set_option maxHeartbeats 4000000 in
theorem step_any {w : World} {gc gn n gw m : Nat} {l : List Int} {P : Nat → Value} {D : Nat → Nat} {K : Nat → Int} (hC : Cl w gc gn n l) (hW : Wks w gw m P D K) (i : Nat) (hi : i < m) (A : Option Addr) (pn pc : Nat) (hP : P i = .slice A pn pc) (os : List OpV) (hR : RdP w A os) (hl : os.length = pn)
    (d : Nat) (hD : D i = d) (k : Int) (hk : K i = k) (hd : d < pn) (hpm : pn ≤ 1000000) (hgc : gw ≠ gc) (hgn : gw ≠ gn) (hKu : U64 k) :
    Calls Try.prog 59 #[.pointer (some ⟨gw, i * 3, none⟩), .pointer (some ⟨gc, 0, none⟩)] w fun e w' => e = .returned (.int .u64 (stG l (os.getD d default) k)) ∧
      Cl w' gc gn n (stL l (os.getD d default) k) ∧ Wks w' gw m P (upd D i (d + 1)) (upd K i (stK l (os.getD d default) k)) ∧ Keep [gn, gw] w w' := by
  have c0 := hW.pr i hi
  rw [hP] at c0
  have c1 := hW.dn i hi
  rw [hD] at c1
  have hok := hR.okAt (i := d) (by omega)
  obtain ⟨b, off, rfl, hbl, hcell⟩ := hR.2 (by omega)
  obtain ⟨o0, o1, o2, o3, o4⟩ := hcell d (by omega)
  generalize os.getD d default = o at *
  obtain ⟨kind, cell, a, bb, kept⟩ := o
  simp only at o0 o1 o2 o3 o4
  have HC := Lib.hid hC
  have HW := Lib.hid hW
  have HD := Lib.hid hD
  have HKE := Lib.hid hk
  clear hC hW hP hR hl hcell hD hk
  have lw := HW.out.lt
  have c0' := (World.cell?_alloc_lt w (.cells #[.int .i64 0, .int .i64 0, .int .u64 0, .int .u64 0, .bool false] 27) _ (by exact lw)).trans c0
  have c1' := (World.cell?_alloc_lt w (.cells #[.int .i64 0, .int .i64 0, .int .u64 0, .int .u64 0, .bool false] 27) _ (by exact lw)).trans c1
  have o0' := (World.cell?_alloc_lt w (.cells #[.int .i64 0, .int .i64 0, .int .u64 0, .int .u64 0, .bool false] 27) _ (by exact hbl)).trans o0
  have o1' := (World.cell?_alloc_lt w (.cells #[.int .i64 0, .int .i64 0, .int .u64 0, .int .u64 0, .bool false] 27) _ (by exact hbl)).trans o1
  have o2' := (World.cell?_alloc_lt w (.cells #[.int .i64 0, .int .i64 0, .int .u64 0, .int .u64 0, .bool false] 27) _ (by exact hbl)).trans o2
  have o3' := (World.cell?_alloc_lt w (.cells #[.int .i64 0, .int .i64 0, .int .u64 0, .int .u64 0, .bool false] 27) _ (by exact hbl)).trans o3
  have o4' := (World.cell?_alloc_lt w (.cells #[.int .i64 0, .int .i64 0, .int .u64 0, .int .u64 0, .bool false] 27) _ (by exact hbl)).trans o4
  have i0 : (d : Int) < (pn : Int) := by omega
  go_enter Try.func59, Try.ntmps59
  go_wp2
  go_region
  go_upto_region 2 with fail
  have H5 := Lib.hid ((Blk.new w 27 #[.int .i64 kind, .int .i64 cell, .int .u64 a, .int .u64 bb, .bool kept]).drew)
  have HK1 := Lib.hid (((Keep.refl [gn, gw] w).alloc (.cells #[.int .i64 kind, .int .i64 cell, .int .u64 a, .int .u64 bb, .bool kept] 27)).drew)
  have HC1 := Lib.hid (HC.out.keep (Keep.drew ((Keep.refl [] w).alloc (.cells #[.int .i64 kind, .int .i64 cell, .int .u64 a, .int .u64 bb, .bool kept] 27))) (by simp) (by simp))
  have HW1 := Lib.hid (HW.out.keep (Keep.drew ((Keep.refl [] w).alloc (.cells #[.int .i64 kind, .int .i64 cell, .int .u64 a, .int .u64 bb, .bool kept] 27))) (by simp))
  have ngo : gw ≠ w.heap.size := by omega
  have ngn : gn ≠ w.heap.size := by have := HC.out.nu.lt; omega
  have ngc : gc ≠ w.heap.size := by have := HC.out.st.lt; omega
  have hgo : w.heap.size ≤ w.heap.size := Nat.le_refl _
  clear c0 c1 o0 o1 o2 o3 o4 c0' c1' o0' o1' o2' o3' o4'
  generalize (w.alloc (.cells #[.int .i64 kind, .int .i64 cell, .int .u64 a, .int .u64 bb, .bool kept] 27)).drew = w1 at *
  obtain ⟨go, hgoe⟩ : ∃ g, g = w.heap.size := ⟨_, rfl⟩
  rw [← hgoe] at H5 ngo ngn ngc
  rw [← hgoe]
  have hgo' : w.heap.size ≤ go := by omega
  clear hgo
  have HGO := Lib.hid hgoe
  clear hgoe
  have c1 := HW1.out.dn i hi
  rw [HD.out] at c1
  have f1 := HW1.out.free (i * 3 + 1)
  go_upto_region 3 with fail
  have e2 : ((d : Int) + 1) = ((d + 1 : Nat) : Int) := by omega
  rw [e2]
  have H52 := Lib.hid (H5.out.ne (p := ⟨gw, i * 3 + 1, none⟩) ngo (.int .i64 ((d + 1 : Nat) : Int)))
  have HC2 := Lib.hid (HC1.out.other (p := ⟨gw, i * 3 + 1, none⟩) hgc hgn (.int .i64 ((d + 1 : Nat) : Int)))
  have HW2 := Lib.hid (HW1.out.setD i hi (d + 1))
  have HK2 := Lib.hid (HK1.out.setCell (p := ⟨gw, i * 3 + 1, none⟩) (.inl (by simp)) (.int .i64 ((d + 1 : Nat) : Int)))
  clear c1 f1 H5 HC1 HW1 HK1 e2
  generalize w1.setCell ⟨gw, i * 3 + 1, none⟩ (.int .i64 ((d + 1 : Nat) : Int)) = w2 at *
  have k1 := HW2.out.kp i hi
  rw [HKE.out] at k1
  have q4 := H52.out.cell 4
  have q2 := H52.out.cell 2
  have z2 := H52.out.frozen 2
  simp only [List.getElem?_toArray, List.getElem?_cons_zero, List.getElem?_cons_succ] at q4 q2
  go_upto_if 24 with fail
  go_cut [4] (fun s4 wx => s4 = .int .u64 0 ∧ Blk wx go 27 #[.int .i64 kind, .int .i64 cell, .int .u64 (stA ⟨kind, cell, a, bb, kept⟩ k), .int .u64 bb, .bool kept] ∧ Cl wx gc gn n l ∧ Wks wx gw m P (upd D i (d + 1)) K ∧ Keep [gn, gw] w wx)
  case first =>
    cases kept
    · go_wp2
      go_meet
      exact ⟨rfl, H52.out, HC2.out, HW2.out, HK2.out⟩
    · go_wp2
      go_meet
      exact ⟨rfl, H52.out.set 2 _, HC2.out.other (p := ⟨go, 2, none⟩) (Ne.symm ngc) (Ne.symm ngn) _, HW2.out.keep (bs := [go]) ((Keep.refl _ _).setCell (.inl (by simp)) _) (by simpa using ngo), HK2.out.setCell (p := ⟨go, 2, none⟩) (.inr hgo') _⟩
  case rest =>
    obtain ⟨rfl, h5, hC, hW, hKp⟩ := hcut
    have H5 := Lib.hid h5
    have HC3 := Lib.hid hC
    have HW3 := Lib.hid hW
    have HK3 := Lib.hid hKp
    clear h5 hC hW hKp H52 HC2 HW2 HK2 k1 q4 q2 z2
    have q0 := H5.out.cell 0
    have q1 := H5.out.cell 1
    have q2 := H5.out.cell 2
    have q3 := H5.out.cell 3
    simp only [List.getElem?_toArray, List.getElem?_cons_zero, List.getElem?_cons_succ] at q0 q1 q2 q3
    have HLn := Lib.hid HC3.out.len
    have hau : U64 (stA ⟨kind, cell, a, bb, kept⟩ k) := by
      unfold stA
      split
      · exact hKu
      · exact hok.2.2.1
    obtain ⟨x, hx⟩ : ∃ x, x = stA ⟨kind, cell, a, bb, kept⟩ k := ⟨_, rfl⟩
    rw [← hx] at q2 hau
    have HX := Lib.hid hx
    clear hx H5
    have hbu : U64 bb := hok.2.2.2
    have HG := Lib.hid (fun (h : stIn l ⟨kind, cell, a, bb, kept⟩ = true) => show stG l ⟨kind, cell, a, bb, kept⟩ k = opG l kind.toNat cell.toNat x ∧ stL l ⟨kind, cell, a, bb, kept⟩ k = opL l kind.toNat cell.toNat x bb by unfold stG stL; rw [if_pos h, if_pos h, ← HX.out]; exact ⟨rfl, rfl⟩)
    have HO := Lib.hid (fun (h : stIn l ⟨kind, cell, a, bb, kept⟩ = false) => show stG l ⟨kind, cell, a, bb, kept⟩ k = 0 ∧ stL l ⟨kind, cell, a, bb, kept⟩ k = l by unfold stG stL; rw [h]; exact ⟨rfl, rfl⟩)
    have HI := Lib.hid (show stIn l ⟨kind, cell, a, bb, kept⟩ = (inC n cell && decide (0 ≤ kind ∧ kind < 4)) by unfold stIn; rw [HLn.out])
    have HKz := Lib.hid (stK_zero l kind cell a bb kept k)
    have HKn := Lib.hid (stK_not l kind cell a bb kept k)
    have HUK := Lib.hid (show upd K i k = K by funext j; unfold upd; split; (rename_i e; rw [e, HKE.out]); rfl)
    have hk5 : (kind = 0 ∨ kind = 1 ∨ kind = 2 ∨ kind = 3) ∨ (kind < 0 ∨ 3 < kind) := by omega
    have b0 := hok.1
    have b1 := hok.2.1
    clear hok
    rcases hk5 with hk4 | hk5
    · by_cases hin : inC n cell = true
      · obtain ⟨ci, rfl⟩ : ∃ ci : Nat, cell = (ci : Int) := ⟨cell.toNat, by unfold inC at hin; simp at hin; omega⟩
        have hci : ci < n := by unfold inC at hin; simp at hin; omega
        have HI2 := Lib.hid (HG.out (by rw [HI.out, hin]; simp; omega))
        clear hin HG HO HI
        simp only [Int.toNat_natCast] at HI2
        rcases hk4 with rfl | rfl | rfl | rfl
        · go_wp2_with fail
          refine (load_any HC3.out ci hci).mono ?_
          rintro e w4 ⟨rfl, rfl⟩
          have k2 := HW3.out.kp i hi
          have f2 := HW3.out.free (i * 3 + 2)
          go_wp2
          go_ret
          obtain ⟨hg, hl'⟩ := HI2.out
          refine ⟨by rw [hg]; rfl, by rw [hl']; exact HC3.out.other (p := ⟨gw, i * 3 + 2, none⟩) hgc hgn _, ?_, HK3.out.setCell (p := ⟨gw, i * 3 + 2, none⟩) (.inl (by simp)) _⟩
          rw [HKz.out (by simp), hg]
          exact HW3.out.setK i hi _
        · go_wp2_with fail
          refine (store_any HC3.out ci hci x).mono ?_
          rintro e w4 ⟨rfl, hw⟩
          have HC4 := Lib.hid (show Cl w4 gc gn n (l.set ci (x)) by rw [hw]; exact HC3.out.set ci _ hau)
          have HW4 := Lib.hid (show Wks w4 gw m P (upd D i (d + 1)) K by rw [hw]; exact HW3.out.keep (bs := [gn]) ((Keep.refl _ _).setCell (.inl (by simp)) _) (by simpa using hgn))
          have HK4 := Lib.hid (show Keep [gn, gw] w w4 by rw [hw]; exact HK3.out.setCell (p := ⟨gn, ci, none⟩) (.inl (by simp)) _)
          clear hw
          go_wp2
          go_ret
          obtain ⟨hg, hl'⟩ := HI2.out
          refine ⟨by rw [hg]; rfl, by rw [hl']; exact HC4.out, ?_, HK4.out⟩
          rw [HKn.out (by omega), HUK.out]
          exact HW4.out
        · by_cases hx : l.getD ci 0 = x
          · have HXE := Lib.hid hx
            clear hx
            go_wp2_with fail
            refine (cas_yes HC3.out ci hci x bb HXE.out).mono ?_
            rintro e w4 ⟨rfl, hw⟩
            have HC4 := Lib.hid (show Cl w4 gc gn n (l.set ci (bb)) by rw [hw]; exact HC3.out.set ci _ hbu)
            have HW4 := Lib.hid (show Wks w4 gw m P (upd D i (d + 1)) K by rw [hw]; exact HW3.out.keep (bs := [gn]) ((Keep.refl _ _).setCell (.inl (by simp)) _) (by simpa using hgn))
            have HK4 := Lib.hid (show Keep [gn, gw] w w4 by rw [hw]; exact HK3.out.setCell (p := ⟨gn, ci, none⟩) (.inl (by simp)) _)
            clear hw
            go_wp2
            go_ret
            obtain ⟨hg, hl'⟩ := HI2.out
            refine ⟨by rw [hg]; exact congrArg (fun z => Ending.returned (.int .u64 z)) (if_pos HXE.out).symm, by rw [hl']; exact (by rw [show opL l (2 : Int).toNat ci x bb = l.set ci bb from if_pos HXE.out]; exact HC4.out), ?_, HK4.out⟩
            rw [HKn.out (by omega), HUK.out]
            exact HW4.out
          · have HXE := Lib.hid hx
            clear hx
            go_wp2_with fail
            refine (cas_miss HC3.out ci hci x bb HXE.out).mono ?_
            rintro e w4 ⟨rfl, rfl⟩
            go_wp2
            go_ret
            obtain ⟨hg, hl'⟩ := HI2.out
            refine ⟨by rw [hg]; exact congrArg (fun z => Ending.returned (.int .u64 z)) (if_neg HXE.out).symm, by rw [hl']; exact (by rw [show opL l (2 : Int).toNat ci x bb = l from if_neg HXE.out]; exact HC3.out), ?_, HK3.out⟩
            rw [HKn.out (by omega), HUK.out]
            exact HW3.out
        · go_wp2_with fail
          refine (add_any HC3.out ci hci x).mono ?_
          rintro e w4 ⟨rfl, hw⟩
          have HC4 := Lib.hid (show Cl w4 gc gn n (l.set ci (m64 (l.getD ci 0 + x))) by rw [hw]; exact HC3.out.set ci _ (m64_u _))
          have HW4 := Lib.hid (show Wks w4 gw m P (upd D i (d + 1)) K by rw [hw]; exact HW3.out.keep (bs := [gn]) ((Keep.refl _ _).setCell (.inl (by simp)) _) (by simpa using hgn))
          have HK4 := Lib.hid (show Keep [gn, gw] w w4 by rw [hw]; exact HK3.out.setCell (p := ⟨gn, ci, none⟩) (.inl (by simp)) _)
          clear hw
          go_wp2
          go_ret
          obtain ⟨hg, hl'⟩ := HI2.out
          refine ⟨by rw [hg]; rfl, by rw [hl']; exact HC4.out, ?_, HK4.out⟩
          rw [HKn.out (by omega), HUK.out]
          exact HW4.out
      · have hout : inC n cell = false := by simpa using hin
        have HOU := Lib.hid hout
        have HI2 := Lib.hid (HO.out (by rw [HI.out, hout]; rfl))
        clear hin hout HG HO HI
        rcases hk4 with rfl | rfl | rfl | rfl
        · go_wp2_with fail
          refine (load_out HC3.out cell HOU.out).mono ?_
          rintro e w4 ⟨rfl, rfl⟩
          have k2 := HW3.out.kp i hi
          have f2 := HW3.out.free (i * 3 + 2)
          go_wp2
          go_ret
          obtain ⟨hg, hl'⟩ := HI2.out
          refine ⟨by rw [hg]; rfl, by rw [hl']; exact HC3.out.other (p := ⟨gw, i * 3 + 2, none⟩) hgc hgn _, ?_, HK3.out.setCell (p := ⟨gw, i * 3 + 2, none⟩) (.inl (by simp)) _⟩
          rw [HKz.out (by simp), hg]
          exact HW3.out.setK i hi _
        · go_wp2_with fail
          refine (store_out HC3.out cell HOU.out x).mono ?_
          rintro e w4 ⟨rfl, rfl⟩
          go_wp2
          go_ret
          obtain ⟨hg, hl'⟩ := HI2.out
          refine ⟨by rw [hg]; rfl, by rw [hl']; exact HC3.out, ?_, HK3.out⟩
          rw [HKn.out (by omega), HUK.out]
          exact HW3.out
        · go_wp2_with fail
          refine (cas_out HC3.out cell HOU.out x bb).mono ?_
          rintro e w4 ⟨rfl, rfl⟩
          go_wp2
          go_ret
          obtain ⟨hg, hl'⟩ := HI2.out
          refine ⟨by rw [hg]; rfl, by rw [hl']; exact HC3.out, ?_, HK3.out⟩
          rw [HKn.out (by omega), HUK.out]
          exact HW3.out
        · go_wp2_with fail
          refine (add_out HC3.out cell HOU.out x).mono ?_
          rintro e w4 ⟨rfl, rfl⟩
          go_wp2
          go_ret
          obtain ⟨hg, hl'⟩ := HI2.out
          refine ⟨by rw [hg]; rfl, by rw [hl']; exact HC3.out, ?_, HK3.out⟩
          rw [HKn.out (by omega), HUK.out]
          exact HW3.out
    · have HI2 := Lib.hid (HO.out (by rw [HI.out]; simp; intro _; omega))
      clear HG HO HI
      have e0 : (kind == 0) = false := by rw [beq_eq_false_iff_ne]; omega
      have e1 : (kind == 1) = false := by rw [beq_eq_false_iff_ne]; omega
      have e2 : (kind == 2) = false := by rw [beq_eq_false_iff_ne]; omega
      have e3 : (kind == 3) = false := by rw [beq_eq_false_iff_ne]; omega
      go_wp2
      go_ret
      obtain ⟨hg, hl'⟩ := HI2.out
      refine ⟨by rw [hg]; rfl, by rw [hl']; exact HC3.out, ?_, HK3.out⟩
      rw [HKn.out (by omega), HUK.out]
      exact HW3.out
end Go.Proofs.Ytgengboaoniogaa
