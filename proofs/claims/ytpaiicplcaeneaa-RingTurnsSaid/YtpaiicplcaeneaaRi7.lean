/-
  Package ring: Copy, All; calls of none. Conditions stand in each theorem.
-/
import Derived.Test.YtpaiicplcaeneaaRf4
namespace Go.Proofs.Ytpaiicplcaeneaa
open Go.RowKit Plain
set_option linter.unusedVariables false
set_option maxRecDepth 100000
theorem rPut_nil (v : Int) (w : World) : Calls Try.prog 13 #[.pointer none, .int .u64 v] w fun e w' => e = .returned (.pointer none) ∧ w = w' := by
  go_enter Try.func13, Try.ntmps13
  go_wp2
  go_ret
  exact ⟨rfl, rfl⟩
theorem rGet_nil (w : World) : Calls Try.prog 14 #[.pointer none] w fun e w' => e = .returned (.pointer none) ∧ w = w' := by
  go_enter Try.func14, Try.ntmps14
  go_wp2
  go_ret
  exact ⟨rfl, rfl⟩
theorem rLen_nil (w : World) : Calls Try.prog 16 #[.pointer none] w fun e w' => e = .returned (.int .i64 0) ∧ w = w' := by
  go_enter Try.func16, Try.ntmps16
  go_wp2
  go_ret
  exact ⟨rfl, rfl⟩
theorem rAll_nil (w : World) : Calls Try.prog 17 #[.pointer none] w fun e w' => e = .returned (.slice none 0 0) ∧ w = w' := by
  go_enter Try.func17, Try.ntmps17
  go_wp2
  go_ret
  exact ⟨rfl, rfl⟩
theorem rCopy_nil (w : World) : Calls Try.prog 18 #[.pointer none] w fun e w' => e = .returned (.slice none 0 0) ∧ w = w' := by
  go_enter Try.func18, Try.ntmps18
  go_wp2
  go_ret
  exact ⟨rfl, rfl⟩
theorem none20_any (w : World) : Calls Try.prog 11 #[] w fun e w' => e = .returned (.tuple #[.pointer none, .pointer none]) ∧ w = w' := by
  go_enter Try.func11, Try.ntmps11
  go_wp2
  go_ret2
  exact ⟨rfl, rfl⟩
section
variable {w : World} {gr gc gn N : Nat} {pu go : Nat} {pu' go' : Int} {l vs : List Int} {P G : Option Nat} {p g : RSt}
def SrR (gr gc : Nat) (W : World) : Prop := W.cell? ⟨gr, 0, none⟩ = some (.pointer (some ⟨gc, 0, none⟩))
/-- a row of numbers that is known whole -/
def RrOk (zs : List Int) (n : Nat) (w : World) (e : Ending) (w' : World) : Prop :=
  ∃ a, e = .returned (.slice (some ⟨a, 0, none⟩) n n) ∧ Row .u64 22 w' a zs ∧ Below w.heap.size w w'
theorem rCopy_any (h : RgB w gr gc gn N pu' go' l P G p g) :
    Calls Try.prog 18 #[.pointer (some ⟨gr, 0, none⟩)] w (RrOk l (N + 2) w) := by
  have r0 : w.cell? ⟨gr, 0, none⟩ = some (.pointer (some ⟨gc, 0, none⟩)) := h.rs.cell 0
  have n2 := h.n2
  have HC := Lib.hid (copy_any h.cl (by omega))
  clear h
  go_enter Try.func18, Try.ntmps18
  go_wp2_with fail
  refine (HC.out).mono ?_
  rintro e w1 ⟨rfl, hr, hb⟩
  have HR := Lib.hid hr
  have HB := Lib.hid hb
  clear hr hb
  go_wp2
  go_ret
  exact ⟨_, rfl, HR.out, HB.out⟩
set_option maxHeartbeats 4000000 in
theorem rAll_any (h : RgB w gr gc gn N pu' go' (nL go pu vs) P G p g) (h1 : go ≤ pu) (h2 : pu ≤ go + N) (h3 : pu ≤ 1000000) (hu : ∀ x ∈ vs, U64 x) :
    Calls Try.prog 17 #[.pointer (some ⟨gr, 0, none⟩)] w (RrOk (alL N go vs (pu - go)) (pu - go) w) := by
  have r0 : w.cell? ⟨gr, 0, none⟩ = some (.pointer (some ⟨gc, 0, none⟩)) := h.rs.cell 0
  have n1 := h.n1
  have n2 := h.n2
  have HL0 := Lib.hid (load_eq h.cl 0 (by omega) (go : Int) rfl)
  have HLEN := Lib.hid (rLen_any h h1 h2 h3)
  have H := Lib.hid h
  obtain ⟨n, hn⟩ : ∃ n, pu - go = n := ⟨_, rfl⟩
  rw [hn] at HLEN
  rw [hn]
  have hnN : n ≤ N := by omega
  have hgn : go + n ≤ 1000000 := by omega
  clear h hn
  go_enter Try.func17, Try.ntmps17
  go_upto_region 4 with (go_at_call 10; refine (HL0.out).mono ?_; rintro e w' ⟨rfl, rfl⟩)
  go_wp2_with fail
  refine (HLEN.out).mono ?_
  rintro e w1 ⟨rfl, hb1⟩
  have H1 := Lib.hid (H.out.below hb1)
  have HB1 := Lib.hid hb1
  have hmk := mk64 n (by omega) w1
  clear hb1 HLEN HL0 r0
  go_upto_region 5 with fail
  have er : ((List.replicate n (0 : Int)).map (Value.int .u64)).toArray = Array.replicate n (Value.int .u64 0) := by simp
  rw [er] at hmk
  have HW := Lib.hid (Row.made .u64 22 w1 n)
  have H2 := Lib.hid (H1.out.below (ball w1 (.cells ((List.replicate n (0 : Int)).map (Value.int .u64)).toArray 22)))
  have HB2 := Lib.hid (bthen HB1.out (ball w1 (.cells ((List.replicate n (0 : Int)).map (Value.int .u64)).toArray 22)))
  have hga : w.heap.size ≤ w1.heap.size := HB1.out.size
  rw [er] at HW H2 HB2
  clear er hmk H1 HB1
  generalize w1.alloc (.cells (Array.replicate n (Value.int .u64 0)) 22) = w2 at *
  generalize w1.heap.size = ga at *
  go_wp2
  go_loopw [18] (fun s18 wt => ∃ (k : Nat) (zs : List Int), s18 = .int .i64 k ∧ k ≤ n ∧ zs.length = n ∧ Row .u64 22 wt ga zs ∧ (∀ j, j < k → zs.getD j 0 = (alL N go vs n).getD j 0) ∧ RgB wt gr gc gn N pu' go' (nL go pu vs) P G p g ∧ Below w.heap.size w wt) (fun k _ => n - (intOf k).toNat)
  case atStart => exact ⟨0, _, rfl, by omega, List.length_replicate, HW.out, by omega, H2.out, HB2.out⟩
  case round =>
    obtain ⟨k, zs, rfl, hk, hzl, hrow, hag, hrg, hbel⟩ := hrel
    have HR := Lib.hid hrow
    have HZ := Lib.hid hzl
    have HAG := Lib.hid hag
    have H3 := Lib.hid hrg
    have HB3 := Lib.hid hbel
    clear hrow hzl hag hrg hbel HW H2 HB2
    by_cases hlt : k < n
    · obtain ⟨m, hmm⟩ : ∃ m, (go + k) % N = m := ⟨_, rfl⟩
      have hml : m < N := by rw [← hmm]; exact Nat.mod_lt _ (by omega)
      obtain ⟨x, hx⟩ : ∃ x, vs.getD m 0 = x := ⟨_, rfl⟩
      have HX := Lib.hid (show (alL N go vs n).getD k 0 = x by
        unfold alL
        rw [List.getD_eq_getElem?_getD, List.getElem?_map, List.getElem?_range hlt]
        show vs.getD ((go + k) % N) 0 = x
        rw [hmm]; exact hx)
      obtain ⟨j, hj⟩ : ∃ j, j = go + k := ⟨_, rfl⟩
      have e1 : (go : Int) + (k : Int) = (j : Int) := by omega
      have e2 : IntKind.u64.wrap ((go : Int) + (k : Int)) = (j : Int) := by rw [IntKind.wrap_u64]; omega
      have e3 : IntKind.u64.wrap (k : Int) = (k : Int) := by rw [IntKind.wrap_u64]; omega
      have e4 : IntKind.u64.wrap (j : Int) = (j : Int) := by rw [IntKind.wrap_u64]; omega
      have HCE := Lib.hid (show ∀ q, Calls Try.prog 41 #[.pointer (some ⟨gr, 0, none⟩), .int .u64 (j : Int)] (wr.drewN q) (fun e w' => e = .returned (.int .i64 ((2 + m : Nat) : Int)) ∧ wr.drewN q = w') from fun q => by
        have := cellOf_any (H3.out.drewN q) j (by omega)
        subst hj
        rw [hmm] at this
        exact this)
      have HLD := Lib.hid (fun q => load_eq (H3.out.cl.drewN q) (2 + m) (by omega) x (by rw [nL_get]; exact hx))
      have r0 : wr.cell? ⟨gr, 0, none⟩ = some (.pointer (some ⟨gc, 0, none⟩)) := H3.out.rs.cell 0
      have c0 := HR.out.at (i := k) (by rw [HZ.out]; exact hlt)
      have f0 := HR.out.free k
      have hne : ga ≠ gr := blk_types HR.out H3.out.rs (by decide)
      have i0 : (0 : Int) ≤ (k : Int) := by omega
      have i1 : (k : Int) < (n : Int) := by omega
      generalize zs.getD k 0 = y at *
      obtain ⟨mm, hm2⟩ : ∃ mm, mm = 2 + m := ⟨_, rfl⟩
      rw [← hm2] at HCE HLD
      clear hx hmm hj hm2
      go_upto_region 8 with fail
--BEGIN8
      have rr : ∀ W, SrR gr gc W → W.cell? ⟨gr, 0, none⟩ = some (.pointer (some ⟨gc, 0, none⟩)) := fun W h => h
      refine wp_region_held_drew (S := (fun W => SrR gr gc W)) (by kernel_rfl) (show SrR gr gc wr.drew from r0) (fun hHeld => ?_)
      refine wpAnyH_take (i := 0) (oi := ⟨some 21, _, _, _, _, _⟩) (v := ?tva0) rfl (by kernel_rfl) (by kernel_rfl) (by kernel_rfl) (fun _ _ _ h => h) (Or.inl ⟨by kernel_rfl, ?tya0⟩) (by assumption) ?tra0
      case tya0 => (intro w hSw; first | (go_simp; done) | (go_simp; with_reducible rfl))
      case' tra0 => try simp only [Act.put, List.setIfInBounds_toArray, List.set_cons_zero, List.set_cons_succ]
      refine wpAnyH_take (i := 1) (oi := ⟨some 22, _, _, _, _, _⟩) (v := ?tva1) rfl (by kernel_rfl) (by kernel_rfl) (by kernel_rfl) (fun _ _ _ h => h) (Or.inl ⟨by kernel_rfl, ?tya1⟩) (by assumption) ?tra1
      case tya1 => (intro w hSw; first | (go_simp; done) | (go_simp; with_reducible rfl))
      case' tra1 => try simp only [Act.put, List.setIfInBounds_toArray, List.set_cons_zero, List.set_cons_succ]
      refine wpAnyH_take (i := 2) (oi := ⟨some 23, _, _, _, _, _⟩) (v := ?tva2) rfl (by kernel_rfl) (by kernel_rfl) (by kernel_rfl) (fun _ _ _ h => h) (Or.inl ⟨by kernel_rfl, ?tya2⟩) (by assumption) ?tra2
      case tya2 => (intro w hSw; first | (go_simp; done) | (go_simp; with_reducible rfl))
      case' tra2 => try simp only [Act.put, List.setIfInBounds_toArray, List.set_cons_zero, List.set_cons_succ]
      refine wpAnyH_take (i := 3) (oi := ⟨some 24, _, _, _, _, _⟩) (v := ?tva3) rfl (by kernel_rfl) (by kernel_rfl) (by kernel_rfl) (fun _ _ _ h => h) (Or.inl ⟨by kernel_rfl, ?tya3⟩) (by assumption) ?tra3
      case tya3 => (intro w hSw; first | (go_simp; done) | (go_simp; with_reducible rfl))
      case' tra3 => try simp only [Act.put, List.setIfInBounds_toArray, List.set_cons_zero, List.set_cons_succ]
      refine wpAnyH_take (i := 4) (oi := ⟨some 25, _, _, _, _, _⟩) (v := ?tva4) rfl (by kernel_rfl) (by kernel_rfl) (by kernel_rfl) (fun _ _ _ h => h) (Or.inl ⟨by kernel_rfl, ?tya4⟩) (by assumption) ?tra4
      case tya4 => (intro w hSw; first | (go_simp; done) | (go_simp; with_reducible rfl))
      case' tra4 => try simp only [Act.put, List.setIfInBounds_toArray, List.set_cons_zero, List.set_cons_succ]
      refine wpAnyH_take (i := 5) (oi := ⟨some 26, _, _, _, _, _⟩) (v := ?tva5) rfl (by kernel_rfl) (by kernel_rfl) (by kernel_rfl) (fun _ _ _ h => h) (Or.inl ⟨by kernel_rfl, ?tya5⟩) (by assumption) ?tra5
      case tya5 => (intro w hSw; first | (go_simp; done) | (go_simp; with_reducible rfl))
      case' tra5 => try simp only [Act.put, List.setIfInBounds_toArray, List.set_cons_zero, List.set_cons_succ]
      refine wpAnyH_take (i := 6) (oi := ⟨some 27, _, _, _, _, _⟩) (v := ?tva6) rfl (by kernel_rfl) (by kernel_rfl) (by kernel_rfl) (fun _ _ _ h => h) (Or.inl ⟨by kernel_rfl, ?tya6⟩) (by assumption) ?tra6
      case tya6 => (intro w hSw; first | (go_simp; done) | (go_simp; with_reducible rfl))
      case' tra6 => try simp only [Act.put, List.setIfInBounds_toArray, List.set_cons_zero, List.set_cons_succ]
      refine wpAnyH_take (i := 7) (oi := ⟨some 28, _, _, _, _, _⟩) (v := ?tva7) rfl (by kernel_rfl) (by kernel_rfl) (by kernel_rfl) (fun _ _ _ h => h) (Or.inl ⟨by kernel_rfl, ?tya7⟩) (by assumption) ?tra7
      case tya7 => (intro w hSw; first | (go_simp; done) | (go_simp; with_reducible rfl))
      case' tra7 => try simp only [Act.put, List.setIfInBounds_toArray, List.set_cons_zero, List.set_cons_succ]
      refine wpAnyH_take (i := 8) (oi := ⟨some 29, _, _, _, _, _⟩) (v := ?tva8) rfl (by kernel_rfl) (by kernel_rfl) (by kernel_rfl) (fun _ _ _ h => h) (Or.inl ⟨by kernel_rfl, ?tya8⟩) (by assumption) ?tra8
      case tya8 => (intro w hSw; first | (go_simp; done) | (go_simp; with_reducible rfl))
      case' tra8 => try simp only [Act.put, List.setIfInBounds_toArray, List.set_cons_zero, List.set_cons_succ]
      refine wpAnyH_take (i := 9) (oi := ⟨some 30, _, _, _, _, _⟩) (v := ?tva9) rfl (by kernel_rfl) (by kernel_rfl) (by kernel_rfl) (fun _ _ _ h => h) (Or.inl ⟨by kernel_rfl, ?tya9⟩) (by assumption) ?tra9
      case tya9 => (intro w hSw; first | (go_simp; done) | (go_simp; with_reducible rfl))
      case' tra9 => try simp only [Act.put, List.setIfInBounds_toArray, List.set_cons_zero, List.set_cons_succ]
      refine wpAnyH_take (i := 10) (oi := ⟨some 31, _, _, _, _, _⟩) (v := ?tva10) rfl (by kernel_rfl) (by kernel_rfl) (by kernel_rfl) (fun _ _ _ h => h) (Or.inl ⟨by kernel_rfl, ?tya10⟩) (by assumption) ?tra10
      case tya10 => (intro w hSw; first | (go_simp; done) | (go_simp; with_reducible rfl))
      case' tra10 => try simp only [Act.put, List.setIfInBounds_toArray, List.set_cons_zero, List.set_cons_succ]
      refine wpAnyH_ready (rs := [11]) (by kernel_rfl) (by simp) ?_
      refine AllReadyH.cons (o := ⟨some 32, _, _, _, _, _⟩) rfl (fun K hK => ?_) AllReadyH.nil
      go_simp
      go_at_call 41
      refine (HCE.out 1).mono ?_
      rintro e w3 ⟨rfl, rfl⟩
      refine hK.out _ _ hHeld (fun hHeld0 => ?_)
      clear hK K hHeld0
      try simp only [Act.put, List.setIfInBounds_toArray, List.set_cons_zero, List.set_cons_succ]
      refine wpAnyH_ready (rs := [12]) (by kernel_rfl) (by simp) ?_
      refine AllReadyH.cons (o := ⟨some 33, _, _, _, _, _⟩) rfl (fun K hK => ?_) AllReadyH.nil
      go_simp
      go_at_call 10
      refine (HLD.out 1).mono ?_
      rintro e w4 ⟨rfl, rfl⟩
      refine hK.out _ _ hHeld (fun hHeld0 => ?_)
      clear hK K hHeld0
      try simp only [Act.put, List.setIfInBounds_toArray, List.set_cons_zero, List.set_cons_succ]
      refine wpAnyH_take (i := 13) (oi := ⟨some 34, _, _, _, _, _⟩) (v := ?tva13) rfl (by kernel_rfl) (by kernel_rfl) (by kernel_rfl) (fun _ _ _ h => h) (Or.inl ⟨by kernel_rfl, ?tya13⟩) (by assumption) ?tra13
      case tya13 => (intro w hSw; first | (go_simp; done) | (go_simp; with_reducible rfl))
      case' tra13 => try simp only [Act.put, List.setIfInBounds_toArray, List.set_cons_zero, List.set_cons_succ]
      refine wpAnyH_ready (rs := [14]) (by kernel_rfl) (by simp) ?_
      refine AllReadyH.cons (o := ⟨none, _, _, _, _, _⟩) rfl (fun K hK => ?_) AllReadyH.nil
      go_simp
      refine hK.out _ _ (show SrR gr gc _ from (World.cell?_setCell_other _ _ _ _ (by simp <;> omega)).trans r0) (fun hHeld0 => ?_)
      clear hK K hHeld0 hHeld
      try simp only [Act.put, List.setIfInBounds_toArray, List.set_cons_zero, List.set_cons_succ]
      refine wpAnyH_done (by kernel_rfl) ?_ _
      have h4 := (H3.out.drewN 1).oth (HR.out : Row .u64 22 (wr.drewN 1) ga zs) (by decide) (by decide) (by decide) (by decide) k (.int .u64 x)
      have hr4 := (show Row .u64 22 (wr.drewN 1) ga zs from HR.out).set k x
      have hb4 : Below w.heap.size w ((wr.drewN 1).setCell ⟨ga, k, none⟩ (.int .u64 x)) := (bthen HB3.out (bdrewN wr 1)).setCell (p := ⟨ga, k, none⟩) hga _
      have H4 := Lib.hid h4
      have HR4 := Lib.hid hr4
      have HB4 := Lib.hid hb4
      have HAG4 := Lib.hid (agree_set HAG.out (by rw [HZ.out]; exact hlt))
      have HX2 := Lib.hid HX.out
      clear h4 hr4 hb4 c0 f0 r0 HLD HCE HR H3 HB3 HAG e1 e2 e3 e4 rr HX
      generalize (wr.drewN 1).setCell ⟨ga, k, none⟩ (.int .u64 x) = w5 at *
      go_wp2
      go_roundw
      case rel => exact ⟨k + 1, zs.set k x, rfl, by omega, by rw [List.length_set]; exact HZ.out, HR4.out, (by rw [← HX2.out]; exact HAG4.out), H4.out, HB4.out⟩
      case measure => simp [intOf]; omega
--END8
    · obtain rfl : k = n := by omega
      have hz : zs = alL N go vs k := by
        refine List.ext_getElem (by rw [HZ.out, alL_len]) fun i h1 h2 => ?_
        have := HAG.out i (by rw [HZ.out] at h1; exact h1)
        rw [List.getD_eq_getElem?_getD, List.getD_eq_getElem?_getD, List.getElem?_eq_getElem h1, List.getElem?_eq_getElem h2] at this
        exact this
      have HR2 := Lib.hid (show Row .u64 22 wr ga (alL N go vs k) by rw [← hz]; exact HR.out)
      clear hz
      go_wp2
      go_ret
      exact ⟨_, rfl, HR2.out, HB3.out⟩
end
end Go.Proofs.Ytpaiicplcaeneaa
