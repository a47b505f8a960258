/-
  Package pool: None, Same, Word of a Step; Same of a pool; calls of none. Conditions stand in each theorem.
-/
import Derived.Test.YtmbceafeonjffaaGI
import Derived.Test.YtmbceafeonjffaaLdc
import Derived.Lib.Builder
namespace Go.Proofs.Ytmbceafeonjffaa
open Go.RowKit Go.Deep Plain
set_option linter.unusedVariables false
set_option linter.unusedSimpArgs false
set_option maxRecDepth 100000
set_option maxHeartbeats 4000000 in
theorem pnone_any {w : World} {gs gc n : Nat} {s : Ps} (hs : StW w gs gc n s) :
    Calls Try.prog 20 #[.pointer (some ⟨gs, 0, none⟩)] w fun e w' => e = .returned (.bool s.no) ∧ w = w' := by
  obtain ⟨⟨gv, hsp, hg⟩, _⟩ := hs
  have c38 := hsp.c38
  clear hsp hg
  go_enter Try.func20, Try.ntmps20
  go_wp2
  go_ret
  exact ⟨rfl, rfl⟩
set_option maxHeartbeats 4000000 in
theorem psame_any {w : World} {gs gc n : Nat} {s : Ps} (hs : StW w gs gc n s) :
    Calls Try.prog 21 #[.pointer (some ⟨gs, 0, none⟩)] w fun e w' => e = .returned (.bool s.sm) ∧ w = w' := by
  obtain ⟨⟨gv, hsp, hg⟩, _⟩ := hs
  have c39 := hsp.c39
  clear hsp hg
  go_enter Try.func21, Try.ntmps21
  go_wp2
  go_ret
  exact ⟨rfl, rfl⟩
/-- what Same begins -/
def sameP (n : Nat) (t : Ps) : Ps := ⟨3, 0, n, 0, t.rd, 0, false, false, []⟩
theorem sameP_ok {n : Nat} {t : Ps} (h : OkS n t) : OkS n (sameP n t) := ⟨h.rd, by simp [sameP], Nat.lt_of_le_of_lt (Nat.zero_le _) h.wd, by simp [sameP], fun q => by simp [sameP] at q, fun _ => ⟨by simp [sameP], Nat.lt_of_le_of_lt (Nat.zero_le _) h.wd⟩, fun q => by simp [sameP] at q, fun g hg => by simp [sameP] at hg, by simp [sameP]⟩
/-! pool.Same -/
theorem set_take (L : List Value) (p : Nat) (a : Value) (h : p < L.length) : (L.set p a).take (p + 1) = L.take p ++ [a] := by
  refine List.ext_getElem? fun i => ?_
  rcases Nat.lt_trichotomy i p with q | q | q
  · rw [List.getElem?_take_of_lt (by omega), List.getElem?_set_ne (by omega), List.getElem?_append_left (by simp; omega), List.getElem?_take_of_lt q]
  · subst q
    rw [List.getElem?_take_of_lt (by omega), List.getElem?_append_right (by simp; omega)]
    simp [h, Nat.min_eq_left (Nat.le_of_lt h)]
  · rw [List.getElem?_eq_none (by simp; omega), List.getElem?_eq_none (by simp; omega)]
theorem foldset (l : List Value) : ∀ (k : Nat) (A : Array Value), 5 + k + l.length ≤ A.size → List.foldl (fun cs (x : Value × Nat) => cs.setIfInBounds (5 + x.snd) x.fst) A (l.zipIdx k) = (A.toList.take (5 + k) ++ l ++ A.toList.drop (5 + k + l.length)).toArray := by
  induction l with
  | nil => intro k A h; simp
  | cons a l ih =>
    intro k A h
    simp only [List.length_cons] at h
    rw [List.zipIdx_cons, List.foldl_cons, ih (k + 1) _ (by simp; omega)]
    simp only [Array.toList_setIfInBounds]
    rw [show 5 + (k + 1) = (5 + k) + 1 by omega, set_take _ _ _ (by simp; omega), List.drop_set_of_lt (by omega)]
    simp [Nat.add_comm, Nat.add_left_comm, Nat.add_assoc]
theorem fold32 (l : List Value) (h : l.length = 32) {v0 v1 v2 v3 v4 z0 z1 z2 z3 z4 z5 z6 z7 z8 z9 z10 z11 z12 z13 z14 z15 z16 z17 z18 z19 z20 z21 z22 z23 z24 z25 z26 z27 z28 z29 z30 z31 e0 e1 e2 e3 : Value} : List.foldl (fun cs (x : Value × Nat) => cs.setIfInBounds (5 + x.snd) x.fst) #[v0, v1, v2, v3, v4, z0, z1, z2, z3, z4, z5, z6, z7, z8, z9, z10, z11, z12, z13, z14, z15, z16, z17, z18, z19, z20, z21, z22, z23, z24, z25, z26, z27, z28, z29, z30, z31, e0, e1, e2, e3] l.zipIdx = (v0 :: v1 :: v2 :: v3 :: v4 :: (l ++ [e0, e1, e2, e3])).toArray := by
  rw [foldset l 0 _ (by simp [h]), h]
  rfl
def SmS (gp gs gc : Nat) (rd : List Int) (W : World) : Prop := W.cell? ⟨gp, 0, none⟩ = some (.pointer (some ⟨gc, 0, none⟩)) ∧ At W ⟨gs, 5, none⟩ (rd.map (Value.int .u64))
theorem SmS.c0 {gp gs gc : Nat} {rd : List Int} {W : World} (h : SmS gp gs gc rd W) : W.cell? ⟨gp, 0, none⟩ = some (.pointer (some ⟨gc, 0, none⟩)) := h.1
theorem sAr : Sty 75 32 := ⟨⟨_, Try.underlying75, rfl⟩, by unfold Siz; kernel_rfl⟩
theorem smS_load {gp gs gc : Nat} {rd : List Int} {W : World} (h : SmS gp gs gc rd W) (hl : rd.length = 32) : (loadVar 75 ⟨gs, 5, none⟩).run Try.prog W = .ok (.agg (rd.map (Value.int .u64)).toArray) W :=
  run_loadVar_at W ⟨gs, 5, none⟩ 75 (rd.map (Value.int .u64)) (by simpa [hl] using sAr) h.2
theorem StP.atr {w : World} {gs gc : Nat} {gv : Value} {s : Ps} (h : StP w gs gc gv s) : At w ⟨gs, 5, none⟩ (s.rd.map (Value.int .u64)) := by
  intro j v hv
  have hj : j < s.rd.length := by have := (List.getElem?_eq_some_iff.1 hv).1; simpa using this
  rw [addr_add, h.cr j (by rw [← h.len]; exact hj), ← hv]
  simp [hj, List.getD]
theorem StW.drewN {w : World} {gs gc n : Nat} {s : Ps} (h : StW w gs gc n s) (q : Nat) : StW (w.drewN q) gs gc n s := h.keep ((Keep.refl [] w).drewN q) (by simp) (by simp)
set_option maxHeartbeats 4000000 in
theorem pSame_any {w : World} {gp gc gn n gs : Nat} {size : Int} {l : List Int} {t : Ps} (h : PoS w gp gc gn n size l) (hn : n ≤ 32) (ht : StW w gs gc n t) (hno : t.no = true) :
    Calls Try.prog 19 #[.pointer (some ⟨gp, 0, none⟩), .pointer (some ⟨gs, 0, none⟩)] w fun e w' => e = .returned (.pointer (some ⟨w.heap.size, 0, none⟩)) ∧ StW w' w.heap.size gc n (sameP n t) ∧ Below w.heap.size w w' := by
  have c0 : w.cell? ⟨gp, 0, none⟩ = some (.pointer (some ⟨gc, 0, none⟩)) := h.ps.cell 0
  have hok := ht.ok
  have HNO := Lib.hid (fun q => pnone_any (ht.drewN q))
  rw [hno] at HNO
  have HCT := Lib.hid (fun q => pcount_any8 (h.drewN q))
  obtain ⟨⟨gv, hsp, hg⟩, _⟩ := ht
  have hrl := hsp.len
  have s0 := hsp.c0
  have HS := Lib.hid (show SmS gp gs gc t.rd w from ⟨c0, hsp.atr⟩)
  have hpl := h.ps.lt
  have hsl := hsp.blk.lt
  have HOK := Lib.hid (sameP_ok hok)
  clear hg hsp h hok
  obtain ⟨jj, hjj⟩ := Option.isSome_iff_exists.1 (show (Try.prog.info? 104).isSome = true by kernel_rfl)
  have ep : ∀ W : World, (binOp .neq 66 (.pointer (some ⟨gc, 0, none⟩)) (.pointer (some ⟨gc, 0, none⟩))).run Try.prog W = .ok (.bool false) W := fun W => Lib.run_neq_ptr_same W _ Try.underlying66 hjj
  go_enter Try.func19, Try.ntmps19
  go_upto_region 1 with fail
  go_region_held3 (fun W => W.cell? ⟨gp, 0, none⟩ = some (.pointer (some ⟨gc, 0, none⟩)) ∧ W.cell? ⟨gs, 0, none⟩ = some (.pointer (some ⟨gc, 0, none⟩)))
    (first | assumption | (exact ⟨c0, s0⟩) | go_keep)
    (first | (go_at_call 20; refine (HNO.out 1).mono ?_; rintro e w' ⟨rfl, rfl⟩))
  go_upto_region 3 with fail
  have HS0 := Lib.hid (show SmS gp gs gc t.rd (w.drewN 1) from HS.out)
  have hcr : ∀ W, SmS gp gs gc t.rd W → W.cell? ⟨gp, 0, none⟩ = some (.pointer (some ⟨gc, 0, none⟩)) := fun W h => h.c0
  refine wp_region_held_drew (S := (fun W => SmS gp gs gc t.rd W)) (by kernel_rfl) (HS0.out) (fun hHeld => ?_)
  refine wpAnyH_take (i := 0) (oi := ⟨some 23, _, _, _, _, _⟩) (v := ?tva0) rfl (by kernel_rfl) (by kernel_rfl) (by kernel_rfl) (fun _ _ _ h => h) (Or.inl ⟨by kernel_rfl, ?tya0⟩) (by assumption) ?tra0
  case tya0 => (intro w hSw; first | (go_simp; done) | (go_simp; with_reducible rfl))
  case' tra0 => try simp only [Act.put, List.setIfInBounds_toArray, List.set_cons_zero, List.set_cons_succ]
  refine wpAnyH_take (i := 1) (oi := ⟨some 24, _, _, _, _, _⟩) (v := ?tva1) rfl (by kernel_rfl) (by kernel_rfl) (by kernel_rfl) (fun _ _ _ h => h) (Or.inl ⟨by kernel_rfl, ?tya1⟩) (by assumption) ?tra1
  case tya1 => (intro w hSw; first | (go_simp; done) | (go_simp; with_reducible rfl))
  case' tra1 => try simp only [Act.put, List.setIfInBounds_toArray, List.set_cons_zero, List.set_cons_succ]
  refine wpAnyH_take (i := 2) (oi := ⟨some 25, _, _, _, _, _⟩) (v := ?tva2) rfl (by kernel_rfl) (by kernel_rfl) (by kernel_rfl) (fun _ _ _ h => h) (Or.inl ⟨by kernel_rfl, ?tya2⟩) (by assumption) ?tra2
  case tya2 => (intro w hSw; first | (go_simp; done) | (go_simp; with_reducible rfl))
  case' tra2 => try simp only [Act.put, List.setIfInBounds_toArray, List.set_cons_zero, List.set_cons_succ]
  refine wpAnyH_take (i := 3) (oi := ⟨some 26, _, _, _, _, _⟩) (v := ?tva3) rfl (by kernel_rfl) (by kernel_rfl) (by kernel_rfl) (fun _ _ _ h => h) (Or.inl ⟨by kernel_rfl, ?tya3⟩) (by assumption) ?tra3
  case tya3 => (intro w hSw; first | (go_simp; done) | (go_simp; with_reducible rfl))
  case' tra3 => try simp only [Act.put, List.setIfInBounds_toArray, List.set_cons_zero, List.set_cons_succ]
  refine wpAnyH_take (i := 4) (oi := ⟨some 27, _, _, _, _, _⟩) (v := ?tva4) rfl (by kernel_rfl) (by kernel_rfl) (by kernel_rfl) (fun _ _ _ h => h) (Or.inl ⟨by kernel_rfl, ?tya4⟩) (by assumption) ?tra4
  case tya4 => (intro w hSw; first | (go_simp; done) | (go_simp; with_reducible rfl))
  case' tra4 => try simp only [Act.put, List.setIfInBounds_toArray, List.set_cons_zero, List.set_cons_succ]
  refine wpAnyH_take (i := 6) (oi := ⟨some 29, _, _, _, _, _⟩) (v := ?tva6) rfl (by kernel_rfl) (by kernel_rfl) (by kernel_rfl) (fun _ _ _ h => h) (Or.inl ⟨by kernel_rfl, ?tya6⟩) (by assumption) ?tra6
  case tya6 => (intro w hSw; first | (go_simp; done) | (go_simp; with_reducible rfl))
  case' tra6 => try simp only [Act.put, List.setIfInBounds_toArray, List.set_cons_zero, List.set_cons_succ]
  refine wpAnyH_take (i := 7) (oi := ⟨some 30, _, _, _, _, _⟩) (v := ?tva7) rfl (by kernel_rfl) (by kernel_rfl) (by kernel_rfl) (fun _ _ _ h => h) (Or.inl ⟨by kernel_rfl, ?tya7⟩) (by assumption) ?tra7
  case tya7 => (intro w hSw; first | (go_simp; done) | (go_simp; with_reducible rfl))
  case' tra7 => try simp only [Act.put, List.setIfInBounds_toArray, List.set_cons_zero, List.set_cons_succ]
  refine wpAnyH_take (i := 8) (oi := ⟨some 31, _, _, _, _, _⟩) (v := ?tva8) rfl (by kernel_rfl) (by kernel_rfl) (by kernel_rfl) (fun _ _ _ h => h) (Or.inl ⟨by kernel_rfl, ?tya8⟩) (by assumption) ?tra8
  case tya8 => (intro w hSw; first | (go_simp; done) | (go_simp; with_reducible rfl))
  case' tra8 => try simp only [Act.put, List.setIfInBounds_toArray, List.set_cons_zero, List.set_cons_succ]
  refine wpAnyH_take (i := 9) (oi := ⟨some 32, _, _, _, _, _⟩) (v := .agg (t.rd.map (Value.int .u64)).toArray) rfl (by kernel_rfl) (by kernel_rfl) (by kernel_rfl) (fun _ _ _ h => h) (Or.inl ⟨by kernel_rfl, ?tya9⟩) (by assumption) ?tra9
  case tya9 => (intro w hSw; simp [execOp, Instr.loadAt, Instr.sureAddr, Act.eval, smS_load hSw hrl, Sem.run_bind])
  case' tra9 => try simp only [Act.put, List.setIfInBounds_toArray, List.set_cons_zero, List.set_cons_succ]
  refine wpAnyH_ready (rs := [5]) (by kernel_rfl) (by simp) ?_
  refine AllReadyH.cons (o := ⟨some 28, _, _, _, _, _⟩) rfl (fun K hK => ?_) AllReadyH.nil
  go_simp
  go_at_call 41
  refine (HCT.out 2).mono ?_
  rintro e w4 ⟨rfl, rfl⟩
  refine hK.out _ _ hHeld (fun hHeld0 => ?_)
  clear hK K hHeld0
  try simp only [Act.put, List.setIfInBounds_toArray, List.set_cons_zero, List.set_cons_succ]
  refine wpAnyH_take (i := 10) (oi := ⟨some 33, _, _, _, _, _⟩) (v := .agg ((sameP n t).cs gc (.slice none 0 0)).toArray) rfl (by kernel_rfl) (by kernel_rfl) (by kernel_rfl) (fun _ _ _ h => h) (Or.inl ⟨by kernel_rfl, ?tya10⟩) (by assumption) ?tra10
  case tya10 => (intro w hSw; go_simp; rw [fold32 _ (by simpa using hrl)]; rfl)
  case' tra10 => try simp only [Act.put, List.setIfInBounds_toArray, List.set_cons_zero, List.set_cons_succ]
  
  refine wpAnyH_ready (rs := [11]) (by kernel_rfl) (by simp) ?_
  refine AllReadyH.cons (o := ⟨some 34, _, _, _, _, _⟩) rfl (fun K hK => ?_) AllReadyH.nil
  go_simp
  have hal := ball (w.drewN 2) (.cells ((sameP n t).cs gc (.slice none 0 0)).toArray 78)
  have hS2 : SmS gp gs gc t.rd ((w.drewN 2).alloc (.cells ((sameP n t).cs gc (.slice none 0 0)).toArray 78)) := ⟨(hal.cell (p := ⟨gp, 0, none⟩) hpl).trans c0, (show At (w.drewN 2) ⟨gs, 5, none⟩ (t.rd.map (Value.int .u64)) from HS.out.2).below hal hsl⟩
  refine hK.out _ _ hS2 (fun hHeld0 => ?_)
  clear hK K hHeld0 hHeld
  try simp only [Act.put, List.setIfInBounds_toArray, List.set_cons_zero, List.set_cons_succ]
  refine wpAnyH_take (i := 12) (oi := ⟨some 4, _, _, _, _, _⟩) (v := ?tv12) rfl (by kernel_rfl) (by kernel_rfl) (by kernel_rfl) (fun _ _ _ h => h) (Or.inl ⟨by kernel_rfl, ?ty12⟩) hS2 ?tr12
  case ty12 => (intro w hSw; first | (go_simp; done) | (go_simp; with_reducible rfl))
  case' tr12 => try simp only [Act.put, List.setIfInBounds_toArray, List.set_cons_zero, List.set_cons_succ]
  refine wpAnyH_done (by kernel_rfl) ?_ _
  have HQ := Lib.hid (show StW ((w.drewN 2).alloc (.cells ((sameP n t).cs gc (.slice none 0 0)).toArray 78)) w.heap.size gc n (sameP n t) from ⟨⟨.slice none 0 0, ⟨Blk.new (w.drewN 2) _ _, hrl⟩, ⟨none, 0, 0, rfl, rfl, Nat.le_refl _, by omega, fun h => absurd h (by omega)⟩⟩, HOK.out⟩)
  have HB := Lib.hid (show Below w.heap.size w ((w.drewN 2).alloc (.cells ((sameP n t).cs gc (.slice none 0 0)).toArray 78)) from bthen (bdrewN w 2) hal)
  clear hS2 hal
  generalize (w.drewN 2).alloc (.cells ((sameP n t).cs gc (.slice none 0 0)).toArray 78) = w9 at *
  go_wp2
  go_ret
  exact ⟨rfl, HQ.out, HB.out⟩
end Go.Proofs.Ytmbceafeonjffaa
