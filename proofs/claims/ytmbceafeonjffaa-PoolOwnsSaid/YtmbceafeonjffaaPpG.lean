/-
  Package pool: Back. Conditions stand in each theorem.
-/
import Derived.Test.YtmbceafeonjffaaPpF
namespace Go.Proofs.Ytmbceafeonjffaa
open Go.RowKit Go.Deep Plain
set_option linter.unusedVariables false
set_option linter.unusedSimpArgs false
set_option maxRecDepth 100000
def back0 (G : List (Nat × Int)) : Ps := ⟨0, 0, 0, 0, List.replicate 32 0, 0, false, false, G⟩
/-- what Back begins -/
def backP (G : List (Nat × Int)) : Ps := ⟨if G.length = 0 then 0 else 4, 0, 0, 0, List.replicate 32 0, 0, false, false, G⟩
theorem rep0 (k : Nat) (j : Nat) : (List.replicate k (0 : Int)).getD j 0 = 0 := by
  simp only [List.getD, List.getElem?_replicate]
  split <;> rfl
theorem backP_ok {n : Nat} {G : List (Nat × Int)} (h1 : 1 ≤ n) (h : ∀ g ∈ G, g.1 < n ∧ 0 < g.2 ∧ g.2 < 4294967296) : OkS n (backP G) := by
  have hx : (backP G).nx = 0 ∨ ((backP G).nx = 4 ∧ 0 < G.length) := by
    unfold backP
    by_cases e : G.length = 0
    · left; simp [e]
    · right; exact ⟨by simp [e], by omega⟩
  refine ⟨fun j => by show U64 ((List.replicate 32 0).getD j 0); rw [rep0]; unfold U64; omega, by simp [backP], by show 0 < n; omega, by simp [backP], fun q => by omega, fun q => by omega, fun q => ?_, h, by omega⟩
  show 0 < G.length
  omega
theorem takeP_ok {n wd mo : Nat} (h1 : wd < n) (h2 : mo ≤ 32) : OkS n ⟨1, wd, n, mo, List.replicate 32 0, 0, false, false, []⟩ :=
  ⟨fun j => by show U64 ((List.replicate 32 0).getD j 0); rw [rep0]; unfold U64; omega, h2, h1, by simp, fun _ => ⟨by show 1 ≤ n; omega, Nat.le_refl _⟩, fun q => by simp at q, fun q => by simp at q, fun g hg => by simp at hg, by simp⟩
set_option maxHeartbeats 8000000 in
theorem pBack_any {w : World} {gp gc gn n : Nat} {size : Int} {l : List Int} (h : PoS w gp gc gn n size l) (h1 : 1 ≤ n) (hn : n ≤ 32) (hs : size ≤ 32 * (n : Int)) {A : Option Addr} {len cap : Nat} {zs : List Int} (hr : RdI w A zs) (hl : zs.length = len) (hlm : len ≤ 1000000) :
    Calls Try.prog 12 #[.pointer (some ⟨gp, 0, none⟩), .slice A len cap] w fun e w' => ∃ gs, e = .returned (.pointer (some ⟨gs, 0, none⟩)) ∧ w.heap.size ≤ gs ∧ StW w' gs gc n (backP (giftsF size zs)) ∧ Below w.heap.size w w' := by
  have HOK := Lib.hid (backP_ok h1 (gifts_ok hn hs zs))
  have c0 : w.cell? ⟨gp, 0, none⟩ = some (.pointer (some ⟨gc, 0, none⟩)) := h.ps.cell 0
  have hpl := h.ps.lt
  have HGF0 := gifts_any (cap := cap) (h.drewN 1) hn hs (show RdI (w.drewN 1) A zs from hr.below (bdrewN w 1)) hl hlm
  obtain ⟨G, hGG⟩ : ∃ G, giftsF size zs = G := ⟨_, rfl⟩
  rw [hGG] at HGF0 HOK ⊢
  have HGF := Lib.hid HGF0
  clear HGF0 hGG hr h
  go_enter Try.func12, Try.ntmps12
  go_upto_region 3 with fail
  refine wp_region_held_drew (S := (fun W => W.cell? ⟨gp, 0, none⟩ = some (.pointer (some ⟨gc, 0, none⟩)))) (by kernel_rfl) (c0) (fun hHeld => ?_)
  refine wpAnyH_take (i := 0) (oi := ⟨some 8, _, _, _, _, _⟩) (v := ?tva0) rfl (by kernel_rfl) (by kernel_rfl) (by kernel_rfl) (fun _ _ _ h => h) (Or.inl ⟨by kernel_rfl, ?tya0⟩) (by assumption) ?tra0
  case tya0 => (intro w hSw; first | (go_simp; done) | (go_simp; with_reducible rfl))
  case' tra0 => try simp only [Act.put, List.setIfInBounds_toArray, List.set_cons_zero, List.set_cons_succ]
  refine wpAnyH_take (i := 1) (oi := ⟨some 9, _, _, _, _, _⟩) (v := ?tva1) rfl (by kernel_rfl) (by kernel_rfl) (by kernel_rfl) (fun _ _ _ h => h) (Or.inl ⟨by kernel_rfl, ?tya1⟩) (by assumption) ?tra1
  case tya1 => (intro w hSw; first | (go_simp; done) | (go_simp; with_reducible rfl))
  case' tra1 => try simp only [Act.put, List.setIfInBounds_toArray, List.set_cons_zero, List.set_cons_succ]
  refine wpAnyH_take (i := 2) (oi := ⟨some 10, _, _, _, _, _⟩) (v := ?tva2) rfl (by kernel_rfl) (by kernel_rfl) (by kernel_rfl) (fun _ _ _ h => h) (Or.inl ⟨by kernel_rfl, ?tya2⟩) (by assumption) ?tra2
  case tya2 => (intro w hSw; first | (go_simp; done) | (go_simp; with_reducible rfl))
  case' tra2 => try simp only [Act.put, List.setIfInBounds_toArray, List.set_cons_zero, List.set_cons_succ]
  refine wpAnyH_take (i := 3) (oi := ⟨some 11, _, _, _, _, _⟩) (v := ?tva3) rfl (by kernel_rfl) (by kernel_rfl) (by kernel_rfl) (fun _ _ _ h => h) (Or.inl ⟨by kernel_rfl, ?tya3⟩) (by assumption) ?tra3
  case tya3 => (intro w hSw; first | (go_simp; done) | (go_simp; with_reducible rfl))
  case' tra3 => try simp only [Act.put, List.setIfInBounds_toArray, List.set_cons_zero, List.set_cons_succ]
  refine wpAnyH_take (i := 4) (oi := ⟨some 12, _, _, _, _, _⟩) (v := ?tva4) rfl (by kernel_rfl) (by kernel_rfl) (by kernel_rfl) (fun _ _ _ h => h) (Or.inl ⟨by kernel_rfl, ?tya4⟩) (by assumption) ?tra4
  case tya4 => (intro w hSw; first | (go_simp; done) | (go_simp; with_reducible rfl))
  case' tra4 => try simp only [Act.put, List.setIfInBounds_toArray, List.set_cons_zero, List.set_cons_succ]
  refine wpAnyH_take (i := 5) (oi := ⟨some 13, _, _, _, _, _⟩) (v := ?tva5) rfl (by kernel_rfl) (by kernel_rfl) (by kernel_rfl) (fun _ _ _ h => h) (Or.inl ⟨by kernel_rfl, ?tya5⟩) (by assumption) ?tra5
  case tya5 => (intro w hSw; first | (go_simp; done) | (go_simp; with_reducible rfl))
  case' tra5 => try simp only [Act.put, List.setIfInBounds_toArray, List.set_cons_zero, List.set_cons_succ]
  refine wpAnyH_ready (rs := [6]) (by kernel_rfl) (by simp) ?_
  refine AllReadyH.cons (o := ⟨some 14, _, _, _, _, _⟩) rfl (fun K hK => ?_) AllReadyH.nil
  go_simp
  go_at_call 42
  refine (HGF.out).mono ?_
  rintro e w2 ⟨gl, m, rfl, hgl, hgl2, hgi, hb⟩
  have k0 := (hb.cell (p := ⟨gp, 0, none⟩) hpl).trans c0
  have HGI := Lib.hid hgi
  have HB := Lib.hid hb
  clear hgi hb
  have hSa6 : ((fun W => W.cell? ⟨gp, 0, none⟩ = some (.pointer (some ⟨gc, 0, none⟩)))) w2 := k0
  refine hK.out _ _ hSa6 (fun hHeld0 => ?_)
  clear hK K hHeld0 hHeld
  try simp only [Act.put, List.setIfInBounds_toArray, List.set_cons_zero, List.set_cons_succ]
  have hHeld : ((fun W => W.cell? ⟨gp, 0, none⟩ = some (.pointer (some ⟨gc, 0, none⟩)))) w2 := hSa6
  clear hSa6
  refine wpAnyH_take (i := 7) (oi := ⟨some 15, _, _, _, _, _⟩) (v := .agg ((back0 G : Ps).cs gc (.slice (some ⟨gl, 0, none⟩) m m)).toArray) rfl (by kernel_rfl) (by kernel_rfl) (by kernel_rfl) (fun _ _ _ h => h) (Or.inl ⟨by kernel_rfl, ?tya7⟩) (by assumption) ?tra7
  case tya7 => (intro w hSw; go_simp; rfl)
  case' tra7 => try simp only [Act.put, List.setIfInBounds_toArray, List.set_cons_zero, List.set_cons_succ]
  
  refine wpAnyH_ready (rs := [8]) (by kernel_rfl) (by simp) ?_
  refine AllReadyH.cons (o := ⟨some 16, _, _, _, _, _⟩) rfl (fun K hK => ?_) AllReadyH.nil
  go_simp
  have hal := ball w2 (.cells ((back0 G : Ps).cs gc (.slice (some ⟨gl, 0, none⟩) m m)).toArray 78)
  have hpl2 : gp < w2.heap.size := Nat.lt_of_lt_of_le hpl HB.out.size
  have hS2 : (w2.alloc (.cells ((back0 G : Ps).cs gc (.slice (some ⟨gl, 0, none⟩) m m)).toArray 78)).cell? ⟨gp, 0, none⟩ = some (.pointer (some ⟨gc, 0, none⟩)) := (hal.cell (p := ⟨gp, 0, none⟩) hpl2).trans k0
  refine hK.out _ _ hS2 (fun hHeld0 => ?_)
  clear hK K hHeld0 hHeld
  try simp only [Act.put, List.setIfInBounds_toArray, List.set_cons_zero, List.set_cons_succ]
  refine wpAnyH_take (i := 9) (oi := ⟨some 5, _, _, _, _, _⟩) (v := ?tv12) rfl (by kernel_rfl) (by kernel_rfl) (by kernel_rfl) (fun _ _ _ h => h) (Or.inl ⟨by kernel_rfl, ?ty12⟩) hS2 ?tr12
  case ty12 => (intro w hSw; first | (go_simp; done) | (go_simp; with_reducible rfl))
  case' tr12 => try simp only [Act.put, List.setIfInBounds_toArray, List.set_cons_zero, List.set_cons_succ]
  refine wpAnyH_done (by kernel_rfl) ?_ _
  have hsz := HB.out.size
  have HQ := Lib.hid (show StP (w2.alloc (.cells ((back0 G : Ps).cs gc (.slice (some ⟨gl, 0, none⟩) m m)).toArray 78)) w2.heap.size gc (.slice (some ⟨gl, 0, none⟩) m m) (back0 G) from ⟨Blk.new w2 _ _, by simp [back0]⟩)
  have HB2 := Lib.hid (bthen (show Below w.heap.size w w2 from bthen (bdrewN w 1) HB.out) hal)
  have HGI2 := Lib.hid ((HGI.out w2.heap.size (by omega)).below hal)
  have hsz2 : w.heap.size ≤ w2.heap.size := hsz
  clear hS2 hal k0 hpl2 HGI HB
  generalize (w2.alloc (.cells ((back0 G : Ps).cs gc (.slice (some ⟨gl, 0, none⟩) m m)).toArray 78)) = w9 at *
  generalize w2.heap.size = gs at *
  have HOG := Lib.hid (openGift_any HQ.out)
  go_wp2_with (go_at_call 43; refine (HOG.out).mono ?_; rintro e w4 ⟨rfl, h4, hz4, k4⟩)
  go_ret
  obtain ⟨A0, n0, c0', e0, hl0, _⟩ := HGI2.out
  injection e0 with e0 e1 e2
  have hGl : G.length = m := by rw [hl0, e1]
  refine ⟨gs, rfl, hsz2, ⟨⟨.slice (some ⟨gl, 0, none⟩) m m, ?_, HGI2.out.self k4⟩, HOK.out⟩, k4.below HB2.out (Nat.le_refl _) (fun x hx => by rw [List.mem_singleton] at hx; omega)⟩
  unfold backP
  rw [hGl]
  exact h4
end Go.Proofs.Ytmbceafeonjffaa
