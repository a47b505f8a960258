/-
  Package ring: Do, Put, Get, End, Value, New, Len. Conditions stand in each theorem.
-/
import Derived.Test.YtpaiicplcaeneaaRi2
namespace Go.Proofs.Ytpaiicplcaeneaa
open Go.RowKit Plain
set_option linter.unusedVariables false
set_option maxRecDepth 100000
section
variable {w : World} {gr gc gn N : Nat} {pu go : Nat} {l : List Int} {P G : Option Nat} {p g : RSt} {v en : Int} {td : Bool}
/-- what Do leaves -/
def DoOk (w : World) (gr gc gn N : Nat) (pu' go' : Int) (l' : List Int) (P G : Option Nat) (p' g' : RSt) (bs : List Nat) (b : Bool) (e : Ending) (w' : World) : Prop :=
  e = .returned (.bool b) ∧ RgB w' gr gc gn N pu' go' l' P G p' g' ∧ Keep bs w w'
set_option maxHeartbeats 1000000 in
theorem do_put {k : Nat} {a : Nat} {pu' go' : Int} {l' : List Int} {p' g' : RSt} {bs : List Nat} (h : RgB w gr gc gn N pu go l P G ⟨k, v, en, td⟩ g) (ha : P = some a) (hk : k = 1 ∨ k = 2 ∨ k = 3)
    (hC : Calls Try.prog 39 #[.pointer (some ⟨a, 0, none⟩)] w (PutOk w gr gc gn N pu' go' l' P G p' g' bs)) :
    Calls Try.prog 15 #[.pointer (some ⟨gr, 0, none⟩), .pointer (some ⟨a, 0, none⟩)] w (DoOk w gr gc gn N pu' go' l' P G p' g' bs (p'.nx == 0)) := by
  have c1 : w.cell? ⟨a, 1, none⟩ = some (.int .i64 k) := (h.ps a ha).cell 1
  have HC := Lib.hid hC
  have HA := Lib.hid ha
  clear h hC ha
  obtain ⟨b, hb⟩ : ∃ b, (p'.nx == 0) = b := ⟨_, rfl⟩
  rw [hb]
  have HB := Lib.hid (show ((p'.nx : Int) == 0) = b by rw [← hb]; cases p'.nx <;> rfl)
  clear hb
  rcases hk with rfl | rfl | rfl
  all_goals
    go_enter Try.func15, Try.ntmps15
    go_wp2_with fail
    refine (HC.out).mono ?_
    rintro e w2 ⟨rfl, h2, hk2⟩
    have H2 := Lib.hid h2
    have HK2 := Lib.hid hk2
    clear h2 hk2 c1
    have d1 : w2.cell? ⟨a, 1, none⟩ = some (.int .i64 p'.nx) := (H2.out.ps a HA.out).cell 1
    have hb := HB.out
    go_wp2
    go_ret
    exact ⟨rfl, H2.out, HK2.out⟩
set_option maxHeartbeats 1000000 in
theorem do_get {k : Nat} {a : Nat} {pu' go' : Int} {l' : List Int} {p' g' : RSt} {bs : List Nat} (h : RgB w gr gc gn N pu go l P G p ⟨k, v, en, td⟩) (ha : G = some a) (hk : k = 4 ∨ k = 5 ∨ k = 6)
    (hC : Calls Try.prog 40 #[.pointer (some ⟨a, 0, none⟩)] w (PutOk w gr gc gn N pu' go' l' P G p' g' bs)) :
    Calls Try.prog 15 #[.pointer (some ⟨gr, 0, none⟩), .pointer (some ⟨a, 0, none⟩)] w (DoOk w gr gc gn N pu' go' l' P G p' g' bs (g'.nx == 0)) := by
  have c1 : w.cell? ⟨a, 1, none⟩ = some (.int .i64 k) := (h.gs a ha).cell 1
  have HC := Lib.hid hC
  have HA := Lib.hid ha
  clear h hC ha
  obtain ⟨b, hb⟩ : ∃ b, (g'.nx == 0) = b := ⟨_, rfl⟩
  rw [hb]
  have HB := Lib.hid (show ((g'.nx : Int) == 0) = b by rw [← hb]; cases g'.nx <;> rfl)
  clear hb
  rcases hk with rfl | rfl | rfl
  all_goals
    go_enter Try.func15, Try.ntmps15
    go_wp2_with fail
    refine (HC.out).mono ?_
    rintro e w2 ⟨rfl, h2, hk2⟩
    have H2 := Lib.hid h2
    have HK2 := Lib.hid hk2
    clear h2 hk2 c1
    have d1 : w2.cell? ⟨a, 1, none⟩ = some (.int .i64 g'.nx) := (H2.out.gs a HA.out).cell 1
    have hb := HB.out
    go_wp2
    go_ret
    exact ⟨rfl, H2.out, HK2.out⟩
theorem do_over {a : Nat} (r : Option Nat) (hb : Blk w a 103 ((RSt.mk 0 v en td).cs gr)) :
    Calls Try.prog 15 #[ptO r, .pointer (some ⟨a, 0, none⟩)] w fun e w' => e = .returned (.bool true) ∧ w = w' := by
  have c1 : w.cell? ⟨a, 1, none⟩ = some (.int .i64 0) := hb.cell 1
  clear hb
  cases r with
  | none =>
    rw [show ptO none = .pointer none from rfl]
    go_enter Try.func15, Try.ntmps15
    go_wp2
    go_ret
    exact ⟨rfl, rfl⟩
  | some gr =>
    rw [show ptO (some gr) = .pointer (some ⟨gr, 0, none⟩) from rfl]
    go_enter Try.func15, Try.ntmps15
    go_wp2
    go_ret
    exact ⟨rfl, rfl⟩
theorem do_none (r : Option Nat) (w : World) :
    Calls Try.prog 15 #[ptO r, .pointer none] w fun e w' => e = .returned (.bool true) ∧ w = w' := by
  cases r with
  | none =>
    rw [show ptO none = .pointer none from rfl]
    go_enter Try.func15, Try.ntmps15
    go_wp2
    go_ret
    exact ⟨rfl, rfl⟩
  | some gr =>
    rw [show ptO (some gr) = .pointer (some ⟨gr, 0, none⟩) from rfl]
    go_enter Try.func15, Try.ntmps15
    go_wp2
    go_ret
    exact ⟨rfl, rfl⟩
/-- a new Put -/
def NewP (w : World) (gr gc gn N : Nat) (pu go : Int) (l : List Int) (P G : Option Nat) (p g : RSt) (v : Int) (e : Ending) (w' : World) : Prop :=
  ∃ a, e = .returned (.pointer (some ⟨a, 0, none⟩)) ∧ RgB w' gr gc gn N pu go l (some a) G ⟨1, v, 0, false⟩ g ∧ Keep [gr] w w' ∧ w.heap.size ≤ a
theorem rPut_no (h : RgB w gr gc gn N pu go l P G p g) (v : Int) (hb : goB P p = true) :
    Calls Try.prog 13 #[.pointer (some ⟨gr, 0, none⟩), .int .u64 v] w fun e w' => e = .returned (.pointer none) ∧ w = w' := by
  have r3 : w.cell? ⟨gr, 3, none⟩ = some (ptO P) := h.rs.cell 3
  have HG := Lib.hid (goesOn_any P p gr w h.ps)
  obtain ⟨v3, h3⟩ : ∃ v, v = ptO P := ⟨_, rfl⟩
  rw [← h3, hb] at HG
  rw [← h3] at r3
  clear h h3 hb
  go_enter Try.func13, Try.ntmps13
  go_wp2_with (go_at_call 38; refine (HG.out).mono ?_; rintro e w' ⟨rfl, rfl⟩)
  go_ret
  exact ⟨rfl, rfl⟩
set_option maxHeartbeats 1000000 in
theorem rPut_new (h : RgB w gr gc gn N pu go l P G p g) (v : Int) (hb : goB P p = false) :
    Calls Try.prog 13 #[.pointer (some ⟨gr, 0, none⟩), .int .u64 v] w (NewP w gr gc gn N pu go l P G p g v) := by
  have r3 : w.cell? ⟨gr, 3, none⟩ = some (ptO P) := h.rs.cell 3
  have f3 := h.rs.frozen 3
  have HG := Lib.hid (goesOn_any P p gr w h.ps)
  obtain ⟨v3, h3⟩ : ∃ v, v = ptO P := ⟨_, rfl⟩
  rw [← h3, hb] at HG
  rw [← h3] at r3
  have H := Lib.hid h
  have hlt : gr < w.heap.size := h.rs.lt
  clear h h3 hb
  go_enter Try.func13, Try.ntmps13
  go_upto_region 3 with (go_at_call 38; refine (HG.out).mono ?_; rintro e w' ⟨rfl, rfl⟩)
  go_upto_region 4 with fail
  have HA := Lib.hid (H.out.below (ball w (.cells #[.pointer (some ⟨gr, 0, none⟩), .int .i64 1, .int .u64 v, .int .i64 0, .bool false] 103)))
  have HN := Lib.hid (Blk.new w 103 #[.pointer (some ⟨gr, 0, none⟩), .int .i64 1, .int .u64 v, .int .i64 0, .bool false])
  have HK := Lib.hid ((Keep.of_below (bs := [gr]) (ball w (.cells #[.pointer (some ⟨gr, 0, none⟩), .int .i64 1, .int .u64 v, .int .i64 0, .bool false] 103))).setCell (p := ⟨gr, 3, none⟩) (.inl (by simp)) (.pointer (some ⟨w.heap.size, 0, none⟩)))
  have HP := Lib.hid (fun a ha => (H.out.ps a ha).lt)
  have HQ := Lib.hid (fun a ha => (H.out.gs a ha).lt)
  obtain ⟨a, ha⟩ : ∃ a, a = w.heap.size := ⟨_, rfl⟩
  have hal : w.heap.size ≤ a := by omega
  rw [← ha] at HP HQ HN HK
  rw [← ha]
  have hcom := World.setCell_alloc_past (w := w) (.cells #[.pointer (some ⟨gr, 0, none⟩), .int .i64 1, .int .u64 v, .int .i64 0, .bool false] 103) gr 3 (.pointer (some ⟨a, 0, none⟩)) hlt
  have HC := Lib.hid hcom
  clear ha hcom HG H
  have h3 := (HA.out.setR 3 (.pointer (some ⟨a, 0, none⟩)) pu go (some a) G ⟨1, v, 0, false⟩ g rfl (fun b hb => by injection hb with hb; subst hb; exact HN.out) HA.out.gs (fun b hb hg => by injection hb with hb; subst hb; exact absurd (HQ.out _ hg) (by omega)))
  have hk3 := HK.out
  rw [HC.out] at h3 hk3
  have H3 := Lib.hid h3
  have HK3 := Lib.hid hk3
  clear HA HN HP HQ h3 hk3 HK HC
  go_wp2
  go_ret
  exact ⟨a, rfl, H3.out, HK3.out, hal⟩
/-- a new Get -/
def NewG (w : World) (gr gc gn N : Nat) (pu go : Int) (l : List Int) (P G : Option Nat) (p g : RSt) (e : Ending) (w' : World) : Prop :=
  ∃ a, e = .returned (.pointer (some ⟨a, 0, none⟩)) ∧ RgB w' gr gc gn N pu go l P (some a) p ⟨4, 0, 0, false⟩ ∧ Keep [gr] w w' ∧ w.heap.size ≤ a
theorem rGet_no (h : RgB w gr gc gn N pu go l P G p g) (hb : goB G g = true) :
    Calls Try.prog 14 #[.pointer (some ⟨gr, 0, none⟩)] w fun e w' => e = .returned (.pointer none) ∧ w = w' := by
  have r3 : w.cell? ⟨gr, 5, none⟩ = some (ptO G) := h.rs.cell 5
  have HG := Lib.hid (goesOn_any G g gr w h.gs)
  obtain ⟨v3, h3⟩ : ∃ v, v = ptO G := ⟨_, rfl⟩
  rw [← h3, hb] at HG
  rw [← h3] at r3
  clear h h3 hb
  go_enter Try.func14, Try.ntmps14
  go_wp2_with (go_at_call 38; refine (HG.out).mono ?_; rintro e w' ⟨rfl, rfl⟩)
  go_ret
  exact ⟨rfl, rfl⟩
set_option maxHeartbeats 1000000 in
theorem rGet_new (h : RgB w gr gc gn N pu go l P G p g) (hb : goB G g = false) :
    Calls Try.prog 14 #[.pointer (some ⟨gr, 0, none⟩)] w (NewG w gr gc gn N pu go l P G p g) := by
  have r3 : w.cell? ⟨gr, 5, none⟩ = some (ptO G) := h.rs.cell 5
  have f3 := h.rs.frozen 5
  have HG := Lib.hid (goesOn_any G g gr w h.gs)
  obtain ⟨v3, h3⟩ : ∃ v, v = ptO G := ⟨_, rfl⟩
  rw [← h3, hb] at HG
  rw [← h3] at r3
  have H := Lib.hid h
  have hlt : gr < w.heap.size := h.rs.lt
  clear h h3 hb
  go_enter Try.func14, Try.ntmps14
  go_upto_region 3 with (go_at_call 38; refine (HG.out).mono ?_; rintro e w' ⟨rfl, rfl⟩)
  go_upto_region 4 with fail
  have HA := Lib.hid (H.out.below (ball w (.cells #[.pointer (some ⟨gr, 0, none⟩), .int .i64 4, .int .u64 0, .int .i64 0, .bool false] 103)))
  have HN := Lib.hid (Blk.new w 103 #[.pointer (some ⟨gr, 0, none⟩), .int .i64 4, .int .u64 0, .int .i64 0, .bool false])
  have HK := Lib.hid ((Keep.of_below (bs := [gr]) (ball w (.cells #[.pointer (some ⟨gr, 0, none⟩), .int .i64 4, .int .u64 0, .int .i64 0, .bool false] 103))).setCell (p := ⟨gr, 5, none⟩) (.inl (by simp)) (.pointer (some ⟨w.heap.size, 0, none⟩)))
  have HP := Lib.hid (fun a ha => (H.out.ps a ha).lt)
  have HQ := Lib.hid (fun a ha => (H.out.gs a ha).lt)
  obtain ⟨a, ha⟩ : ∃ a, a = w.heap.size := ⟨_, rfl⟩
  have hal : w.heap.size ≤ a := by omega
  rw [← ha] at HP HQ HN HK
  rw [← ha]
  have hcom := World.setCell_alloc_past (w := w) (.cells #[.pointer (some ⟨gr, 0, none⟩), .int .i64 4, .int .u64 0, .int .i64 0, .bool false] 103) gr 5 (.pointer (some ⟨a, 0, none⟩)) hlt
  have HC := Lib.hid hcom
  clear ha hcom HG H
  have h3 := (HA.out.setR 5 (.pointer (some ⟨a, 0, none⟩)) pu go P (some a) p ⟨4, 0, 0, false⟩ rfl HA.out.ps (fun b hb => by injection hb with hb; subst hb; exact HN.out) (fun b hb hg => by injection hg with hg; subst hg; exact absurd (HP.out _ hb) (by omega)))
  have hk3 := HK.out
  rw [HC.out] at h3 hk3
  have H3 := Lib.hid h3
  have HK3 := Lib.hid hk3
  clear HA HN HP HQ h3 hk3 HK HC
  go_wp2
  go_ret
  exact ⟨a, rfl, H3.out, HK3.out, hal⟩
end
end Go.Proofs.Ytpaiicplcaeneaa
