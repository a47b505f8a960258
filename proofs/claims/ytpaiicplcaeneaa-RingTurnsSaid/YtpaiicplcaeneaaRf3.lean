/-
  The document's ring (fanlightref20): Begin, Value, Same. Conditions stand in each theorem.
-/
import Derived.Test.YtpaiicplcaeneaaRf2
namespace Go.Proofs.Ytpaiicplcaeneaa
open Go.RowKit Go.Deep Plain
set_option linter.unusedVariables false
set_option maxRecDepth 100000
def goF (P : Option Nat) (p : FSt) : Bool := P.isSome && !p.ov
section
variable {w : World} {gf gl N go hd : Nat} {vs : List Int} {P G : Option Nat} {p g : FSt} {a : Nat}
def FnewP (w : World) (gf gl N go hd : Nat) (vs : List Int) (P G : Option Nat) (p g : FSt) (v : Int) (e : Ending) (w' : World) : Prop :=
  ∃ b, e = .returned (.pointer (some ⟨b, 0, none⟩)) ∧ RfB w' gf gl N go hd vs (some b) G ⟨0, 0, v, 11, false⟩ g ∧ Keep [gf] w w' ∧ w.heap.size ≤ b
theorem fbeginP_no (h : RfB w gf gl N go hd vs P G p g) (v : Int) (hb : goF P p = true) :
    Calls Try.prog 22 #[.pointer (some ⟨gf, 0, none⟩), .int .i64 0, .int .u64 v] w fun e w' => e = .returned (.pointer none) ∧ w = w' := by
  have r4 : w.cell? ⟨gf, 4, none⟩ = some (ptO P) := h.rs.cell 4
  cases hP : P with
  | none => rw [hP] at hb; simp [goF] at hb
  | some a =>
    have c4 : w.cell? ⟨a, 4, none⟩ = some (.bool p.ov) := (h.ps a hP).cell 4
    have hov : p.ov = false := by rw [hP] at hb; simpa [goF] using hb
    rw [hov] at c4
    rw [hP, show ptO (some a) = .pointer (some ⟨a, 0, none⟩) from rfl] at r4
    clear h hb hov hP
    go_enter Try.func22, Try.ntmps22
    go_wp2
    go_ret
    exact ⟨rfl, rfl⟩
set_option maxHeartbeats 2000000 in
theorem fbeginP_new (h : RfB w gf gl N go hd vs P G p g) (v : Int) (hb : goF P p = false) :
    Calls Try.prog 22 #[.pointer (some ⟨gf, 0, none⟩), .int .i64 0, .int .u64 v] w (FnewP w gf gl N go hd vs P G p g v) := by
  have r4 : w.cell? ⟨gf, 4, none⟩ = some (ptO P) := h.rs.cell 4
  have f4 := h.rs.frozen 4
  have hlt : gf < w.heap.size := h.rs.lt
  have HA := Lib.hid (h.below (ball w (.cells #[.int .i64 0, .int .i64 0, .int .u64 v, .int .i64 11, .bool false] 63)))
  have HN := Lib.hid (Blk.new w 63 #[.int .i64 0, .int .i64 0, .int .u64 v, .int .i64 11, .bool false])
  have HK := Lib.hid ((Keep.of_below (bs := [gf]) (ball w (.cells #[.int .i64 0, .int .i64 0, .int .u64 v, .int .i64 11, .bool false] 63))).setCell (p := ⟨gf, 4, none⟩) (.inl (by simp)) (.pointer (some ⟨w.heap.size, 0, none⟩)))
  have HP := Lib.hid (fun a ha => (h.ps a ha).lt)
  have HQ := Lib.hid (fun a ha => (h.gs a ha).lt)
  obtain ⟨b, hbb⟩ : ∃ b, b = w.heap.size := ⟨_, rfl⟩
  have hal : w.heap.size ≤ b := by omega
  rw [← hbb] at HP HQ HN HK
  have h3 := HA.out.setR 4 (.pointer (some ⟨b, 0, none⟩)) go hd (some b) G ⟨0, 0, v, 11, false⟩ g rfl (fun c hc => by injection hc with hc; subst hc; exact HN.out) HA.out.gs (fun c hc hq => by injection hc with hc; subst hc; exact absurd (HQ.out _ hq) (by omega))
  have hcom := World.setCell_alloc_past (w := w) (.cells #[.int .i64 0, .int .i64 0, .int .u64 v, .int .i64 11, .bool false] 63) gf 4 (.pointer (some ⟨b, 0, none⟩)) hlt
  have hk3 := HK.out
  rw [hcom] at h3 hk3
  have H3 := Lib.hid h3
  have HK3 := Lib.hid hk3
  have HBB := Lib.hid hbb
  have hc4 : P = none ∨ ∃ a, P = some a ∧ w.cell? ⟨a, 4, none⟩ = some (.bool true) := by
    cases hP : P with
    | none => exact Or.inl rfl
    | some a =>
      refine Or.inr ⟨a, rfl, ?_⟩
      have hov : p.ov = true := by rw [hP] at hb; simpa [goF] using hb
      rw [← hov]; exact (h.ps a hP).cell 4
  clear h hb HA HN HK HP HQ hbb h3 hcom hk3
  rcases hc4 with hP | ⟨a, hP, c4⟩
  · rw [hP, show ptO none = .pointer none from rfl] at r4
    clear hP
    go_enter Try.func22, Try.ntmps22
    go_wp2
    go_ret
    exact ⟨b, by rw [HBB.out]; rfl, by rw [HBB.out] at H3 ⊢; exact H3.out, by rw [HBB.out] at HK3; exact HK3.out, hal⟩
  · rw [hP, show ptO (some a) = .pointer (some ⟨a, 0, none⟩) from rfl] at r4
    clear hP
    go_enter Try.func22, Try.ntmps22
    go_wp2
    go_ret
    exact ⟨b, by rw [HBB.out]; rfl, by rw [HBB.out] at H3 ⊢; exact H3.out, by rw [HBB.out] at HK3; exact HK3.out, hal⟩
def FnewG (w : World) (gf gl N go hd : Nat) (vs : List Int) (P G : Option Nat) (p g : FSt) (e : Ending) (w' : World) : Prop :=
  ∃ b, e = .returned (.pointer (some ⟨b, 0, none⟩)) ∧ RfB w' gf gl N go hd vs P (some b) p ⟨1, 0, 0, 11, false⟩ ∧ Keep [gf] w w' ∧ w.heap.size ≤ b
theorem fbeginG_no (h : RfB w gf gl N go hd vs P G p g) (hb : goF G g = true) :
    Calls Try.prog 22 #[.pointer (some ⟨gf, 0, none⟩), .int .i64 1, .int .u64 0] w fun e w' => e = .returned (.pointer none) ∧ w = w' := by
  have r4 : w.cell? ⟨gf, 5, none⟩ = some (ptO G) := h.rs.cell 5
  cases hP : G with
  | none => rw [hP] at hb; simp [goF] at hb
  | some a =>
    have c4 : w.cell? ⟨a, 4, none⟩ = some (.bool g.ov) := (h.gs a hP).cell 4
    have hov : g.ov = false := by rw [hP] at hb; simpa [goF] using hb
    rw [hov] at c4
    rw [hP, show ptO (some a) = .pointer (some ⟨a, 0, none⟩) from rfl] at r4
    clear h hb hov hP
    go_enter Try.func22, Try.ntmps22
    go_wp2
    go_ret
    exact ⟨rfl, rfl⟩
set_option maxHeartbeats 2000000 in
theorem fbeginG_new (h : RfB w gf gl N go hd vs P G p g) (hb : goF G g = false) :
    Calls Try.prog 22 #[.pointer (some ⟨gf, 0, none⟩), .int .i64 1, .int .u64 0] w (FnewG w gf gl N go hd vs P G p g) := by
  have r4 : w.cell? ⟨gf, 5, none⟩ = some (ptO G) := h.rs.cell 5
  have f4 := h.rs.frozen 5
  have hlt : gf < w.heap.size := h.rs.lt
  have HA := Lib.hid (h.below (ball w (.cells #[.int .i64 1, .int .i64 0, .int .u64 0, .int .i64 11, .bool false] 63)))
  have HN := Lib.hid (Blk.new w 63 #[.int .i64 1, .int .i64 0, .int .u64 0, .int .i64 11, .bool false])
  have HK := Lib.hid ((Keep.of_below (bs := [gf]) (ball w (.cells #[.int .i64 1, .int .i64 0, .int .u64 0, .int .i64 11, .bool false] 63))).setCell (p := ⟨gf, 5, none⟩) (.inl (by simp)) (.pointer (some ⟨w.heap.size, 0, none⟩)))
  have HP := Lib.hid (fun a ha => (h.ps a ha).lt)
  have HQ := Lib.hid (fun a ha => (h.gs a ha).lt)
  obtain ⟨b, hbb⟩ : ∃ b, b = w.heap.size := ⟨_, rfl⟩
  have hal : w.heap.size ≤ b := by omega
  rw [← hbb] at HP HQ HN HK
  have h3 := HA.out.setR 5 (.pointer (some ⟨b, 0, none⟩)) go hd P (some b) p ⟨1, 0, 0, 11, false⟩ rfl HA.out.ps (fun c hc => by injection hc with hc; subst hc; exact HN.out) (fun c hc hq => by injection hq with hq; subst hq; exact absurd (HP.out _ hc) (by omega))
  have hcom := World.setCell_alloc_past (w := w) (.cells #[.int .i64 1, .int .i64 0, .int .u64 0, .int .i64 11, .bool false] 63) gf 5 (.pointer (some ⟨b, 0, none⟩)) hlt
  have hk3 := HK.out
  rw [hcom] at h3 hk3
  have H3 := Lib.hid h3
  have HK3 := Lib.hid hk3
  have HBB := Lib.hid hbb
  have hc4 : G = none ∨ ∃ a, G = some a ∧ w.cell? ⟨a, 4, none⟩ = some (.bool true) := by
    cases hP : G with
    | none => exact Or.inl rfl
    | some a =>
      refine Or.inr ⟨a, rfl, ?_⟩
      have hov : g.ov = true := by rw [hP] at hb; simpa [goF] using hb
      rw [← hov]; exact (h.gs a hP).cell 4
  clear h hb HA HN HK HP HQ hbb h3 hcom hk3
  rcases hc4 with hP | ⟨a, hP, c4⟩
  · rw [hP, show ptO none = .pointer none from rfl] at r4
    clear hP
    go_enter Try.func22, Try.ntmps22
    go_wp2
    go_ret
    exact ⟨b, by rw [HBB.out]; rfl, by rw [HBB.out] at H3 ⊢; exact H3.out, by rw [HBB.out] at HK3; exact HK3.out, hal⟩
  · rw [hP, show ptO (some a) = .pointer (some ⟨a, 0, none⟩) from rfl] at r4
    clear hP
    go_enter Try.func22, Try.ntmps22
    go_wp2
    go_ret
    exact ⟨b, by rw [HBB.out]; rfl, by rw [HBB.out] at H3 ⊢; exact H3.out, by rw [HBB.out] at HK3; exact HK3.out, hal⟩
theorem fvalue_any {s : FSt} (h : Blk w a 63 s.cs) (x : Int) (hx : x = if s.kd = 1 ∧ s.ov = true ∧ s.er = 0 then s.v else 0) :
    Calls Try.prog 24 #[.pointer (some ⟨a, 0, none⟩)] w fun e w' => e = .returned (.int .u64 x) ∧ w = w' := by
  obtain ⟨kd, at', v, er, ov⟩ := s
  have c0 : w.cell? ⟨a, 0, none⟩ = some (.int .i64 kd) := h.cell 0
  have c2 : w.cell? ⟨a, 2, none⟩ = some (.int .u64 v) := h.cell 2
  have c3 : w.cell? ⟨a, 3, none⟩ = some (.int .i64 er) := h.cell 3
  have c4 : w.cell? ⟨a, 4, none⟩ = some (.bool ov) := h.cell 4
  simp only at hx
  clear h
  by_cases k1 : kd = 1
  · cases ov with
    | true =>
      by_cases e1 : er = 0
      · rw [if_pos ⟨k1, rfl, e1⟩] at hx
        subst hx
        have b1 : (kd == 1) = true := by simpa using k1
        have b2 : (er == 0) = true := by simpa using e1
        clear k1 e1
        go_enter Try.func24, Try.ntmps24
        go_wp2
        go_ret
        exact ⟨rfl, rfl⟩
      · rw [if_neg (fun q => e1 q.2.2)] at hx
        subst hx
        have b1 : (kd == 1) = true := by simpa using k1
        have b2 : (er == 0) = false := by simpa using e1
        clear k1 e1
        go_enter Try.func24, Try.ntmps24
        go_wp2
        go_ret
        exact ⟨rfl, rfl⟩
    | false =>
      rw [if_neg (fun q => by cases q.2.1)] at hx
      subst hx
      have b1 : (kd == 1) = true := by simpa using k1
      clear k1
      go_enter Try.func24, Try.ntmps24
      go_wp2
      go_ret
      exact ⟨rfl, rfl⟩
  · rw [if_neg (fun q => k1 q.1)] at hx
    subst hx
    have b1 : (kd == 1) = false := by simpa using k1
    clear k1
    go_enter Try.func24, Try.ntmps24
    go_wp2
    go_ret
    exact ⟨rfl, rfl⟩
set_option maxHeartbeats 2000000 in
/-- two rows of the same numbers -/
theorem fsame_any (A B : Option Addr) (n c d : Nat) (zs : List Int) (w : World) (hl : zs.length = n) (hn : n ≤ 1000000) (hA : 0 < n → ∃ a o, A = some ⟨a, o, none⟩ ∧ ∀ k, k < n → w.cell? ⟨a, o + k, none⟩ = some (.int .u64 (zs.getD k 0)))
    (hB : 0 < n → ∃ b q, B = some ⟨b, q, none⟩ ∧ ∀ k, k < n → w.cell? ⟨b, q + k, none⟩ = some (.int .u64 (zs.getD k 0))) :
    Calls Try.prog 25 #[.slice A n c, .slice B n d] w fun e w' => e = .returned (.bool true) ∧ Below w.heap.size w w' := by
  have HA := Lib.hid hA
  have HB := Lib.hid hB
  clear hA hB hl
  go_enter Try.func25, Try.ntmps25
  go_wp2
  go_loopw [5] (fun s5 wt => ∃ k : Nat, s5 = .int .i64 k ∧ k ≤ n ∧ ∃ q, wt = w.drewN q) (fun k _ => n - (intOf k).toNat)
  case atStart => exact ⟨0, rfl, by omega, 0, rfl⟩
  case round =>
    obtain ⟨k, rfl, hk, q, rfl⟩ := hrel
    by_cases hlt : k < n
    · obtain ⟨a, o, rfl, hca⟩ := HA.out (by omega)
      obtain ⟨b, r, rfl, hcb⟩ := HB.out (by omega)
      have d1 : (w.drewN q).cell? ⟨a, o + k, none⟩ = some (.int .u64 (zs.getD k 0)) := hca k hlt
      have d2 : (w.drewN q).cell? ⟨b, r + k, none⟩ = some (.int .u64 (zs.getD k 0)) := hcb k hlt
      have i0 : (0 : Int) ≤ (k : Int) := by omega
      have i1 : (k : Int) < (n : Int) := by omega
      clear hca hcb
      generalize zs.getD k 0 = x at *
      obtain ⟨wq, hwq⟩ : ∃ wq, wq = w.drewN q := ⟨_, rfl⟩
      rw [← hwq] at d1 d2
      rw [← hwq]
      have HW := Lib.hid hwq
      clear hwq
      go_upto_region 6 with fail
      go_quiet (fail)
      go_wp2
      go_roundw
      case rel => exact ⟨k + 1, by go_num, by omega, q + nq, by rw [HW.out]; exact World.drewN_drewN _ _ _⟩
      case measure => simp [intOf]; omega
    · obtain rfl : k = n := by omega
      go_wp2
      go_ret
      exact ⟨rfl, bdrewN _ _⟩
end
end Go.Proofs.Ytpaiicplcaeneaa
