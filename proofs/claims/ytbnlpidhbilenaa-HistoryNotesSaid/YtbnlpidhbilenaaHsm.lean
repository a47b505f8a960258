/-
  HistoryNotes: two events that are the same. Conditions stand in each theorem.
-/
import Derived.Test.YtbnlpidhbilenaaHt
import Derived.Laws.BytesArg
namespace Go.Proofs.Ytbnlpidhbilenaa
open Go.RowKit Go.Deep Plain
set_option linter.unusedVariables false
set_option linter.unusedSimpArgs false
set_option maxRecDepth 100000
theorem run_strH (W : World) (A : Option Addr) (n c : Nat) (zs : List Int) (hn : zs.length = n) (hR : Rd W A zs) :
    (convert 27 9 (.slice A n c)).run Try.prog W = .ok (.string (strOfNums zs)) W := by
  rcases Nat.eq_zero_or_pos n with h0 | h0
  · subst h0
    have hz : zs = [] := List.eq_nil_of_length_eq_zero hn
    subst hz
    rcases A with _ | ⟨b, off, sp⟩
    · exact run_convert_bytes_nil W 27 5 Try.underlying27 Try.underlying5 0 c 9 Try.underlying9
    · rw [run_convert_bytes_string W 27 9 5 _ 0 c Try.underlying27 Try.underlying5 Try.underlying9]
      have hl : (loadCells ⟨b, off, sp⟩ 0).run Try.prog W = .ok ([].map (Value.int .u8)).toArray W := by
        simpa using run_loadCells_list (P := Try.prog) W ⟨b, off, sp⟩ [] (fun j v hj => by simp at hj)
      rw [run_bytesToString W _ 0 c [] hl]
      rfl
  · obtain ⟨b, off, rfl, hc⟩ := hR.2 (by omega)
    exact run_convert_bytes_arg W 27 5 Try.underlying27 Try.underlying5 b off n c zs hn (fun i hi => hc i (by omega)) 9 Try.underlying9


set_option maxHeartbeats 4000000 in
theorem samec_yes (out : Bool) (xA yA : Option Addr) (fn xc yc : Nat) (tick port : Int) (f : List Int) (w : World) (hf : f.length = fn) (hx : Rd w xA f) (hy : Rd w yA f) :
    Calls Try.prog 49 #[.agg #[.bool out, .slice xA fn xc, .int .i64 tick, .int .i64 port], .agg #[.bool out, .slice yA fn yc, .int .i64 tick, .int .i64 port]] w fun e w' => e = .returned (.bool true) ∧ Below w.heap.size w w' := by
  have HB := Lib.hid (show Below w.heap.size w ((w.alloc (.cells #[.bool out, .slice xA fn xc, .int .i64 tick, .int .i64 port] 45)).alloc (.cells #[.bool out, .slice yA fn yc, .int .i64 tick, .int .i64 port] 45)) from bthen (ball w _) (ball _ _))
  have h1 : Blk ((w.alloc (.cells #[.bool out, .slice xA fn xc, .int .i64 tick, .int .i64 port] 45)).alloc (.cells #[.bool out, .slice yA fn yc, .int .i64 tick, .int .i64 port] 45)) w.heap.size 45 #[.bool out, .slice xA fn xc, .int .i64 tick, .int .i64 port] := (Blk.new w _ _).alloc _
  have h2 := Blk.new (w.alloc (.cells #[.bool out, .slice xA fn xc, .int .i64 tick, .int .i64 port] 45)) 45 #[.bool out, .slice yA fn yc, .int .i64 tick, .int .i64 port]
  rw [World.size_alloc] at h2
  obtain ⟨w1, hw1⟩ : ∃ w1, w1 = (w.alloc (.cells #[.bool out, .slice xA fn xc, .int .i64 tick, .int .i64 port] 45)).alloc (.cells #[.bool out, .slice yA fn yc, .int .i64 tick, .int .i64 port] 45) := ⟨_, rfl⟩
  rw [← hw1] at h1 h2 HB
  have HW := Lib.hid hw1
  clear hw1
  have x0 : w1.cell? ⟨w.heap.size, 0, none⟩ = some (.bool out) := h1.cell 0
  have x1 : w1.cell? ⟨w.heap.size, 1, none⟩ = some (.slice xA fn xc) := h1.cell 1
  have x2 : w1.cell? ⟨w.heap.size, 2, none⟩ = some (.int .i64 tick) := h1.cell 2
  have x3 : w1.cell? ⟨w.heap.size, 3, none⟩ = some (.int .i64 port) := h1.cell 3
  have y0 : w1.cell? ⟨w.heap.size + 1, 0, none⟩ = some (.bool out) := h2.cell 0
  have y1 : w1.cell? ⟨w.heap.size + 1, 1, none⟩ = some (.slice yA fn yc) := h2.cell 1
  have y2 : w1.cell? ⟨w.heap.size + 1, 2, none⟩ = some (.int .i64 tick) := h2.cell 2
  have y3 : w1.cell? ⟨w.heap.size + 1, 3, none⟩ = some (.int .i64 port) := h2.cell 3
  have s1 := run_strH w1 xA fn xc f hf (hx.below HB.out)
  have s2 := run_strH w1 yA fn yc f hf (hy.below HB.out)
  generalize strOfNums f = us at *
  clear h1 h2 hx hy hf
  go_enter Try.func49, Try.ntmps49
  go_upto_region 1 with fail
  rw [← HW.out]
  go_wp2
  go_ret
  exact ⟨rfl, HB.out⟩
set_option maxHeartbeats 4000000 in
theorem same_yes (b e : Int) (ends out : Bool) (xA yA xB yB : Option Addr) (fn an xc yc xd yd : Nat) (tick port err pr po : Int) (f a : List Int) (w : World) (hf : f.length = fn) (ha : a.length = an) (hx : Rd w xA f) (hy : Rd w yA f) (hx2 : Rd w xB a) (hy2 : Rd w yB a) :
    Calls Try.prog 22 #[.agg #[.int .i64 b, .int .i64 e, .bool ends, .bool out, .slice xA fn xc, .int .i64 tick, .int .i64 port, .slice xB an xd, .int .i64 err, .int .i64 pr, .int .i64 po], .agg #[.int .i64 b, .int .i64 e, .bool ends, .bool out, .slice yA fn yc, .int .i64 tick, .int .i64 port, .slice yB an yd, .int .i64 err, .int .i64 pr, .int .i64 po]] w fun e w' => e = .returned (.bool true) ∧ Below w.heap.size w w' := by
  have HB := Lib.hid (show Below w.heap.size w ((w.alloc (.cells #[.int .i64 b, .int .i64 e, .bool ends, .bool out, .slice xA fn xc, .int .i64 tick, .int .i64 port, .slice xB an xd, .int .i64 err, .int .i64 pr, .int .i64 po] 47)).alloc (.cells #[.int .i64 b, .int .i64 e, .bool ends, .bool out, .slice yA fn yc, .int .i64 tick, .int .i64 port, .slice yB an yd, .int .i64 err, .int .i64 pr, .int .i64 po] 47)) from bthen (ball w _) (ball _ _))
  have h1 : Blk ((w.alloc (.cells #[.int .i64 b, .int .i64 e, .bool ends, .bool out, .slice xA fn xc, .int .i64 tick, .int .i64 port, .slice xB an xd, .int .i64 err, .int .i64 pr, .int .i64 po] 47)).alloc (.cells #[.int .i64 b, .int .i64 e, .bool ends, .bool out, .slice yA fn yc, .int .i64 tick, .int .i64 port, .slice yB an yd, .int .i64 err, .int .i64 pr, .int .i64 po] 47)) w.heap.size 47 #[.int .i64 b, .int .i64 e, .bool ends, .bool out, .slice xA fn xc, .int .i64 tick, .int .i64 port, .slice xB an xd, .int .i64 err, .int .i64 pr, .int .i64 po] := (Blk.new w _ _).alloc _
  have h2 := Blk.new (w.alloc (.cells #[.int .i64 b, .int .i64 e, .bool ends, .bool out, .slice xA fn xc, .int .i64 tick, .int .i64 port, .slice xB an xd, .int .i64 err, .int .i64 pr, .int .i64 po] 47)) 47 #[.int .i64 b, .int .i64 e, .bool ends, .bool out, .slice yA fn yc, .int .i64 tick, .int .i64 port, .slice yB an yd, .int .i64 err, .int .i64 pr, .int .i64 po]
  rw [World.size_alloc] at h2
  obtain ⟨w1, hw1⟩ : ∃ w1, w1 = (w.alloc (.cells #[.int .i64 b, .int .i64 e, .bool ends, .bool out, .slice xA fn xc, .int .i64 tick, .int .i64 port, .slice xB an xd, .int .i64 err, .int .i64 pr, .int .i64 po] 47)).alloc (.cells #[.int .i64 b, .int .i64 e, .bool ends, .bool out, .slice yA fn yc, .int .i64 tick, .int .i64 port, .slice yB an yd, .int .i64 err, .int .i64 pr, .int .i64 po] 47) := ⟨_, rfl⟩
  rw [← hw1] at h1 h2 HB
  have HW := Lib.hid hw1
  clear hw1
  have HX := Lib.hid h1
  have HY := Lib.hid h2
  have x0 : w1.cell? ⟨w.heap.size, 0, none⟩ = some (.int .i64 b) := h1.cell 0
  have y0 : w1.cell? ⟨w.heap.size + 1, 0, none⟩ = some (.int .i64 b) := h2.cell 0
  have x1 : w1.cell? ⟨w.heap.size, 1, none⟩ = some (.int .i64 e) := h1.cell 1
  have y1 : w1.cell? ⟨w.heap.size + 1, 1, none⟩ = some (.int .i64 e) := h2.cell 1
  have x2 : w1.cell? ⟨w.heap.size, 2, none⟩ = some (.bool ends) := h1.cell 2
  have y2 : w1.cell? ⟨w.heap.size + 1, 2, none⟩ = some (.bool ends) := h2.cell 2
  have x3 : w1.cell? ⟨w.heap.size, 3, none⟩ = some (.bool out) := h1.cell 3
  have y3 : w1.cell? ⟨w.heap.size + 1, 3, none⟩ = some (.bool out) := h2.cell 3
  have x4 : w1.cell? ⟨w.heap.size, 4, none⟩ = some (.slice xA fn xc) := h1.cell 4
  have y4 : w1.cell? ⟨w.heap.size + 1, 4, none⟩ = some (.slice yA fn yc) := h2.cell 4
  have x5 : w1.cell? ⟨w.heap.size, 5, none⟩ = some (.int .i64 tick) := h1.cell 5
  have y5 : w1.cell? ⟨w.heap.size + 1, 5, none⟩ = some (.int .i64 tick) := h2.cell 5
  have x6 : w1.cell? ⟨w.heap.size, 6, none⟩ = some (.int .i64 port) := h1.cell 6
  have y6 : w1.cell? ⟨w.heap.size + 1, 6, none⟩ = some (.int .i64 port) := h2.cell 6
  have x7 : w1.cell? ⟨w.heap.size, 7, none⟩ = some (.slice xB an xd) := h1.cell 7
  have y7 : w1.cell? ⟨w.heap.size + 1, 7, none⟩ = some (.slice yB an yd) := h2.cell 7
  have x8 : w1.cell? ⟨w.heap.size, 8, none⟩ = some (.int .i64 err) := h1.cell 8
  have y8 : w1.cell? ⟨w.heap.size + 1, 8, none⟩ = some (.int .i64 err) := h2.cell 8
  have x9 : w1.cell? ⟨w.heap.size, 9, none⟩ = some (.int .i64 pr) := h1.cell 9
  have y9 : w1.cell? ⟨w.heap.size + 1, 9, none⟩ = some (.int .i64 pr) := h2.cell 9
  have x10 : w1.cell? ⟨w.heap.size, 10, none⟩ = some (.int .i64 po) := h1.cell 10
  have y10 : w1.cell? ⟨w.heap.size + 1, 10, none⟩ = some (.int .i64 po) := h2.cell 10
  have HX2 := Lib.hid (hx2.below HB.out)
  have HY2 := Lib.hid (hy2.below HB.out)
  have HA := Lib.hid ha
  have HS := Lib.hid (samec_yes out xA yA fn xc yc tick port f w1 hf (hx.below HB.out) (hy.below HB.out))
  clear h1 h2 hx hy hf hx2 hy2 ha
  go_enter Try.func22, Try.ntmps22
  go_upto_region 1 with fail
  rw [← HW.out]
  go_wp2_with (first | (go_at_call 49; refine (HS.out).mono ?_; rintro e w2 ⟨rfl, hb2⟩; have x7 := (HX.out.below hb2).cell 7; have y7 := (HY.out.below hb2).cell 7; have x8 := (HX.out.below hb2).cell 8; have y8 := (HY.out.below hb2).cell 8; have x9 := (HX.out.below hb2).cell 9; have y9 := (HY.out.below hb2).cell 9; have x10 := (HX.out.below hb2).cell 10; have y10 := (HY.out.below hb2).cell 10; have s1 := run_strH w2 xB an xd a HA.out (HX2.out.below hb2); have s2 := run_strH w2 yB an yd a HA.out (HY2.out.below hb2)) | fail)
  go_ret
  exact ⟨rfl, bthen HB.out hb2⟩
end Go.Proofs.Ytbnlpidhbilenaa
