/-
  The frame of a fanlightlaw15.Sent, whatever it is. Conditions stand in each theorem.
-/
import Derived.Test.YtbnlpidhbilenaaGP
namespace Go.Proofs.Ytbnlpidhbilenaa
open Go.RowKit Plain
set_option linter.unusedVariables false
set_option linter.unusedSimpArgs false
set_option maxRecDepth 100000
theorem sS15 : Sty 40 9 := ⟨⟨_, Try.underlying40, rfl⟩, by unfold Siz; kernel_rfl⟩
/-- what is told of its frame -/
def F15 (w : World) (e : Ending) (w' : World) : Prop :=
  ∃ g m cc L, e = .returned (.slice (some ⟨g, 0, none⟩) m cc) ∧ 20 ≤ m ∧ m ≤ 120 ∧ Own w' w.heap.size (some ⟨g, 0, none⟩) m cc L ∧ Below w.heap.size w w'
/-- what is to be sent lies there -/
def X15 (w0 : World) (gx : Nat) (what fl : Int) (A : Option Addr) (u c : Nat) (cv : Array Value) (wx : World) : Prop :=
  ∃ s d f t : Int, (0 ≤ s ∧ s ≤ 4294967295) ∧ (0 ≤ d ∧ d ≤ 4294967295) ∧ (0 ≤ f ∧ f ≤ 65535) ∧ (0 ≤ t ∧ t ≤ 65535) ∧ Blk wx gx 80 #[.int .i64 what, .int .u32 s, .int .u32 d, .int .u16 f, .int .u16 t, .int .i64 fl, .slice A u c] ∧ Blk wx w0.heap.size 40 cv ∧ Below w0.heap.size w0 wx
theorem rright_h (zs : List Int) (hby : By zs) (hg : gtE zs = 0) (a0 a1 a2 a3 a4 a5 : Int) (hh : ⟨a0, a1, a2, a3, a4, a5⟩ = gtH zs) (A : Option Addr) (n c : Nat) (ys : List Int) (w : World) (hn : ys.length = n) (hl : n ≤ 1000) (hzn : zs.length = n) (hR : Rd w A ys) :
    Calls Try.prog 45 #[.agg #[.int .i64 a0, .int .i64 a1, .int .i64 a2, .int .i64 a3, .int .u32 a4, .int .u32 a5], .slice A n c] w (RightOk n w) := by
  have h := rright_got zs hby hg A n c ys w hn hl hzn hR
  rw [← hh] at h
  exact h
theorem xor8 (a b : Int) : 0 ≤ bits .xor .u8 a b ∧ bits .xor .u8 a b ≤ 255 := by
  have h := bounds_u8 (wf_bits .xor .u8 a b)
  omega
theorem u16r (x : Int) : 0 ≤ IntKind.u16.wrap x ∧ IntKind.u16.wrap x ≤ 65535 := by rw [IntKind.wrap_u16]; omega
set_option maxHeartbeats 8000000 in
theorem sent15_any (out : Bool) (what who port fl : Int) (A : Option Addr) (n c : Nat) (ys : List Int) (bend byv tick : Int) (w : World) (hn : ys.length = n) (hnc : n ≤ c) (hcm : c ≤ 9223372036854775807) (hR : Rd w A ys) (b0 : 0 ≤ byv) (b1 : byv ≤ 255) :
    Calls Try.prog 17 #[.agg #[.bool out, .int .i64 what, .int .i64 who, .int .i64 port, .int .i64 fl, .slice A n c, .int .i64 bend, .int .u8 byv, .int .i64 tick]] w (F15 w) := by
  obtain ⟨K7, hK7, hK7l⟩ := pickN what 7 (by omega) (by omega)
  have HR := Lib.hid hR
  have Hn := Lib.hid hn
  have HB1 := Lib.hid (ball w (.cells #[.bool out, .int .i64 what, .int .i64 who, .int .i64 port, .int .i64 fl, .slice A n c, .int .i64 bend, .int .u8 byv, .int .i64 tick] 40))
  have hs1 := Blk.new w 40 #[.bool out, .int .i64 what, .int .i64 who, .int .i64 port, .int .i64 fl, .slice A n c, .int .i64 bend, .int .u8 byv, .int .i64 tick]
  obtain ⟨w1, hw1⟩ : ∃ w1, w1 = w.alloc (.cells #[.bool out, .int .i64 what, .int .i64 who, .int .i64 port, .int .i64 fl, .slice A n c, .int .i64 bend, .int .u8 byv, .int .i64 tick] 40) := ⟨_, rfl⟩
  rw [← hw1] at HB1 hs1
  have HW := Lib.hid hw1
  have HS := Lib.hid hs1
  have q2 : w1.cell? ⟨w.heap.size, 2, none⟩ = some (.int .i64 who) := hs1.cell 2
  clear hw1 hs1 hR hn
  go_enter Try.func17, Try.ntmps17
  go_upto_region 1 with fail
  rw [← HW.out]
  go_quiet (fail)
  go_upto_region 2 with fail
  obtain ⟨ii, hii⟩ : ∃ ii, ii = (167772161 + (IntKind.u64.wrap who).tmod 3 % 4294967296) % 4294967296 := ⟨_, rfl⟩
  obtain ⟨jj, hjj⟩ : ∃ jj, jj = (134744065 + (IntKind.u64.wrap ((IntKind.u64.wrap who).tdiv 3)).tmod 3 % 4294967296) % 4294967296 := ⟨_, rfl⟩
  have hi1 : 0 ≤ ii ∧ ii ≤ 4294967295 := by omega
  have hj1 : 0 ≤ jj ∧ jj ≤ 4294967295 := by omega
  rw [← hii, ← hjj]
  clear hii hjj q2
  have HS2 := Lib.hid (show Blk (w1.drewN nq) w.heap.size 40 #[.bool out, .int .i64 what, .int .i64 who, .int .i64 port, .int .i64 fl, .slice A n c, .int .i64 bend, .int .u8 byv, .int .i64 tick] from HS.out)
  have HB2 := Lib.hid (bthen HB1.out (bdrewN w1 nq))
  have hlt := HS2.out.lt
  generalize w1.drewN nq = w2 at *
  obtain ⟨u, hu⟩ : ∃ u, u = min n 20 := ⟨_, rfl⟩
  have HU := Lib.hid hu
  have hu20 : u ≤ 20 := by omega
  have hun : u ≤ n := by omega
  clear hu HB1 HS HW
  have q1 : w2.cell? ⟨w.heap.size, 1, none⟩ = some (.int .i64 what) := HS2.out.cell 1
  have q3 : w2.cell? ⟨w.heap.size, 3, none⟩ = some (.int .i64 port) := HS2.out.cell 3
  have q4 : w2.cell? ⟨w.heap.size, 4, none⟩ = some (.int .i64 fl) := HS2.out.cell 4
  have q5 : w2.cell? ⟨w.heap.size, 5, none⟩ = some (.slice A n c) := HS2.out.cell 5
  obtain ⟨gx, hgx⟩ : ∃ g, g = w2.heap.size := ⟨_, rfl⟩
  have HGX := Lib.hid hgx
  clear hgx
  go_cut [5] (fun s5 wx => s5 = .pointer (some ⟨gx, 0, none⟩) ∧ X15 w gx what fl A u c #[.bool out, .int .i64 what, .int .i64 who, .int .i64 port, .int .i64 fl, .slice A n c, .int .i64 bend, .int .u8 byv, .int .i64 tick] wx)
  case first =>
    have k0 : (0 : Int) ≤ (n : Int) := by omega
    by_cases h20 : n ≤ 20
    · have e : u = n := by have := HU.out; omega
      have HEU := Lib.hid e
      have m1 : (if (20 : Int) < (n : Int) then (20 : Int) else (n : Int)) = (n : Int) := if_neg (by omega)
      have k1 : (n : Int) ≤ (c : Int) := by omega
      clear e
      go_region
      have HX := Lib.hid (show X15 w w2.heap.size what fl A n c #[.bool out, .int .i64 what, .int .i64 who, .int .i64 port, .int .i64 fl, .slice A n c, .int .i64 bend, .int .u8 byv, .int .i64 tick] (w2.alloc (.cells #[.int .i64 what, .int .u32 ii, .int .u32 jj, .int .u16 (IntKind.u16.wrap (IntKind.u64.wrap (5 + (IntKind.u64.wrap port).tmod 5))), .int .u16 53, .int .i64 fl, .slice A n c] 80)).drew from
        ⟨ii, jj, _, 53, hi1, hj1, u16r _, ⟨by omega, by omega⟩, Blk.new w2 _ _, HS2.out.alloc _, bthen HB2.out (bthen (ball w2 _) (bdrew _))⟩)
      go_wp2
      go_meet
      exact ⟨by rw [HGX.out], by rw [HGX.out, HEU.out]; exact HX.out⟩
    · have e : u = 20 := by have := HU.out; omega
      have HEU := Lib.hid e
      have m1 : (if (20 : Int) < (n : Int) then (20 : Int) else (n : Int)) = 20 := if_pos (by omega)
      have k1 : (20 : Int) ≤ (c : Int) := by omega
      have k2 : 20 ≤ c := by omega
      clear e
      go_region
      have HX := Lib.hid (show X15 w w2.heap.size what fl A 20 c #[.bool out, .int .i64 what, .int .i64 who, .int .i64 port, .int .i64 fl, .slice A n c, .int .i64 bend, .int .u8 byv, .int .i64 tick] (w2.alloc (.cells #[.int .i64 what, .int .u32 ii, .int .u32 jj, .int .u16 (IntKind.u16.wrap (IntKind.u64.wrap (5 + (IntKind.u64.wrap port).tmod 5))), .int .u16 53, .int .i64 fl, .slice A 20 c] 80)).drew from
        ⟨ii, jj, _, 53, hi1, hj1, u16r _, ⟨by omega, by omega⟩, Blk.new w2 _ _, HS2.out.alloc _, bthen HB2.out (bthen (ball w2 _) (bdrew _))⟩)
      go_wp2
      go_meet
      exact ⟨by rw [HGX.out], by rw [HGX.out, HEU.out]; exact HX.out⟩
  case rest =>
  obtain ⟨rfl, hx⟩ := hcut
  have HX := Lib.hid hx
  have hgx2 : gx = w2.heap.size := HGX.out
  have hgne : gx ≠ w.heap.size := by omega
  have hgle : w.heap.size ≤ gx := by omega
  clear hx q1 q3 q4 q5 hlt hgx2
  obtain ⟨s, d, f, t, hs, hd, hf, ht, hbx, hbs, hbb⟩ := HX.out
  have q0 : wc.cell? ⟨w.heap.size, 0, none⟩ = some (.bool out) := hbs.cell 0
  clear HX
  have HBX := Lib.hid hbx
  have HBS := Lib.hid hbs
  have HBB := Lib.hid hbb
  clear hbx hbs hbb
  go_upto_if 44 with fail
  go_cut [5] (fun s5 wx => s5 = .pointer (some ⟨gx, 0, none⟩) ∧ X15 w gx what fl A u c #[.bool out, .int .i64 what, .int .i64 who, .int .i64 port, .int .i64 fl, .slice A n c, .int .i64 bend, .int .u8 byv, .int .i64 tick] wx)
  case first =>
    cases out with
    | true =>
      have HF := Lib.hid (show X15 w gx what fl A u c #[.bool true, .int .i64 what, .int .i64 who, .int .i64 port, .int .i64 fl, .slice A n c, .int .i64 bend, .int .u8 byv, .int .i64 tick] wc from ⟨s, d, f, t, hs, hd, hf, ht, HBX.out, HBS.out, HBB.out⟩)
      go_wp2
      go_meet
      exact ⟨rfl, HF.out⟩
    | false =>
      have q3 : wc.cell? ⟨w.heap.size, 3, none⟩ = some (.int .i64 port) := HBS.out.cell 3
      have y1 : wc.cell? ⟨gx, 1, none⟩ = some (.int .u32 s) := HBX.out.cell 1
      have y2 : wc.cell? ⟨gx, 2, none⟩ = some (.int .u32 d) := HBX.out.cell 2
      have y3 : wc.cell? ⟨gx, 3, none⟩ = some (.int .u16 f) := HBX.out.cell 3
      have y4 : wc.cell? ⟨gx, 4, none⟩ = some (.int .u16 t) := HBX.out.cell 4
      have f1 := Blk.frozen HBX.out 1
      have f2 := Blk.frozen HBX.out 2
      have f3 := Blk.frozen HBX.out 3
      have f4 := Blk.frozen HBX.out 4
      obtain ⟨P, hP⟩ : ∃ P, IntKind.u16.wrap (IntKind.u64.wrap (998 + (IntKind.u64.wrap port).tmod 44)) = P := ⟨_, rfl⟩
      have hP1 : 0 ≤ P ∧ P ≤ 65535 := by rw [← hP]; exact u16r _
      go_wp2_with fail
      go_region
      all_goals
        have HF := Lib.hid (show X15 w gx what fl A u c #[.bool false, .int .i64 what, .int .i64 who, .int .i64 port, .int .i64 fl, .slice A n c, .int .i64 bend, .int .u8 byv, .int .i64 tick] ((((wc.setCell ⟨gx, 1, none⟩ (.int .u32 jj)).setCell ⟨gx, 2, none⟩ (.int .u32 3221225985)).setCell ⟨gx, 3, none⟩ (.int .u16 53)).setCell ⟨gx, 4, none⟩ (.int .u16 P)).drew from
          ⟨jj, 3221225985, 53, P, hj1, ⟨by omega, by omega⟩, ⟨by omega, by omega⟩, hP1, ((((HBX.out.set 1 (.int .u32 jj)).set 2 (.int .u32 3221225985)).set 3 (.int .u16 53)).set 4 (.int .u16 P)).drew,
            ((((HBS.out.ne (p := ⟨gx, 1, none⟩) hgne _).ne (p := ⟨gx, 2, none⟩) hgne _).ne (p := ⟨gx, 3, none⟩) hgne _).ne (p := ⟨gx, 4, none⟩) hgne _).drew,
            ((((HBB.out.setCell (p := ⟨gx, 1, none⟩) hgle _).setCell (p := ⟨gx, 2, none⟩) hgle _).setCell (p := ⟨gx, 3, none⟩) hgle _).setCell (p := ⟨gx, 4, none⟩) hgle _).drew⟩)
        go_wp2
        go_meet
        exact ⟨rfl, HF.out⟩
  case rest =>
  obtain ⟨rfl, hx⟩ := hcut
  obtain ⟨s, d, f, t, hs, hd, hf, ht, hbx, hbs, hbb⟩ := hx
  clear HBX HBS HBB q0
  have z0 : wc.cell? ⟨w.heap.size, 0, none⟩ = some (.bool out) := hbs.cell 0
  have z1 : wc.cell? ⟨w.heap.size, 1, none⟩ = some (.int .i64 what) := hbs.cell 1
  have HK7 := Lib.hid hK7
  go_upto_region 5 with fail
  go_cut [79] (fun s79 wx => ∃ v : Bool, s79 = .bool v ∧ wc = wx)
  case first =>
    by_cases h3 : K7 = 3
    · subst h3
      have c3 : wrap64 ((IntKind.u64.wrap what).tmod 7) = 3 := HK7.out
      clear hK7
      cases out with
      | true =>
        go_wp2
        go_meet
        exact ⟨_, rfl, rfl⟩
      | false =>
        go_wp2
        go_meet
        exact ⟨_, rfl, rfl⟩
    by_cases h2 : K7 = 2
    · subst h2
      have c3 : wrap64 ((IntKind.u64.wrap what).tmod 7) = 2 := HK7.out
      clear hK7
      cases out with
      | true =>
        go_wp2
        go_meet
        exact ⟨_, rfl, rfl⟩
      | false =>
        go_wp2
        go_meet
        exact ⟨_, rfl, rfl⟩
    have c3 : ((K7 : Int) == 3) = false := by simp; omega
    have c2 : ((K7 : Int) == 2) = false := by simp; omega
    clear h3 h2
    go_wp2
    go_meet
    exact ⟨_, rfl, rfl⟩
  case rest =>
  obtain ⟨v, rfl, rfl⟩ := hcut
  go_upto_if 79 with fail
  go_cut [5] (fun s5 wx => s5 = .pointer (some ⟨gx, 0, none⟩) ∧ X15 w gx what fl A u c #[.bool out, .int .i64 what, .int .i64 who, .int .i64 port, .int .i64 fl, .slice A n c, .int .i64 bend, .int .u8 byv, .int .i64 tick] wx)
  case first =>
    cases v with
    | true =>
      have HF := Lib.hid (show X15 w gx what fl A u c #[.bool out, .int .i64 what, .int .i64 who, .int .i64 port, .int .i64 fl, .slice A n c, .int .i64 bend, .int .u8 byv, .int .i64 tick] (wc.setCell ⟨gx, 3, none⟩ (.int .u16 t)) from ⟨s, d, t, t, hs, hd, ht, ht, hbx.set 3 (.int .u16 t), hbs.ne (p := ⟨gx, 3, none⟩) hgne _, hbb.setCell (p := ⟨gx, 3, none⟩) hgle _⟩)
      have y3 : wc.cell? ⟨gx, 3, none⟩ = some (.int .u16 f) := hbx.cell 3
      have y4 : wc.cell? ⟨gx, 4, none⟩ = some (.int .u16 t) := hbx.cell 4
      have f3 := Blk.frozen hbx 3
      clear hbx hbs hbb
      go_wp2
      go_meet
      exact ⟨rfl, HF.out⟩
    | false =>
      have HF := Lib.hid (show X15 w gx what fl A u c #[.bool out, .int .i64 what, .int .i64 who, .int .i64 port, .int .i64 fl, .slice A n c, .int .i64 bend, .int .u8 byv, .int .i64 tick] wc from ⟨s, d, f, t, hs, hd, hf, ht, hbx, hbs, hbb⟩)
      clear hbx hbs hbb
      go_wp2
      go_meet
      exact ⟨rfl, HF.out⟩
  case rest =>
  obtain ⟨rfl, hx⟩ := hcut
  clear z0 z1 hbx hbs hbb hs hd hf ht
  clear s d f t
  obtain ⟨s, d, f, t, hs, hd, hf, ht, hbx, hbs, hbb⟩ := hx
  have z0 : wc.cell? ⟨w.heap.size, 0, none⟩ = some (.bool out) := hbs.cell 0
  have z1 : wc.cell? ⟨w.heap.size, 1, none⟩ = some (.int .i64 what) := hbs.cell 1
  go_upto_if 88 with fail
  go_cut [5] (fun s5 wx => s5 = .pointer (some ⟨gx, 0, none⟩) ∧ X15 w gx what fl A u c #[.bool out, .int .i64 what, .int .i64 who, .int .i64 port, .int .i64 fl, .slice A n c, .int .i64 bend, .int .u8 byv, .int .i64 tick] wx)
  case first =>
    by_cases h6 : K7 = 6
    · subst h6
      have c6 : wrap64 ((IntKind.u64.wrap what).tmod 7) = 6 := HK7.out
      clear hK7
      have y3 : wc.cell? ⟨gx, 3, none⟩ = some (.int .u16 f) := hbx.cell 3
      have y4 : wc.cell? ⟨gx, 4, none⟩ = some (.int .u16 t) := hbx.cell 4
      have f4 := Blk.frozen hbx 4
      have x4 : (wc.setCell ⟨gx, 4, none⟩ (.int .u16 f)).cell? ⟨gx, 4, none⟩ = some (.int .u16 f) := (hbx.set 4 (.int .u16 f)).cell 4
      have q3 : wc.cell? ⟨w.heap.size, 3, none⟩ = some (.int .i64 port) := hbs.cell 3
      have hng : w.heap.size ≠ gx := Ne.symm hgne
      obtain ⟨P, hP⟩ : ∃ P, IntKind.u16.wrap (IntKind.u64.wrap (998 + (IntKind.u64.wrap port).tmod 44)) = P := ⟨_, rfl⟩
      have hP1 : 0 ≤ P ∧ P ≤ 65535 := by rw [← hP]; exact u16r _
      cases out with
      | true =>
        have HF := Lib.hid (show X15 w gx what fl A u c #[.bool true, .int .i64 what, .int .i64 who, .int .i64 port, .int .i64 fl, .slice A n c, .int .i64 bend, .int .u8 byv, .int .i64 tick] (wc.setCell ⟨gx, 4, none⟩ (.int .u16 f)) from ⟨s, d, f, f, hs, hd, hf, hf, hbx.set 4 (.int .u16 f), hbs.ne (p := ⟨gx, 4, none⟩) hgne _, hbb.setCell (p := ⟨gx, 4, none⟩) hgle _⟩)
        clear hbx hbs hbb
        go_wp2
        go_meet
        exact ⟨rfl, HF.out⟩
      | false =>
        have HF := Lib.hid (show X15 w gx what fl A u c #[.bool false, .int .i64 what, .int .i64 who, .int .i64 port, .int .i64 fl, .slice A n c, .int .i64 bend, .int .u8 byv, .int .i64 tick] ((wc.setCell ⟨gx, 4, none⟩ (.int .u16 f)).setCell ⟨gx, 4, none⟩ (.int .u16 P)) from ⟨s, d, f, P, hs, hd, hf, hP1, (hbx.set 4 (.int .u16 f)).set 4 (.int .u16 P), (hbs.ne (p := ⟨gx, 4, none⟩) hgne _).ne (p := ⟨gx, 4, none⟩) hgne _, (hbb.setCell (p := ⟨gx, 4, none⟩) hgle _).setCell (p := ⟨gx, 4, none⟩) hgle _⟩)
        clear hbx hbs hbb
        go_wp2
        go_meet
        exact ⟨rfl, HF.out⟩
    · have c6 : ((K7 : Int) == 6) = false := by simp; omega
      clear h6
      have HF := Lib.hid (show X15 w gx what fl A u c #[.bool out, .int .i64 what, .int .i64 who, .int .i64 port, .int .i64 fl, .slice A n c, .int .i64 bend, .int .u8 byv, .int .i64 tick] wc from ⟨s, d, f, t, hs, hd, hf, ht, hbx, hbs, hbb⟩)
      clear hbx hbs hbb
      go_wp2
      go_meet
      exact ⟨rfl, HF.out⟩
  case rest =>
  obtain ⟨rfl, hx⟩ := hcut
  clear z0 z1 hbx hbs hbb hs hd hf ht
  clear s d f t
  obtain ⟨s, d, f, t, hs, hd, hf, ht, hbx, hbs, hbb⟩ := hx
  have HBX := Lib.hid hbx
  have HBS := Lib.hid hbs
  have HBB := Lib.hid hbb
  have HFr := Lib.hid (frame_any ⟨what, s, d, f, t, fl, A, u, c, ys.take u⟩ K7 (by omega) wc ⟨hs.1, hs.2, hd.1, hd.2, hf.1, hf.2, ht.1, ht.2, by rw [List.length_take, Hn.out]; exact Nat.min_eq_left hun, Nat.le_trans hun hnc, hcm, (HR.out.take u).below hbb⟩ HK7.out)
  rw [show (Sn.mk what s d f t fl A u c (ys.take u)).val = .agg #[.int .i64 what, .int .u32 s, .int .u32 d, .int .u16 f, .int .u16 t, .int .i64 fl, .slice A u c] from rfl] at HFr
  clear hbx hbs hbb
  go_upto_region 12 with (first | ((with_reducible refine gd_ldt 80 5 ?_); refine wpList_ldw (by rfl) 80 (.tmp 5) rfl _ rfl _ (Blk.at HBX.out) ⟨⟨_, Try.underlying80, rfl⟩, by unfold Siz; kernel_rfl⟩ ?_) | (go_at_call 36; refine (HFr.out).mono ?_; rintro e w3 ⟨g3, m3, c3, rfl, hm3, hm31, ho3, hb3⟩; have HM3 := Lib.hid hm3; clear hm3))
  have hn20 : 20 ≤ 20 + m3 := by omega
  have hn120 : 20 + m3 ≤ 120 := by omega
  have HO3 := Lib.hid (ho3.mono HBB.out.size)
  have HS3 := Lib.hid (HBS.out.below hb3)
  have HB3 := Lib.hid (bthen HBB.out hb3)
  have hg3 : wc.heap.size ≤ g3 := by
    rcases ho3.form with ⟨q, _⟩ | ⟨g', q, h1, _⟩
    · cases q
    · injection q with q; injection q with q; omega
  have hg3n : g3 ≠ w.heap.size := by have := HBS.out.lt; omega
  have hg3b : w.heap.size ≤ g3 := by have := HBB.out.size; omega
  clear ho3 hb3 HBX HBS HBB HFr HM3 hm31 hg3
  generalize 20 + m3 = n3 at *
  obtain ⟨L3, hL3⟩ : ∃ L, L = frL ⟨what, s, d, f, t, fl, A, u, c, ys.take u⟩ K7 := ⟨_, rfl⟩
  rw [← hL3] at HO3
  clear hL3 HU HGX hgne hgle HS2 HB2
  have z7 : w3.cell? ⟨w.heap.size, 7, none⟩ = some (.int .u8 byv) := HS3.out.cell 7
  by_cases hz : byv = 0
  · subst hz
    go_wp2
    go_ret
    exact ⟨g3, n3, c3, L3, rfl, hn20, hn120, HO3.out, HB3.out⟩
  · have nz : (byv == 0) = false := by simp [hz]
    clear hz
    go_upto_region 13 with fail
    obtain ⟨kb, hkb, hkb2⟩ := pickN bend (n3 : Int) (by omega) (by omega)
    have hkn : kb < n3 := by omega
    have hk1 : (kb : Int) < (n3 : Int) := hkb2
    have z6 : w3.cell? ⟨w.heap.size, 6, none⟩ = some (.int .i64 bend) := HS3.out.cell 6
    have y0 := HO3.out.at hkn
    have f0 := HO3.out.free kb
    have uw : IntKind.u64.wrap (n3 : Int) = (n3 : Int) := by rw [IntKind.wrap_u64]; omega
    have hkb3 : IntKind.i64.wrap ((IntKind.u64.wrap bend).tmod (n3 : Int)) = (kb : Int) := by
      have e : ∀ x, IntKind.i64.wrap x = wrap64 x := fun x => by rw [IntKind.wrap_i64]; unfold wrap64; omega
      rw [e]; exact hkb
    have nzn : ¬ ((n3 : Int) = 0) := by omega
    have nzb : ((n3 : Int) == 0) = false := by simp; omega
    obtain ⟨lk, hlk⟩ : ∃ lk, lk = L3.getD kb 0 := ⟨_, rfl⟩
    rw [← hlk] at y0
    clear hlk
    have hxr := xor8 lk byv
    obtain ⟨xv, hxv⟩ : ∃ xv, bits .xor .u8 lk byv = xv := ⟨_, rfl⟩
    rw [hxv] at hxr
    go_region
    have HO4 := Lib.hid ((HO3.out.set kb xv hxr.1 hxr.2).drewN 1)
    have HS4 := Lib.hid (Blk.drew (HS3.out.ne (p := ⟨g3, kb, none⟩) hg3n (.int .u8 xv)))
    have HB4 := Lib.hid (Below.drew (HB3.out.setCell (p := ⟨g3, kb, none⟩) hg3b (.int .u8 xv)))
    have HO4 := Lib.hid (show Own (w3.setCell ⟨g3, kb, none⟩ (.int .u8 xv)).drew w.heap.size (some ⟨g3, 0, none⟩) n3 c3 (L3.set kb xv) from HO4.out)
    clear z7 z6 y0 f0 uw hkb hkb3 nzn nzb hxv HO3 HS3 HB3
    generalize (w3.setCell ⟨g3, kb, none⟩ (.int .u8 xv)).drew = w4 at *
    obtain ⟨L4, hL4⟩ : ∃ L, L = L3.set kb xv := ⟨_, rfl⟩
    rw [← hL4] at HO4
    clear hL4
    have z6 : w4.cell? ⟨w.heap.size, 6, none⟩ = some (.int .i64 bend) := HS4.out.cell 6
    by_cases hb2 : bend.tmod 2 = 0
    · have HL4 := Lib.hid (show L4.length = n3 from HO4.out.len)
      have HFx := Lib.hid (fun W (hW : Below w4.heap.size w4 W) => rfix_any (some ⟨g3, 0, none⟩) n3 c3 L4 W HL4.out hn20 (by omega) (HO4.out.rd.below hW))
      have hfl : (fixL L4).length = n3 := by unfold fixL fix0; rw [P16_len, List.length_set, List.length_set]; exact HL4.out
      have HFl := Lib.hid hfl
      obtain ⟨Z, hZ⟩ : ∃ Z, Z = fixL L4 := ⟨_, rfl⟩
      rw [← hZ] at HFx HFl
      clear hZ hfl
      obtain ⟨ez, hez⟩ : ∃ ez, ez = gtE Z := ⟨_, rfl⟩
      obtain ⟨hd, hhd⟩ : ∃ hd, hd = gtH Z := ⟨_, rfl⟩
      have HEz := Lib.hid hez
      have HHd := Lib.hid hhd
      clear hez hhd
      obtain ⟨a0, a1, a2, a3, a4, a5⟩ := hd
      have B0 : Below w4.heap.size w4 w4 := Below.refl _ _
      go_upto_region 16 with (first
        | (go_at_call 44; refine (HFx.out _ B0).mono ?_; rintro e w5 ⟨g5, c5, rfl, ho5, hb5⟩; have HO5 := Lib.hid ho5; have HB5 := Lib.hid hb5; have HGt := Lib.hid (refGet_any (some ⟨g5, 0, none⟩) n3 c5 Z w5 HFl.out ho5.cap (by omega) ho5.rd); rw [← HEz.out, ← HHd.out, show (Hd.mk a0 a1 a2 a3 a4 a5).val = .agg #[.int .i64 a0, .int .i64 a1, .int .i64 a2, .int .i64 a3, .int .u32 a4, .int .u32 a5] from rfl] at HGt; clear ho5 hb5)
        | (go_at_call 43; refine (HGt.out).mono ?_; rintro e w6 ⟨rfl, hb6⟩; have HB6 := Lib.hid (bthen HB5.out hb6); have HBy := Lib.hid HO5.out.byt; clear hb6))
      have HX7 := Lib.hid (Blk.new w6 84 #[.int .i64 a0, .int .i64 a1, .int .i64 a2, .int .i64 a3, .int .u32 a4, .int .u32 a5])
      have HB7 := Lib.hid (bthen HB6.out (ball w6 (.cells #[.int .i64 a0, .int .i64 a1, .int .i64 a2, .int .i64 a3, .int .u32 a4, .int .u32 a5] 84)))
      generalize w6.alloc (.cells #[.int .i64 a0, .int .i64 a1, .int .i64 a2, .int .i64 a3, .int .u32 a4, .int .u32 a5] 84) = w7 at *
      generalize w6.heap.size = gH at *
      by_cases hz0 : ez = 0
      · have HG0 := Lib.hid (show gtE Z = 0 by rw [← HEz.out]; exact hz0)
        have bz : (ez == 0) = true := by simp [hz0]
        clear hz0
        go_upto_region 17 with fail
        have S0 : Below w7.heap.size w7 w7 := Below.refl _ _
        have r0 : ∀ W, Below w7.heap.size w7 W → W.cell? ⟨gH, 0, none⟩ = some (.int .i64 a0) := fun W h => (HX7.out.below h).cell 0
        have r1 : ∀ W, Below w7.heap.size w7 W → W.cell? ⟨gH, 1, none⟩ = some (.int .i64 a1) := fun W h => (HX7.out.below h).cell 1
        have r2 : ∀ W, Below w7.heap.size w7 W → W.cell? ⟨gH, 2, none⟩ = some (.int .i64 a2) := fun W h => (HX7.out.below h).cell 2
        have r3 : ∀ W, Below w7.heap.size w7 W → W.cell? ⟨gH, 3, none⟩ = some (.int .i64 a3) := fun W h => (HX7.out.below h).cell 3
        have r4 : ∀ W, Below w7.heap.size w7 W → W.cell? ⟨gH, 4, none⟩ = some (.int .u32 a4) := fun W h => (HX7.out.below h).cell 4
        have r5 : ∀ W, Below w7.heap.size w7 W → W.cell? ⟨gH, 5, none⟩ = some (.int .u32 a5) := fun W h => (HX7.out.below h).cell 5
        go_region_held3 (fun W => Below w7.heap.size w7 W)
          (first | (with_reducible exact Below.drew S0) | (with_reducible exact bthen (by assumption) (by assumption)) | (with_reducible assumption))
          (first
            | (go_at_call 44; refine (HFx.out _ (bthen HB7.out (by assumption))).mono ?_; rintro e w8 ⟨g8, c8, rfl, ho8, hb8⟩)
            | (go_at_call 45; refine (rright_h Z HBy.out HG0.out a0 a1 a2 a3 a4 a5 HHd.out (some ⟨g8, 0, none⟩) n3 c8 Z _ HFl.out (by omega) HFl.out ho8.rd).mono ?_; rintro e w9 ⟨g9, c9, L9, rfl, ho9, hb9⟩))
        have HF := Lib.hid (show F15 w (.returned (.slice (some ⟨g9, 0, none⟩) n3 c9)) w9 from ⟨g9, n3, c9, L9, rfl, hn20, hn120, ho9.mono (by
          have h1 := HB4.out.size
          have h2 := HB7.out.size
          have h3 : w7.heap.size ≤ w8.heap.size := hb8.size
          omega), bthen (bthen HB4.out HB7.out) (by assumption)⟩)
        go_wp2
        go_ret
        exact HF.out
      · have bz : (ez == 0) = false := by simp [hz0]
        clear hz0
        have HF := Lib.hid (show F15 w (.returned (.slice (some ⟨g3, 0, none⟩) n3 c3)) w7 from ⟨g3, n3, c3, L4, rfl, hn20, hn120, HO4.out.below HB7.out, bthen HB4.out HB7.out⟩)
        go_wp2
        go_ret
        exact HF.out
    · have nb : (bend.tmod 2 == 0) = false := by simp [hb2]
      clear hb2
      go_wp2
      go_ret
      exact ⟨g3, n3, c3, L4, rfl, hn20, hn120, HO4.out, HB4.out⟩
end Go.Proofs.Ytbnlpidhbilenaa
