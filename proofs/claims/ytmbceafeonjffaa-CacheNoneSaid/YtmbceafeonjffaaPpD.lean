/-
  Package pool: Left. Conditions stand in each theorem.
-/
import Derived.Test.YtmbceafeonjffaaPpC
import Derived.Test.YtmbceafeonjffaaGJ
namespace Go.Proofs.Ytmbceafeonjffaa
open Go.RowKit Go.Deep Plain
set_option linter.unusedVariables false
set_option linter.unusedSimpArgs false
set_option maxRecDepth 100000
/-- the numbers of the first i words that are to be given back -/
def leftI (gi : List (Nat × Int)) (i : Nat) : List Int := (gi.take i).flatMap fun g => numsF g.1 g.2
def leftF (gi : List (Nat × Int)) : List Int := srt (gi.flatMap fun g => numsF g.1 g.2)
theorem leftI_succ (gi : List (Nat × Int)) (i : Nat) (hi : i < gi.length) : leftI gi (i + 1) = leftI gi i ++ numsF (gi.getD i (0, 0)).1 (gi.getD i (0, 0)).2 := by
  unfold leftI
  rw [List.take_add_one, List.flatMap_append, List.getElem?_eq_getElem hi]
  simp [List.getD, hi]
theorem leftI_len (gi : List (Nat × Int)) (i : Nat) : (leftI gi i).length ≤ 32 * i := by
  induction i with
  | zero => simp [leftI]
  | succ i ih =>
    by_cases hi : i < gi.length
    · rw [leftI_succ _ _ hi, List.length_append]
      have := numsI_len (gi.getD i (0, 0)).1 (gi.getD i (0, 0)).2 32
      unfold numsF
      omega
    · have : leftI gi (i + 1) = leftI gi i := by unfold leftI; rw [List.take_of_length_le (by omega), List.take_of_length_le (by omega)]
      rw [this]; omega
set_option maxHeartbeats 4000000 in
theorem left_nil (w : World) : Calls Try.prog 13 #[.pointer none] w fun e w' => e = .returned (.slice none 0 0) ∧ w = w' := by
  go_enter Try.func13, Try.ntmps13
  go_wp2
  go_ret
  exact ⟨rfl, rfl⟩
set_option maxHeartbeats 4000000 in
theorem left_any {w : World} {gs gc n : Nat} {s : Ps} (hs : StW w gs gc n s) (hn : n ≤ 32) :
    Calls Try.prog 13 #[.pointer (some ⟨gs, 0, none⟩)] w (RowOk (leftF s.gi) w) := by
  have HGI := Lib.hid hs.ok.gi
  obtain ⟨⟨gv, hsp, hg⟩, _⟩ := hs
  obtain ⟨G, hgG⟩ : ∃ G, s.gi = G := ⟨_, rfl⟩
  rw [hgG] at HGI hg ⊢
  obtain ⟨A0, m0, cc, rfl, hl, hnc, hc1, hcell⟩ := hg
  have c40 := hsp.c40
  have HC := Lib.hid hcell
  clear hsp hcell hgG
  go_enter Try.func13, Try.ntmps13
  go_upto_region 5 with fail
  go_loopw [3, 13] (fun s3 s13 wr => ∃ i : Nat, ∃ A m c, i ≤ m0 ∧ s13 = .int .i64 i ∧ s3 = .slice A m c ∧ OwI w.heap.size wr A m c (leftI G i) ∧ Below w.heap.size w wr) (fun _ s13 _ => m0 - (intOf s13).toNat)
  case atStart => exact ⟨0, none, 0, 0, Nat.zero_le _, rfl, rfl, OwI.nil _ _, Below.refl _ _⟩
  case round =>
    obtain ⟨i, A, m, c, hi, rfl, rfl, hI, hB⟩ := hrel
    have hm : m ≤ 32000 := by have := hI.len; have := leftI_len G i; omega
    have HI := Lib.hid hI
    have HB := Lib.hid hB
    clear hI hB
    by_cases hlt : i < m0
    · have d : decide ((i : Int) < (m0 : Int)) = true := decide_eq_true (by omega)
      have HSu := Lib.hid (leftI_succ G i (by omega))
      obtain ⟨g, hgg⟩ : ∃ g, G.getD i (0, 0) = g := ⟨_, rfl⟩
      obtain ⟨gg, off, rfl, hgl, hne, _, hcell⟩ := HC.out (by omega)
      obtain ⟨q1, q2⟩ := hcell i hlt
      rw [hgg] at q1 q2 HSu
      have hgr : g.1 < n ∧ 0 < g.2 ∧ g.2 < 4294967296 := by
        have e : G.getD i (0, 0) = G[i] := by simp [List.getD, show i < G.length by omega]
        rw [← hgg, e]
        exact HGI.out _ (List.getElem_mem _)
      obtain ⟨gw, gt⟩ := g
      simp only at q1 q2 hgr HSu
      obtain ⟨tn, rfl⟩ : ∃ tn : Nat, gt = tn := ⟨gt.toNat, by omega⟩
      have k0 : wr.cell? ⟨gg, off + i * 2, none⟩ = some (.int .i64 gw) := (HB.out.cell (p := ⟨gg, off + i * 2, none⟩) hgl).trans q1
      have k1 : wr.cell? ⟨gg, off + i * 2 + 1, none⟩ = some (.int .u32 tn) := (HB.out.cell (p := ⟨gg, off + i * 2 + 1, none⟩) hgl).trans q2
      have hal := ball wr (.cells #[.int .i64 gw, .int .u32 tn] 81)
      have hgw := hgr.1
      have htn : tn < 4294967296 := by omega
      have HB5 := Lib.hid (bthen HB.out hal)
      have HI5 := Lib.hid (HI.out.below hal)
      have HK5 := Lib.hid (Blk.new wr 81 #[.int .i64 gw, .int .u32 tn])
      clear hcell q1 q2 hgg hal hgr
      go_upto_region 7 with fail
      generalize wr.alloc (.cells #[.int .i64 gw, .int .u32 tn] 81) = w5 at *
      generalize wr.heap.size = g5 at *
      have p0 : w5.cell? ⟨g5, 0, none⟩ = some (.int .i64 gw) := HK5.out.cell 0
      have p1 : w5.cell? ⟨g5, 1, none⟩ = some (.int .u32 tn) := HK5.out.cell 1
      have HNU := Lib.hid (numbers_any gw tn w5 (by omega) htn)
      clear k0 k1 HB HI HK5
      go_wp2_with (first | (go_at_call 44; refine (HNU.out).mono ?_; rintro e w3 ⟨A2, m2, c2, rfl, ho, hb⟩; have HO := Lib.hid ho; have HI3 := Lib.hid (HI5.out.below hb); have HB3 := Lib.hid (below2 hb HB5.out); have hm2 : m2 ≤ 32 := (by have h1 := ho.len; have h2 := numsI_len gw tn 32; unfold numsF at h1; omega); clear ho hb) | (at_builtin; refine wpList_joinI rfl (.tmp 17) (.tmp 22) rfl rfl (HI3.out) rfl (HO.out) (HB3.out) (HB3.out.size) (by omega) ?_; intro A' c' w' hI' hB' hK'; have HI1 := Lib.hid hI'; have HB1 := Lib.hid hB'; clear hI' hB' hK'))
      go_roundw
      case rel => exact ⟨i + 1, A', m + m2, c', by omega, by go_num, by first | rfl | (simp; done), by rw [HSu.out]; exact HI1.out, HB1.out⟩
      case measure => simp [intOf]; omega
    · have d : decide ((i : Int) < (m0 : Int)) = false := decide_eq_false (by omega)
      obtain rfl : i = m0 := by omega
      have hall : leftI G i = G.flatMap fun g => numsF g.1 g.2 := by unfold leftI; rw [List.take_of_length_le (by omega)]
      rw [hall] at HI
      have HS1 := Lib.hid (sort_own _ _ HI.out.row (by omega))
      have HL := Lib.hid HI.out
      go_upto_region 10 with (go_at_call 45; refine (HS1.out).mono ?_; rintro ee w5 ⟨rfl, ho, hk5⟩; have HO5 := Lib.hid ho; have HK5 := Lib.hid hk5; clear ho hk5)
      go_wp2
      go_ret
      refine ⟨A, m, c, rfl, ⟨HO5.out, HL.out.emp⟩, HK5.out.below HB.out (Nat.le_refl _) fun x hx => ?_⟩
      rw [Option.mem_toList] at hx
      exact (own_blk HL.out.row hx).1
end Go.Proofs.Ytmbceafeonjffaa
