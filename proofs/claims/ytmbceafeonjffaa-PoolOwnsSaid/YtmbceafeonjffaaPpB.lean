/-
  Package pool: Got, Free. Conditions stand in each theorem.
-/
import Derived.Test.YtmbceafeonjffaaPpA
namespace Go.Proofs.Ytmbceafeonjffaa
open Go.RowKit Go.Deep Plain
set_option linter.unusedVariables false
set_option linter.unusedSimpArgs false
set_option maxRecDepth 100000
theorem below2 {w0 w w' : World} (h : Below w.heap.size w w') (h0 : Below w0.heap.size w0 w) : Below w0.heap.size w0 w' := h0.trans (h.mono h0.size)
/-- a row of ints that a call made -/
def RowOk (zs : List Int) (w : World) (e : Ending) (w' : World) : Prop := ∃ A n c, e = .returned (.slice A n c) ∧ OwI w.heap.size w' A n c zs ∧ Below w.heap.size w w'
set_option maxHeartbeats 4000000 in
theorem got_any {w : World} {gs gc n : Nat} {s : Ps} (hs : StW w gs gc n s) (hn : n ≤ 32) :
    Calls Try.prog 15 #[.pointer (some ⟨gs, 0, none⟩)] w (RowOk (numsF s.wd s.tk) w) := by
  obtain ⟨tn, htn⟩ : ∃ tn : Nat, s.tk = tn := ⟨s.tk.toNat, by have := hs.ok.tr.1; omega⟩
  have htr := hs.ok.tr.2
  have hwd := hs.ok.wd
  obtain ⟨⟨gv, hsp, hg⟩, _⟩ := hs
  have c2 := hsp.c2
  have c37 := hsp.c37
  rw [htn] at c37 ⊢
  rw [htn] at htr
  have HN := Lib.hid (fun W => numbers_any s.wd tn W (by omega) (by omega))
  have hgl : gs < w.heap.size := hsp.blk.lt
  clear hsp hg htn
  go_enter Try.func15, Try.ntmps15
  go_upto_region 3 with fail
  go_region_held3 (fun W => W.cell? ⟨gs, 2, none⟩ = some (.int .i64 s.wd) ∧ W.cell? ⟨gs, 37, none⟩ = some (.int .u32 tn))
    (first | assumption | (exact ⟨c2, c37⟩) | (exact ⟨k2, k37⟩) | go_keep)
    (first | (go_at_call 44; refine (HN.out _).mono ?_; rintro e w' ⟨A, m, c, rfl, ho, hb⟩; have k2 := (hb.cell (p := ⟨gs, 2, none⟩) hgl).trans c2; have k37 := (hb.cell (p := ⟨gs, 37, none⟩) hgl).trans c37; have HO := Lib.hid ho; have HB := Lib.hid hb; clear ho hb))
  go_wp2
  go_ret
  exact ⟨A, m, c, rfl, HO.out, bthen (bdrew w) HB.out⟩
/-- the numbers that are free in the words below i -/
def freeI (l : List Int) (i : Nat) : List Int := (List.range i).flatMap fun k => numsF k (freeF (l.getD k 0))
def freeL (n : Nat) (l : List Int) : List Int := freeI l n
theorem freeI_succ (l : List Int) (i : Nat) : freeI l (i + 1) = freeI l i ++ numsF i (freeF (l.getD i 0)) := by
  unfold freeI
  rw [List.range_succ, List.flatMap_append]
  simp
theorem freeI_len (l : List Int) (i : Nat) : (freeI l i).length ≤ 32 * i := by
  induction i with
  | zero => simp [freeI]
  | succ i ih =>
    rw [freeI_succ, List.length_append]
    have := numsI_len i (freeF (l.getD i 0)) 32
    unfold numsF
    omega
set_option maxHeartbeats 4000000 in
theorem free_any {w : World} {gp gc gn n : Nat} {size : Int} {l : List Int} (h : PoS w gp gc gn n size l) (hn : n ≤ 32) :
    Calls Try.prog 16 #[.pointer (some ⟨gp, 0, none⟩)] w (RowOk (freeL n l) w) := by
  have HCP := Lib.hid (pcopy_any8 h (by omega))
  have HU := Lib.hid h.cl.u64
  have HL := Lib.hid h.cl.len
  clear h
  go_enter Try.func16, Try.ntmps16
  go_upto_region 3 with (go_at_call 22; refine (HCP.out).mono ?_; rintro e w1 ⟨rfl, hr, hb⟩)
  have HR := Lib.hid hr
  have HB1 := Lib.hid hb
  have hwl : w.heap.size < w1.heap.size := hr.lt
  clear hr hb HCP
  go_loopw [3, 9] (fun s3 s9 wr => ∃ i : Nat, ∃ A m c, i ≤ n ∧ s9 = .int .i64 i ∧ s3 = .slice A m c ∧ OwI w1.heap.size wr A m c (freeI l i) ∧ Below w1.heap.size w1 wr) (fun _ s9 _ => n - (intOf s9).toNat)
  case atStart => exact ⟨0, none, 0, 0, Nat.zero_le _, rfl, rfl, OwI.nil _ _, Below.refl _ _⟩
  case round =>
    obtain ⟨i, A, m, c, hi, rfl, rfl, hI, hB⟩ := hrel
    have hm : m ≤ 1024 := by have := hI.len; have := freeI_len l i; omega
    have HSu := Lib.hid (freeI_succ l i)
    have HI := Lib.hid hI
    have HB := Lib.hid hB
    have HRr := Lib.hid (HR.out.below hB)
    clear hI hB
    by_cases hlt : i < n
    · have d : decide ((i : Int) < (n : Int)) = true := decide_eq_true (by omega)
      obtain ⟨x, hx⟩ : ∃ x, l.getD i 0 = x := ⟨_, rfl⟩
      have hu := HU.out i
      unfold U64 at hu
      rw [hx] at hu
      have k0 : wr.cell? ⟨w.heap.size, i, none⟩ = some (.int .u64 x) := by rw [HRr.out.at (by rw [HL.out]; exact hlt), hx]
      have HFO := Lib.hid (freeOf_any x wr hu.1 hu.2)
      have hfr := freeF_rng x
      obtain ⟨fn, hfn⟩ : ∃ fn : Nat, freeF x = fn := ⟨(freeF x).toNat, by omega⟩
      have HNU := Lib.hid (numbers_any i fn wr (by omega) (by omega))
      rw [hfn] at HFO
      rw [hx, hfn] at HSu
      have hil : (i : Int) < (n : Int) := by omega
      clear hfn hfr hx
      have hni : m + 32 ≤ 2000 := by omega
      go_wp2_with (first | (go_at_call 51; refine (HFO.out).mono ?_; rintro e w2 ⟨rfl, rfl⟩) | (go_at_call 44; refine (HNU.out).mono ?_; rintro e w3 ⟨A2, m2, c2, rfl, ho, hb⟩; have HO := Lib.hid ho; have HI3 := Lib.hid (HI.out.below hb); have HB3 := Lib.hid (below2 hb HB.out); have hm2 : m2 ≤ 32 := (by have h1 := ho.len; have h2 := numsI_len i fn 32; unfold numsF at h1; omega); clear ho hb) | (at_builtin; refine wpList_joinI rfl (.tmp 14) (.tmp 18) rfl rfl (HI3.out) rfl (HO.out) (HB3.out) (HB3.out.size) (by omega) ?_; intro A' c' w' hI' hB' hK'; have HI1 := Lib.hid hI'; have HB1 := Lib.hid hB'; clear hI' hB' hK'))
      go_roundw
      case rel => exact ⟨i + 1, A', m + m2, c', by omega, by go_num, by first | rfl | (simp; done), by rw [HSu.out]; exact HI1.out, HB1.out⟩
      case measure => simp [intOf]; omega
    · have d : decide ((i : Int) < (n : Int)) = false := decide_eq_false (by omega)
      obtain rfl : i = n := by omega
      go_wp2
      go_ret
      exact ⟨A, m, c, rfl, HI.out.lower (by omega), bthen HB1.out HB.out⟩
end Go.Proofs.Ytmbceafeonjffaa
