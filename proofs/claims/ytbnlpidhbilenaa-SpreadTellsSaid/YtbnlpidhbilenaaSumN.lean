/-
  The contracts of package sum with the slice's length told apart from its list, and small words for the ends of walks. Conditions stand in each theorem.
-/
import Derived.Test.YtbnlpidhbilenaaSum
import Derived.Test.YtbnlpidhbilenaaWrap
import Derived.Test.YtbnlpidhbilenaaOwn
namespace Go.Proofs.Ytbnlpidhbilenaa
open Go.RowKit Plain
set_option linter.unusedVariables false
set_option maxRecDepth 100000

/-- the checksum of bytes -/
def Cs (zs : List Int) : Int := 65535 - F (tot zs)
theorem Cs_range (zs : List Int) (h : By zs) : 0 ≤ Cs zs ∧ Cs zs ≤ 65535 := by
  have := F_range _ (tot_nonneg zs h)
  unfold Cs; omega

theorem of_n (A : Option Addr) (n c : Nat) (zs : List Int) (w : World) (hn : zs.length = n) (hl : n ≤ 1000000) (hR : Rd w A zs) :
    Calls Try.prog 64 #[.slice A n c] w fun e w' => e = .returned (.int .u16 (Cs zs)) ∧ ∃ q, w' = w.drewN q := by
  subst hn; exact of_any A c zs w hl hR
theorem more_n (s : Int) (A : Option Addr) (n c : Nat) (zs : List Int) (w : World) (h0 : 0 ≤ s) (h1 : s < 4294967296) (hn : zs.length = n) (hl : n ≤ 1000000) (hR : Rd w A zs) :
    Calls Try.prog 89 #[.int .u32 s, .slice A n c] w fun e w' => e = .returned (.int .u32 (F (s + tot zs))) ∧ ∃ q, w' = w.drewN q := by
  subst hn; exact more_any s A c zs w h0 h1 hl hR
theorem refOf_n (A : Option Addr) (n c : Nat) (zs : List Int) (w : World) (hn : zs.length = n) (hl : n ≤ 1000000) (hR : Rd w A zs) :
    Calls Try.prog 55 #[.slice A n c] w fun e w' => e = .returned (.int .u16 (Cs zs)) ∧ w = w' := by
  subst hn; exact refOf_any A c zs w hl hR
theorem refSum_n (s : Int) (A : Option Addr) (n c : Nat) (zs : List Int) (w : World) (h0 : 0 ≤ s) (h1 : s < 4294967296) (hn : zs.length = n) (hl : n ≤ 1000000) (hR : Rd w A zs) :
    Calls Try.prog 73 #[.int .i64 s, .slice A n c] w fun e w' => e = .returned (.int .i64 (F (s + tot zs))) ∧ w = w' := by
  subst hn; exact refSum_any s A c zs w h0 h1 hl hR
end Go.Proofs.Ytbnlpidhbilenaa
