/-
  HistoryNotes: its walk. Conditions stand in each theorem.
-/
import Derived.Test.YtbnlpidhbilenaaHnB0
import Derived.Test.YtbnlpidhbilenaaHnB1
import Derived.Test.YtbnlpidhbilenaaHnB2
import Derived.Test.YtbnlpidhbilenaaHnB3
import Derived.Test.YtbnlpidhbilenaaHnB4
import Derived.Test.YtbnlpidhbilenaaHq
namespace Go.Proofs.Ytbnlpidhbilenaa
open Go.RowKit Go.Deep Plain
set_option linter.unusedVariables false
set_option linter.unusedSimpArgs false
set_option maxRecDepth 1000000
set_option maxHeartbeats 80000000 in
theorem hn_walk (A : Option Addr) (nr c : Nat) (L : List A18) (w : World) (hL : L.length = nr) (hnr : nr ≤ c) (hcm : c ≤ maxLen) (hR : RdA w A L) (hok : ∀ x ∈ L, x.ok w) :
    Calls Try.prog 3 #[.slice A nr c] w fun e w' => e = .returned (.bool true) ∧ Below w.heap.size w w' := by
  unfold maxLen at hcm
  have HR := Lib.hid hR
  have HOK := Lib.hid hok
  have HL := Lib.hid hL
  clear hR hok hL
  have c0 : Below w.heap.size w w := Below.refl _ _
  go_enter Try.func3, Try.ntmps3
  go_upto_region 3 with (first
    | (go_at_call 9; refine (notes_any _).mono ?_; rintro e W1 ⟨rfl, hx⟩; have c0 := bthen c0 hx; clear hx)
    | (go_at_call 10; refine (none_any _).mono ?_; rintro e W2 ⟨rfl, rfl⟩)
    | (go_at_call 11; refine (begin_nil _ _ _ _ _ _ _).mono ?_; rintro e W3 ⟨rfl, hx⟩; have c0 := bthen c0 hx; clear hx)
    | (go_at_call 12; refine (end_nil _ _ _ _ _ _).mono ?_; rintro e W4 ⟨rfl, hx⟩; have c0 := bthen c0 hx; clear hx)
    | (go_at_call 13; refine (ended_nil _ _ _ _ _).mono ?_; rintro e W5 ⟨rfl, rfl⟩)
    | (go_at_call 14; refine (now_nil _).mono ?_; rintro e W6 ⟨rfl, rfl⟩)
    | (go_at_call 15; refine (all_nil _).mono ?_; rintro e W7 ⟨rfl, rfl⟩))
  have HC0 := Lib.hid c0
  clear c0
  go_upto_region 4 with (go_at_call 16; refine (hnew_any _).mono ?_; rintro e w2 ⟨rfl, hh, hb2⟩)
  have HC2 := Lib.hid (bthen HC0.out hb2)
  have HH := Lib.hid hh
  clear hh hb2
  have hs0 := HC0.out.size
  go_wp2
  have HG := Lib.hid (show w.heap.size ≤ W4.heap.size from hs0)
  have HT0 := Lib.hid (show NtR w w2 W4.heap.size 0 0 0 none 0 [] none 0 [] (fun _ => []) (fun _ => []) from
    ⟨HC2.out, ⟨HH.out.st, own_base HH.out.row hs0, hs0⟩, rfl, World.ownsRow_nil _ _ _ _, rfl, fun j hj => absurd hj (by omega), fun j hj => absurd hj (by omega), fun j hj => absurd hj (by omega), fun j hj => absurd hj (by omega), Nat.le_refl _, Nat.le_refl _⟩)
  generalize W4.heap.size = gh at *
  refine notes_loop w gh nr c A _ _ _ _ _ _ _ _ _ _ _ _ _ _ _ _ _ _ _ _ _ _ _ _ _ _ _ _ _ _ _ _ hnr (by omega) (notes_bodies w gh nr c A _ _ _ _ _ _ _ _ _ _ _ _ _ _ _ _ _ _ _ _ _ _ _ _ _ _ _ _ _ _ _ _ L (notes_body0 w gh nr c A _ _ _ _ _ _ _ _ _ _ _ _ _ _ _ _ _ _ _ _ _ _ _ _ _ _ _ _ _ _ _ _ L HL.out hnr (by omega) HR.out HOK.out HG.out) (notes_body1 w gh nr c A _ _ _ _ _ _ _ _ _ _ _ _ _ _ _ _ _ _ _ _ _ _ _ _ _ _ _ _ _ _ _ _ L HL.out hnr (by omega) HR.out HOK.out HG.out) (notes_body2 w gh nr c A _ _ _ _ _ _ _ _ _ _ _ _ _ _ _ _ _ _ _ _ _ _ _ _ _ _ _ _ _ _ _ _ L HL.out hnr (by omega) HR.out HOK.out HG.out) (notes_body3 w gh nr c A _ _ _ _ _ _ _ _ _ _ _ _ _ _ _ _ _ _ _ _ _ _ _ _ _ _ _ _ _ _ _ _ L HL.out hnr (by omega) HR.out HOK.out HG.out) (notes_body4 w gh nr c A _ _ _ _ _ _ _ _ _ _ _ _ _ _ _ _ _ _ _ _ _ _ _ _ _ _ _ _ _ _ _ _ L HL.out hnr (by omega) HR.out HOK.out HG.out)) _ ?_ 0 0 0 none 0 _ _ _ _ _ _ _ _ _ _ _ _ _ _ _ _ _ _ _ _ _ _ _ _ _ _ _ _ _ _ _ _ _ _ _ _ _ _ _ _ _ _ _ _ _ _ _ _ _ _ _ _ _ _ _ _ _ _ _ _ _ _ _ _ _ _ _ _ _ _ _ _ _ _ _ _ _ _ _ _ _ _ _ _ _ _ _ _ _ _ _ _ _ _ _ _ _ _ _ _ _ _ _ _ _ _ _ _ _ _ _ _ _ _ _ _ _ _ _ _ _ _ _ _ _ _ _ _ _ _ _ _ _ _ _ _ _ _ _ _ _ _ _ _ _ _ _ _ _ _ _ _ _ _ _ _ _ _ _ _ _ _ _ _ _ _ _ _ _ _ _ _ _ _ _ _ _ _ _ _ _ _ _ _ _ _ _ _ _ _ _ _ _ _ _ _ _ _ _ _ _ _ _ _ _ _ _ _ _ _ _ _ _ _ _ _ _ _ _ _ _ _ _ _ _ _ _ _ _ _ _ _ _ _ _ _ _ _ _ _ _ _ _ _ _ _ _ _ _ _ _ _ _ _ _ _ _ _ _ _ _ _ _ _ _ _ _ _ _ _ _ _ _ _ _ ⟨Nat.zero_le _, by omega, _, _, _, _, _, _, HT0.out⟩
  intro a' w' hX
  unfold WXN at hX
  obtain ⟨i, now, k, lA, lc, hX⟩ := hX
  obtain ⟨r2, hX⟩ := hX
  obtain ⟨u7, hX⟩ := hX
  obtain ⟨u8, hX⟩ := hX
  obtain ⟨u9, hX⟩ := hX
  obtain ⟨u10, hX⟩ := hX
  obtain ⟨u11, hX⟩ := hX
  obtain ⟨u12, hX⟩ := hX
  obtain ⟨u13, hX⟩ := hX
  obtain ⟨u14, hX⟩ := hX
  obtain ⟨u15, hX⟩ := hX
  obtain ⟨u16, hX⟩ := hX
  obtain ⟨u48, hX⟩ := hX
  obtain ⟨u49, hX⟩ := hX
  obtain ⟨u50, hX⟩ := hX
  obtain ⟨u51, hX⟩ := hX
  obtain ⟨u52, hX⟩ := hX
  obtain ⟨u53, hX⟩ := hX
  obtain ⟨u54, hX⟩ := hX
  obtain ⟨u55, hX⟩ := hX
  obtain ⟨u56, hX⟩ := hX
  obtain ⟨u57, hX⟩ := hX
  obtain ⟨u58, hX⟩ := hX
  obtain ⟨u59, hX⟩ := hX
  obtain ⟨u60, hX⟩ := hX
  obtain ⟨u61, hX⟩ := hX
  obtain ⟨u62, hX⟩ := hX
  obtain ⟨u63, hX⟩ := hX
  obtain ⟨u64, hX⟩ := hX
  obtain ⟨u65, hX⟩ := hX
  obtain ⟨u66, hX⟩ := hX
  obtain ⟨u67, hX⟩ := hX
  obtain ⟨u68, hX⟩ := hX
  obtain ⟨u69, hX⟩ := hX
  obtain ⟨u70, hX⟩ := hX
  obtain ⟨u71, hX⟩ := hX
  obtain ⟨u72, hX⟩ := hX
  obtain ⟨u73, hX⟩ := hX
  obtain ⟨u74, hX⟩ := hX
  obtain ⟨u75, hX⟩ := hX
  obtain ⟨u76, hX⟩ := hX
  obtain ⟨u77, hX⟩ := hX
  obtain ⟨u78, hX⟩ := hX
  obtain ⟨u79, hX⟩ := hX
  obtain ⟨u80, hX⟩ := hX
  obtain ⟨u81, hX⟩ := hX
  obtain ⟨u82, hX⟩ := hX
  obtain ⟨u83, hX⟩ := hX
  obtain ⟨u84, hX⟩ := hX
  obtain ⟨u85, hX⟩ := hX
  obtain ⟨u86, hX⟩ := hX
  obtain ⟨u87, hX⟩ := hX
  obtain ⟨u88, hX⟩ := hX
  obtain ⟨u89, hX⟩ := hX
  obtain ⟨u90, hX⟩ := hX
  obtain ⟨u91, hX⟩ := hX
  obtain ⟨u92, hX⟩ := hX
  obtain ⟨u93, hX⟩ := hX
  obtain ⟨u94, hX⟩ := hX
  obtain ⟨u95, hX⟩ := hX
  obtain ⟨u96, hX⟩ := hX
  obtain ⟨u97, hX⟩ := hX
  obtain ⟨u98, hX⟩ := hX
  obtain ⟨u99, hX⟩ := hX
  obtain ⟨u100, hX⟩ := hX
  obtain ⟨u101, hX⟩ := hX
  obtain ⟨u102, hX⟩ := hX
  obtain ⟨u103, hX⟩ := hX
  obtain ⟨u104, hX⟩ := hX
  obtain ⟨u105, hX⟩ := hX
  obtain ⟨u106, hX⟩ := hX
  obtain ⟨u107, hX⟩ := hX
  obtain ⟨u108, hX⟩ := hX
  obtain ⟨u109, hX⟩ := hX
  obtain ⟨u110, hX⟩ := hX
  obtain ⟨u111, hX⟩ := hX
  obtain ⟨u112, hX⟩ := hX
  obtain ⟨u113, hX⟩ := hX
  obtain ⟨u114, hX⟩ := hX
  obtain ⟨u115, hX⟩ := hX
  obtain ⟨u116, hX⟩ := hX
  obtain ⟨u117, hX⟩ := hX
  obtain ⟨u118, hX⟩ := hX
  obtain ⟨u119, hX⟩ := hX
  obtain ⟨u120, hX⟩ := hX
  obtain ⟨u121, hX⟩ := hX
  obtain ⟨u122, hX⟩ := hX
  obtain ⟨u123, hX⟩ := hX
  obtain ⟨u124, hX⟩ := hX
  obtain ⟨u125, hX⟩ := hX
  obtain ⟨u126, hX⟩ := hX
  obtain ⟨u127, hX⟩ := hX
  obtain ⟨u128, hX⟩ := hX
  obtain ⟨u129, hX⟩ := hX
  obtain ⟨u130, hX⟩ := hX
  obtain ⟨u131, hX⟩ := hX
  obtain ⟨u132, hX⟩ := hX
  obtain ⟨u133, hX⟩ := hX
  obtain ⟨u134, hX⟩ := hX
  obtain ⟨u135, hX⟩ := hX
  obtain ⟨u136, hX⟩ := hX
  obtain ⟨u137, hX⟩ := hX
  obtain ⟨u138, hX⟩ := hX
  obtain ⟨u139, hX⟩ := hX
  obtain ⟨u140, hX⟩ := hX
  obtain ⟨u141, hX⟩ := hX
  obtain ⟨u142, hX⟩ := hX
  obtain ⟨u143, hX⟩ := hX
  obtain ⟨u144, hX⟩ := hX
  obtain ⟨u145, hX⟩ := hX
  obtain ⟨u146, hX⟩ := hX
  obtain ⟨u147, hX⟩ := hX
  obtain ⟨u148, hX⟩ := hX
  obtain ⟨u149, hX⟩ := hX
  obtain ⟨u150, hX⟩ := hX
  obtain ⟨u151, hX⟩ := hX
  obtain ⟨u152, hX⟩ := hX
  obtain ⟨u153, hX⟩ := hX
  obtain ⟨u154, hX⟩ := hX
  obtain ⟨u155, hX⟩ := hX
  obtain ⟨u156, hX⟩ := hX
  obtain ⟨u157, hX⟩ := hX
  obtain ⟨u158, hX⟩ := hX
  obtain ⟨u159, hX⟩ := hX
  obtain ⟨u160, hX⟩ := hX
  obtain ⟨u161, hX⟩ := hX
  obtain ⟨u162, hX⟩ := hX
  obtain ⟨u163, hX⟩ := hX
  obtain ⟨u164, hX⟩ := hX
  obtain ⟨u165, hX⟩ := hX
  obtain ⟨u166, hX⟩ := hX
  obtain ⟨u167, hX⟩ := hX
  obtain ⟨u168, hX⟩ := hX
  obtain ⟨u169, hX⟩ := hX
  obtain ⟨u170, hX⟩ := hX
  obtain ⟨u171, hX⟩ := hX
  obtain ⟨u172, hX⟩ := hX
  obtain ⟨u173, hX⟩ := hX
  obtain ⟨u174, hX⟩ := hX
  obtain ⟨u175, hX⟩ := hX
  obtain ⟨u176, hX⟩ := hX
  obtain ⟨u177, hX⟩ := hX
  obtain ⟨u178, hX⟩ := hX
  obtain ⟨u179, hX⟩ := hX
  obtain ⟨u180, hX⟩ := hX
  obtain ⟨u181, hX⟩ := hX
  obtain ⟨u182, hX⟩ := hX
  obtain ⟨u183, hX⟩ := hX
  obtain ⟨u184, hX⟩ := hX
  obtain ⟨u185, hX⟩ := hX
  obtain ⟨u186, hX⟩ := hX
  obtain ⟨u187, hX⟩ := hX
  obtain ⟨u188, hX⟩ := hX
  obtain ⟨u189, hX⟩ := hX
  obtain ⟨u190, hX⟩ := hX
  obtain ⟨u191, hX⟩ := hX
  obtain ⟨u192, hX⟩ := hX
  obtain ⟨u193, hX⟩ := hX
  obtain ⟨u194, hX⟩ := hX
  obtain ⟨u195, hX⟩ := hX
  obtain ⟨u196, hX⟩ := hX
  obtain ⟨u197, hX⟩ := hX
  obtain ⟨u198, hX⟩ := hX
  obtain ⟨u199, hX⟩ := hX
  obtain ⟨u200, hX⟩ := hX
  obtain ⟨u201, hX⟩ := hX
  obtain ⟨u202, hX⟩ := hX
  obtain ⟨u203, hX⟩ := hX
  obtain ⟨u204, hX⟩ := hX
  obtain ⟨u205, hX⟩ := hX
  obtain ⟨u206, hX⟩ := hX
  obtain ⟨u207, hX⟩ := hX
  obtain ⟨u208, hX⟩ := hX
  obtain ⟨u209, hX⟩ := hX
  obtain ⟨u210, hX⟩ := hX
  obtain ⟨u211, hX⟩ := hX
  obtain ⟨u212, hX⟩ := hX
  obtain ⟨u213, hX⟩ := hX
  obtain ⟨u214, hX⟩ := hX
  obtain ⟨u215, hX⟩ := hX
  obtain ⟨u216, hX⟩ := hX
  obtain ⟨u217, hX⟩ := hX
  obtain ⟨u218, hX⟩ := hX
  obtain ⟨u219, hX⟩ := hX
  obtain ⟨u220, hX⟩ := hX
  obtain ⟨u221, hX⟩ := hX
  obtain ⟨u222, hX⟩ := hX
  obtain ⟨u223, hX⟩ := hX
  obtain ⟨u224, hX⟩ := hX
  obtain ⟨u225, hX⟩ := hX
  obtain ⟨u226, hX⟩ := hX
  obtain ⟨u227, hX⟩ := hX
  obtain ⟨u228, hX⟩ := hX
  obtain ⟨u229, hX⟩ := hX
  obtain ⟨u230, hX⟩ := hX
  obtain ⟨u231, hX⟩ := hX
  obtain ⟨u232, hX⟩ := hX
  obtain ⟨u233, hX⟩ := hX
  obtain ⟨u234, hX⟩ := hX
  obtain ⟨u235, hX⟩ := hX
  obtain ⟨u236, hX⟩ := hX
  obtain ⟨u237, hX⟩ := hX
  obtain ⟨u238, hX⟩ := hX
  obtain ⟨u239, hX⟩ := hX
  obtain ⟨u240, hX⟩ := hX
  obtain ⟨u241, hX⟩ := hX
  obtain ⟨u242, hX⟩ := hX
  obtain ⟨u243, hX⟩ := hX
  obtain ⟨u244, hX⟩ := hX
  obtain ⟨u245, hX⟩ := hX
  obtain ⟨u246, hX⟩ := hX
  obtain ⟨u247, hX⟩ := hX
  obtain ⟨u248, hX⟩ := hX
  obtain ⟨u249, hX⟩ := hX
  obtain ⟨u250, hX⟩ := hX
  obtain ⟨u251, hX⟩ := hX
  obtain ⟨u252, hX⟩ := hX
  obtain ⟨u253, hX⟩ := hX
  obtain ⟨u254, hX⟩ := hX
  obtain ⟨u255, hX⟩ := hX
  obtain ⟨u256, hX⟩ := hX
  obtain ⟨u257, hX⟩ := hX
  obtain ⟨u258, hX⟩ := hX
  obtain ⟨u259, hX⟩ := hX
  obtain ⟨u260, hX⟩ := hX
  obtain ⟨u261, hX⟩ := hX
  obtain ⟨u262, hX⟩ := hX
  obtain ⟨u263, hX⟩ := hX
  obtain ⟨u264, hX⟩ := hX
  obtain ⟨u265, hX⟩ := hX
  obtain ⟨u266, hX⟩ := hX
  obtain ⟨u267, hX⟩ := hX
  obtain ⟨u268, hX⟩ := hX
  obtain ⟨u269, hX⟩ := hX
  obtain ⟨u270, hX⟩ := hX
  obtain ⟨u271, hX⟩ := hX
  obtain ⟨u272, hX⟩ := hX
  obtain ⟨u273, hX⟩ := hX
  obtain ⟨u274, hX⟩ := hX
  obtain ⟨u275, hX⟩ := hX
  obtain ⟨u276, hX⟩ := hX
  obtain ⟨u277, hX⟩ := hX
  obtain ⟨u278, hX⟩ := hX
  obtain ⟨u279, hX⟩ := hX
  obtain ⟨u280, hX⟩ := hX
  obtain ⟨u281, hX⟩ := hX
  obtain ⟨u282, hX⟩ := hX
  obtain ⟨u283, hX⟩ := hX
  obtain ⟨u284, hX⟩ := hX
  obtain ⟨u285, hX⟩ := hX
  obtain ⟨u286, hX⟩ := hX
  obtain ⟨u287, hX⟩ := hX
  obtain ⟨u288, hX⟩ := hX
  obtain ⟨u289, hX⟩ := hX
  obtain ⟨u290, hX⟩ := hX
  obtain ⟨u291, hX⟩ := hX
  obtain ⟨u292, hX⟩ := hX
  obtain ⟨u293, hX⟩ := hX
  obtain ⟨u294, hX⟩ := hX
  obtain ⟨u295, hX⟩ := hX
  obtain ⟨u296, hX⟩ := hX
  obtain ⟨u297, hX⟩ := hX
  obtain ⟨u298, hX⟩ := hX
  obtain ⟨u299, hX⟩ := hX
  obtain ⟨u300, hX⟩ := hX
  obtain ⟨u301, hX⟩ := hX
  obtain ⟨u302, hX⟩ := hX
  obtain ⟨u303, hX⟩ := hX
  obtain ⟨u304, hX⟩ := hX
  obtain ⟨u305, hX⟩ := hX
  obtain ⟨u306, hX⟩ := hX
  obtain ⟨u307, hX⟩ := hX
  obtain ⟨u308, hX⟩ := hX
  obtain ⟨u309, hX⟩ := hX
  obtain ⟨u310, hX⟩ := hX
  obtain ⟨hb, rfl⟩ := hX
  have HB9 := Lib.hid hb
  clear hb HT0
  go_wp2
  go_ret
  exact ⟨rfl, HB9.out⟩
end Go.Proofs.Ytbnlpidhbilenaa
