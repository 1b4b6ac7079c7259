/-
Contracts of functions of this seat.
-/
import Derived.Test.YtmhahaggeiogiahDoorRows
import Derived.WalkKit
import Derived.ProofKit
import Derived.OpenShut
import Derived.Test.YtmhahaggeiogiahDoorCur
import Derived.Test.YtmhahaggeiogiahDoorAsm
import Derived.Test.YtmhahaggeiogiahDoorArs
namespace Go.Proofs.YtmhahaggeiogiahDoor
open Go.ChangeShapes Go.WideShapes Go.ChangeAt Go.RowKit
set_option linter.unusedVariables false
set_option maxRecDepth 100000


theorem arBody_bd (o m s u t : Int) : ∀ z ∈ arBody o m s u t, 0 ≤ z ∧ z ≤ 255 := by
  intro z hz
  unfold arBody at hz
  simp only [List.mem_append] at hz
  rcases hz with ((((hz | hz) | hz) | hz) | hz) | hz
  · unfold arHead at hz; simp only [List.mem_cons, List.not_mem_nil, or_false] at hz; omega
  all_goals exact putL_bd _ _ z hz
def opB (o : Int) : Bool := decide (o = 1) || decide (o = 2)
theorem isArpOp_walk (x : Int) (w : World) : Calls Tryd.prog 30 #[.int .i64 x] w fun e w' => e = .returned (.bool (opB x)) ∧ w' = w := by
  by_cases h1 : x = 1
  · subst h1
    go_enter Tryd.func30, Tryd.ntmps30
    go_wp2
    go_ret
    exact ⟨rfl, rfl⟩
  · by_cases h2 : x = 2
    · subst h2
      go_enter Tryd.func30, Tryd.ntmps30
      go_wp2
      go_ret
      exact ⟨rfl, rfl⟩
    · have e : Hid (opB x = false) := hide (by unfold opB; simp [h1, h2])
      go_enter Tryd.func30, Tryd.ntmps30
      go_wp2
      go_ret
      exact ⟨ret_bool (by rw [e.out]; simp [h1, h2]), rfl⟩
theorem arOK_opB (o m s u t : Int) : arOK o m s u t = (opB o && macOKB m && macOKB u && adrB s && adrB t) := rfl
/-- The Arp's box and the cursor's, laid. -/
abbrev encAW (w : World) (o m s u t : Int) : World := (w.alloc (.cells #[.int .i64 o, .int .i64 m, .int .i64 s, .int .i64 u, .int .i64 t] 34)).alloc (.cells #[.slice none 0 0, .int .i64 0, .nilIface] 43)
theorem encAW_facts (w : World) (o m s u t : Int) : BoxA w (encAW w o m s u t) o m s u t ∧ Cur (encAW w o m s u t) (w.heap.size + 1) (.slice none 0 0) 0 .nilIface := by
  have h1 := BoxA.start w o m s u t 34
  have hs := World.size_alloc w (.cells #[.int .i64 o, .int .i64 m, .int .i64 s, .int .i64 u, .int .i64 t] 34)
  refine ⟨h1.next ((Below.refl _ _).alloc (Nat.le_refl _) _), ?_⟩
  unfold Cur
  rw [← hs]
  exact heap_alloc_new _ _
end Go.Proofs.YtmhahaggeiogiahDoor
