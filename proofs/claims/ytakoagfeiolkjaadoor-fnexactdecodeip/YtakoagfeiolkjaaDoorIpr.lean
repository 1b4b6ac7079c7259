/-
Contracts of functions of this seat.
-/
import Derived.Test.YtakoagfeiolkjaaDoorRows
import Derived.WalkKit
import Derived.ProofKit
import Derived.OpenShut
import Derived.Test.YtakoagfeiolkjaaDoorIpe
namespace Go.Proofs.YtakoagfeiolkjaaDoor
open Go.ChangeShapes Go.WideShapes Go.ChangeAt Go.RowKit
set_option linter.unusedVariables false
set_option maxRecDepth 100000
def ihl (zs : List Int) : Int := (zs.getD 0 0 % 16) * 4
def rhC (zs : List Int) : Int := if zs.length < 20 then 2 else if zs.getD 0 0 / 16 ≠ 4 then 4 else if ihl zs < 20 ∨ (zs.length : Int) < ihl zs then 5 else if csum (zs.take (ihl zs).toNat) ≠ 0 then 3 else 0
def rhN (zs : List Int) : Int := if rhC zs = 0 then ihl zs else 0
theorem readHead_long (b off n cap : Nat) (zs : List Int) (w : World) (hn : zs.length = n) (ha : Arr w (some ⟨b, off, none⟩) zs) (hm : n ≤ 1048576) (hc : n ≤ cap) (h20 : 20 ≤ n) :
    Calls Tryd.prog 22 #[.slice (some ⟨b, off, none⟩) n cap] w fun e w' => e = .returned (.tuple #[.int .i64 (rhN zs), .int .i64 (rhC zs)]) ∧ w' = w := by
  obtain ⟨b', o', e, hlt, q0⟩ := ha.2 0 (by omega)
  cases e
  have hzb := getD_bd ha.1 0
  have HC : Hid (rhC zs = if zs.getD 0 0 / 16 ≠ 4 then 4 else if ihl zs < 20 ∨ (n : Int) < ihl zs then 5 else if csum (zs.take (ihl zs).toNat) ≠ 0 then 3 else 0) := hide (by unfold rhC; rw [if_neg (by omega), hn])
  have HI : Hid (ihl zs = zs.getD 0 0 % 16 * 4) := hide rfl
  have HN : Hid (rhN zs = if rhC zs = 0 then ihl zs else 0) := hide rfl
  have hk := and_15_u8 (zs.getD 0 0)
  rw [Nat.add_zero] at q0
  have CS := hide (fun (k : Nat) (hk : k ≤ n) => specChecksum_walk (some ⟨b, off, none⟩) k cap (zs.take k) w (by rw [List.length_take]; omega) (ha.take k) (by omega))
  have HL := hide hn
  generalize rhC zs = RC at *
  generalize rhN zs = RN at *
  generalize hz : zs.getD 0 0 = z at *
  clear hz ha hn
  obtain ⟨z0, z1⟩ := hzb
  by_cases hv : z / 16 = 4
  · rw [if_neg (by omega)] at HC
    obtain ⟨sz, hsz⟩ : ∃ sz : Nat, z % 16 * 4 = (sz : Int) := ⟨(z % 16 * 4).toNat, by omega⟩
    have hI : ihl zs = (sz : Int) := by rw [HI.out, hsz]
    rw [hI] at HC HN
    rw [Int.toNat_natCast] at HC
    clear HI hI
    have hv' : (z / 16 == 4) = true := by rw [beq_iff_eq]; exact hv
    by_cases h1 : (sz : Int) < 20
    · rw [if_pos (.inl h1)] at HC
      clear CS
      go_enter Tryd.func22, Tryd.ntmps22
      go_wp2_with fail
      go_ret2
      exact ⟨by rw [HN.out, HC.out]; rfl, rfl⟩
    · by_cases h2 : (n : Int) < (sz : Int)
      · rw [if_pos (.inr h2)] at HC
        clear CS
        go_enter Tryd.func22, Tryd.ntmps22
        go_wp2_with fail
        go_ret2
        exact ⟨by rw [HN.out, HC.out]; rfl, rfl⟩
      · rw [if_neg (by omega)] at HC
        have CS' := CS.out sz (by omega)
        have CC : Hid (Calls Tryd.prog 27 #[.slice (some ⟨b, off, none⟩) sz cap] w fun e w' => e = .returned (.int .i64 (csum (zs.take sz))) ∧ w' = w) := hide (by
          unfold csum
          have hl : (zs.take sz).length = sz := by rw [List.length_take, HL.out]; omega
          rw [hl]
          exact CS')
        have sl := sl_to b off n cap sz (by omega) (by omega)
        clear CS CS'
        generalize csum (zs.take sz) = S at *
        by_cases h3 : S = 0
        · rw [if_neg (by omega)] at HC
          subst h3
          go_enter Tryd.func22, Tryd.ntmps22
          go_wp2_with fail
          refine CC.out.mono ?_
          rintro e w1 ⟨rfl, hw1⟩
          rw [hw1]
          clear hw1
          go_wp2_with fail
          go_ret2
          exact ⟨by rw [HN.out, HC.out]; rfl, rfl⟩
        · rw [if_pos h3] at HC
          have h3' : (S == 0) = false := by rw [beq_eq_false_iff_ne]; exact h3
          go_enter Tryd.func22, Tryd.ntmps22
          go_wp2_with fail
          refine CC.out.mono ?_
          rintro e w1 ⟨rfl, hw1⟩
          rw [hw1]
          clear hw1
          go_wp2_with fail
          go_ret2
          exact ⟨by rw [HN.out, HC.out]; rfl, rfl⟩
  · rw [if_pos hv] at HC
    have hv' : (z / 16 == 4) = false := by rw [beq_eq_false_iff_ne]; exact hv
    clear CS
    go_enter Tryd.func22, Tryd.ntmps22
    go_wp2_with fail
    go_ret2
    exact ⟨by rw [HN.out, HC.out]; rfl, rfl⟩
theorem readHead_short (a : Option Addr) (n cap : Nat) (zs : List Int) (w : World) (hn : zs.length = n) (h20 : n < 20) :
    Calls Tryd.prog 22 #[.slice a n cap] w fun e w' => e = .returned (.tuple #[.int .i64 (rhN zs), .int .i64 (rhC zs)]) ∧ w' = w := by
  have HC : Hid (rhC zs = 2) := hide (by unfold rhC; rw [if_pos (by omega)])
  have HN : Hid (rhN zs = 0) := hide (by unfold rhN; rw [HC.out]; rfl)
  rw [HC.out, HN.out]
  clear hn
  go_enter Tryd.func22, Tryd.ntmps22
  go_wp2_with fail
  go_ret2
  exact ⟨rfl, rfl⟩
theorem readHead_any (a : Option Addr) (n cap : Nat) (zs : List Int) (w : World) (hn : zs.length = n) (ha : Arr w a zs) (hm : n ≤ 1048576) (hc : n ≤ cap) :
    Calls Tryd.prog 22 #[.slice a n cap] w fun e w' => e = .returned (.tuple #[.int .i64 (rhN zs), .int .i64 (rhC zs)]) ∧ w' = w := by
  by_cases h : n < 20
  · exact readHead_short a n cap zs w hn h
  · obtain ⟨b, off, rfl, _⟩ := ha.2 0 (by omega)
    exact readHead_long b off n cap zs w hn ha hm hc (by omega)
end Go.Proofs.YtakoagfeiolkjaaDoor
