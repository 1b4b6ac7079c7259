/-
Contracts of functions of this seat.
-/
import Derived.Test.YtmgjagajcmeikalDoorRows
import Derived.WalkKit
import Derived.ProofKit
import Derived.OpenShut
import Derived.Test.YtmgjagajcmeikalDoorSrc
namespace Go.Proofs.YtmgjagajcmeikalDoor
open Go.ChangeShapes Go.WideShapes Go.ChangeAt Go.RowKit
set_option linter.unusedVariables false
def bendS : ByteArray := ⟨#[46, 58, 47, 48, 49, 50, 57, 97, 71, 32, 45, 10]⟩
theorem slice_bend (k : Int) (h0 : 0 ≤ k) (h1 : k < 12) (w : World) : (Instr.slice 9 (.string ⟨#[46, 58, 47, 48, 49, 50, 57, 97, 71, 32, 45, 10]⟩) (some (.int .i64 k)) (some (.int .i64 (k + 1))) none).run Tryd.prog w = .ok (.string (bendS.extract k.toNat (k + 1).toNat)) w :=
  run_slice_string (P := Tryd.prog) w 9 bendS .i64 .i64 k (k + 1) Tryd.underlying9 (by omega) (by omega) (by show k + 1 ≤ 12; omega)
theorem extract_size (t : ByteArray) (i j : Nat) : (t.extract i j).size ≤ t.size := by rw [ByteArray.size_extract]; omega
set_option maxHeartbeats 2000000 in
theorem bend_walk (g : Nat) (zs : List Int) (w : World) (a : Option Addr) (cap : Nat) (t : ByteArray) (ht : t.size ≤ 100) (harr : Arr w a zs) (hsrc : SrcA w g 57 zs.length a cap) (hl : zs.length ≤ 2097152) :
    Calls Tryd.prog 26 #[.pointer (some ⟨g, 0, none⟩), .string t, .int .i64 3] w fun e w' => ∃ r : ByteArray, e = .returned (.string r) ∧ r.size ≤ 300 ∧ w.grownBy w' (some g) := by
  have HA0 := hide harr
  have HS0 := hide hsrc
  clear harr hsrc
  go_enter Tryd.func26, Tryd.ntmps26
  go_wp2_with fail
  refine (l01Next_walk _ _ zs _ a cap HA0.out HS0.out (by omega) (by omega) hl).mono ?_
  rintro e w1 ⟨r, rfl, r0, r1, hn1, hs1⟩
  have HS1 := hide hs1
  have HA1 := hide (HA0.out.srcA HS0.out hn1)
  clear hs1
  by_cases hr : 0 < r
  · go_wp2_with fail
    go_ret
    exact ⟨t, rfl, by omega, hn1⟩
  · have hr' : r = 0 := by omega
    subst hr'
    clear hr
    go_wp2_with fail
    refine (l01Next_walk _ _ zs _ a cap HA1.out HS1.out (by omega) (by omega) hl).mono ?_
    rintro e w2 ⟨p, rfl, p0, p1, hn2, hs2⟩
    have HS2 := hide hs2
    have HA2 := hide (HA1.out.srcA HS1.out hn2)
    clear hs2
    go_wp2_with fail
    refine (l01Next_walk _ _ zs _ a cap HA2.out HS2.out (by decide) (by decide) hl).mono ?_
    rintro e w3 ⟨k, rfl, k0, k1, hn3, hs3⟩
    have HS3 := hide hs3
    have HA3 := hide (HA2.out.srcA HS2.out hn3)
    clear hs3
    go_wp2_with fail
    refine (l01Next_walk _ _ zs _ a cap HA3.out HS3.out (by decide) (by decide) hl).mono ?_
    rintro e w4 ⟨c, rfl, c0, c1, hn4, hs4⟩
    have HN := hide (grown_trans (grown_trans (grown_trans hn1 hn2) hn3) hn4)
    clear hs4 hn1 hn2 hn3 hn4 HA0 HA1 HA2 HA3 HS0 HS1 HS2 HS3
    have e1 : IntKind.i64.wrap (k + 1) = k + 1 := wrap_i64' _ (by omega) (by omega)
    have e2 : IntKind.i64.wrap (p + 1) = p + 1 := wrap_i64' _ (by omega) (by omega)
    have s2 := slice_bend k k0 k1
    have z1 := extract_size t 0 p.toNat
    have z2 : (bendS.extract k.toNat (k + 1).toNat).size ≤ 12 := extract_size bendS k.toNat (k + 1).toNat
    have z3 := extract_size t p.toNat t.size
    have z4 := extract_size t (p + 1).toNat t.size
    have q1 : (t.extract 0 p.toNat ++ bendS.extract k.toNat (k + 1).toNat).size ≤ 112 := by rw [ByteArray.size_append]; omega
    rcases (show c = 0 ∨ c = 1 ∨ c = 2 by omega) with rfl | rfl | rfl
    · go_wp2_with fail
      go_ret
      exact ⟨_, rfl, by omega, HN.out⟩
    · generalize bendS.extract k.toNat (k + 1).toNat = d2 at *
      go_wp2_with fail
      go_quiet (fail)
      go_wp2_with fail
      go_ret
      exact ⟨_, rfl, by rw [ByteArray.size_append]; omega, grown_drewN HN.out _⟩
    · by_cases hp : p < (t.size : Int)
      · generalize bendS.extract k.toNat (k + 1).toNat = d2 at *
        go_wp2_with fail
        go_quiet (fail)
        go_wp2_with fail
        go_ret
        exact ⟨_, rfl, by rw [ByteArray.size_append]; omega, grown_drewN HN.out _⟩
      · clear s2 z1 z2 z3 z4 q1
        go_wp2_with fail
        go_ret
        exact ⟨t, rfl, by omega, HN.out⟩
end Go.Proofs.YtmgjagajcmeikalDoor
