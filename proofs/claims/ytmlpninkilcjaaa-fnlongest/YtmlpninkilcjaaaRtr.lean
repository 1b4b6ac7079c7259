/-
Contracts of functions of this seat.
-/
import Derived.Test.YtmlpninkilcjaaaRows
import Derived.WalkKit
import Derived.ProofKit
import Derived.OpenShut
import Derived.Test.YtmlpninkilcjaaaHng
namespace Go.Proofs.Ytmlpninkilcjaaa
open Go.ChangeShapes Go.WideShapes Go.ChangeAt Go.RowKit
set_option linter.unusedVariables false
set_option maxRecDepth 100000
/-- What hangs on each prefix, of the first k routes. -/
def pB (zs : List Int) : Nat → Nat → Nat → Option Nat
  | 0 => fun _ _ => none
  | k + 1 => if rtOK (rA zs k) (rB zs k) (rV zs k) (rL zs k) (rM zs k) = true then hungF (rM zs) (pB zs k) (rA zs k).toNat (rB zs k).toNat k else pB zs k
theorem sz_cast (b : Nat) : sz (b : Int) = ((2 ^ (32 - b) : Nat) : Int) := by unfold sz; rw [show ((b : Int)).toNat = b by omega]; simp
theorem vP_of {a b : Int} (h : prefB a b = true) : ∃ pa pb : Nat, a = (pa : Int) ∧ b = (pb : Int) ∧ vP pa pb := by
  obtain ⟨h0, h1, h2, h3⟩ := prefB_iff.1 h
  have h4 := adrB_iff.1 h2
  refine ⟨a.toNat, b.toNat, by omega, by omega, by omega, by omega, ?_⟩
  obtain ⟨pa, rfl⟩ := Int.eq_ofNat_of_zero_le h4.1
  obtain ⟨pb, rfl⟩ := Int.eq_ofNat_of_zero_le h0
  rw [sz_cast] at h3
  show pa % 2 ^ (32 - pb) = 0
  exact_mod_cast h3
theorem rtOK_pref {a b v l m : Int} (h : rtOK a b v l m = true) : prefB a b = true := by
  unfold rtOK at h
  simp only [Bool.and_eq_true] at h
  exact h.1.1.1
theorem TI.start (w : World) (rv : Nat → Array Value) : TI (w.alloc (.cells #[.int .i64 0, .int .i64 0, .pointer none, .pointer none, .pointer none] ndT)) w.heap.size w.heap.size rv (fun _ _ => none) (zeroG w.heap.size) := by
  refine ⟨zero_ok _, zero_hung _, ⟨fun n r h => ?_, fun n r hb j h hh => ?_⟩⟩
  · unfold zeroG at h
    split at h
    · rename_i e; cases h; subst e; exact ⟨HoldV.new _ _ _, Nat.le_refl _⟩
    · cases h
  · unfold zeroG at h
    split at h
    · cases h; cases hh
    · cases h
set_option maxHeartbeats 8000000 in
theorem routeTree_walk (a : Option Addr) (n cap : Nat) (zs : List Int) (w : World) (hn : zs.length = n * 5) (ha : ArrI w a zs) (hm : n ≤ 1048576) :
    Calls Try.prog 22 #[.slice a n cap] w fun e w' => e = .returned (.pointer (some ⟨w.heap.size, 0, none⟩)) ∧ Below w.heap.size w w' ∧ ∃ G, TI w' w.heap.size w.heap.size (routeV zs) (pB zs n) G := by
  have HA := hide ha
  have HN := hide hn
  have HB0 : Hid (Below w.heap.size w (w.alloc (.cells #[.int .i64 0, .int .i64 0, .pointer none, .pointer none, .pointer none] ndT))) := hide ((Below.refl _ _).alloc (Nat.le_refl _) _)
  have HT0 := hide (TI.start w (routeV zs))
  have hB0 : w.heap.size ≤ w.heap.size := Nat.le_refl _
  clear ha hn
  go_enter Try.func22, Try.ntmps22
  go_wp2_with fail
  generalize hW : w.alloc (.cells #[.int .i64 0, .int .i64 0, .pointer none, .pointer none, .pointer none] 81) = W0 at *
  clear hW
  go_loopw [10] (fun t w2 => ∃ k : Nat, k ≤ n ∧ t = .int .i64 k ∧ Hid (Below w.heap.size w w2) ∧ Hid (∃ G, TI w2 w.heap.size w.heap.size (routeV zs) (pB zs k) G)) (fun t _ => n - (intOf t).toNat)
  case atStart => exact ⟨0, Nat.zero_le _, rfl, HB0, hide ⟨_, HT0.out⟩⟩
  case round =>
    obtain ⟨k, hk, rfl, HB, HT⟩ := hrel
    by_cases hlt : k < n
    · obtain ⟨bb, off, ea, hbs, _⟩ := HA.out (k * 5) (by rw [HN.out]; omega)
      subst ea
      have cc : ∀ i, i < 5 → wr.cell? ⟨bb, off + (k * 5 + i), none⟩ = some (.int .i64 (zs.getD (k * 5 + i) 0)) := fun i hi => by
        obtain ⟨b', o', e, hb', c⟩ := HA.out (k * 5 + i) (by rw [HN.out]; omega)
        cases e
        rw [HB.out.cell (p := ⟨bb, off + (k * 5 + i), none⟩) hb']
        exact c
      have c0 : wr.cell? ⟨bb, off + k * 5, none⟩ = some (.int .i64 (rA zs k)) := cc 0 (by decide)
      have c1 : wr.cell? ⟨bb, off + k * 5 + 1, none⟩ = some (.int .i64 (rB zs k)) := by rw [Nat.add_assoc]; exact cc 1 (by decide)
      have c2 : wr.cell? ⟨bb, off + k * 5 + 2, none⟩ = some (.int .i64 (rV zs k)) := by rw [Nat.add_assoc]; exact cc 2 (by decide)
      have c3 : wr.cell? ⟨bb, off + k * 5 + 3, none⟩ = some (.int .i64 (rL zs k)) := by rw [Nat.add_assoc]; exact cc 3 (by decide)
      have c4 : wr.cell? ⟨bb, off + k * 5 + 4, none⟩ = some (.int .i64 (rM zs k)) := by rw [Nat.add_assoc]; exact cc 4 (by decide)
      clear cc
      have CV := hide (fun W => validRoute_walk (rA zs k) (rB zs k) (rV zs k) (rL zs k) (rM zs k) W)
      have HBA : Hid (Below wr.heap.size wr (wr.alloc (.cells (routeV zs k) rtT))) := hide ((Below.refl _ _).alloc (Nat.le_refl _) _)
      have HVA : Hid (HoldV (wr.alloc (.cells (routeV zs k) rtT)) wr.heap.size (routeV zs k) rtT) := hide (HoldV.new _ _ _)
      cases ho : rtOK (rA zs k) (rB zs k) (rV zs k) (rL zs k) (rM zs k) with
      | false =>
        rw [ho] at CV
        have HS : Hid (pB zs (k + 1) = pB zs k) := hide (by show (if _ then _ else _) = _; rw [if_neg (by rw [ho]; decide)])
        clear ho
        go_wp2_with ((go_at_call 46; refine (CV.out _).mono ?_; rintro e w1 ⟨rfl, hb1⟩))
        have hbw := HBA.out.trans (hb1.mono HBA.out.size)
        exact ⟨⟨k + 1, by omega, by go_num, hide (HB.out.trans (hbw.mono HB.out.size)), hide (by rw [HS.out]; obtain ⟨G, h⟩ := HT.out; exact ⟨G, h.next hbw⟩)⟩, by simp [intOf]; omega⟩
      | true =>
        rw [ho] at CV
        obtain ⟨pa, pb, e1, e2, hvp⟩ := vP_of (rtOK_pref ho)
        have HS : Hid (pB zs (k + 1) = hungF (rM zs) (pB zs k) pa pb k) := hide (by show (if _ then _ else _) = _; rw [if_pos ho, e1, e2]; rfl)
        have HVP := hide hvp
        have HE : Hid (rA zs k = (pa : Int) ∧ rB zs k = (pb : Int)) := hide ⟨e1, e2⟩
        clear ho e1 e2 hvp
        obtain ⟨G, hti⟩ := HT.out
        have CH : Hid (∀ W, Below wr.heap.size wr W → Calls Try.prog 47 #[.pointer (some ⟨w.heap.size, 0, none⟩), .agg #[.int .i64 (rA zs k), .int .i64 (rB zs k)], .agg (routeV zs k), .func (.func 48) #[] #[]] W fun e w' =>
            e = .returned (.tuple #[]) ∧ Below w.heap.size W w' ∧ ∃ G1, TI w' w.heap.size w.heap.size (routeV zs) (hungF (rM zs) (pB zs k) pa pb k) G1) := hide (fun W hW => by
          rw [HE.out.1, HE.out.2]
          have := hang_walk zs w.heap.size G (pB zs k) pa pb w.heap.size k W (hti.next hW) HVP.out (Nat.le_trans HB.out.size hW.size)
          exact this)
        clear hti
        go_wp2_with ((go_at_call 46; refine (CV.out _).mono ?_; rintro e w1 ⟨rfl, hb1⟩; have HV1 := HVA.out.next hb1; have g0 := HV1.cell 0 _ rfl; have g1 := HV1.cell 1 _ rfl; have g2 := HV1.cell 2 _ rfl; have g3 := HV1.cell 3 _ rfl; have g4 := HV1.cell 4 _ rfl))
        refine (CH.out _ (HBA.out.trans (hb1.mono HBA.out.size))).mono ?_
        rintro e w2 ⟨rfl, hb2, G2, ht2⟩
        go_wp2_with fail
        have hbw := HBA.out.trans (hb1.mono HBA.out.size)
        exact ⟨⟨k + 1, by omega, by go_num, hide ((HB.out.trans (hbw.mono HB.out.size)).trans hb2), hide (by rw [HS.out]; exact ⟨G2, ht2⟩)⟩, by simp [intOf]; omega⟩
    · have hkn : k = n := by omega
      subst hkn
      go_wp2_with fail
      go_ret
      exact ⟨rfl, HB.out, HT.out⟩
end Go.Proofs.Ytmlpninkilcjaaa
