/-
Contracts of functions of this seat.
-/
import Derived.Test.YtakoagfeiolkjaaDoorRows
import Derived.WalkKit
import Derived.ProofKit
import Derived.OpenShut
import Derived.Test.YtakoagfeiolkjaaDoorStp
namespace Go.Proofs.YtakoagfeiolkjaaDoor
open Go.ChangeShapes Go.WideShapes Go.ChangeAt Go.RowKit
set_option linter.unusedVariables false
set_option maxRecDepth 100000
/-- A Icmp's box is as it was laid. -/
abbrev BoxIcmp (w0 w : World) (x0 : Int) (x1 : Int) (x2 : Int) (v0 : Value) : Prop := Below w0.heap.size w0 w ∧ w0.heap.size < w.heap.size ∧ w.cell? ⟨w0.heap.size, 0, none⟩ = some (.int .i64 x0) ∧ w.cell? ⟨w0.heap.size, 1, none⟩ = some (.int .i64 x1) ∧ w.cell? ⟨w0.heap.size, 2, none⟩ = some (.int .i64 x2) ∧ w.cell? ⟨w0.heap.size, 3, none⟩ = some (v0)
theorem BoxIcmp.start (w0 : World) (x0 : Int) (x1 : Int) (x2 : Int) (v0 : Value) (ty : Nat) : BoxIcmp w0 (w0.alloc (.cells #[.int .i64 x0, .int .i64 x1, .int .i64 x2, v0] ty)) x0 x1 x2 v0 := by
  have hh := heap_alloc_new w0 (.cells #[.int .i64 x0, .int .i64 x1, .int .i64 x2, v0] ty)
  exact ⟨(Below.refl _ _).alloc (Nat.le_refl _) _, by rw [World.size_alloc]; omega, cell_of_row _ _ 0 _ _ _ hh, cell_of_row _ _ 1 _ _ _ hh, cell_of_row _ _ 2 _ _ _ hh, cell_of_row _ _ 3 _ _ _ hh⟩
theorem BoxIcmp.keep {w0 w w' : World} {C : Nat} {x0 : Int} {x1 : Int} {x2 : Int} {v0 : Value} (h : BoxIcmp w0 w x0 x1 x2 v0) (hb : Below C w w') (hC : w0.heap.size < C) : BoxIcmp w0 w' x0 x1 x2 v0 := by
  obtain ⟨h1, h2, k0, k1, k2, k3⟩ := h
  exact ⟨h1.trans (hb.mono (by omega)), Nat.lt_of_lt_of_le h2 hb.size, by rw [hb.cell (p := ⟨w0.heap.size, 0, none⟩) hC]; exact k0, by rw [hb.cell (p := ⟨w0.heap.size, 1, none⟩) hC]; exact k1, by rw [hb.cell (p := ⟨w0.heap.size, 2, none⟩) hC]; exact k2, by rw [hb.cell (p := ⟨w0.heap.size, 3, none⟩) hC]; exact k3⟩
theorem BoxIcmp.next {w0 w w' : World} {x0 : Int} {x1 : Int} {x2 : Int} {v0 : Value} (h : BoxIcmp w0 w x0 x1 x2 v0) (hb : Below w.heap.size w w') : BoxIcmp w0 w' x0 x1 x2 v0 := h.keep hb h.2.1
theorem BoxIcmp.drew {w0 w : World} {x0 : Int} {x1 : Int} {x2 : Int} {v0 : Value} (h : BoxIcmp w0 w x0 x1 x2 v0) : BoxIcmp w0 w.drew x0 x1 x2 v0 := h.next ((Below.refl _ _).drew)
theorem twoIcmp {w0 w1 w w' : World} {x0 : Int} {x1 : Int} {x2 : Int} {v0 : Value} {u0 : Value} (h : BoxIcmp w0 w x0 x1 x2 v0 ∧ BoxIcmp w1 w x0 x1 x2 u0) (hb : Below w.heap.size w w') : BoxIcmp w0 w' x0 x1 x2 v0 ∧ BoxIcmp w1 w' x0 x1 x2 u0 := ⟨h.1.next hb, h.2.next hb⟩
/-- A Icmp lies in block b. -/
abbrev CellIcmp (w : World) (b : Nat) (x0 : Int) (x1 : Int) (x2 : Int) (v0 : Value) : Prop := b < w.heap.size ∧ w.cell? ⟨b, 0, none⟩ = some (.int .i64 x0) ∧ w.cell? ⟨b, 1, none⟩ = some (.int .i64 x1) ∧ w.cell? ⟨b, 2, none⟩ = some (.int .i64 x2) ∧ w.cell? ⟨b, 3, none⟩ = some (v0)
theorem CellIcmp.start (w : World) (x0 : Int) (x1 : Int) (x2 : Int) (v0 : Value) (ty : Nat) : CellIcmp (w.alloc (.cells #[.int .i64 x0, .int .i64 x1, .int .i64 x2, v0] ty)) w.heap.size x0 x1 x2 v0 := (BoxIcmp.start w x0 x1 x2 v0 ty).2
theorem CellIcmp.below {w w' : World} {b C : Nat} {x0 : Int} {x1 : Int} {x2 : Int} {v0 : Value} (h : CellIcmp w b x0 x1 x2 v0) (hb : Below C w w') (hC : b < C) : CellIcmp w' b x0 x1 x2 v0 := by
  obtain ⟨h2, k0, k1, k2, k3⟩ := h
  exact ⟨Nat.lt_of_lt_of_le h2 hb.size, by rw [hb.cell (p := ⟨b, 0, none⟩) hC]; exact k0, by rw [hb.cell (p := ⟨b, 1, none⟩) hC]; exact k1, by rw [hb.cell (p := ⟨b, 2, none⟩) hC]; exact k2, by rw [hb.cell (p := ⟨b, 3, none⟩) hC]; exact k3⟩
theorem CellIcmp.next {w w' : World} {b : Nat} {x0 : Int} {x1 : Int} {x2 : Int} {v0 : Value} (h : CellIcmp w b x0 x1 x2 v0) (hb : Below w.heap.size w w') : CellIcmp w' b x0 x1 x2 v0 := h.below hb h.1
theorem CellIcmp.only {w w' : World} {b : Nat} {R : List Nat} {x0 : Int} {x1 : Int} {x2 : Int} {v0 : Value} (h : CellIcmp w b x0 x1 x2 v0) (hg : Only R w w') (hne : b ∉ R) : CellIcmp w' b x0 x1 x2 v0 := by
  obtain ⟨h2, k0, k1, k2, k3⟩ := h
  have hk := hg.block b h2 hne
  exact ⟨Nat.lt_of_lt_of_le h2 hg.size, by rw [World.cell?_of_block (a := ⟨b, 0, none⟩) hk]; exact k0, by rw [World.cell?_of_block (a := ⟨b, 1, none⟩) hk]; exact k1, by rw [World.cell?_of_block (a := ⟨b, 2, none⟩) hk]; exact k2, by rw [World.cell?_of_block (a := ⟨b, 3, none⟩) hk]; exact k3⟩
set_option maxHeartbeats 2000000 in
theorem eqIcmp_walk (x0 : Int) (x1 : Int) (x2 : Int) (a0 : Option Addr) (n0 c0 : Nat) (b0 : Option Addr) (d0 : Nat) (z0 : List Int) (w : World) (h0n : z0.length = n0) (h0a : Arr w a0 z0) (h0b : Arr w b0 z0) (m0 : n0 ≤ 1048576) :
    Calls Tryd.prog 13 #[.agg #[.int .i64 x0, .int .i64 x1, .int .i64 x2, .slice a0 n0 c0], .agg #[.int .i64 x0, .int .i64 x1, .int .i64 x2, .slice b0 n0 d0]] w fun e w' => e = .returned (.bool true) ∧ Below w.heap.size w w' := by
  have HW := hide (TwoB.start w (.cells #[.int .i64 x0, .int .i64 x1, .int .i64 x2, .slice a0 n0 c0] 32) (.cells #[.int .i64 x0, .int .i64 x1, .int .i64 x2, .slice b0 n0 d0] 32))
  have E0 := hide (fun W (hb : Below w.heap.size w W) => eqByteS_walk a0 b0 n0 c0 d0 z0 W h0n (h0a.below hb (Nat.le_refl _)) (h0b.below hb (Nat.le_refl _)) m0)
  clear h0n h0a h0b
  go_enter Tryd.func13, Tryd.ntmps13
  go_wp2_with fail
  generalize (w.alloc (.cells #[.int .i64 x0, .int .i64 x1, .int .i64 x2, .slice a0 n0 c0] 32)).alloc (.cells #[.int .i64 x0, .int .i64 x1, .int .i64 x2, .slice b0 n0 d0] 32) = W at *
  refine (E0.out W HW.out.1.1).mono ?_
  rintro e w1 ⟨rfl, hb, _⟩
  have HW' := hide (HW.out.next hb)
  clear HW hb
  have HW := HW'
  clear HW'
  go_wp2_with fail
  go_ret
  exact ⟨rfl, HW.out.1.1⟩
set_option maxHeartbeats 2000000 in
theorem markIcmp_walk (x0 : Int) (x1 : Int) (x2 : Int) (v0 : Value) (z0 : List Int) (k : Nat) (w : World) (B0 : Nat) (h0 : OwnB w B0 v0 z0) (m0 : z0.length ≤ 2097152)  (hk : k + z0.length ≤ 4194304) :
    Calls Tryd.prog 15 #[.agg #[.int .i64 x0, .int .i64 x1, .int .i64 x2, v0], .int .i64 (k : Int)] w fun e w' => e = .returned (.int .i64 ((k : Int) + (z0.length : Int))) ∧ OwnB w' B0 v0 (marks (k) z0.length) ∧ Only (v0.ownBlock.toList) w w' := by
  obtain ⟨a0, c0, rfl, _⟩ := own_slice h0
  have hB := BoxRow.start w #[.int .i64 x0, .int .i64 x1, .int .i64 x2, .slice a0 z0.length c0] 32
  have H0 := hide (OwnB.next h0 hB.1)
  have hlt := hB.2.1
  have HB := hide hB.2.2
  have MB0 := hide (own_lt h0)
  have HR := hide (Only.of_below (S := (Value.slice a0 z0.length c0).ownBlock.toList) hB.1)
  clear hB h0
  go_enter Tryd.func15, Tryd.ntmps15
  go_wp2_with fail
  generalize w.alloc (.cells #[.int .i64 x0, .int .i64 x1, .int .i64 x2, .slice a0 z0.length c0] 32) = W at *
  have hM := markB_walk _ B0 z0 (k) W H0.out m0 (by omega)
  have HM := hide hM
  clear hM
  refine HM.out.mono ?_
  rintro e w1 ⟨rfl, hO, hg⟩
  have H0' := hide hO
  clear H0
  have H0 := H0'
  clear H0'
  have HR' := hide (HR.out.trans ((Only.of_grown hg).mono (fun b hb => by simp [hb])))
  clear HR
  have HR := HR'
  clear HR'
  clear hO hg HM
  go_wp2_with fail
  go_ret
  exact ⟨rfl, H0.out, HR.out⟩
set_option maxHeartbeats 2000000 in
theorem heldIcmp_walk (x0 : Int) (x1 : Int) (x2 : Int) (a0 : Option Addr) (n0 c0 : Nat) (k : Nat) (w : World) (h0 : Arr w a0 (marks (k) n0)) (m0 : n0 ≤ 2097152) (hk : k + n0 ≤ 4194304) :
    Calls Tryd.prog 16 #[.agg #[.int .i64 x0, .int .i64 x1, .int .i64 x2, .slice a0 n0 c0], .int .i64 (k : Int)] w fun e w' => e = .returned (.int .i64 ((k : Int) + (n0 : Int))) ∧ Below w.heap.size w w' := by
  have hB := BoxRow.start w #[.int .i64 x0, .int .i64 x1, .int .i64 x2, .slice a0 n0 c0] 32
  have hM0 := heldB_walk a0 n0 c0 (k) (w.alloc (.cells #[.int .i64 x0, .int .i64 x1, .int .i64 x2, .slice a0 n0 c0] 32)) (h0.below hB.1 (Nat.le_refl _)) m0 (by omega)
  have HM0 := hide hM0
  clear hM0 h0
  have HB := hide hB.1
  clear hB
  go_enter Tryd.func16, Tryd.ntmps16
  go_wp2_with fail
  refine HM0.out.mono ?_
  rintro e w' ⟨rfl, rfl⟩
  go_wp2_with fail
  go_ret
  exact ⟨rfl, HB.out⟩
/-- A copy of a Icmp: its rows are its own. -/
def CopIcmp (W : World) (B : Nat) (g0 : Nat) (n0 : Nat) (z0 : List Int) : Prop := OwnB W B (.slice (some ⟨g0, 0, none⟩) n0 n0) z0
theorem CopIcmp.next {W W' : World} {B : Nat} {g0 : Nat} {n0 : Nat} {z0 : List Int} (h : CopIcmp W B g0 n0 z0) (hb : Below W.heap.size W W') : CopIcmp W' B g0 n0 z0 := by
  exact OwnB.next h hb
theorem CopIcmp.drew {W : World} {B : Nat} {g0 : Nat} {n0 : Nat} {z0 : List Int} (h : CopIcmp W B g0 n0 z0) : CopIcmp W.drew B g0 n0 z0 := h.next ((Below.refl _ _).drew)
theorem CopIcmp.arr0 {W : World} {B : Nat} {g0 : Nat} {n0 : Nat} {z0 : List Int} (h : CopIcmp W B g0 n0 z0) : Arr W (some ⟨g0, 0, none⟩) z0 := (own_arr h).1
theorem CopIcmp.own0 {W : World} {B : Nat} {g0 : Nat} {n0 : Nat} {z0 : List Int} (h : CopIcmp W B g0 n0 z0) : OwnB W B (.slice (some ⟨g0, 0, none⟩) n0 n0) z0 := h
theorem CopIcmp.at {W : World} {B : Nat} {g0 : Nat} {n0 : Nat} {z0 : List Int} (h : CopIcmp W B g0 n0 z0) : ∀ b ∈ [g0], B ≤ b ∧ b < W.heap.size := by
  intro b hb
  simp only [List.mem_cons, List.not_mem_nil, or_false] at hb
  subst hb
  exact h.own0.1.lt _ rfl
/-- What is wanted of a function of a Icmp that answers bytes and a code. -/
def EncIcmpP (f : Nat) (Pre : World → Prop) (x0 : Int) (x1 : Int) (x2 : Int) (z0 : List Int) (L : List Int) (C : Int) : Prop :=
  ∀ (a0 : Option Addr) (n0 c0 : Nat) (W : World), z0.length = n0 → Arr W a0 z0 → n0 ≤ c0 → n0 ≤ 1048576 → Pre W → Calls Tryd.prog f #[.agg #[.int .i64 x0, .int .i64 x1, .int .i64 x2, .slice a0 n0 c0]] W fun e w' => ∃ v : Value, e = .returned (.tuple #[v, .int .i64 C]) ∧ OwnB w' W.heap.size v L ∧ Below W.heap.size W w'
/-- What is wanted of a function of a Icmp that answers a number. -/
def NumIcmpP (f : Nat) (Pre : World → Prop) (x0 : Int) (x1 : Int) (x2 : Int) (z0 : List Int) (C : Int) : Prop :=
  ∀ (a0 : Option Addr) (n0 c0 : Nat) (W : World), z0.length = n0 → Arr W a0 z0 → n0 ≤ c0 → n0 ≤ 1048576 → Pre W → Calls Tryd.prog f #[.agg #[.int .i64 x0, .int .i64 x1, .int .i64 x2, .slice a0 n0 c0]] W fun e w' => e = .returned (.int .i64 C) ∧ Below W.heap.size W w'
/-- A Icmp that was answered: its rows are its own, and apart. -/
def AnsIcmp (W : World) (B : Nat) (a0 : Option Addr) (k0 : Nat) (n0 : Nat) (L0 : List Int) : Prop := OwnB W B (.slice a0 n0 k0) L0
theorem AnsIcmp.next {W W' : World} {B : Nat} {a0 : Option Addr} {k0 : Nat} {n0 : Nat} {L0 : List Int} (h : AnsIcmp W B a0 k0 n0 L0) (hb : Below W.heap.size W W') : AnsIcmp W' B a0 k0 n0 L0 := by
  have h0 := h
  exact OwnB.next h0 hb
def rowsIcmp (a0 : Option Addr) (k0 : Nat) (n0 : Nat) : List Nat := (Value.slice a0 n0 k0).ownBlock.toList
theorem AnsIcmp.below {W W' : World} {B : Nat} {a0 : Option Addr} {k0 : Nat} {n0 : Nat} {L0 : List Int} (h : AnsIcmp W B a0 k0 n0 L0) {C : Nat} (hb : Below C W W') (hC : ∀ b ∈ rowsIcmp a0 k0 n0, b < C) : AnsIcmp W' B a0 k0 n0 L0 := by
  have h0 := h
  exact OwnB.below h0 hb (fun k hk => hC k (by unfold rowsIcmp; simp [hk]))
theorem AnsIcmp.only {W W' : World} {B : Nat} {a0 : Option Addr} {k0 : Nat} {n0 : Nat} {L0 : List Int} (h : AnsIcmp W B a0 k0 n0 L0) {R : List Nat} (hb : Only R W W') (hC : ∀ b ∈ rowsIcmp a0 k0 n0, b ∉ R) : AnsIcmp W' B a0 k0 n0 L0 := by
  have h0 := h
  exact OwnB.only h0 hb (fun k hk => hC k (by unfold rowsIcmp; simp [hk]))
theorem AnsIcmp.own0 {W : World} {B : Nat} {a0 : Option Addr} {k0 : Nat} {n0 : Nat} {L0 : List Int} (h : AnsIcmp W B a0 k0 n0 L0) : OwnB W B (.slice a0 n0 k0) L0 := h
theorem AnsIcmp.at {W : World} {B : Nat} {a0 : Option Addr} {k0 : Nat} {n0 : Nat} {L0 : List Int} (h : AnsIcmp W B a0 k0 n0 L0) : ∀ b ∈ rowsIcmp a0 k0 n0, B ≤ b ∧ b < W.heap.size := by
  intro b hb
  unfold rowsIcmp at hb
  simp only [Option.mem_toList] at hb
  exact h.own0.1.lt b hb
/-- What is wanted of a function of bytes that answers a Icmp and a code. -/
def DecIcmpP (f : Nat) (Pre : World → Prop) (zs : List Int) (x0 : Int) (x1 : Int) (x2 : Int) (L0 : List Int) (C : Int) : Prop :=
  ∀ (a : Option Addr) (n cap : Nat) (W : World), zs.length = n → Arr W a zs → n ≤ cap → n ≤ 1048576 → Pre W → Calls Tryd.prog f #[.slice a n cap] W fun e w' => ∃ v0 : Value, e = .returned (.tuple #[.agg #[.int .i64 x0, .int .i64 x1, .int .i64 x2, v0], .int .i64 C]) ∧ OwnB w' W.heap.size v0 L0 ∧ Below W.heap.size W w'
end Go.Proofs.YtakoagfeiolkjaaDoor
