/-
Contracts of functions of this seat.
-/
import Derived.Test.YtfffkgladjphoaaRows
import Derived.WalkKit
import Derived.ProofKit
import Derived.OpenShut
import Derived.Test.YtfffkgladjphoaaBl0
namespace Go.Proofs.Ytfffkgladjphoaa
open Go.ChangeShapes Go.WideShapes Go.ChangeAt Go.RowKit
set_option linter.unusedVariables false
set_option maxRecDepth 100000
/-- A pointer to a block's first cell, or none. -/
abbrev ptO (o : Option Nat) : Value := .pointer (o.map fun b => ⟨b, 0, none⟩)
abbrev lpT : Nat := 59
abbrev plT : Nat := 63
/-- A linked piece's cells. -/
abbrev lpV (o : PieceM) (a b : Option Nat) : Array Value := #[.int .i64 o.f0, .int .i64 o.f1, .int .i64 o.f2, .int .i64 o.f3, .bool o.f4, .bool o.f5, ptO a, ptO b]
/-- The first block of a row of linked pieces, or what is behind it. -/
def fstO (ns : List (Nat × PieceM)) (nx : Option Nat) : Option Nat := match ns with | [] => nx | p :: _ => some p.1
/-- The last block of a row of linked pieces, or what is ahead of it. -/
def lstO (pv : Option Nat) (ns : List (Nat × PieceM)) : Option Nat := match ns with | [] => pv | p :: r => lstO (some p.1) r
theorem lstO_app : ∀ (a b : List (Nat × PieceM)) (pv : Option Nat), lstO pv (a ++ b) = lstO (lstO pv a) b
  | [], _, _ => rfl
  | p :: a, b, pv => lstO_app a b (some p.1)
theorem lstO_snoc (a : List (Nat × PieceM)) (p : Nat × PieceM) (pv : Option Nat) : lstO pv (a ++ [p]) = some p.1 := by rw [lstO_app]; rfl
theorem fstO_app (a b : List (Nat × PieceM)) (nx : Option Nat) : fstO (a ++ b) nx = fstO a (fstO b nx) := by cases a <;> rfl
/-- Linked pieces in memory, between two others. -/
def Seg (w : World) (pv : Option Nat) (ns : List (Nat × PieceM)) (nx : Option Nat) : Prop := match ns with
  | [] => True
  | p :: r => HoldV w p.1 (lpV p.2 pv (fstO r nx)) lpT ∧ Seg w (some p.1) r nx
theorem seg_app {w : World} : ∀ (a b : List (Nat × PieceM)) (pv nx : Option Nat), Seg w pv (a ++ b) nx ↔ Seg w pv a (fstO b nx) ∧ Seg w (lstO pv a) b nx
  | [], b, pv, nx => by simp [Seg, lstO]
  | p :: a, b, pv, nx => by
    show HoldV w p.1 (lpV p.2 pv (fstO (a ++ b) nx)) lpT ∧ Seg w (some p.1) (a ++ b) nx ↔ (HoldV w p.1 (lpV p.2 pv (fstO a (fstO b nx))) lpT ∧ Seg w (some p.1) a (fstO b nx)) ∧ Seg w (lstO (some p.1) a) b nx
    rw [fstO_app, seg_app a b]
    exact and_assoc.symm
/-- The blocks of linked pieces. -/
abbrev bks (ns : List (Nat × PieceM)) : List Nat := ns.map Prod.fst
theorem Seg.frame {w w' : World} : ∀ {ns : List (Nat × PieceM)} {pv nx : Option Nat}, Seg w pv ns nx → (∀ b ∈ bks ns, w'.heap[b]? = w.heap[b]?) → Seg w' pv ns nx
  | [], _, _, _, _ => trivial
  | p :: r, pv, nx, h, hk => ⟨(hk p.1 (by simp)).trans h.1, Seg.frame h.2 (fun b hb => hk b (by simp at hb ⊢; exact .inr hb))⟩
theorem Seg.lt {w : World} : ∀ {ns : List (Nat × PieceM)} {pv nx : Option Nat}, Seg w pv ns nx → ∀ b ∈ bks ns, b < w.heap.size
  | [], _, _, _, b, hb => by simp at hb
  | p :: r, pv, nx, h, b, hb => by
    simp at hb
    rcases hb with rfl | hb
    · exact h.1.lt
    · exact Seg.lt h.2 b (by simp; exact hb)
/-- The cells of a list of pieces. -/
abbrev plV (u x : Int) (ns : List (Nat × PieceM)) : Array Value := #[.int .i64 u, .int .i64 x, .int .i64 (ns.length : Int), ptO (fstO ns none), ptO (lstO none ns)]
/-- A list of pieces in memory, in blocks of this call's own. -/
structure DL (w : World) (B L : Nat) (u x : Int) (ns : List (Nat × PieceM)) : Prop where
  head : HoldV w L (plV u x ns) plT
  seg : Seg w none ns none
  nd : (L :: bks ns).Nodup
  lo : ∀ b ∈ L :: bks ns, B ≤ b
theorem DL.frame {w w' : World} {B L : Nat} {u x : Int} {ns : List (Nat × PieceM)} (h : DL w B L u x ns) (hk : ∀ b ∈ L :: bks ns, w'.heap[b]? = w.heap[b]?) : DL w' B L u x ns :=
  ⟨(hk L (by simp)).trans h.head, h.seg.frame (fun b hb => hk b (List.mem_cons_of_mem _ hb)), h.nd, h.lo⟩
theorem DL.lt {w : World} {B L : Nat} {u x : Int} {ns : List (Nat × PieceM)} (h : DL w B L u x ns) : ∀ b ∈ L :: bks ns, b < w.heap.size := by
  intro b hb
  rcases List.mem_cons.1 hb with rfl | hb
  · exact h.head.lt
  · exact h.seg.lt b hb
theorem DL.next {w w' : World} {B L : Nat} {u x : Int} {ns : List (Nat × PieceM)} (h : DL w B L u x ns) (hb : Below w.heap.size w w') : DL w' B L u x ns := h.frame (fun b hm => hb.block b (h.lt b hm))
theorem DL.drew {w : World} {B L : Nat} {u x : Int} {ns : List (Nat × PieceM)} (h : DL w B L u x ns) : DL w.drew B L u x ns := h.next (Below.refl _ _).drew
/-- One of the linked pieces. -/
theorem DL.at {w : World} {B L : Nat} {u x : Int} {xs ys : List (Nat × PieceM)} {b : Nat} {o : PieceM} (h : DL w B L u x (xs ++ (b, o) :: ys)) : HoldV w b (lpV o (lstO none xs) (fstO ys none)) lpT := ((seg_app xs _ _ _).1 h.seg).2.1
theorem nd_mid {b : Nat} {o : PieceM} {xs ys : List (Nat × PieceM)} {L : Nat} (h : (L :: bks (xs ++ (b, o) :: ys)).Nodup) : b ∉ bks xs ∧ b ∉ bks ys ∧ b ≠ L := by
  simp [bks, List.nodup_append, List.nodup_cons] at h
  obtain ⟨⟨h1, h2, h3⟩, h4, ⟨h5, h6⟩, h7⟩ := h
  refine ⟨?_, ?_, fun e => h2 e.symm⟩
  · simp only [bks, List.mem_map, Prod.exists, exists_and_right, exists_eq_right, not_exists]
    intro o' ho'
    exact (h7 b o' ho').1 rfl
  · simpa [bks] using h5
/-- A linked piece's own cells are put anew. -/
theorem DL.put {w w' : World} {B L : Nat} {u x : Int} {xs ys : List (Nat × PieceM)} {b : Nat} {o : PieceM} (h : DL w B L u x (xs ++ (b, o) :: ys)) (o' : PieceM)
    (hv : HoldV w' b (lpV o' (lstO none xs) (fstO ys none)) lpT) (hk : ∀ c, c ≠ b → c < w.heap.size → w'.heap[c]? = w.heap[c]?) : DL w' B L u x (xs ++ (b, o') :: ys) := by
  obtain ⟨h1, h2, h3⟩ := nd_mid h.nd
  have hb : bks (xs ++ (b, o') :: ys) = bks (xs ++ (b, o) :: ys) := by simp [bks]
  obtain ⟨s1, s2, s3⟩ := (seg_app xs _ _ _).1 h.seg
  refine ⟨?_, (seg_app xs _ _ _).2 ⟨s1.frame (fun c hc => hk c (fun e => h1 (e ▸ hc)) (s1.lt c hc)), hv, s3.frame (fun c hc => hk c (fun e => h2 (e ▸ hc)) (s3.lt c hc))⟩, by rw [hb]; exact h.nd, by rw [hb]; exact h.lo⟩
  have e : plV u x (xs ++ (b, o') :: ys) = plV u x (xs ++ (b, o) :: ys) := by
    unfold plV
    rw [fstO_app, fstO_app, lstO_app, lstO_app, List.length_append, List.length_append]
    rfl
  rw [e]
  exact (hk L (fun e => h3 e.symm) h.head.lt).trans h.head
end Go.Proofs.Ytfffkgladjphoaa
