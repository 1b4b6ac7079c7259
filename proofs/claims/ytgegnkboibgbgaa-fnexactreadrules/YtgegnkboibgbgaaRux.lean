/-
Contracts of functions of this seat.
-/
import Derived.Test.YtgegnkboibgbgaaRows
import Derived.WalkKit
import Derived.ProofKit
import Derived.OpenShut
import Derived.Test.YtgegnkboibgbgaaRdh
import Derived.Test.YtgegnkboibgbgaaLni
import Derived.Test.YtgegnkboibgbgaaRrx
import Derived.Test.YtgegnkboibgbgaaSrx
namespace Go.Proofs.Ytgegnkboibgbgaa
open Go.ChangeShapes Go.WideShapes Go.ChangeAt Go.RowKit
set_option linter.unusedVariables false
set_option maxRecDepth 100000
open Go.Shelf
attribute [local go_sem] Oper.semAt_some
theorem linesOf_walk (s : ByteArray) (w : World) : Calls Try.prog 30 #[.string s] w fun e w' => e = .returned (.func (.func 54) #[] #[.pointer (some ⟨w.heap.size, 0, none⟩)]) ∧ w' = w.alloc (.cells #[.string s] 9) := by
  go_enter Try.func30, Try.ntmps30
  go_wp2
  go_ret
  exact ⟨rfl, rfl⟩
theorem three_far {W : World} {b : Nat} {x y z : Value} (w : World) (hb : b ≠ w.heap.size + 1 + 1 ∧ b ≠ w.heap.size + 1 + 1 + 1 ∧ b ≠ w.heap.size + 1 + 1 + 1 + 1) : (((W.setCell ⟨w.heap.size + 1 + 1, 0, none⟩ x).setCell ⟨w.heap.size + 1 + 1 + 1, 0, none⟩ y).setCell ⟨w.heap.size + 1 + 1 + 1 + 1, 0, none⟩ z).heap[b]? = W.heap[b]? :=
  (heap_setCell_other _ ⟨w.heap.size + 1 + 1 + 1 + 1, 0, none⟩ b z hb.2.2).trans ((heap_setCell_other _ ⟨w.heap.size + 1 + 1 + 1, 0, none⟩ b y hb.2.1).trans (heap_setCell_other _ ⟨w.heap.size + 1 + 1, 0, none⟩ b x hb.1))

theorem five_allocs (w : World) (o1 o2 : Obj) (x y z : Value) (t1 t2 t3 : Nat) : Below w.heap.size w (((((w.alloc o1).alloc o2).alloc (.cells #[x] t1)).alloc (.cells #[y] t2)).alloc (.cells #[z] t3)) ∧ HoldV (((((w.alloc o1).alloc o2).alloc (.cells #[x] t1)).alloc (.cells #[y] t2)).alloc (.cells #[z] t3)) (w.heap.size + 1 + 1) #[x] t1 ∧ HoldV (((((w.alloc o1).alloc o2).alloc (.cells #[x] t1)).alloc (.cells #[y] t2)).alloc (.cells #[z] t3)) (w.heap.size + 1 + 1 + 1) #[y] t2 ∧ HoldV (((((w.alloc o1).alloc o2).alloc (.cells #[x] t1)).alloc (.cells #[y] t2)).alloc (.cells #[z] t3)) (w.heap.size + 1 + 1 + 1 + 1) #[z] t3 := by
  obtain ⟨w2, hw2⟩ : ∃ w2, (w.alloc o1).alloc o2 = w2 := ⟨_, rfl⟩
  have s2 : w2.heap.size = w.heap.size + 1 + 1 := by rw [← hw2, World.size_alloc, World.size_alloc]
  have b2 : Below w.heap.size w w2 := by rw [← hw2]; exact ((Below.refl _ _).alloc (Nat.le_refl _) _).alloc (by rw [World.size_alloc]; omega) _
  rw [hw2]
  obtain ⟨h1, h2, h3⟩ := three_holds w2 #[x] #[y] #[z] t1 t2 t3
  rw [s2] at h1 h2 h3
  exact ⟨b2.trans ((three_alloc w2 _ _ _).mono b2.size), h1, h2, h3⟩

abbrev uT : Nat := 45
abbrev ulT : Nat := 28
/-- readLines under way: what its boxes hold. -/
def ULS (w W : World) (r0 r1 r2 lv : Value) : Prop := Below w.heap.size w W ∧ HoldV W w.heap.size #[.int .i64 64] 3 ∧ HoldV W (w.heap.size + 1) #[.func (.func 22) #[] #[]] 47 ∧ HoldV W (w.heap.size + 1 + 1) #[r0] ulT ∧ HoldV W (w.heap.size + 1 + 1 + 1) #[r1] 2 ∧ HoldV W (w.heap.size + 1 + 1 + 1 + 1) #[r2] 2 ∧ HoldV W (w.heap.size + 1 + 1 + 1 + 1 + 1) #[lv] ulT
theorem ULS.next {w W W' : World} {r0 r1 r2 lv : Value} (h : ULS w W r0 r1 r2 lv) (hb : Below W.heap.size W W') : ULS w W' r0 r1 r2 lv := by
  obtain ⟨h1, h2, h3, h4, h5, h6, h7⟩ := h
  exact ⟨h1.trans (hb.mono h1.size), h2.next hb, h3.next hb, h4.next hb, h5.next hb, h6.next hb, h7.next hb⟩
theorem ULS.stay {w W : World} {r0 r1 r2 lv : Value} {l : Nat} {o o' : Obj} (h : ULS w W r0 r1 r2 lv) (hw : w.heap.size ≤ l) (hl : W.heap[l]? = some o) (ho : o.isCells = false) : ULS w (W.putObj l o') r0 r1 r2 lv := by
  obtain ⟨h1, h2, h3, h4, h5, h6, h7⟩ := h
  exact ⟨below_stay h1 hw hl, h2.stay hl ho, h3.stay hl ho, h4.stay hl ho, h5.stay hl ho, h6.stay hl ho, h7.stay hl ho⟩
theorem ULS.grown {w W W' : World} {r0 r1 r2 lv v : Value} {n K e : Nat} {xs : List Value} (h : ULS w W r0 r1 r2 lv) (ho : W.ownsRow (w.heap.size + 9) e K v n xs) (hs : w.heap.size + 9 ≤ W.heap.size) (hg : W.grownBy W' v.ownBlock) : ULS w W' r0 r1 r2 lv := by
  obtain ⟨h1, h2, h3, h4, h5, h6, h7⟩ := h
  have hb : Below (w.heap.size + 9) W W' := below_row (Below.refl _ _) ho (Nat.le_refl _) hs hg
  exact ⟨h1.trans (hb.mono (by omega)), h2.below hb (by omega), h3.below hb (by omega), h4.below hb (by omega), h5.below hb (by omega), h6.below hb (by omega), h7.below hb (by omega)⟩
theorem ULS.list {w W : World} {r0 r1 r2 lv y : Value} (h : ULS w W r0 r1 r2 lv) : ULS w (W.setCell ⟨w.heap.size + 1 + 1 + 1 + 1 + 1, 0, none⟩ y) r0 r1 r2 y := by
  obtain ⟨h1, h2, h3, h4, h5, h6, h7⟩ := h
  exact ⟨h1.setCell (p := ⟨w.heap.size + 1 + 1 + 1 + 1 + 1, 0, none⟩) (by show w.heap.size ≤ w.heap.size + 1 + 1 + 1 + 1 + 1; omega) _, h2.far1 (by omega), h3.far1 (by omega), h4.far1 (by omega), h5.far1 (by omega), h6.far1 (by omega), h7.set1⟩
theorem ULS.ans {w W : World} {r0 r1 r2 lv x y z : Value} (h : ULS w W r0 r1 r2 lv) : ULS w (((W.setCell ⟨w.heap.size + 1 + 1, 0, none⟩ x).setCell ⟨w.heap.size + 1 + 1 + 1, 0, none⟩ y).setCell ⟨w.heap.size + 1 + 1 + 1 + 1, 0, none⟩ z) x y z lv := by
  obtain ⟨h1, h2, h3, h4, h5, h6, h7⟩ := h
  exact ⟨((h1.setCell (p := ⟨w.heap.size + 1 + 1, 0, none⟩) (by show w.heap.size ≤ w.heap.size + 1 + 1; omega) _).setCell (p := ⟨w.heap.size + 1 + 1 + 1, 0, none⟩) (by show w.heap.size ≤ w.heap.size + 1 + 1 + 1; omega) _).setCell (p := ⟨w.heap.size + 1 + 1 + 1 + 1, 0, none⟩) (by show w.heap.size ≤ w.heap.size + 1 + 1 + 1 + 1; omega) _, ((h2.far1 (by omega)).far1 (by omega)).far1 (by omega), ((h3.far1 (by omega)).far1 (by omega)).far1 (by omega), ((h4.set1).far1 (by omega)).far1 (by omega), ((h5.far1 (by omega)).set1).far1 (by omega), ((h6.far1 (by omega)).far1 (by omega)).set1, ((h7.far1 (by omega)).far1 (by omega)).far1 (by omega)⟩

open Go.Shelf
attribute [local go_sem] Oper.semAt_some
abbrev ul6 (w : World) : World := (((((w.alloc (.cells #[.int .i64 64] 3)).alloc (.cells #[.func (.func 22) #[] #[]] 47)).alloc (.cells #[.slice none 0 0] ulT)).alloc (.cells #[.int .i64 0] 2)).alloc (.cells #[.int .i64 0] 2)).alloc (.cells #[.slice none 0 0] ulT)
theorem ul6_ok (w : World) : ULS w (ul6 w) (.slice none 0 0) (.int .i64 0) (.int .i64 0) (.slice none 0 0) ∧ (ul6 w).heap.size = w.heap.size + 6 := by
  obtain ⟨w1, hw1⟩ : ∃ w1, w.alloc (.cells #[.int .i64 64] 3) = w1 := ⟨_, rfl⟩
  obtain ⟨w2, hw2⟩ : ∃ w2, w1.alloc (.cells #[.func (.func 22) #[] #[]] 47) = w2 := ⟨_, rfl⟩
  obtain ⟨w3, hw3⟩ : ∃ w3, w2.alloc (.cells #[.slice none 0 0] ulT) = w3 := ⟨_, rfl⟩
  obtain ⟨w4, hw4⟩ : ∃ w4, w3.alloc (.cells #[.int .i64 0] 2) = w4 := ⟨_, rfl⟩
  obtain ⟨w5, hw5⟩ : ∃ w5, w4.alloc (.cells #[.int .i64 0] 2) = w5 := ⟨_, rfl⟩
  obtain ⟨w6, hw6⟩ : ∃ w6, w5.alloc (.cells #[.slice none 0 0] ulT) = w6 := ⟨_, rfl⟩
  have s1 : w1.heap.size = w.heap.size + 1 := by rw [← hw1, World.size_alloc]
  have s2 : w2.heap.size = w.heap.size + 1 + 1 := by rw [← hw2, World.size_alloc, s1]
  have s3 : w3.heap.size = w.heap.size + 1 + 1 + 1 := by rw [← hw3, World.size_alloc, s2]
  have s4 : w4.heap.size = w.heap.size + 1 + 1 + 1 + 1 := by rw [← hw4, World.size_alloc, s3]
  have s5 : w5.heap.size = w.heap.size + 1 + 1 + 1 + 1 + 1 := by rw [← hw5, World.size_alloc, s4]
  have s6 : w6.heap.size = w.heap.size + 6 := by rw [← hw6, World.size_alloc, s5]
  have h1 : HoldV w1 w.heap.size #[.int .i64 64] 3 := by rw [← hw1]; exact heap_alloc_new _ _
  have h2 : HoldV w2 (w.heap.size + 1) #[.func (.func 22) #[] #[]] 47 := by rw [← hw2, ← s1]; exact heap_alloc_new _ _
  have h3 : HoldV w3 (w.heap.size + 1 + 1) #[.slice none 0 0] ulT := by rw [← hw3, ← s2]; exact heap_alloc_new _ _
  have h4 : HoldV w4 (w.heap.size + 1 + 1 + 1) #[.int .i64 0] 2 := by rw [← hw4, ← s3]; exact heap_alloc_new _ _
  have h5 : HoldV w5 (w.heap.size + 1 + 1 + 1 + 1) #[.int .i64 0] 2 := by rw [← hw5, ← s4]; exact heap_alloc_new _ _
  have h6 : HoldV w6 (w.heap.size + 1 + 1 + 1 + 1 + 1) #[.slice none 0 0] ulT := by rw [← hw6, ← s5]; exact heap_alloc_new _ _
  have b1 : Below w.heap.size w w1 := by rw [← hw1]; exact (Below.refl _ _).alloc (Nat.le_refl _) _
  have b2 : Below w1.heap.size w1 w2 := by rw [← hw2]; exact (Below.refl _ _).alloc (Nat.le_refl _) _
  have b3 : Below w2.heap.size w2 w3 := by rw [← hw3]; exact (Below.refl _ _).alloc (Nat.le_refl _) _
  have b4 : Below w3.heap.size w3 w4 := by rw [← hw4]; exact (Below.refl _ _).alloc (Nat.le_refl _) _
  have b5 : Below w4.heap.size w4 w5 := by rw [← hw5]; exact (Below.refl _ _).alloc (Nat.le_refl _) _
  have b6 : Below w5.heap.size w5 w6 := by rw [← hw6]; exact (Below.refl _ _).alloc (Nat.le_refl _) _
  have e : ul6 w = w6 := by unfold ul6; rw [hw1, hw2, hw3, hw4, hw5, hw6]
  rw [e]
  refine ⟨⟨?_, ((((h1.next b2).next b3).next b4).next b5).next b6, (((h2.next b3).next b4).next b5).next b6, ((h3.next b4).next b5).next b6, (h4.next b5).next b6, h5.next b6, h6⟩, s6⟩
  exact ((((b1.trans (b2.mono (by omega))).trans (b3.mono (by omega))).trans (b4.mono (by omega))).trans (b5.mono (by omega))).trans (b6.mono (by omega))
/-- Between two lines: all that came went in. -/
def UI (w : World) (pre : List Lin) (W : World) : Prop := ∃ (lv : Value) (n : Nat) (acc : List Int), ULS w W (.slice none 0 0) (.int .i64 0) (.int .i64 0) lv ∧ W.ownsRow (w.heap.size + 9) uT 12 lv n (ival acc) ∧ rdS ruP 64 (pre.map Lin.cont) 0 [] = some (n, acc) ∧ n ≤ 64
/-- A line was at fault. -/
def UIx (w : World) (pre : List Lin) (W : World) : Prop := ∃ (C N : Int) (lv : Value), ULS w W (.slice none 0 0) (.int .i64 C) (.int .i64 N) lv ∧ ∀ ys, rdN ruP 64 (pre.map Lin.cont ++ ys) 0 [] = ([], C, N)
theorem UI.next {w A B : World} {pre : List Lin} (h : UI w pre A) (hb : Below A.heap.size A B) : UI w pre B := by
  obtain ⟨lv, n, acc, h1, h2, h3, h4⟩ := h
  exact ⟨lv, n, acc, h1.next hb, row_kept h2 (fun b e => hb.block b (row_lt h2 e).2), h3, h4⟩
theorem UI.stays (w : World) (pre : List Lin) (D : Nat) (hD : w.heap.size ≤ D) : Stays D (UI w pre) := by
  intro W l o o' h hl ho hc
  obtain ⟨lv, n, acc, h1, h2, h3, h4⟩ := h
  exact ⟨lv, n, acc, h1.stay (Nat.le_trans hD hl) ho hc, row_stay h2 ho hc, h3, h4⟩
theorem UIx.stays (w : World) (pre : List Lin) (D : Nat) (hD : w.heap.size ≤ D) : Stays D (UIx w pre) := by
  intro W l o o' h hl ho hc
  obtain ⟨C, N, lv, h1, h2⟩ := h
  exact ⟨C, N, lv, h1.stay (Nat.le_trans hD hl) ho hc, h2⟩
theorem rdN_badU {xs : List (Int × List (List UInt8))} {n : Nat} {acc : List Int} {i : Int} {ws : List (List UInt8)} (h : rdS ruP 64 xs 0 [] = some (n, acc)) (hp : ruP ws = none) (ys : List (Int × List (List UInt8))) : rdN ruP 64 ((xs ++ [(i, ws)]) ++ ys) 0 [] = ([], 19, i) := by
  rw [List.append_assoc, (rdS_app _ h).2]
  show (match ruP ws with | none => _ | some zs => _) = _
  rw [hp]
theorem rdN_fullU {xs : List (Int × List (List UInt8))} {n : Nat} {acc zs : List Int} {i : Int} {ws : List (List UInt8)} (h : rdS ruP 64 xs 0 [] = some (n, acc)) (hp : ruP ws = some zs) (hn : 64 ≤ n) (ys : List (Int × List (List UInt8))) : rdN ruP 64 ((xs ++ [(i, ws)]) ++ ys) 0 [] = ([], 8, i) := by
  rw [List.append_assoc, (rdS_app _ h).2]
  show (match ruP ws with | none => _ | some zs => _) = _
  rw [hp]
  simp only [if_pos hn]
theorem rdS_moreU {xs : List (Int × List (List UInt8))} {n : Nat} {acc zs : List Int} {i : Int} {ws : List (List UInt8)} (h : rdS ruP 64 xs 0 [] = some (n, acc)) (hp : ruP ws = some zs) (hn : ¬ 64 ≤ n) : rdS ruP 64 (xs ++ [(i, ws)]) 0 [] = some (n + 1, acc ++ zs) := by
  rw [(rdS_app _ h).1]
  show (match ruP ws with | none => _ | some zs => _) = _
  rw [hp]
  simp only [if_neg hn]
  rfl
set_option maxHeartbeats 8000000 in
theorem readLinesU_walk (l : List UInt8) (w : World) (hl : l.length ≤ 20000) (X : List Int × Int × Int) (hX : X = rdN ruP 64 (NL ((splitL 10 l).map lineW) 0) 0 []) :
    Calls Try.prog 21 #[.string (bs l), .int .i64 64, .func (.func 22) #[] #[]] w fun e w' => RdPu w X.1 X.2.1 X.2.2 e w' := by
  obtain ⟨iR, hi, hz0, hz1, hz2⟩ := info_parts Try.infoRu
  have HI := hide hi
  have HI0 := hide hz0
  have HI1 := hide hz1
  have HI2 := hide hz2
  clear hi hz0 hz1 hz2
  have hsz := bs_size l
  have h1 : ¬ (20000 : Int) < ((bs l).size : Int) := by omega
  obtain ⟨hR6, hs6⟩ := ul6_ok w
  have HR6 := hide hR6
  have HS6 := hide hs6
  have HX := hide hX
  clear hR6 hs6 hX hsz
  refine (callsIn_wide (n := 5)).1 ?_
  refine callsIn_of_wp_marks Try.func21 rfl trivial ?_ rfl
  simp only [Try.ntmps21, List.size_toArray, List.length_cons, List.length_nil, Nat.reduceAdd, Nat.reduceSub, Array.replicate_succ, Array.replicate_zero, List.push_toArray, List.append_toArray, List.nil_append, List.cons_append]
  gi_wp2_with (first | (refine ⟨trivial, ?_⟩; gi_at_call 30; refine (callsIn_wide.2 (linesOf_walk _ _)).mono ?_; rintro e w' ⟨rfl, rfl⟩))
  have HR7 : Hid (ULS w (((((((w.alloc (.cells #[.int .i64 64] 3)).alloc (.cells #[.func (.func 22) #[] #[]] 47)).alloc (.cells #[.slice none 0 0] 28)).alloc (.cells #[.int .i64 0] 2)).alloc (.cells #[.int .i64 0] 2)).alloc (.cells #[.slice none 0 0] 28)).alloc (.cells #[.string (bs l)] 9)) (.slice none 0 0) (.int .i64 0) (.int .i64 0) (.slice none 0 0)) := hide (HR6.out.next ((Below.refl _ _).alloc (Nat.le_refl _) (.cells #[.string (bs l)] 9)))
  have HS7 : Hid ((((((((w.alloc (.cells #[.int .i64 64] 3)).alloc (.cells #[.func (.func 22) #[] #[]] 47)).alloc (.cells #[.slice none 0 0] 28)).alloc (.cells #[.int .i64 0] 2)).alloc (.cells #[.int .i64 0] 2)).alloc (.cells #[.slice none 0 0] 28)).alloc (.cells #[.string (bs l)] 9)).heap.size = w.heap.size + 7) := hide (by have h := HS6.out; rw [World.size_alloc]; exact congrArg (· + 1) h)
  have HT7 : Hid ((((((((w.alloc (.cells #[.int .i64 64] 3)).alloc (.cells #[.func (.func 22) #[] #[]] 47)).alloc (.cells #[.slice none 0 0] 28)).alloc (.cells #[.int .i64 0] 2)).alloc (.cells #[.int .i64 0] 2)).alloc (.cells #[.slice none 0 0] 28)).alloc (.cells #[.string (bs l)] 9)).cell? ⟨w.heap.size + 1 + 1 + 1 + 1 + 1 + 1, 0, none⟩ = some (.string (bs l))) := hide (by
    have h := cell_of_row (((((((w.alloc (.cells #[.int .i64 64] 3)).alloc (.cells #[.func (.func 22) #[] #[]] 47)).alloc (.cells #[.slice none 0 0] 28)).alloc (.cells #[.int .i64 0] 2)).alloc (.cells #[.int .i64 0] 2)).alloc (.cells #[.slice none 0 0] 28)).alloc (.cells #[.string (bs l)] 9)) (ul6 w).heap.size 0 #[.string (bs l)] 9 (0, 0) (heap_alloc_new (ul6 w) _)
    rw [HS6.out] at h
    exact h)
  generalize ((((((w.alloc (.cells #[.int .i64 64] 3)).alloc (.cells #[.func (.func 22) #[] #[]] 47)).alloc (.cells #[.slice none 0 0] 28)).alloc (.cells #[.int .i64 0] 2)).alloc (.cells #[.int .i64 0] 2)).alloc (.cells #[.slice none 0 0] 28)).alloc (.cells #[.string (bs l)] 9) = W7 at *
  clear HR6 HS6
  have hD : W7.heap.size = w.heap.size + 7 := HS7.out
  refine rangeFunc_ok (w := W7) rfl (by decide) (gf := 54) (lb := #[.pointer (some ⟨w.heap.size + 1 + 1 + 1 + 1 + 1 + 1, 0, none⟩)]) rfl trivial (enters_of Try.func54 (by kernel_rfl) rfl)
    (lines_ok l (5 - 1) (by decide) hl (w.heap.size + 1 + 1 + 1 + 1 + 1 + 1) W7 HT7.out (by omega)) (fun _ => rfl) (UI w) (UIx w)
    (fun pre A B h hb => h.next hb) (fun pre => UI.stays w pre _ (by omega)) (fun pre => UIx.stays w pre _ (by omega)) (fun x => ok_stays _ x)
    ⟨.slice none 0 0, 0, [], HR7.out, World.ownsRow_nil _ _ _ _, rfl, by omega⟩
    (fun x => { tmps := #[.string (bs l), .int .i64 64, .func (.func 22) #[] #[], undef, .pointer (some ⟨w.heap.size, 0, none⟩), .pointer (some ⟨w.heap.size + 1, 0, none⟩), .pointer (some ⟨w.heap.size + 1 + 1, 0, none⟩), .pointer (some ⟨w.heap.size + 1 + 1 + 1, 0, none⟩), .pointer (some ⟨w.heap.size + 1 + 1 + 1 + 1, 0, none⟩), .pointer (some ⟨w.heap.size + 1 + 1 + 1 + 1 + 1, 0, none⟩), .int .i64 x.num, .slice (some ⟨x.blk, 0, none⟩) x.ws.length x.ws.length, undef, undef, .string (bs l), .int .i64 ((bs l).size : Int), .bool false, .string (bs l), .func (.func 54) #[] #[.pointer (some ⟨w.heap.size + 1 + 1 + 1 + 1 + 1 + 1, 0, none⟩)], .int .i64 x.num, .slice (some ⟨x.blk, 0, none⟩) x.ws.length x.ws.length, undef, undef, undef, undef, undef, undef, undef, undef, undef, undef, undef, undef, undef, undef, undef, undef, undef, undef, undef], defers := [] }) ?assign ?body ?done ?stop
  case assign =>
    intro l0 x Wq K hKq
    unfold Lin.vals
    gi_wp2
    exact hKq
  case body =>
    rintro l0 pre x W hri hok hltD
    obtain ⟨lv, n, acc, hRL, hrow, hrd, hn⟩ := hri
    obtain ⟨har, hne, hwl, hwc, hn0, hn1⟩ := hok
    obtain ⟨num, blk, ws⟩ := x
    dsimp only at har hne hwl hwc hn0 hn1 ⊢
    cases ws with
    | nil => exact absurd rfl hne
    | cons p r =>
    have CR := hide (readRule_walk W (some ⟨blk, 0, none⟩) (p :: r) (p :: r).length ⟨by omega, fun q hq => by have := hwl q hq; omega⟩ (by simp) har (Nat.le_refl _))
    have HRL := hide hRL
    have HROW := hide hrow
    have HRD := hide hrd
    have k1 := hRL.2.2.1.cell 0 _ rfl
    obtain ⟨al, cl, hlv⟩ := row_form hrow
    subst hlv
    clear hRL hrow hrd har hne hwl
    generalize hps : (p :: r) = ps at *
    obtain ⟨m, hm, HM⟩ : ∃ m, ps.length = m ∧ Hid (ps.length = m) := ⟨_, rfl, hide rfl⟩
    rw [hm] at CR ⊢
    clear hm hps
    gi_wp2_with fail
    refine ⟨trivial, (CallsIn.inRound l0 (callsIn_wide.2 CR.out)).mono ?_⟩
    rintro e w1 ⟨y0, y1, y2, y3, y4, y5, y6, y7, y8, y9, y10, y11, okq, rfl, hws, hb1⟩
    have HWS := hide hws
    clear hws
    have HB1 := hide hb1
    have HBb := hide (hb1.trans (((Below.refl _ _).alloc (Nat.le_refl _) (.cells #[.int .i64 y0, .int .i64 y1, .int .i64 y2, .int .i64 y3, .int .i64 y4, .int .i64 y5, .int .i64 y6, .int .i64 y7, .int .i64 y8, .int .i64 y9, .int .i64 y10, .int .i64 y11] 45)).mono hb1.size))
    have HHb : Hid (HoldV (w1.alloc (.cells #[.int .i64 y0, .int .i64 y1, .int .i64 y2, .int .i64 y3, .int .i64 y4, .int .i64 y5, .int .i64 y6, .int .i64 y7, .int .i64 y8, .int .i64 y9, .int .i64 y10, .int .i64 y11] 45)) w1.heap.size #[.int .i64 y0, .int .i64 y1, .int .i64 y2, .int .i64 y3, .int .i64 y4, .int .i64 y5, .int .i64 y6, .int .i64 y7, .int .i64 y8, .int .i64 y9, .int .i64 y10, .int .i64 y11] 45) := hide (heap_alloc_new _ _)
    have HSb : Hid ((w1.alloc (.cells #[.int .i64 y0, .int .i64 y1, .int .i64 y2, .int .i64 y3, .int .i64 y4, .int .i64 y5, .int .i64 y6, .int .i64 y7, .int .i64 y8, .int .i64 y9, .int .i64 y10, .int .i64 y11] 45)).heap.size = w1.heap.size + 1) := hide (World.size_alloc _ _)
    have HRLb := hide (HRL.out.next HBb.out)
    have HROWb := hide (row_kept HROW.out (fun b e => HBb.out.block b (row_lt HROW.out e).2))
    have hgD : w.heap.size + 7 < W.heap.size := by omega
    have hgD1 : w.heap.size + 7 + 1 < W.heap.size := by omega
    have k0 := HRLb.out.2.1.cell 0 _ rfl
    have k2 := HRLb.out.2.2.2.1.cell 0 _ rfl
    have f2 := HRLb.out.2.2.2.1.frozen
    have k3 := HRLb.out.2.2.2.2.1.cell 0 _ rfl
    have f3 := HRLb.out.2.2.2.2.1.frozen
    have k4 := HRLb.out.2.2.2.2.2.1.cell 0 _ rfl
    have f4 := HRLb.out.2.2.2.2.2.1.frozen
    have k5 := HRLb.out.2.2.2.2.2.2.cell 0 _ rfl
    have f5 := HRLb.out.2.2.2.2.2.2.frozen
    have q0 := HHb.out.cell 0 _ rfl
    have q1 := HHb.out.cell 1 _ rfl
    have q2 := HHb.out.cell 2 _ rfl
    have q3 := HHb.out.cell 3 _ rfl
    have q4 := HHb.out.cell 4 _ rfl
    have q5 := HHb.out.cell 5 _ rfl
    have q6 := HHb.out.cell 6 _ rfl
    have q7 := HHb.out.cell 7 _ rfl
    have q8 := HHb.out.cell 8 _ rfl
    have q9 := HHb.out.cell 9 _ rfl
    have q10 := HHb.out.cell 10 _ rfl
    have q11 := HHb.out.cell 11 _ rfl
    have HDb : Hid (∀ b, b < W.heap.size → (w1.alloc (.cells #[.int .i64 y0, .int .i64 y1, .int .i64 y2, .int .i64 y3, .int .i64 y4, .int .i64 y5, .int .i64 y6, .int .i64 y7, .int .i64 y8, .int .i64 y9, .int .i64 y10, .int .i64 y11] 45)).heap[b]? = W.heap[b]?) := hide (fun b hb => HBb.out.block b hb)
    clear hb1 k1 CR
    cases okq with
    | false =>
      have HP : Hid (ruP ps = none) := hide (by rw [HWS.out]; rfl)
      have HANS : Hid (∀ ys, rdN ruP 64 ((pre ++ [(⟨num, blk, ps⟩ : Lin)]).map Lin.cont ++ ys) 0 [] = ([], 19, num)) := hide (fun ys => by rw [List.map_append]; exact rdN_badU HRD.out HP.out ys)
      clear HROW HROWb HWS HP
      gi_wp2_with fail
      exact ⟨(three_far w (by omega)).trans (HDb.out _ (by omega)), (three_far w (by omega)).trans (HDb.out _ (by omega)), 19, num, _, HRLb.out.ans, HANS.out⟩
    | true =>
      have HP : Hid (ruP ps = some [y0, y1, y2, y3, y4, y5, y6, y7, y8, y9, y10, y11]) := hide (by rw [HWS.out]; rfl)
      by_cases h64 : n = 64
      · have HANS : Hid (∀ ys, rdN ruP 64 ((pre ++ [(⟨num, blk, ps⟩ : Lin)]).map Lin.cont ++ ys) 0 [] = ([], 8, num)) := hide (fun ys => by rw [List.map_append]; exact rdN_fullU HRD.out HP.out (by omega) ys)
        subst h64
        clear HROW HROWb HWS HP
        gi_wp2_with fail
        exact ⟨(three_far w (by omega)).trans (HDb.out _ (by omega)), (three_far w (by omega)).trans (HDb.out _ (by omega)), 8, num, _, HRLb.out.ans, HANS.out⟩
      · have h64b : ((n : Int) == 64) = false := by simp; omega
        have HRD2 : Hid (rdS ruP 64 ((pre ++ [(⟨num, blk, ps⟩ : Lin)]).map Lin.cont) 0 [] = some (n + 1, acc ++ [y0, y1, y2, y3, y4, y5, y6, y7, y8, y9, y10, y11])) := hide (by rw [List.map_append]; exact rdS_moreU HRD.out HP.out (by omega))
        have hb3 := (Below.refl (w1.alloc (.cells #[.int .i64 y0, .int .i64 y1, .int .i64 y2, .int .i64 y3, .int .i64 y4, .int .i64 y5, .int .i64 y6, .int .i64 y7, .int .i64 y8, .int .i64 y9, .int .i64 y10, .int .i64 y11] 45)).heap.size (w1.alloc (.cells #[.int .i64 y0, .int .i64 y1, .int .i64 y2, .int .i64 y3, .int .i64 y4, .int .i64 y5, .int .i64 y6, .int .i64 y7, .int .i64 y8, .int .i64 y9, .int .i64 y10, .int .i64 y11] 45))).alloc (Nat.le_refl _) (.cells #[.int .i64 y0, .int .i64 y1, .int .i64 y2, .int .i64 y3, .int .i64 y4, .int .i64 y5, .int .i64 y6, .int .i64 y7, .int .i64 y8, .int .i64 y9, .int .i64 y10, .int .i64 y11] 45)
        have HROW3 := hide (row_kept HROWb.out (fun b e => hb3.block b (row_lt HROWb.out e).2))
        have HRL3 := hide (HRLb.out.next hb3)
        have HD3 : Hid (∀ b, b < W.heap.size → ((w1.alloc (.cells #[.int .i64 y0, .int .i64 y1, .int .i64 y2, .int .i64 y3, .int .i64 y4, .int .i64 y5, .int .i64 y6, .int .i64 y7, .int .i64 y8, .int .i64 y9, .int .i64 y10, .int .i64 y11] 45)).alloc (.cells #[.int .i64 y0, .int .i64 y1, .int .i64 y2, .int .i64 y3, .int .i64 y4, .int .i64 y5, .int .i64 y6, .int .i64 y7, .int .i64 y8, .int .i64 y9, .int .i64 y10, .int .i64 y11] 45)).heap[b]? = W.heap[b]?) := hide (fun b hb => (hb3.block b (by have := HSb.out; have := HB1.out.size; omega)).trans (HDb.out b hb))
        have HFC := hide (by have h := twelve_cells (w1.alloc (.cells #[.int .i64 y0, .int .i64 y1, .int .i64 y2, .int .i64 y3, .int .i64 y4, .int .i64 y5, .int .i64 y6, .int .i64 y7, .int .i64 y8, .int .i64 y9, .int .i64 y10, .int .i64 y11] 45)) y0 y1 y2 y3 y4 y5 y6 y7 y8 y9 y10 y11 45; rw [HSb.out] at h; exact h)
        have HS3 : Hid (((w1.alloc (.cells #[.int .i64 y0, .int .i64 y1, .int .i64 y2, .int .i64 y3, .int .i64 y4, .int .i64 y5, .int .i64 y6, .int .i64 y7, .int .i64 y8, .int .i64 y9, .int .i64 y10, .int .i64 y11] 45)).alloc (.cells #[.int .i64 y0, .int .i64 y1, .int .i64 y2, .int .i64 y3, .int .i64 y4, .int .i64 y5, .int .i64 y6, .int .i64 y7, .int .i64 y8, .int .i64 y9, .int .i64 y10, .int .i64 y11] 45)).heap.size = w1.heap.size + 1 + 1) := hide (by rw [World.size_alloc, World.size_alloc])
        have hw16 : w.heap.size + 9 ≤ w1.heap.size := by have := HB1.out.size; omega
        clear hb3 HROW HRL HRD HROWb HWS HP
        gi_wp2_with (first | (gi_at_builtin; refine wpListIn_append_own _ rfl _ _ 28 rfl (w.heap.size + 9) 45 iR _ 12 96 Try.underlying28 HI.out HI0.out HI1.out HI2.out rfl (by decide) (.slice al n cl) _ _ rfl HROW3.out ⟨w1.heap.size + 1, 0, none⟩ 1 1 (ival [y0, y1, y2, y3, y4, y5, y6, y7, y8, y9, y10, y11]) rfl rfl HFC.out (ival_one _) (by unfold maxLen; omega) (by omega) (by have := HS3.out; omega) ?_; intro v4 w4 hown hgrow hnil; obtain ⟨a4, c4, hv4⟩ := row_form hown; subst hv4; have HRL4 := hide (HRL3.out.grown HROW3.out (by have := HS3.out; omega) hgrow); have HROW4 : Hid (w4.ownsRow (w.heap.size + 9) uT 12 (.slice a4 (n + 1) c4) (n + 1) (ival (acc ++ [y0, y1, y2, y3, y4, y5, y6, y7, y8, y9, y10, y11]))) := hide (by rw [ival_app]; exact hown); have HG4 := hide hgrow; have g5 := HRL4.out.2.2.2.2.2.2.cell 0 _ rfl; have gf5 := HRL4.out.2.2.2.2.2.2.frozen; clear hown hgrow hnil))
        have HD4 : Hid (∀ b, b < w.heap.size + 9 → b ≠ w.heap.size + 1 + 1 + 1 + 1 + 1 → (w4.setCell ⟨w.heap.size + 1 + 1 + 1 + 1 + 1, 0, none⟩ (.slice a4 (n + 1) c4)).heap[b]? = W.heap[b]?) := hide (fun b hb hne => (heap_setCell_other _ ⟨w.heap.size + 1 + 1 + 1 + 1 + 1, 0, none⟩ b _ hne).trans ((HG4.out.block b (by have := HS3.out; omega) (fun e => by have := (row_lt HROW3.out e.symm).1; omega)).trans (HD3.out b (by omega))))
        exact ⟨HD4.out _ (by omega) (by omega), HD4.out _ (by omega) (by omega), _, n + 1, _, HRL4.out.list, row_kept HROW4.out (fun b e => heap_setCell_other _ ⟨w.heap.size + 1 + 1 + 1 + 1 + 1, 0, none⟩ b _ (fun e2 => by have h := (row_lt HROW4.out e).1; have e3 : b = w.heap.size + 1 + 1 + 1 + 1 + 1 := e2; omega)), HRD2.out, by omega⟩
  case done =>
    rintro xs W hS ⟨lv, n, acc, hRL, hrow, hrd, hn⟩ hK
    obtain ⟨al, cl, hlv⟩ := row_form hrow
    subst hlv
    have HRL := hide hRL
    have HK := hide hK
    have HROW := hide hrow
    have k2 := hRL.2.2.2.1.cell 0 _ rfl
    have f2 := hRL.2.2.2.1.frozen
    have k3 := hRL.2.2.2.2.1.cell 0 _ rfl
    have f3 := hRL.2.2.2.2.1.frozen
    have k4 := hRL.2.2.2.2.2.1.cell 0 _ rfl
    have f4 := hRL.2.2.2.2.2.1.frozen
    have k5 := hRL.2.2.2.2.2.2.cell 0 _ rfl
    clear hRL hrow hK
    gi_wp2_with fail
    have HKa := hide ((three_far (W := W) (x := .slice al n cl) (y := .int .i64 0) (z := .int .i64 0) w (b := W7.heap.size) (by omega)).trans HK.out)
    refine ⟨by simp, .inl ⟨_, _, rfl, run_takeDeferred HKa.out, ?_⟩⟩
    have HRa := hide ((HRL.out.ans (x := .slice al n cl) (y := .int .i64 0) (z := .int .i64 0)).stay (o' := .deferred none) (by omega) HKa.out rfl)
    have HROWa := hide (row_stay (row_kept HROW.out (fun b e => three_far (W := W) (x := .slice al n cl) (y := .int .i64 0) (z := .int .i64 0) w (b := b) (by have := (row_lt HROW.out e).1; omega))) (o' := .deferred none) HKa.out rfl)
    have HXX : Hid (X = (acc, 0, 0)) := hide (by rw [HX.out, ← hS]; have h := (rdS_app [] hrd).2; rw [List.append_nil] at h; rw [h]; rfl)
    have HL : Hid (acc.length / 12 = n) := hide (by have h := HROWa.out.1; rw [ival_len] at h; omega)
    generalize World.putObj _ _ _ = Wf at *
    have c2 := HRa.out.2.2.2.1.cell 0 _ rfl
    have c3 := HRa.out.2.2.2.2.1.cell 0 _ rfl
    have c4 := HRa.out.2.2.2.2.2.1.cell 0 _ rfl
    exact ⟨.tuple #[.slice al n cl, .int .i64 0, .int .i64 0], (by simp [results, Try.results21, go_sem, c2, c3, c4]), by rw [HXX.out]; exact ⟨_, rfl, by rw [HL.out]; exact (OwnI.mono (ownsAt.of_row HROWa.out) (by omega)), HRa.out.1⟩⟩
  case stop =>
    rintro pre W hSp ⟨C, N, lv, hRL, hans⟩ hK
    gi_wp2_with fail
    refine ⟨by simp, .inl ⟨_, _, rfl, run_takeDeferred hK, ?_⟩⟩
    have HRa := hide (hRL.stay (o' := .deferred none) (by omega) hK rfl)
    have HXX : Hid (X = ([], C, N)) := hide (by obtain ⟨ys, hys⟩ := hSp; rw [HX.out, ← hys]; exact hans ys)
    generalize World.putObj _ _ _ = Wf at *
    have c2 := HRa.out.2.2.2.1.cell 0 _ rfl
    have c3 := HRa.out.2.2.2.2.1.cell 0 _ rfl
    have c4 := HRa.out.2.2.2.2.2.1.cell 0 _ rfl
    exact ⟨.tuple #[.slice none 0 0, .int .i64 C, .int .i64 N], (by simp [results, Try.results21, go_sem, c2, c3, c4]), by rw [HXX.out]; exact ⟨_, rfl, (by simpa using OwnI.nil _ w.heap.size 45 12), HRa.out.1⟩⟩

set_option maxHeartbeats 4000000 in
theorem readLinesU_long (l : List UInt8) (w : World) (hl : 20000 < l.length) (hl2 : l.length ≤ 1048576) :
    Calls Try.prog 21 #[.string (bs l), .int .i64 64, .func (.func 22) #[] #[]] w fun e w' => RdPu w [] 7 0 e w' := by
  have hsz := bs_size l
  have h1 : (20000 : Int) < ((bs l).size : Int) := by omega
  have H5 := hide (five_allocs w (.cells #[.int .i64 64] 3) (.cells #[.func (.func 22) #[] #[]] 47) (.slice none 0 0) (.int .i64 7) (.int .i64 0) 28 2 2)
  generalize bs l = s at *
  go_enter Try.func21, Try.ntmps21
  go_wp2_with fail
  generalize ((((w.alloc (.cells #[.int .i64 64] 3)).alloc (.cells #[.func (.func 22) #[] #[]] 47)).alloc (.cells #[.slice none 0 0] 28)).alloc (.cells #[.int .i64 7] 2)).alloc (.cells #[.int .i64 0] 2) = Wf at *
  have c2 := H5.out.2.1.cell 0 _ rfl
  have c3 := H5.out.2.2.1.cell 0 _ rfl
  have c4 := H5.out.2.2.2.cell 0 _ rfl
  exact bodyPost_ret (v := .tuple #[.slice none 0 0, .int .i64 7, .int .i64 0]) (by simp [results, Try.results21, go_sem, c2, c3, c4]) rfl ⟨_, rfl, OwnI.nil _ _ _ _, H5.out.1⟩
set_option maxHeartbeats 4000000 in
theorem implReadU_walk (l : List UInt8) (w : World) (hl : l.length ≤ 1048576) (X : List Int × Int × Int) (hX : X = rdAll ruP 64 l) :
    Calls Try.prog 11 #[.string (bs l)] w fun e w' => RdPu w X.1 X.2.1 X.2.2 e w' := by
  have C : Hid (Calls Try.prog 21 #[.string (bs l), .int .i64 64, .func (.func 22) #[] #[]] w fun e w' => RdPu w X.1 X.2.1 X.2.2 e w') := hide (by
    unfold rdAll at hX
    by_cases h : 20000 < l.length
    · rw [if_pos h] at hX
      rw [hX]
      exact readLinesU_long l w h hl
    · rw [if_neg h, rdL_N] at hX
      exact readLinesU_walk l w (by omega) X hX)
  clear hX
  go_enter Try.func11, Try.ntmps11
  go_wp2_with fail
  refine C.out.mono ?_
  rintro e w1 ⟨v, rfl, ho, hb⟩
  have HO := hide ho
  have HB := hide hb
  clear ho hb
  go_wp2_with fail
  go_ret3
  exact ⟨_, rfl, HO.out, HB.out⟩
theorem specReadU (l : List UInt8) (w : World) (hl : l.length ≤ 1048576) (X : List Int × Int × Int) (hX : X = rdAll ruP 64 l) :
    Calls Try.prog 10 #[.string (bs l)] w fun e w' => RdPu w X.1 X.2.1 X.2.2 e w' := by
  unfold rdAll at hX
  by_cases h : 20000 < l.length
  · rw [if_pos h] at hX
    rw [hX]
    exact specReadU_long l w h hl
  · rw [if_neg h] at hX
    exact specReadU_walk l w (by omega) X hX
end Go.Proofs.Ytgegnkboibgbgaa
