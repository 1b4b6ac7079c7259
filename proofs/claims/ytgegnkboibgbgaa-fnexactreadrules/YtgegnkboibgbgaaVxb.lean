/-
Contracts of functions of this seat.
-/
import Derived.Test.YtgegnkboibgbgaaRows
import Derived.WalkKit
import Derived.ProofKit
import Derived.OpenShut
import Derived.Test.YtgegnkboibgbgaaRvx
namespace Go.Proofs.Ytgegnkboibgbgaa
open Go.ChangeShapes Go.WideShapes Go.ChangeAt Go.RowKit
set_option linter.unusedVariables false
set_option maxRecDepth 100000
set_option maxHeartbeats 8000000 in
theorem validRule_Df (A D P sa sb sl sh da db dl dh S : Int) (w : World) (hA0 : inB A 1 3 = true) (hD0 : inB D 1 3 = false) :
    Calls Try.prog 49 #[.agg #[.int .i64 A, .int .i64 D, .int .i64 P, .int .i64 sa, .int .i64 sb, .int .i64 sl, .int .i64 sh, .int .i64 da, .int .i64 db, .int .i64 dl, .int .i64 dh, .int .i64 S]] w fun e w' => e = .returned (.bool false) ∧ Below w.heap.size w w' := by
  have HB := hide (BoxR.start w A D P sa sb sl sh da db dl dh S 45)
  have hA := hide hA0
  clear hA0
  have hD := hide hD0
  clear hD0
  go_enter Try.func49, Try.ntmps49
  go_wp2_with fail
  have hK := HB.out.drew
  generalize w.alloc (.cells #[.int .i64 A, .int .i64 D, .int .i64 P, .int .i64 sa, .int .i64 sb, .int .i64 sl, .int .i64 sh, .int .i64 da, .int .i64 db, .int .i64 dl, .int .i64 dh, .int .i64 S] 45) = W0 at *
  refine wp_region_lex (fun w' => BoxR w w' A D P sa sb sl sh da db dl dh S) ((1, true) :: (2, true) :: (0, false) :: (3, false) :: (4, true) :: (6, true) :: (7, true) :: (5, false) :: (8, false) :: (9, true) :: (10, true) :: (12, true) :: (13, true) :: (11, false) :: (14, false) :: (15, true) :: (16, true) :: (17, true) :: (18, true) :: (19, true) :: (20, true) :: (22, true) :: (23, true) :: (21, false) :: (24, false) :: (25, true) :: (26, true) :: (27, true) :: (28, true) :: (29, true) :: (30, false) :: (31, true) :: (32, true) :: (33, true) :: (34, true) :: (35, true) :: (36, true) :: (37, false) :: (38, true) :: (39, true) :: (40, true) :: (41, true) :: (42, false) :: (43, true) :: (44, true) :: (45, true) :: (46, true) :: (47, true) :: (48, true) :: (49, false) :: (50, true) :: (51, true) :: (52, true) :: (53, true) :: (54, false) :: (55, true) :: (56, true) :: (57, false) :: (58, true) :: (59, true) :: (60, true) :: []) (by kernel_rfl) (by kernel_rfl) (by kernel_rfl) rfl hK ?_
  repeat (first
    | (refine wpLex_skip rfl (by rfl) (fun _ _ _ h => h) ?_; simp only [Act.put, List.setIfInBounds_toArray, List.set_cons_zero, List.set_cons_succ])
    | (refine wpLex_pass rfl (by rfl) hK ?_; simp only [Act.put, List.setIfInBounds_toArray, List.set_cons_zero, List.set_cons_succ])
    | (refine wpLex_take ?_ rfl (by rfl) (fun _ _ _ h => h) ?_ ?_; rotate_left; (intro wq hSw; (try dsimp only at hSw); first | (go_simp; done) | (go_simp; with_reducible rfl)); simp only [Act.put, List.setIfInBounds_toArray, List.set_cons_zero, List.set_cons_succ])
    | (refine wpLex_act rfl (by rfl) ?_; intro KK hKK; go_simp; (first
      | (go_at_call 43; refine (actionWords_walk _).mono ?_; rintro e w' ⟨rfl, hLa⟩; have hK := BoxR.next hK hLa.2.2)
      | (go_at_call 65; refine (named_act A true hA.out hLa.1 hLa.2.1).mono ?_; clear hLa; rintro e w' ⟨rfl, hbx⟩; have hK := BoxR.next hK hbx; clear hbx)
      | (go_at_call 44; refine (dirWords_walk _).mono ?_; rintro e w' ⟨rfl, hLd⟩; have hK := BoxR.next hK hLd.2.2)
      | (go_at_call 65; refine (named_dir D false hD.out hLd.1 hLd.2.1).mono ?_; clear hLd; rintro e w' ⟨rfl, hbx⟩; have hK := BoxR.next hK hbx; clear hbx)); go_wp2_with fail; refine hKK.out _ _ hK ?_; clear hKK KK; try simp only [Act.put, List.setIfInBounds_toArray, List.set_cons_zero, List.set_cons_succ]))
  refine wpLex_nil ?_
  all_goals go_wp2_with fail
  all_goals go_ret
  all_goals exact ⟨rfl, hK.1⟩
set_option maxHeartbeats 8000000 in
theorem validRule_oz (A D P sa sb sl sh da db dl dh S : Int) (w : World) (hA0 : inB A 1 3 = true) (hD0 : inB D 1 3 = true) (hP0 : decide (P = 0 ∨ P = 1 ∨ P = 6 ∨ P = 17) = true) (hp0 : prefB sa sb = true) (hs0 : portB sl sh = false) :
    Calls Try.prog 49 #[.agg #[.int .i64 A, .int .i64 D, .int .i64 P, .int .i64 sa, .int .i64 sb, .int .i64 sl, .int .i64 sh, .int .i64 da, .int .i64 db, .int .i64 dl, .int .i64 dh, .int .i64 0]] w fun e w' => e = .returned (.bool false) ∧ Below w.heap.size w w' := by
  have HB := hide (BoxR.start w A D P sa sb sl sh da db dl dh 0 45)
  have hA := hide hA0
  clear hA0
  have hD := hide hD0
  clear hD0
  have hP := hide hP0
  clear hP0
  have CP := hide (fun W => valid_walk sa sb W)
  rw [hp0] at CP
  clear hp0
  have CO := hide (fun W => validPorts_walk sl sh W)
  rw [hs0] at CO
  clear hs0
  go_enter Try.func49, Try.ntmps49
  go_wp2_with fail
  have hK := HB.out.drew
  generalize w.alloc (.cells #[.int .i64 A, .int .i64 D, .int .i64 P, .int .i64 sa, .int .i64 sb, .int .i64 sl, .int .i64 sh, .int .i64 da, .int .i64 db, .int .i64 dl, .int .i64 dh, .int .i64 0] 45) = W0 at *
  refine wp_region_lex (fun w' => BoxR w w' A D P sa sb sl sh da db dl dh 0) ((1, true) :: (2, true) :: (0, false) :: (3, false) :: (4, true) :: (6, true) :: (7, true) :: (5, false) :: (8, false) :: (9, true) :: (10, true) :: (12, true) :: (13, true) :: (11, false) :: (14, false) :: (15, true) :: (16, true) :: (17, true) :: (18, true) :: (19, true) :: (20, true) :: (22, true) :: (23, true) :: (21, false) :: (24, false) :: (25, true) :: (26, true) :: (27, true) :: (28, true) :: (29, true) :: (30, false) :: (31, true) :: (32, true) :: (33, true) :: (34, true) :: (35, true) :: (36, true) :: (37, false) :: (38, true) :: (39, true) :: (40, true) :: (41, true) :: (42, false) :: (43, true) :: (44, true) :: (45, true) :: (46, true) :: (47, true) :: (48, true) :: (49, false) :: (50, true) :: (51, true) :: (52, true) :: (53, true) :: (54, false) :: (55, true) :: (56, true) :: (57, false) :: (58, true) :: (59, true) :: (60, true) :: []) (by kernel_rfl) (by kernel_rfl) (by kernel_rfl) rfl hK ?_
  repeat (first
    | (refine wpLex_skip rfl (by rfl) (fun _ _ _ h => h) ?_; simp only [Act.put, List.setIfInBounds_toArray, List.set_cons_zero, List.set_cons_succ])
    | (refine wpLex_pass rfl (by rfl) hK ?_; simp only [Act.put, List.setIfInBounds_toArray, List.set_cons_zero, List.set_cons_succ])
    | (refine wpLex_take ?_ rfl (by rfl) (fun _ _ _ h => h) ?_ ?_; rotate_left; (intro wq hSw; (try dsimp only at hSw); first | (go_simp; done) | (go_simp; with_reducible rfl)); simp only [Act.put, List.setIfInBounds_toArray, List.set_cons_zero, List.set_cons_succ])
    | (refine wpLex_act rfl (by rfl) ?_; intro KK hKK; go_simp; (first
      | (go_at_call 43; refine (actionWords_walk _).mono ?_; rintro e w' ⟨rfl, hLa⟩; have hK := BoxR.next hK hLa.2.2)
      | (go_at_call 65; refine (named_act A true hA.out hLa.1 hLa.2.1).mono ?_; clear hLa; rintro e w' ⟨rfl, hbx⟩; have hK := BoxR.next hK hbx; clear hbx)
      | (go_at_call 44; refine (dirWords_walk _).mono ?_; rintro e w' ⟨rfl, hLd⟩; have hK := BoxR.next hK hLd.2.2)
      | (go_at_call 65; refine (named_dir D true hD.out hLd.1 hLd.2.1).mono ?_; clear hLd; rintro e w' ⟨rfl, hbx⟩; have hK := BoxR.next hK hbx; clear hbx)
      | (go_at_call 45; refine (protoWords_walk _).mono ?_; rintro e w' ⟨rfl, hLp⟩; have hK := BoxR.next hK hLp.2.2)
      | (go_at_call 65; refine (named_pro P true hP.out hLp.1 hLp.2.1).mono ?_; clear hLp; rintro e w' ⟨rfl, hbx⟩; have hK := BoxR.next hK hbx; clear hbx)
      | (go_at_call 66; refine (CP.out _).mono ?_; clear CP; rintro e w' ⟨rfl, hbx⟩; have hK := BoxR.next hK hbx; clear hbx)
      | (go_at_call 67; refine (CO.out _).mono ?_; clear CO; rintro e w' ⟨rfl, rfl⟩)); go_wp2_with fail; refine hKK.out _ _ hK ?_; clear hKK KK; try simp only [Act.put, List.setIfInBounds_toArray, List.set_cons_zero, List.set_cons_succ]))
  refine wpLex_nil ?_
  all_goals go_wp2_with fail
  all_goals go_ret
  all_goals exact ⟨rfl, hK.1⟩
set_option maxHeartbeats 8000000 in
theorem validRule_xz (A D P sa sb sl sh da db dl dh S : Int) (w : World) (hA0 : inB A 1 3 = true) (hD0 : inB D 1 3 = true) (hP0 : decide (P = 0 ∨ P = 1 ∨ P = 6 ∨ P = 17) = true) (hp0 : prefB sa sb = true) (hs0 : portB sl sh = true) (hq0 : prefB da db = true) (hd0 : portB dl dh = true) (hh0 : decide (P = 6 ∨ P = 17) = false) :
    Calls Try.prog 49 #[.agg #[.int .i64 A, .int .i64 D, .int .i64 P, .int .i64 sa, .int .i64 sb, .int .i64 sl, .int .i64 sh, .int .i64 da, .int .i64 db, .int .i64 dl, .int .i64 dh, .int .i64 0]] w fun e w' => e = .returned (.bool (allP sl sh && allP dl dh)) ∧ Below w.heap.size w w' := by
  have HB := hide (BoxR.start w A D P sa sb sl sh da db dl dh 0 45)
  have hA := hide hA0
  clear hA0
  have hD := hide hD0
  clear hD0
  have hP := hide hP0
  clear hP0
  have CP := hide (fun W => valid_walk sa sb W)
  rw [hp0] at CP
  clear hp0
  have CO := hide (fun W => validPorts_walk sl sh W)
  rw [hs0] at CO
  clear hs0
  have CQ := hide (fun W => valid_walk da db W)
  rw [hq0] at CQ
  clear hq0
  have CT := hide (fun W => validPorts_walk dl dh W)
  rw [hd0] at CT
  clear hd0
  have CH := hide (fun W => hasPorts_walk P W)
  rw [hh0] at CH
  clear hh0
  have CX := hide (fun W => anyPorts_walk A D P sa sb sl sh da db dl dh 0 W)
  generalize (allP sl sh && allP dl dh) = bx at *
  go_enter Try.func49, Try.ntmps49
  go_wp2_with fail
  have hK := HB.out.drew
  generalize w.alloc (.cells #[.int .i64 A, .int .i64 D, .int .i64 P, .int .i64 sa, .int .i64 sb, .int .i64 sl, .int .i64 sh, .int .i64 da, .int .i64 db, .int .i64 dl, .int .i64 dh, .int .i64 0] 45) = W0 at *
  refine wp_region_lex (fun w' => BoxR w w' A D P sa sb sl sh da db dl dh 0) ((1, true) :: (2, true) :: (0, false) :: (3, false) :: (4, true) :: (6, true) :: (7, true) :: (5, false) :: (8, false) :: (9, true) :: (10, true) :: (12, true) :: (13, true) :: (11, false) :: (14, false) :: (15, true) :: (16, true) :: (17, true) :: (18, true) :: (19, true) :: (20, true) :: (22, true) :: (23, true) :: (21, false) :: (24, false) :: (25, true) :: (26, true) :: (27, true) :: (28, true) :: (29, true) :: (30, false) :: (31, true) :: (32, true) :: (33, true) :: (34, true) :: (35, true) :: (36, true) :: (37, false) :: (38, true) :: (39, true) :: (40, true) :: (41, true) :: (42, false) :: (43, true) :: (44, true) :: (45, true) :: (46, true) :: (47, true) :: (48, true) :: (49, false) :: (50, true) :: (51, true) :: (52, true) :: (53, true) :: (54, false) :: (55, true) :: (56, true) :: (57, false) :: (58, true) :: (59, true) :: (60, true) :: []) (by kernel_rfl) (by kernel_rfl) (by kernel_rfl) rfl hK ?_
  repeat (first
    | (refine wpLex_skip rfl (by rfl) (fun _ _ _ h => h) ?_; simp only [Act.put, List.setIfInBounds_toArray, List.set_cons_zero, List.set_cons_succ])
    | (refine wpLex_pass rfl (by rfl) hK ?_; simp only [Act.put, List.setIfInBounds_toArray, List.set_cons_zero, List.set_cons_succ])
    | (refine wpLex_take ?_ rfl (by rfl) (fun _ _ _ h => h) ?_ ?_; rotate_left; (intro wq hSw; (try dsimp only at hSw); first | (go_simp; done) | (go_simp; with_reducible rfl)); simp only [Act.put, List.setIfInBounds_toArray, List.set_cons_zero, List.set_cons_succ])
    | (refine wpLex_act rfl (by rfl) ?_; intro KK hKK; go_simp; (first
      | (go_at_call 43; refine (actionWords_walk _).mono ?_; rintro e w' ⟨rfl, hLa⟩; have hK := BoxR.next hK hLa.2.2)
      | (go_at_call 65; refine (named_act A true hA.out hLa.1 hLa.2.1).mono ?_; clear hLa; rintro e w' ⟨rfl, hbx⟩; have hK := BoxR.next hK hbx; clear hbx)
      | (go_at_call 44; refine (dirWords_walk _).mono ?_; rintro e w' ⟨rfl, hLd⟩; have hK := BoxR.next hK hLd.2.2)
      | (go_at_call 65; refine (named_dir D true hD.out hLd.1 hLd.2.1).mono ?_; clear hLd; rintro e w' ⟨rfl, hbx⟩; have hK := BoxR.next hK hbx; clear hbx)
      | (go_at_call 45; refine (protoWords_walk _).mono ?_; rintro e w' ⟨rfl, hLp⟩; have hK := BoxR.next hK hLp.2.2)
      | (go_at_call 65; refine (named_pro P true hP.out hLp.1 hLp.2.1).mono ?_; clear hLp; rintro e w' ⟨rfl, hbx⟩; have hK := BoxR.next hK hbx; clear hbx)
      | (go_at_call 66; refine (CP.out _).mono ?_; clear CP; rintro e w' ⟨rfl, hbx⟩; have hK := BoxR.next hK hbx; clear hbx)
      | (go_at_call 67; refine (CO.out _).mono ?_; clear CO; rintro e w' ⟨rfl, rfl⟩)
      | (go_at_call 66; refine (CQ.out _).mono ?_; clear CQ; rintro e w' ⟨rfl, hbx⟩; have hK := BoxR.next hK hbx; clear hbx)
      | (go_at_call 67; refine (CT.out _).mono ?_; clear CT; rintro e w' ⟨rfl, rfl⟩)
      | (go_at_call 68; refine (CH.out _).mono ?_; clear CH; rintro e w' ⟨rfl, rfl⟩)
      | (go_at_call 69; refine (CX.out _).mono ?_; clear CX; rintro e w' ⟨rfl, hbx⟩; have hK := BoxR.next hK hbx; clear hbx)); go_wp2_with fail; refine hKK.out _ _ hK ?_; clear hKK KK; try simp only [Act.put, List.setIfInBounds_toArray, List.set_cons_zero, List.set_cons_succ]))
  refine wpLex_nil ?_
  all_goals go_wp2_with fail
  all_goals go_ret
  all_goals exact ⟨rfl, hK.1⟩
set_option maxHeartbeats 8000000 in
theorem validRule_ts (A D P sa sb sl sh da db dl dh S : Int) (w : World) (hA0 : inB A 1 3 = true) (hD0 : inB D 1 3 = true) (hP0 : decide (P = 0 ∨ P = 1 ∨ P = 6 ∨ P = 17) = true) (hS0 : inB S 1 4 = true) (hp0 : prefB sa sb = true) (hs0 : portB sl sh = true) (hq0 : prefB da db = true) (hd0 : portB dl dh = false) (hSz : (S == 0) = false) :
    Calls Try.prog 49 #[.agg #[.int .i64 A, .int .i64 D, .int .i64 P, .int .i64 sa, .int .i64 sb, .int .i64 sl, .int .i64 sh, .int .i64 da, .int .i64 db, .int .i64 dl, .int .i64 dh, .int .i64 S]] w fun e w' => e = .returned (.bool false) ∧ Below w.heap.size w w' := by
  have HB := hide (BoxR.start w A D P sa sb sl sh da db dl dh S 45)
  have hA := hide hA0
  clear hA0
  have hD := hide hD0
  clear hD0
  have hP := hide hP0
  clear hP0
  have hS := hide hS0
  clear hS0
  have CP := hide (fun W => valid_walk sa sb W)
  rw [hp0] at CP
  clear hp0
  have CO := hide (fun W => validPorts_walk sl sh W)
  rw [hs0] at CO
  clear hs0
  have CQ := hide (fun W => valid_walk da db W)
  rw [hq0] at CQ
  clear hq0
  have CT := hide (fun W => validPorts_walk dl dh W)
  rw [hd0] at CT
  clear hd0
  go_enter Try.func49, Try.ntmps49
  go_wp2_with fail
  have hK := HB.out.drew
  generalize w.alloc (.cells #[.int .i64 A, .int .i64 D, .int .i64 P, .int .i64 sa, .int .i64 sb, .int .i64 sl, .int .i64 sh, .int .i64 da, .int .i64 db, .int .i64 dl, .int .i64 dh, .int .i64 S] 45) = W0 at *
  refine wp_region_lex (fun w' => BoxR w w' A D P sa sb sl sh da db dl dh S) ((1, true) :: (2, true) :: (0, false) :: (3, false) :: (4, true) :: (6, true) :: (7, true) :: (5, false) :: (8, false) :: (9, true) :: (10, true) :: (12, true) :: (13, true) :: (11, false) :: (14, false) :: (15, true) :: (16, true) :: (17, true) :: (18, true) :: (19, true) :: (20, true) :: (22, true) :: (23, true) :: (21, false) :: (24, false) :: (25, true) :: (26, true) :: (27, true) :: (28, true) :: (29, true) :: (30, false) :: (31, true) :: (32, true) :: (33, true) :: (34, true) :: (35, true) :: (36, true) :: (37, false) :: (38, true) :: (39, true) :: (40, true) :: (41, true) :: (42, false) :: (43, true) :: (44, true) :: (45, true) :: (46, true) :: (47, true) :: (48, true) :: (49, false) :: (50, true) :: (51, true) :: (52, true) :: (53, true) :: (54, false) :: (55, true) :: (56, true) :: (57, false) :: (58, true) :: (59, true) :: (60, true) :: []) (by kernel_rfl) (by kernel_rfl) (by kernel_rfl) rfl hK ?_
  repeat (first
    | (refine wpLex_skip rfl (by rfl) (fun _ _ _ h => h) ?_; simp only [Act.put, List.setIfInBounds_toArray, List.set_cons_zero, List.set_cons_succ])
    | (refine wpLex_pass rfl (by rfl) hK ?_; simp only [Act.put, List.setIfInBounds_toArray, List.set_cons_zero, List.set_cons_succ])
    | (refine wpLex_take ?_ rfl (by rfl) (fun _ _ _ h => h) ?_ ?_; rotate_left; (intro wq hSw; (try dsimp only at hSw); first | (go_simp; done) | (go_simp; with_reducible rfl)); simp only [Act.put, List.setIfInBounds_toArray, List.set_cons_zero, List.set_cons_succ])
    | (refine wpLex_act rfl (by rfl) ?_; intro KK hKK; go_simp; (first
      | (go_at_call 43; refine (actionWords_walk _).mono ?_; rintro e w' ⟨rfl, hLa⟩; have hK := BoxR.next hK hLa.2.2)
      | (go_at_call 65; refine (named_act A true hA.out hLa.1 hLa.2.1).mono ?_; clear hLa; rintro e w' ⟨rfl, hbx⟩; have hK := BoxR.next hK hbx; clear hbx)
      | (go_at_call 44; refine (dirWords_walk _).mono ?_; rintro e w' ⟨rfl, hLd⟩; have hK := BoxR.next hK hLd.2.2)
      | (go_at_call 65; refine (named_dir D true hD.out hLd.1 hLd.2.1).mono ?_; clear hLd; rintro e w' ⟨rfl, hbx⟩; have hK := BoxR.next hK hbx; clear hbx)
      | (go_at_call 45; refine (protoWords_walk _).mono ?_; rintro e w' ⟨rfl, hLp⟩; have hK := BoxR.next hK hLp.2.2)
      | (go_at_call 65; refine (named_pro P true hP.out hLp.1 hLp.2.1).mono ?_; clear hLp; rintro e w' ⟨rfl, hbx⟩; have hK := BoxR.next hK hbx; clear hbx)
      | (go_at_call 48; refine (stateWords_walk _).mono ?_; rintro e w' ⟨rfl, hLs⟩; have hK := BoxR.next hK hLs.2.2)
      | (go_at_call 65; refine (named_sta S true hS.out hLs.1 hLs.2.1).mono ?_; clear hLs; rintro e w' ⟨rfl, hbx⟩; have hK := BoxR.next hK hbx; clear hbx)
      | (go_at_call 66; refine (CP.out _).mono ?_; clear CP; rintro e w' ⟨rfl, hbx⟩; have hK := BoxR.next hK hbx; clear hbx)
      | (go_at_call 67; refine (CO.out _).mono ?_; clear CO; rintro e w' ⟨rfl, rfl⟩)
      | (go_at_call 66; refine (CQ.out _).mono ?_; clear CQ; rintro e w' ⟨rfl, hbx⟩; have hK := BoxR.next hK hbx; clear hbx)
      | (go_at_call 67; refine (CT.out _).mono ?_; clear CT; rintro e w' ⟨rfl, rfl⟩)); go_wp2_with fail; refine hKK.out _ _ hK ?_; clear hKK KK; try simp only [Act.put, List.setIfInBounds_toArray, List.set_cons_zero, List.set_cons_succ]))
  refine wpLex_nil ?_
  all_goals go_wp2_with fail
  all_goals go_ret
  all_goals exact ⟨rfl, hK.1⟩
end Go.Proofs.Ytgegnkboibgbgaa
