/-
Contracts of functions of this seat.
-/
import Derived.Test.YtakoagfeiolkjabDoorRows
import Derived.WalkKit
import Derived.ProofKit
import Derived.OpenShut
import Derived.Test.YtakoagfeiolkjabDoorIcp
import Derived.StillTailTactics
import Derived.BigQuiet
namespace Go.Proofs.YtakoagfeiolkjabDoor
open Go.ChangeShapes Go.WideShapes Go.ChangeAt Go.RowKit
set_option linter.unusedVariables false
set_option maxRecDepth 100000
theorem still_of_quiet {P : Program} {ops : Array Oper} {w : World} {Q : Act → Prop} : ∀ (l : List Oper) (a : Act), wpQuiet P ops (fun w' => w' = w) Q l a → wpStill P ops w Q l a
  | [], _, h => h
  | o :: rest, a, h => by
    unfold wpQuiet at h
    unfold wpStill
    by_cases hw : Region.wanted o (yielded ops a.tmps) = true
    · rw [if_pos hw] at h ⊢
      obtain ⟨v, h1, h2⟩ := h
      have h3 := h1 w rfl
      have h4 := still_of_quiet rest _ h2
      unfold Oper.quietAt at h3
      unfold Oper.still
      revert h3
      generalize (execOp a.eval o).run P w = R
      intro h3
      unfold Oper.quietUpon at h3
      unfold Oper.stillUpon
      split at h3
      · obtain ⟨rfl, rfl⟩ := h3
        exact ⟨rfl, h4⟩
      · obtain ⟨rfl, rfl⟩ := h3
        exact ⟨rfl, h4⟩
      · obtain ⟨rfl, hc⟩ := h3
        exact ⟨rfl, v, hc, h4⟩
      · exact h3.elim
    · rw [if_neg hw] at h ⊢
      exact still_of_quiet rest _ h
/-- A region that only looks, and then does what has waited for all of it. -/
theorem region_tail {P : Program} {id : Nat} {Q : Exit → Act → World → Prop} {a : Act} {w : World} {l : List Oper} (n : Nat) (hm : P.follows .mixedOrders = true) (hB : Region.lexTailB .any l.toArray n = true)
    (h : wpQuiet P l.toArray (fun w' => w' = w.drew) (fun a' => wpList P l.toArray Q (l.drop n) a' w.drew) (l.take n) a) : (Code.region id l.toArray true).wp P Q a w := wp_region_still_tail n hm hB (still_of_quiet _ _ h)
theorem Cur.drew {w : World} {g p : Nat} {bv ev : Value} (h : Cur w g bv p ev) : Cur w.drew g bv p ev := h

theorem splice_left (xs ys cs : List Int) (p : Nat) (h : p + cs.length ≤ xs.length) : splice (xs ++ ys) p cs = splice xs p cs ++ ys := by
  unfold splice
  rw [List.take_append_of_le_length (by omega), List.drop_append_of_le_length h]
  simp
theorem splice_bd (xs cs : List Int) (p : Nat) (h : ∀ z ∈ xs, 0 ≤ z ∧ z ≤ 255) (k : ∀ z ∈ cs, 0 ≤ z ∧ z ≤ 255) : ∀ z ∈ splice xs p cs, 0 ≤ z ∧ z ≤ 255 := by
  intro z hz
  unfold splice at hz
  simp only [List.mem_append] at hz
  rcases hz with hz | hz | hz
  · exact h z (List.mem_of_mem_take hz)
  · exact k z hz
  · exact h z (List.mem_of_mem_drop hz)
/-- The Icmp's box and the cursor's, laid. -/
abbrev encIW (w : World) (t c r : Int) (v : Value) : World := (w.alloc (.cells #[.int .i64 t, .int .i64 c, .int .i64 r, v] 28)).alloc (.cells #[.slice none 0 0, .int .i64 0, .nilIface] 69)
theorem encIW_facts (w : World) (t c r : Int) (v : Value) : BoxIcmp w (encIW w t c r v) t c r v ∧ Cur (encIW w t c r v) (w.heap.size + 1) (.slice none 0 0) 0 .nilIface := by
  have h1 := BoxIcmp.start w t c r v 28
  have hs := World.size_alloc w (.cells #[.int .i64 t, .int .i64 c, .int .i64 r, v] 28)
  refine ⟨h1.next ((Below.refl _ _).alloc (Nat.le_refl _) _), ?_⟩
  unfold Cur
  rw [← hs]
  exact heap_alloc_new _ _
set_option maxHeartbeats 4000000 in
theorem implEncI_ok (t c r : Int) (a : Option Addr) (n cap : Nat) (z : List Int) (w : World) (h : icOK t c r = true) (hn : n ≤ 65000) (hz : z.length = n) (ha : Arr w a z)
    (T F1 F2 : Nat) (v r1 r2 : Value) (hv : msgV t c r (.slice a n cap) = .iface T v)
    (h1 : ∀ W, (Go.method 281 T v "loop.example/g00003/impl.size").run Tryd.prog W = .ok (F1, r1) W)
    (h2 : ∀ W, (Go.method 281 T v "loop.example/g00003/impl.put").run Tryd.prog W = .ok (F2, r2) W)
    (q1 : ∀ (args : Array Value) (W : World), (callFunc F1 args).run Tryd.prog W = .ok (.enter F1 args) W)
    (q2 : ∀ (args : Array Value) (W : World), (callFunc F2 args).run Tryd.prog W = .ok (.enter F2 args) W)
    (k1 : ∀ W, Calls Tryd.prog F1 #[r1] W fun e w' => e = .returned (.int .i64 ((8 + n : Nat) : Int)) ∧ Below W.heap.size W w')
    (k2 : ∀ (g G : Nat) (W : World), Cur W g (.slice (some ⟨G, 0, none⟩) (8 + n) (8 + n)) 0 .nilIface → RowB W G (List.replicate (8 + n) 0) → g < G → Arr W a z → (∀ j, j < z.length → ∃ b off, a = some ⟨b, off, none⟩ ∧ b < g) →
      Calls Tryd.prog F2 #[r2, .pointer (some ⟨g, 0, none⟩)] W fun e w' => e = .returned (.tuple #[]) ∧ Cur w' g (.slice (some ⟨G, 0, none⟩) (8 + n) (8 + n)) (8 + n) .nilIface ∧ RowB w' G (splice (icP t c r z) 2 (putL (csum (icP t c r z)) 2)) ∧ Only [g, G] W w') (L : List Int) (hL : splice (icP t c r z) 2 (putL (csum (icP t c r z)) 2) = L) :
    Calls Tryd.prog 11 #[.agg #[.int .i64 t, .int .i64 c, .int .i64 r, .slice a n cap]] w fun e w' => ∃ v : Value, e = .returned (.tuple #[v, .int .i64 0]) ∧ OwnB w' w.heap.size v L ∧ Below w.heap.size w w' := by
  have HF := hide (encIW_facts w t c r (.slice a n cap))
  have CV := hide (fun W => by have h' := validIcmp_walk t c r a n cap W; rw [h] at h'; exact h')
  have CM := hide (fun W => by have h' := messageOf_walk t c r a n cap W; rw [hv] at h'; exact h')
  have HA := hide ha
  have HZ := hide hz
  have K1 := hide k1
  have K2 := hide k2
  have hn' : (n : Int) ≤ 65000 := by omega
  have HLq := hide hL
  clear h hv ha hz k1 k2 hL
  obtain ⟨⟨_, _, k0, k1, k2, k3⟩, hc0⟩ := HF.out
  clear hc0
  go_enter Tryd.func11, Tryd.ntmps11
  go_wp2_with fail
  generalize hW : encIW w t c r (.slice a n cap) = W at *
  unfold encIW at hW
  rw [hW]
  clear hW
  refine (CV.out _).mono ?_
  rintro e w1 ⟨rfl, hb1⟩
  have HB1 := hide (HF.out.1.next hb1)
  have HC1 := hide (HF.out.2.below hb1 HF.out.2.lt)
  clear k0 k1 k2 k3 HF hb1 CV
  obtain ⟨_, _, k0, k1, k2, k3⟩ := HB1.out
  go_wp2_with fail
  refine (demand_yes (w.heap.size + 1) 0 (.slice none 0 0) _ _ HC1.out).mono ?_
  rintro e w2 ⟨rfl, hw2⟩
  rw [hw2]
  clear hw2
  go_wp2_with fail
  refine (demand_yes (w.heap.size + 1) 0 (.slice none 0 0) _ _ HC1.out).mono ?_
  rintro e w2 ⟨rfl, hw2⟩
  rw [hw2]
  clear hw2
  go_wp2_with fail
  refine (CM.out _).mono ?_
  rintro e w2 ⟨rfl, hb2⟩
  have HB2 := hide (HB1.out.next hb2)
  have HC2 := hide (HC1.out.below hb2 HC1.out.lt)
  clear k0 k1 k2 k3 HB1 HC1 hb2 CM
  go_wp2_with fail
  refine (K1.out _).mono ?_
  rintro e w3 ⟨rfl, hb3⟩
  have HB3 := hide (HB2.out.next hb3)
  have HC3 := hide (HC2.out.below hb3 HC2.out.lt)
  clear HB2 HC2 hb3 K1
  have CM := hide (makeRoom_ok (w.heap.size + 1) 0 (.slice none 0 0) (8 + n) w3 HC3.out (by omega))
  go_wp2_with fail
  refine CM.out.mono ?_
  rintro e w4 ⟨rfl, hc4, hr4, hg4⟩
  have hsz0 := HC3.out.lt
  have HB4 := hide (HB3.out.keep (grown_under hg4 (Nat.le_refl _) (by omega)) (by omega))
  have HC4 := hide hc4
  have HR4 := hide hr4
  clear CM hc4 hr4 hg4 HB3 HC3
  generalize w3.heap.size = G at *
  have HAG : Hid (∀ j, j < z.length → ∃ b off, a = some ⟨b, off, none⟩ ∧ b < w.heap.size + 1) := hide (fun j hj => by obtain ⟨b, off, e, hlt, _⟩ := HA.out.2 j hj; exact ⟨b, off, e, by omega⟩)
  have CU := hide (K2.out (w.heap.size + 1) G w4 HC4.out HR4.out (by omega) (HA.out.below HB4.out.1 (Nat.le_refl _)) HAG.out)
  clear K2
  go_wp2_with fail
  refine CU.out.mono ?_
  rintro e w6 ⟨rfl, hc6, hr6, ho6⟩
  have hb6 : Below (w.heap.size + 1) w4 w6 := ho6.below (by intro x hx; simp at hx; omega) (by have := HC4.out.lt; omega)
  have HB6 := hide (HB4.out.keep hb6 (by omega)).1
  have HC6 := hide hc6
  have HR6 := hide hr6
  have HL : Hid ((splice (icP t c r z) 2 (putL (csum (icP t c r z)) 2)).length = 8 + n) := hide (by rw [length_splice _ _ _ (by rw [putL_len, icP_len]; omega), icP_len, HZ.out])
  have HBD : Hid (∀ q ∈ splice (icP t c r z) 2 (putL (csum (icP t c r z)) 2), 0 ≤ q ∧ q ≤ 255) := hide (splice_bd _ _ _ (icP_bd _ _ _ _ HA.out.1) (fun z hz => putL_bd _ _ z hz))
  clear CU hc6 hr6 ho6 hb6 HB4 HC4 HR4
  generalize splice (icP t c r z) 2 (putL (csum (icP t c r z)) 2) = D at *
  have HO := HR6.out.own (B := w.heap.size) (by omega) HBD.out (by rw [HL.out]; omega)
  rw [HL.out] at HO
  rw [HLq.out] at HO
  have HO' := hide HO
  clear HO
  go_wp2_with fail
  have HO7 := hide (HO'.out.drew)
  have HB7 := hide (HB6.out.drew)
  obtain ⟨c0, c1, c2, cf⟩ := HC6.out.cells
  clear HO' HB6 HR6
  have HC7 := hide (Cur.drew (w := w6) HC6.out)
  go_region_held3 (fun w' => w'.cell? ⟨w.heap.size + 1, 0, none⟩ = some (.slice (some ⟨G, 0, none⟩) (8 + n) (8 + n)) ∧ w'.cell? ⟨w.heap.size + 1, 2, none⟩ = some .nilIface) (first | with_reducible assumption | exact ⟨HC7.out.cells.1, HC7.out.cells.2.2.1⟩ | exact ⟨(HC7.out.below hb8 HC7.out.lt).cells.1, (HC7.out.below hb8 HC7.out.lt).cells.2.2.1⟩)
    ((go_at_call 45; refine (ansB_nil _ _ _ _).mono ?_; rintro e w8 ⟨rfl, hb8⟩))
  all_goals
    have HO8 := hide (HO7.out.next hb8)
    have HB8 := hide (HB7.out.trans (hb8.mono HB7.out.size))
    clear hb8
    go_wp2_with fail
    go_ret2
    exact ⟨_, rfl, HO8.out, HB8.out⟩
set_option maxHeartbeats 4000000 in
theorem implEncI_form (t c r : Int) (a : Option Addr) (n cap : Nat) (w : World) (h : icOK t c r = false) (hm : n ≤ 1048576) (he : ErrT w)
    (T F1 F2 : Nat) (v r1 r2 : Value) (hv : msgV t c r (.slice a n cap) = .iface T v)
    (h1 : ∀ W, (Go.method 281 T v "loop.example/g00003/impl.size").run Tryd.prog W = .ok (F1, r1) W)
    (h2 : ∀ W, (Go.method 281 T v "loop.example/g00003/impl.put").run Tryd.prog W = .ok (F2, r2) W)
    (q1 : ∀ (args : Array Value) (W : World), (callFunc F1 args).run Tryd.prog W = .ok (.enter F1 args) W)
    (q2 : ∀ (args : Array Value) (W : World), (callFunc F2 args).run Tryd.prog W = .ok (.enter F2 args) W)
    (k1 : ∀ W, Calls Tryd.prog F1 #[r1] W fun e w' => e = .returned (.int .i64 ((8 + n : Nat) : Int)) ∧ Below W.heap.size W w')
    (k2 : ∀ (g : Nat) (q : Int) (W : World), Cur W g (.slice none 0 0) 0 (wErr q) →
      Calls Tryd.prog F2 #[r2, .pointer (some ⟨g, 0, none⟩)] W fun e w' => e = .returned (.tuple #[]) ∧ Below W.heap.size W w') :
    Calls Tryd.prog 11 #[.agg #[.int .i64 t, .int .i64 c, .int .i64 r, .slice a n cap]] w fun e w' => e = .returned (.tuple #[.slice none 0 0, .int .i64 1]) ∧ Below w.heap.size w w' := by
  have HF := hide (encIW_facts w t c r (.slice a n cap))
  have CV := hide (fun W => by have h' := validIcmp_walk t c r a n cap W; rw [h] at h'; exact h')
  have CM := hide (fun W => by have h' := messageOf_walk t c r a n cap W; rw [hv] at h'; exact h')
  have HE := hide he
  have K1 := hide k1
  have K2 := hide k2
  clear h hv k1 k2 he
  obtain ⟨⟨_, _, k0, k1, k2, k3⟩, hc0⟩ := HF.out
  clear hc0
  go_enter Tryd.func11, Tryd.ntmps11
  go_wp2_with fail
  generalize hW : encIW w t c r (.slice a n cap) = W at *
  unfold encIW at hW
  rw [hW]
  clear hW
  refine (CV.out _).mono ?_
  rintro e w1 ⟨rfl, hb1⟩
  have HB1 := hide (HF.out.1.next hb1)
  have HC1 := hide (HF.out.2.below hb1 HF.out.2.lt)
  clear k0 k1 k2 k3 HF hb1 CV
  obtain ⟨_, _, k0, k1, k2, k3⟩ := HB1.out
  have hlt := HC1.out.lt
  go_wp2_with fail
  refine (demand_no (w.heap.size + 1) 0 (.slice none 0 0) _ _ HC1.out).mono ?_
  rintro e w2 ⟨rfl, hc2, hg2⟩
  have HC2 := hide hc2
  have HB2 := hide (HB1.out.keep (grown_under hg2 (Nat.le_refl _) (by omega)) (by omega))
  clear k0 k1 k2 k3 hc2 hg2 HB1 HC1
  obtain ⟨_, _, k0, k1, k2, k3⟩ := HB2.out
  go_wp2_with fail
  refine (demand_err (w.heap.size + 1) 0 (.slice none 0 0) 1 _ _ _ HC2.out).mono ?_
  rintro e w3 ⟨rfl, hw3⟩
  rw [hw3]
  clear hw3
  go_wp2_with fail
  refine (CM.out _).mono ?_
  rintro e w3 ⟨rfl, hb3⟩
  have HB3 := hide (HB2.out.next hb3)
  have HC3 := hide (HC2.out.below hb3 HC2.out.lt)
  clear k0 k1 k2 k3 HB2 HC2 hb3 CM
  go_wp2_with fail
  refine (K1.out _).mono ?_
  rintro e w4 ⟨rfl, hb4⟩
  have HB4 := hide (HB3.out.next hb4)
  have HC4 := hide (HC3.out.below hb4 HC3.out.lt)
  clear HB3 HC3 hb4 K1
  go_wp2_with fail
  refine (makeRoom_err (w.heap.size + 1) 0 _ 1 _ _ HC4.out).mono ?_
  rintro e w5 ⟨rfl, hw5⟩
  rw [hw5]
  clear hw5
  go_wp2_with fail
  refine (K2.out _ _ _ HC4.out).mono ?_
  rintro e w6 ⟨rfl, hb6⟩
  have HB6 := hide (HB4.out.next hb6).1
  have HC6 := hide (HC4.out.below hb6 HC4.out.lt)
  clear HB4 HC4 hb6 K2
  obtain ⟨c0, c1, c2, cf⟩ := HC6.out.cells
  have HC7 := hide (Cur.drew (w := w6) HC6.out)
  have HB7 := hide (HB6.out.drew)
  have HE7 := hide (HE.out.below HB7.out (Nat.le_refl _))
  have CA := hide (ansB_err none 0 0 1 (by decide) _ HE7.out)
  clear HE HE7 HB6 HC6 c0 c1 c2 cf
  go_wp2_with fail
  go_region_held3 (fun w' => w'.cell? ⟨w.heap.size + 1, 0, none⟩ = some (.slice none 0 0) ∧ w'.cell? ⟨w.heap.size + 1, 2, none⟩ = some (wErr 1)) (first | with_reducible assumption | exact ⟨HC7.out.cells.1, HC7.out.cells.2.2.1⟩ | exact ⟨(HC7.out.below hb8 HC7.out.lt).cells.1, (HC7.out.below hb8 HC7.out.lt).cells.2.2.1⟩)
    ((go_at_call 45; refine CA.out.mono ?_; rintro e w8 ⟨rfl, hb8⟩))
  all_goals
    have HB8 := hide (HB7.out.trans (hb8.mono HB7.out.size))
    clear hb8
    go_wp2_with fail
    go_ret2
    exact ⟨rfl, HB8.out⟩
set_option maxHeartbeats 4000000 in
theorem implEncI_size (t c r : Int) (a : Option Addr) (n cap : Nat) (w : World) (h : icOK t c r = true) (hn : 65000 < n) (hm : n ≤ 1048576) (he : ErrT w)
    (T F1 F2 : Nat) (v r1 r2 : Value) (hv : msgV t c r (.slice a n cap) = .iface T v)
    (h1 : ∀ W, (Go.method 281 T v "loop.example/g00003/impl.size").run Tryd.prog W = .ok (F1, r1) W)
    (h2 : ∀ W, (Go.method 281 T v "loop.example/g00003/impl.put").run Tryd.prog W = .ok (F2, r2) W)
    (q1 : ∀ (args : Array Value) (W : World), (callFunc F1 args).run Tryd.prog W = .ok (.enter F1 args) W)
    (q2 : ∀ (args : Array Value) (W : World), (callFunc F2 args).run Tryd.prog W = .ok (.enter F2 args) W)
    (k1 : ∀ W, Calls Tryd.prog F1 #[r1] W fun e w' => e = .returned (.int .i64 ((8 + n : Nat) : Int)) ∧ Below W.heap.size W w')
    (k2 : ∀ (g : Nat) (q : Int) (W : World), Cur W g (.slice none 0 0) 0 (wErr q) →
      Calls Tryd.prog F2 #[r2, .pointer (some ⟨g, 0, none⟩)] W fun e w' => e = .returned (.tuple #[]) ∧ Below W.heap.size W w') :
    Calls Tryd.prog 11 #[.agg #[.int .i64 t, .int .i64 c, .int .i64 r, .slice a n cap]] w fun e w' => e = .returned (.tuple #[.slice none 0 0, .int .i64 7]) ∧ Below w.heap.size w w' := by
  have HF := hide (encIW_facts w t c r (.slice a n cap))
  have CV := hide (fun W => by have h' := validIcmp_walk t c r a n cap W; rw [h] at h'; exact h')
  have CM := hide (fun W => by have h' := messageOf_walk t c r a n cap W; rw [hv] at h'; exact h')
  have HE := hide he
  have K1 := hide k1
  have K2 := hide k2
  have hn' : ¬ (n : Int) ≤ 65000 := by omega
  clear h hv k1 k2 he hn
  obtain ⟨⟨_, _, k0, k1, k2, k3⟩, hc0⟩ := HF.out
  clear hc0
  go_enter Tryd.func11, Tryd.ntmps11
  go_wp2_with fail
  generalize hW : encIW w t c r (.slice a n cap) = W at *
  unfold encIW at hW
  rw [hW]
  clear hW
  refine (CV.out _).mono ?_
  rintro e w1 ⟨rfl, hb1⟩
  have HB1 := hide (HF.out.1.next hb1)
  have HC1 := hide (HF.out.2.below hb1 HF.out.2.lt)
  clear k0 k1 k2 k3 HF hb1 CV
  obtain ⟨_, _, k0, k1, k2, k3⟩ := HB1.out
  have hlt := HC1.out.lt
  go_wp2_with fail
  refine (demand_yes (w.heap.size + 1) 0 (.slice none 0 0) _ _ HC1.out).mono ?_
  rintro e w2 ⟨rfl, hw2⟩
  rw [hw2]
  clear hw2
  go_wp2_with fail
  rw [decide_eq_false (Int.not_le.2 hn')]
  refine (demand_no (w.heap.size + 1) 0 (.slice none 0 0) _ _ HC1.out).mono ?_
  rintro e w2 ⟨rfl, hc2, hg2⟩
  have HC2 := hide hc2
  have HB2 := hide (HB1.out.keep (grown_under hg2 (Nat.le_refl _) (by omega)) (by omega))
  clear k0 k1 k2 k3 hc2 hg2 HB1 HC1
  obtain ⟨_, _, k0, k1, k2, k3⟩ := HB2.out
  go_wp2_with fail
  refine (CM.out _).mono ?_
  rintro e w3 ⟨rfl, hb3⟩
  have HB3 := hide (HB2.out.next hb3)
  have HC3 := hide (HC2.out.below hb3 HC2.out.lt)
  clear k0 k1 k2 k3 HB2 HC2 hb3 CM
  go_wp2_with fail
  refine (K1.out _).mono ?_
  rintro e w4 ⟨rfl, hb4⟩
  have HB4 := hide (HB3.out.next hb4)
  have HC4 := hide (HC3.out.below hb4 HC3.out.lt)
  clear HB3 HC3 hb4 K1
  go_wp2_with fail
  refine (makeRoom_err (w.heap.size + 1) 0 _ 7 _ _ HC4.out).mono ?_
  rintro e w5 ⟨rfl, hw5⟩
  rw [hw5]
  clear hw5
  go_wp2_with fail
  refine (K2.out _ _ _ HC4.out).mono ?_
  rintro e w6 ⟨rfl, hb6⟩
  have HB6 := hide (HB4.out.next hb6).1
  have HC6 := hide (HC4.out.below hb6 HC4.out.lt)
  clear HB4 HC4 hb6 K2
  obtain ⟨c0, c1, c2, cf⟩ := HC6.out.cells
  have HC7 := hide (Cur.drew (w := w6) HC6.out)
  have HB7 := hide (HB6.out.drew)
  have HE7 := hide (HE.out.below HB7.out (Nat.le_refl _))
  have CA := hide (ansB_err none 0 0 7 (by decide) _ HE7.out)
  clear HE HE7 HB6 HC6 c0 c1 c2 cf
  go_wp2_with fail
  go_region_held3 (fun w' => w'.cell? ⟨w.heap.size + 1, 0, none⟩ = some (.slice none 0 0) ∧ w'.cell? ⟨w.heap.size + 1, 2, none⟩ = some (wErr 7)) (first | with_reducible assumption | exact ⟨HC7.out.cells.1, HC7.out.cells.2.2.1⟩ | exact ⟨(HC7.out.below hb8 HC7.out.lt).cells.1, (HC7.out.below hb8 HC7.out.lt).cells.2.2.1⟩)
    ((go_at_call 45; refine CA.out.mono ?_; rintro e w8 ⟨rfl, hb8⟩))
  all_goals
    have HB8 := hide (HB7.out.trans (hb8.mono HB7.out.size))
    clear hb8
    go_wp2_with fail
    go_ret2
    exact ⟨rfl, HB8.out⟩
end Go.Proofs.YtakoagfeiolkjabDoor
