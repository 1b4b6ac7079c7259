/-
Contracts of functions of this seat.
-/
import Derived.Test.YtmlpninkilcjaaaRows
import Derived.WalkKit
import Derived.ProofKit
import Derived.OpenShut
import Derived.Test.YtmlpninkilcjaaaPfx
import Derived.Test.YtmlpninkilcjaaaIll
import Derived.Test.YtmlpninkilcjaaaNod
import Derived.Test.YtmlpninkilcjaaaBgn
import Derived.Laws.OwnMore
namespace Go.Proofs.Ytmlpninkilcjaaa
open Go.ChangeShapes Go.WideShapes Go.ChangeAt Go.RowKit
set_option linter.unusedVariables false
set_option maxRecDepth 100000
abbrev srT : Nat := 57
abbrev rtT8 : Nat := 27
/-- A source under way since w0: it alone, of what there was, has been written. -/
def DSr (w0 W : World) (g : Nat) (a : Option Addr) (cap : Nat) (zs : List Int) : Prop := Arr W a zs ∧ SrcA W g srT zs.length a cap ∧ w0.grownBy W (some g) ∧ g < w0.heap.size
theorem DSr.step {w0 W W' : World} {g cap : Nat} {a : Option Addr} {zs : List Int} (h : DSr w0 W g a cap zs) (hg : W.grownBy W' (some g)) (hs : SrcA W' g srT zs.length a cap) : DSr w0 W' g a cap zs := ⟨h.1.srcA h.2.1 hg, hs, grown_trans h.2.2.1 hg, h.2.2.2⟩
theorem DSr.next {w0 W W' : World} {g cap : Nat} {a : Option Addr} {zs : List Int} (h : DSr w0 W g a cap zs) (hb : Below W.heap.size W W') : DSr w0 W' g a cap zs := ⟨h.1.below hb (Nat.le_refl _), h.2.1.below hb (Nat.le_refl _), grown_below h.2.2.1 hb, h.2.2.2⟩
theorem DSr.alloc {w0 W : World} {g cap : Nat} {a : Option Addr} {zs : List Int} (h : DSr w0 W g a cap zs) (o : Obj) : DSr w0 (W.alloc o) g a cap zs := h.next ((Below.refl _ _).alloc (Nat.le_refl _) _)
theorem DSr.start {w : World} {g cap : Nat} {a : Option Addr} {zs : List Int} (harr : Arr w a zs) (hsrc : SrcA w g srT zs.length a cap) : DSr w w g a cap zs := ⟨harr, hsrc, ⟨rfl, rfl, rfl, Nat.le_refl _, fun _ _ _ => rfl⟩, hsrc.lt⟩
theorem HoldV.gr {W W' : World} {p g T : Nat} {vs : Array Value} (h : HoldV W p vs T) (hg : W.grownBy W' (some g)) (hne : p ≠ g) : HoldV W' p vs T := (hg.block p h.lt (fun e => hne (Option.some.inj e))).trans h
theorem l01Bool_walk (g : Nat) (zs : List Int) (w : World) (a : Option Addr) (cap : Nat) (harr : Arr w a zs) (hsrc : SrcA w g srT zs.length a cap) (hl : zs.length ≤ 2097152) :
    Calls Try.prog 29 #[.pointer (some ⟨g, 0, none⟩)] w fun e w' => ∃ r : Int, e = .returned (.bool (r == 0)) ∧ w.grownBy w' (some g) ∧ SrcA w' g srT zs.length a cap := by
  go_enter Try.func29, Try.ntmps29
  go_wp2_with fail
  refine (l01Next_walk g 2 zs w a cap harr hsrc (by omega) (by omega) hl).mono ?_
  rintro e w1 ⟨r, rfl, h0, h1, hg, hs⟩
  go_wp2_with fail
  go_ret
  exact ⟨r, rfl, hg, hs⟩
theorem five_at {w : World} {H T : Nat} {v0 v1 v2 v3 v4 : Value} (h : HoldV w H #[v0, v1, v2, v3, v4] T) : w.cell? ⟨H, 0, none⟩ = some v0 ∧ w.cell? ⟨H, 1, none⟩ = some v1 ∧ w.cell? ⟨H, 2, none⟩ = some v2 ∧ w.cell? ⟨H, 3, none⟩ = some v3 ∧ w.cell? ⟨H, 4, none⟩ = some v4 ∧ ∀ q, w.frozen? ⟨H, q, none⟩ = false :=
  ⟨h.cell 0 _ rfl, h.cell 1 _ rfl, h.cell 2 _ rfl, h.cell 3 _ rfl, h.cell 4 _ rfl, h.frozen⟩
theorem grown_five {a w : World} {row : Option Nat} (h : a.grownBy w row) {p : Nat} (hp : a.heap.size ≤ p) (u0 u1 u2 u3 u4 : Value) : a.grownBy (((((w.setCell ⟨p, 0, none⟩ u0).setCell ⟨p, 1, none⟩ u1).setCell ⟨p, 2, none⟩ u2).setCell ⟨p, 3, none⟩ u3).setCell ⟨p, 4, none⟩ u4) row :=
  grown_set (grown_set (grown_set (grown_set (grown_set h (p := ⟨p, 0, none⟩) hp u0) (p := ⟨p, 1, none⟩) hp u1) (p := ⟨p, 2, none⟩) hp u2) (p := ⟨p, 3, none⟩) hp u3) (p := ⟨p, 4, none⟩) hp u4
theorem src_five {w : World} {g n cap p : Nat} {a : Option Addr} (h : SrcA w g srT n a cap) (hp : g ≠ p) (u0 u1 u2 u3 u4 : Value) : SrcA (((((w.setCell ⟨p, 0, none⟩ u0).setCell ⟨p, 1, none⟩ u1).setCell ⟨p, 2, none⟩ u2).setCell ⟨p, 3, none⟩ u3).setCell ⟨p, 4, none⟩ u4) g srT n a cap :=
  ((((h.set (p := ⟨p, 0, none⟩) hp u0).set (p := ⟨p, 1, none⟩) hp u1).set (p := ⟨p, 2, none⟩) hp u2).set (p := ⟨p, 3, none⟩) hp u3).set (p := ⟨p, 4, none⟩) hp u4
set_option maxHeartbeats 4000000 in
theorem l08Draw_walk (g : Nat) (zs : List Int) (w : World) (a : Option Addr) (cap : Nat) (harr : Arr w a zs) (hsrc : SrcA w g srT zs.length a cap) (hl : zs.length ≤ 2097152) :
    Calls Try.prog 49 #[.pointer (some ⟨g, 0, none⟩)] w fun e w' => ∃ z0 z1 z2 z3 z4 : Int, e = .returned (.agg #[.int .i64 z0, .int .i64 z1, .int .i64 z2, .int .i64 z3, .int .i64 z4]) ∧ w.grownBy w' (some g) ∧ SrcA w' g srT zs.length a cap := by
  have HD0 := hide ((DSr.start harr hsrc).alloc (.cells #[.int .i64 0, .int .i64 0, .int .i64 0, .int .i64 0, .int .i64 0] rtT8))
  have HR0 : Hid (HoldV (w.alloc (.cells #[.int .i64 0, .int .i64 0, .int .i64 0, .int .i64 0, .int .i64 0] rtT8)) w.heap.size #[.int .i64 0, .int .i64 0, .int .i64 0, .int .i64 0, .int .i64 0] rtT8) := hide (heap_alloc_new _ _)
  have hgw : w.heap.size ≠ g := by have := hsrc.lt; omega
  clear harr hsrc
  go_enter Try.func49, Try.ntmps49
  go_wp2_with fail
  refine (l02Prefix_walk g zs _ a cap HD0.out.1 HD0.out.2.1 hl).mono ?_
  rintro e w1 ⟨x, b, rfl, _, _, _, _, hg1, hs1⟩
  have HD1 := hide (HD0.out.step hg1 hs1)
  have HR1 := hide (HR0.out.gr hg1 hgw)
  clear hg1 hs1 HD0 HR0
  go_wp2_with fail
  refine (l01Next_walk g 4 zs _ a cap HD1.out.1 HD1.out.2.1 (by omega) (by omega) hl).mono ?_
  rintro e w2 ⟨z3, rfl, _, _, hg1, hs1⟩
  have HD2 := hide (HD1.out.step hg1 hs1)
  have HR2 := hide (HR1.out.gr hg1 hgw)
  clear hg1 hs1 HD1 HR1
  go_wp2_with fail
  refine (l01Next_walk g 3 zs _ a cap HD2.out.1 HD2.out.2.1 (by omega) (by omega) hl).mono ?_
  rintro e w3 ⟨z4, rfl, _, _, hg1, hs1⟩
  have HD3 := hide ((HD2.out.step hg1 hs1).alloc (.cells #[.int .i64 x, .int .i64 b, .int .i64 0, .int .i64 z3, .int .i64 z4] rtT8))
  have HB3 : Hid (HoldV (w3.alloc (.cells #[.int .i64 x, .int .i64 b, .int .i64 0, .int .i64 z3, .int .i64 z4] rtT8)) w3.heap.size #[.int .i64 x, .int .i64 b, .int .i64 0, .int .i64 z3, .int .i64 z4] rtT8) := hide (heap_alloc_new _ _)
  have HR3 := hide ((HR2.out.gr hg1 hgw).next ((Below.refl _ _).alloc (Nat.le_refl _) (.cells #[.int .i64 x, .int .i64 b, .int .i64 0, .int .i64 z3, .int .i64 z4] rtT8)))
  have hgb : w3.heap.size ≠ g := by have := hs1.lt; omega
  have hwb : w.heap.size < w3.heap.size := (HR2.out.gr hg1 hgw).lt
  clear hg1 hs1 HD2 HR2
  go_wp2_with fail
  generalize w3.alloc (.cells #[.int .i64 x, .int .i64 b, .int .i64 0, .int .i64 z3, .int .i64 z4] 27) = W3 at *
  generalize w3.heap.size = X at *
  refine (l01Bool_walk g zs _ a cap HD3.out.1 HD3.out.2.1 hl).mono ?_
  rintro e w4 ⟨q, rfl, hg1, hs1⟩
  have HD4 := hide (HD3.out.step hg1 hs1)
  have HR4 := hide (HR3.out.gr hg1 hgw)
  have HB4 := hide (HB3.out.gr hg1 hgb)
  clear hg1 hs1 HD3 HR3 HB3
  by_cases hq : q = 0
  · have hqb : (q == 0) = true := by simp [hq]
    rw [hqb]
    clear hqb hq
    obtain ⟨b0, b1, b2, b3, b4, bf⟩ := five_at HB4.out
    obtain ⟨r0, r1, r2, r3, r4, rf⟩ := five_at HR4.out
    go_wp2_with fail
    refine (l02Host_walk g zs _ a cap HD4.out.1 HD4.out.2.1 hl).mono ?_
    rintro e w5 ⟨z2, rfl, _, _, hg1, hs1⟩
    have HD5 := hide (HD4.out.step hg1 hs1)
    have HR5 := hide ((HR4.out.gr hg1 hgw).other (show w.heap.size ≠ X by omega) 2 (.int .i64 z2))
    have HB5 := hide (HB4.out.gr hg1 hgb)
    have HB6 := hide (HB5.out.set 2 (.int .i64 z2))
    clear b0 b1 b2 b3 b4 bf r0 r1 r2 r3 r4 rf hg1 hs1
    obtain ⟨b0, b1, b2, b3, b4, bf⟩ := five_at HB5.out
    have HG6 := hide (grown_set HD5.out.2.2.1 (p := ⟨X, 2, none⟩) (show w.heap.size ≤ X by omega) (.int .i64 z2))
    have HS6 := hide (HD5.out.2.1.set (p := ⟨X, 2, none⟩) (show g ≠ X by omega) (.int .i64 z2))
    have hB6 : HoldV (w5.setCell ⟨X, 2, none⟩ (.int .i64 z2)) X #[.int .i64 x, .int .i64 b, .int .i64 z2, .int .i64 z3, .int .i64 z4] rtT8 := HB6.out
    obtain ⟨d0, d1, d2, d3, d4, df⟩ := five_at hB6
    obtain ⟨r0, r1, r2, r3, r4, rf⟩ := five_at HR5.out
    clear hB6
    go_wp2_with fail
    exact bodyPost_ret (v := .agg #[.int .i64 x, .int .i64 b, .int .i64 z2, .int .i64 z3, .int .i64 z4]) (by simp [results, Try.results49, go_sem, r0, r1, r2, r3, r4]) rfl ⟨x, b, z2, z3, z4, rfl, grown_five HG6.out (Nat.le_refl _) _ _ _ _ _, src_five HS6.out (by omega) _ _ _ _ _⟩
  · have hqb : (q == 0) = false := by simp [hq]
    rw [hqb]
    clear hqb hq
    obtain ⟨b0, b1, b2, b3, b4, bf⟩ := five_at HB4.out
    obtain ⟨r0, r1, r2, r3, r4, rf⟩ := five_at HR4.out
    go_wp2_with fail
    exact bodyPost_ret (v := .agg #[.int .i64 x, .int .i64 b, .int .i64 0, .int .i64 z3, .int .i64 z4]) (by simp [results, Try.results49, go_sem, r0, r1, r2, r3, r4]) rfl ⟨x, b, 0, z3, z4, rfl, grown_five HD4.out.2.2.1 (Nat.le_refl _) _ _ _ _ _, src_five HD4.out.2.1 (by omega) _ _ _ _ _⟩

theorem Try.infoRt : (Try.prog.info? 27).map (fun i => (i.zero, i.size, i.bytes)) = some (some (.agg #[.int .i64 0, .int .i64 0, .int .i64 0, .int .i64 0, .int .i64 0]), 5, 40) := by kernel_rfl
theorem grown_new {w0 W W' : World} {g : Nat} {row : Option Nat} (h : w0.grownBy W (some g)) (hg : W.grownBy W' row) (hr : ∀ k, row = some k → w0.heap.size ≤ k) : w0.grownBy W' (some g) :=
  ⟨hg.os.trans h.os, hg.tape.trans h.tape, hg.output.trans h.output, Nat.le_trans h.size hg.size, fun j hj hne => (hg.block j (Nat.lt_of_lt_of_le hj h.size) (fun e => by have := hr j e.symm; omega)).trans (h.block j hj hne)⟩
theorem own_block_ge {w : World} {B e k n : Nat} {v : Value} {xs : List Value} (h : w.ownsRow B e k v n xs) : ∀ j, v.ownBlock = some j → B ≤ j := by
  intro j hj
  rcases h.2 with ⟨rfl, _⟩ | ⟨g, cap, cur, rfl, hB, _⟩
  · cases hj
  · have : g = j := by cases hj; rfl
    omega
theorem row_next {w w' : World} {B e k n : Nat} {v : Value} {xs : List Value} (h : w.ownsRow B e k v n xs) (hb : Below w.heap.size w w') : w'.ownsRow B e k v n xs := by
  refine ⟨h.1, ?_⟩
  rcases h.2 with h2 | ⟨g, cap, cur, hv, hB, hg, h3⟩
  · exact .inl h2
  · exact .inr ⟨g, cap, cur, hv, hB, (hb.block g (Array.getElem?_eq_some_iff.1 hg).1).trans hg, h3⟩
theorem row_gr {w w' : World} {B e k n g : Nat} {v : Value} {xs : List Value} (h : w.ownsRow B e k v n xs) (hg : w.grownBy w' (some g)) (hB : g < B) : w'.ownsRow B e k v n xs := by
  refine ⟨h.1, ?_⟩
  rcases h.2 with h2 | ⟨q, cap, cur, hv, hq, hh, h3⟩
  · exact .inl h2
  · exact .inr ⟨q, cap, cur, hv, hq, (hg.block q (Array.getElem?_eq_some_iff.1 hh).1 (fun e => by cases e; omega)).trans hh, h3⟩
theorem DSr.app {w0 W W' : World} {g cap : Nat} {a : Option Addr} {zs : List Int} {row : Option Nat} (h : DSr w0 W g a cap zs) (harr : Arr w0 a zs) (hsrc : SrcA w0 g srT zs.length a cap) (hg : W.grownBy W' row) (hr : ∀ k, row = some k → w0.heap.size ≤ k) : DSr w0 W' g a cap zs := by
  have h1 := grown_new h.2.2.1 hg hr
  refine ⟨harr.srcA hsrc h1, ?_, h1, h.2.2.2⟩
  exact h.2.1.same (hg.block g h.2.1.lt (fun e => by have := hr g e.symm; have := h.2.2.2; omega))
theorem five_new (w : World) (z0 z1 z2 z3 z4 : Int) (t : Nat) : ∀ (j : Nat) u, (ival [z0, z1, z2, z3, z4])[j]? = some u → (w.alloc (.cells #[.int .i64 z0, .int .i64 z1, .int .i64 z2, .int .i64 z3, .int .i64 z4] t)).cell? ((⟨w.heap.size, 0, none⟩ : Addr).add j) = some u := by
  intro j u hu
  have h := cell_of_row (w.alloc (.cells #[.int .i64 z0, .int .i64 z1, .int .i64 z2, .int .i64 z3, .int .i64 z4] t)) w.heap.size j #[.int .i64 z0, .int .i64 z1, .int .i64 z2, .int .i64 z3, .int .i64 z4] t (0, 0) (heap_alloc_new w _)
  rw [Addr.add_lit, Nat.zero_add, h]
  simpa [ival] using hu
set_option maxHeartbeats 4000000 in
theorem l08List_walk (g n : Nat) (zs : List Int) (w : World) (a : Option Addr) (cap : Nat) (harr : Arr w a zs) (hsrc : SrcA w g srT zs.length a cap) (hl : zs.length ≤ 2097152) (hn : n ≤ 1000) :
    Calls Try.prog 25 #[.pointer (some ⟨g, 0, none⟩), .int .i64 (n : Int)] w fun e w' => ∃ v ys, e = .returned v ∧ v ≠ .slice none 0 0 ∧ w'.ownsRow w.heap.size rtT8 5 v n (ival ys) ∧ w.grownBy w' (some g) ∧ SrcA w' g srT zs.length a cap := by
  obtain ⟨i, hi, hz0, hz1, hz2⟩ := info_parts Try.infoRt
  have HI := hide hi
  have HZ0 := hide hz0
  have HZ1 := hide hz1
  have HZ2 := hide hz2
  clear hi hz0 hz1 hz2
  have HA := hide harr
  have HS := hide hsrc
  have hgw : g < w.heap.size := hsrc.lt
  have HD0 := hide ((DSr.start harr hsrc).alloc (.cells #[] rtT8))
  have HO0 : Hid ((w.alloc (.cells #[] rtT8)).ownsRow w.heap.size rtT8 5 (.slice (some ⟨w.heap.size, 0, none⟩) 0 0) 0 (ival [])) := hide ⟨rfl, .inr ⟨w.heap.size, 0, #[], rfl, Nat.le_refl _, heap_alloc_new _ _, Nat.le_refl _, Nat.zero_le _, rfl, rfl⟩⟩
  clear harr hsrc
  go_enter Try.func25, Try.ntmps25
  go_wp2_with fail
  generalize hW : w.alloc (.cells #[] 27) = W0 at *
  clear hW
  go_loopw [5, 6] (fun v t w2 => ∃ (k : Nat) (ys : List Int), k ≤ n ∧ t = .int .i64 k ∧ Hid (v ≠ .slice none 0 0) ∧ Hid (DSr w w2 g a cap zs) ∧ Hid (w2.ownsRow w.heap.size rtT8 5 v k (ival ys))) (fun _ t _ => n - (intOf t).toNat)
  case atStart => exact ⟨0, [], Nat.zero_le _, rfl, hide (by simp), HD0, HO0⟩
  case round =>
    obtain ⟨k, ys, hk, rfl, HNV, HD, HO⟩ := hrel
    by_cases hlt : k < n
    · go_wp2_with fail
      refine (l08Draw_walk g zs _ a cap HD.out.1 HD.out.2.1 hl).mono ?_
      rintro e w1 ⟨z0, z1, z2, z3, z4, rfl, hg1, hs1⟩
      have HD1 := hide ((HD.out.step hg1 hs1).alloc (.cells #[.int .i64 z0, .int .i64 z1, .int .i64 z2, .int .i64 z3, .int .i64 z4] rtT8))
      have HO1 := hide ((row_gr HO.out hg1 hgw).alloc (.cells #[.int .i64 z0, .int .i64 z1, .int .i64 z2, .int .i64 z3, .int .i64 z4] rtT8))
      have HSZ : Hid (w.heap.size ≤ (w1.alloc (.cells #[.int .i64 z0, .int .i64 z1, .int .i64 z2, .int .i64 z3, .int .i64 z4] rtT8)).heap.size) := hide HD1.out.2.2.1.size
      clear hg1 hs1
      go_wp2_with (first | (at_builtin; refine wpList_append_own _ rfl _ _ 30 rfl w.heap.size rtT8 i _ 5 40 Try.underlying30 HI.out HZ0.out HZ1.out HZ2.out rfl (by decide) u5 k (ival ys) rfl HO1.out ⟨w1.heap.size, 0, none⟩ 1 1 (ival [z0, z1, z2, z3, z4]) rfl rfl (five_new _ _ _ _ _ _ _) (ival_one _) (by unfold maxLen; omega) (by omega) HSZ.out ?_; intro v3 w3 hown3 hgrow3 hnil3))
      have HD3 := hide (HD1.out.app HA.out HS.out hgrow3 (own_block_ge HO1.out))
      rw [← ival_app] at hown3
      exact ⟨⟨k + 1, ys ++ [z0, z1, z2, z3, z4], by omega, by go_num, hide (fun e => HNV.out (hnil3.1 e).1), HD3, hide hown3⟩, by simp [intOf]; omega⟩
    · have hkn : k = n := by omega
      subst hkn
      go_wp2_with fail
      go_ret
      exact ⟨_, ys, rfl, HNV.out, HO.out, HD.out.2.2.1, HD.out.2.1⟩

set_option maxHeartbeats 8000000 in
theorem l08Bend_walk (g : Nat) (zs : List Int) (w : World) (a : Option Addr) (cap : Nat) (z0 z1 z2 z3 z4 : Int) (harr : Arr w a zs) (hsrc : SrcA w g srT zs.length a cap) (hl : zs.length ≤ 2097152) :
    Calls Try.prog 27 #[.pointer (some ⟨g, 0, none⟩), .agg #[.int .i64 z0, .int .i64 z1, .int .i64 z2, .int .i64 z3, .int .i64 z4]] w fun e w' => ∃ y0 y1 y2 y3 y4 : Int, e = .returned (.agg #[.int .i64 y0, .int .i64 y1, .int .i64 y2, .int .i64 y3, .int .i64 y4]) ∧ w.grownBy w' (some g) ∧ SrcA w' g srT zs.length a cap := by
  have HD0 := hide (((DSr.start harr hsrc).alloc (.cells #[.int .i64 z0, .int .i64 z1, .int .i64 z2, .int .i64 z3, .int .i64 z4] rtT8)).alloc (.cells #[.int .i64 0, .int .i64 0, .int .i64 0, .int .i64 0, .int .i64 0] rtT8))
  obtain ⟨_, hP0, hR0⟩ := two_allocs w (.cells #[.int .i64 z0, .int .i64 z1, .int .i64 z2, .int .i64 z3, .int .i64 z4] rtT8) (.cells #[.int .i64 0, .int .i64 0, .int .i64 0, .int .i64 0, .int .i64 0] rtT8)
  have HP0 : Hid (HoldV ((w.alloc (.cells #[.int .i64 z0, .int .i64 z1, .int .i64 z2, .int .i64 z3, .int .i64 z4] rtT8)).alloc (.cells #[.int .i64 0, .int .i64 0, .int .i64 0, .int .i64 0, .int .i64 0] rtT8)) w.heap.size #[.int .i64 z0, .int .i64 z1, .int .i64 z2, .int .i64 z3, .int .i64 z4] rtT8) := hide hP0
  have HR0 : Hid (HoldV ((w.alloc (.cells #[.int .i64 z0, .int .i64 z1, .int .i64 z2, .int .i64 z3, .int .i64 z4] rtT8)).alloc (.cells #[.int .i64 0, .int .i64 0, .int .i64 0, .int .i64 0, .int .i64 0] rtT8)) (w.heap.size + 1) #[.int .i64 0, .int .i64 0, .int .i64 0, .int .i64 0, .int .i64 0] rtT8) := hide hR0
  have hgw : g < w.heap.size := hsrc.lt
  clear harr hsrc hP0 hR0
  go_enter Try.func27, Try.ntmps27
  go_wp2_with fail
  refine (l01Next_walk g 6 zs _ a cap HD0.out.1 HD0.out.2.1 (by omega) (by omega) hl).mono ?_
  rintro e w1 ⟨q, rfl, q0, q1, hg1, hs1⟩
  have HD1 := hide (HD0.out.step hg1 hs1)
  have HP1 := hide (HP0.out.gr hg1 (show w.heap.size ≠ g by omega))
  have HR1 := hide (HR0.out.gr hg1 (show w.heap.size + 1 ≠ g by omega))
  clear hg1 hs1
  clear HD0 HP0 HR0
  have hq : q = 0 ∨ q = 1 ∨ q = 2 ∨ q = 3 ∨ q = 4 ∨ q = 5 := by omega
  clear q0 q1
  rcases hq with rfl | rfl | rfl | rfl | rfl | rfl
  · obtain ⟨c0, c1, c2, c3, c4, cf⟩ := five_at HP1.out
    obtain ⟨r0, r1, r2, r3, r4, rf⟩ := five_at HR1.out
    go_wp2_with fail
    refine (l02Ill_walk g zs _ a cap HD1.out.1 HD1.out.2.1 hl).mono ?_
    rintro e w2 ⟨x, b, rfl, _, _, _, _, hg1, hs1⟩
    have HD2 := hide (HD1.out.step hg1 hs1)
    have HP2 := hide (HP1.out.gr hg1 (show w.heap.size ≠ g by omega))
    have HR2 := hide (HR1.out.gr hg1 (show w.heap.size + 1 ≠ g by omega))
    clear hg1 hs1
    clear c0 c1 c2 c3 c4 cf r0 r1 r2 r3 r4 rf
    obtain ⟨c0, c1, c2, c3, c4, cf⟩ := five_at HP2.out
    have hPn : HoldV ((w2.setCell ⟨w.heap.size, 0, none⟩ (.int .i64 x)).setCell ⟨w.heap.size, 1, none⟩ (.int .i64 b)) w.heap.size #[.int .i64 x, .int .i64 b, .int .i64 z2, .int .i64 z3, .int .i64 z4] rtT8 := ((HP2.out.set 0 (.int .i64 x)).set 1 (.int .i64 b))
    have hRn : HoldV ((w2.setCell ⟨w.heap.size, 0, none⟩ (.int .i64 x)).setCell ⟨w.heap.size, 1, none⟩ (.int .i64 b)) (w.heap.size + 1) #[.int .i64 0, .int .i64 0, .int .i64 0, .int .i64 0, .int .i64 0] rtT8 := ((HR2.out.other (show w.heap.size + 1 ≠ w.heap.size by omega) 0 (.int .i64 x)).other (show w.heap.size + 1 ≠ w.heap.size by omega) 1 (.int .i64 b))
    obtain ⟨p0, p1, p2, p3, p4, pf⟩ := five_at hPn
    obtain ⟨r0, r1, r2, r3, r4, rf⟩ := five_at hRn
    clear hPn hRn
    go_wp2_with fail
    exact bodyPost_ret (v := .agg #[.int .i64 x, .int .i64 b, .int .i64 z2, .int .i64 z3, .int .i64 z4]) (by simp [results, Try.results27, go_sem, r0, r1, r2, r3, r4]) rfl ⟨x, b, z2, z3, z4, rfl, grown_five (grown_set (grown_set HD2.out.2.2.1 (p := ⟨w.heap.size, 0, none⟩) (Nat.le_refl _) (.int .i64 x)) (p := ⟨w.heap.size, 1, none⟩) (Nat.le_refl _) (.int .i64 b)) (by omega) _ _ _ _ _, src_five ((HD2.out.2.1.set (p := ⟨w.heap.size, 0, none⟩) (show g ≠ w.heap.size by omega) (.int .i64 x)).set (p := ⟨w.heap.size, 1, none⟩) (show g ≠ w.heap.size by omega) (.int .i64 b)) (by omega) _ _ _ _ _⟩
  · have HDA := hide (HD1.out.alloc (.cells #[.int .i64 (-1), .int .i64 2130706433, .int .i64 4294967295] 2))
    have HPA := hide (HP1.out.next ((Below.refl _ _).alloc (Nat.le_refl _) (.cells #[.int .i64 (-1), .int .i64 2130706433, .int .i64 4294967295] 2)))
    have HRA := hide (HR1.out.next ((Below.refl _ _).alloc (Nat.le_refl _) (.cells #[.int .i64 (-1), .int .i64 2130706433, .int .i64 4294967295] 2)))
    have HLA : Hid (HoldV (w1.alloc (.cells #[.int .i64 (-1), .int .i64 2130706433, .int .i64 4294967295] 2)) w1.heap.size #[.int .i64 (-1), .int .i64 2130706433, .int .i64 4294967295] 2) := hide (heap_alloc_new _ _)
    have hlg : w1.heap.size ≠ g := by have := HD1.out.2.1.lt; omega
    have hlp : w.heap.size + 1 < w1.heap.size := HR1.out.lt
    go_wp2_with fail
    refine (l01Next_walk g 3 zs _ a cap HDA.out.1 HDA.out.2.1 (by omega) (by omega) hl).mono ?_
    rintro e w2 ⟨k, rfl, k0, k1, hg1, hs1⟩
    have HD2 := hide (HDA.out.step hg1 hs1)
    have HP2 := hide (HPA.out.gr hg1 (show w.heap.size ≠ g by omega))
    have HR2 := hide (HRA.out.gr hg1 (show w.heap.size + 1 ≠ g by omega))
    have HL2 := hide (HLA.out.gr hg1 hlg)
    clear hg1 hs1
    have hk : k = 0 ∨ k = 1 ∨ k = 2 := by omega
    clear k0 k1
    have l0 := HL2.out.cell 0 (.int .i64 (-1)) rfl
    have l1 := HL2.out.cell 1 (.int .i64 2130706433) rfl
    have l2 := HL2.out.cell 2 (.int .i64 4294967295) rfl
    obtain ⟨c0, c1, c2, c3, c4, cf⟩ := five_at HP2.out
    rcases hk with rfl | rfl | rfl
    · have hPn : HoldV (w2.setCell ⟨w.heap.size, 2, none⟩ (.int .i64 (-1))) w.heap.size #[.int .i64 z0, .int .i64 z1, .int .i64 (-1), .int .i64 z3, .int .i64 z4] rtT8 := (HP2.out.set 2 (.int .i64 (-1)))
      have hRn : HoldV (w2.setCell ⟨w.heap.size, 2, none⟩ (.int .i64 (-1))) (w.heap.size + 1) #[.int .i64 0, .int .i64 0, .int .i64 0, .int .i64 0, .int .i64 0] rtT8 := (HR2.out.other (show w.heap.size + 1 ≠ w.heap.size by omega) 2 (.int .i64 (-1)))
      obtain ⟨p0, p1, p2, p3, p4, pf⟩ := five_at hPn
      obtain ⟨r0, r1, r2, r3, r4, rf⟩ := five_at hRn
      clear hPn hRn
      go_wp2_with fail
      exact bodyPost_ret (v := .agg #[.int .i64 z0, .int .i64 z1, .int .i64 (-1), .int .i64 z3, .int .i64 z4]) (by simp [results, Try.results27, go_sem, r0, r1, r2, r3, r4]) rfl ⟨z0, z1, (-1), z3, z4, rfl, grown_five (grown_set HD2.out.2.2.1 (p := ⟨w.heap.size, 2, none⟩) (Nat.le_refl _) (.int .i64 (-1))) (by omega) _ _ _ _ _, src_five (HD2.out.2.1.set (p := ⟨w.heap.size, 2, none⟩) (show g ≠ w.heap.size by omega) (.int .i64 (-1))) (by omega) _ _ _ _ _⟩
    · have hPn : HoldV (w2.setCell ⟨w.heap.size, 2, none⟩ (.int .i64 2130706433)) w.heap.size #[.int .i64 z0, .int .i64 z1, .int .i64 2130706433, .int .i64 z3, .int .i64 z4] rtT8 := (HP2.out.set 2 (.int .i64 2130706433))
      have hRn : HoldV (w2.setCell ⟨w.heap.size, 2, none⟩ (.int .i64 2130706433)) (w.heap.size + 1) #[.int .i64 0, .int .i64 0, .int .i64 0, .int .i64 0, .int .i64 0] rtT8 := (HR2.out.other (show w.heap.size + 1 ≠ w.heap.size by omega) 2 (.int .i64 2130706433))
      obtain ⟨p0, p1, p2, p3, p4, pf⟩ := five_at hPn
      obtain ⟨r0, r1, r2, r3, r4, rf⟩ := five_at hRn
      clear hPn hRn
      go_wp2_with fail
      exact bodyPost_ret (v := .agg #[.int .i64 z0, .int .i64 z1, .int .i64 2130706433, .int .i64 z3, .int .i64 z4]) (by simp [results, Try.results27, go_sem, r0, r1, r2, r3, r4]) rfl ⟨z0, z1, 2130706433, z3, z4, rfl, grown_five (grown_set HD2.out.2.2.1 (p := ⟨w.heap.size, 2, none⟩) (Nat.le_refl _) (.int .i64 2130706433)) (by omega) _ _ _ _ _, src_five (HD2.out.2.1.set (p := ⟨w.heap.size, 2, none⟩) (show g ≠ w.heap.size by omega) (.int .i64 2130706433)) (by omega) _ _ _ _ _⟩
    · have hPn : HoldV (w2.setCell ⟨w.heap.size, 2, none⟩ (.int .i64 4294967295)) w.heap.size #[.int .i64 z0, .int .i64 z1, .int .i64 4294967295, .int .i64 z3, .int .i64 z4] rtT8 := (HP2.out.set 2 (.int .i64 4294967295))
      have hRn : HoldV (w2.setCell ⟨w.heap.size, 2, none⟩ (.int .i64 4294967295)) (w.heap.size + 1) #[.int .i64 0, .int .i64 0, .int .i64 0, .int .i64 0, .int .i64 0] rtT8 := (HR2.out.other (show w.heap.size + 1 ≠ w.heap.size by omega) 2 (.int .i64 4294967295))
      obtain ⟨p0, p1, p2, p3, p4, pf⟩ := five_at hPn
      obtain ⟨r0, r1, r2, r3, r4, rf⟩ := five_at hRn
      clear hPn hRn
      go_wp2_with fail
      exact bodyPost_ret (v := .agg #[.int .i64 z0, .int .i64 z1, .int .i64 4294967295, .int .i64 z3, .int .i64 z4]) (by simp [results, Try.results27, go_sem, r0, r1, r2, r3, r4]) rfl ⟨z0, z1, 4294967295, z3, z4, rfl, grown_five (grown_set HD2.out.2.2.1 (p := ⟨w.heap.size, 2, none⟩) (Nat.le_refl _) (.int .i64 4294967295)) (by omega) _ _ _ _ _, src_five (HD2.out.2.1.set (p := ⟨w.heap.size, 2, none⟩) (show g ≠ w.heap.size by omega) (.int .i64 4294967295)) (by omega) _ _ _ _ _⟩
  · obtain ⟨c0, c1, c2, c3, c4, cf⟩ := five_at HP1.out
    have hPn : HoldV (w1.setCell ⟨w.heap.size, 3, none⟩ (.int .i64 8)) w.heap.size #[.int .i64 z0, .int .i64 z1, .int .i64 z2, .int .i64 8, .int .i64 z4] rtT8 := (HP1.out.set 3 (.int .i64 8))
    have hRn : HoldV (w1.setCell ⟨w.heap.size, 3, none⟩ (.int .i64 8)) (w.heap.size + 1) #[.int .i64 0, .int .i64 0, .int .i64 0, .int .i64 0, .int .i64 0] rtT8 := (HR1.out.other (show w.heap.size + 1 ≠ w.heap.size by omega) 3 (.int .i64 8))
    obtain ⟨p0, p1, p2, p3, p4, pf⟩ := five_at hPn
    obtain ⟨r0, r1, r2, r3, r4, rf⟩ := five_at hRn
    clear hPn hRn
    go_wp2_with fail
    exact bodyPost_ret (v := .agg #[.int .i64 z0, .int .i64 z1, .int .i64 z2, .int .i64 8, .int .i64 z4]) (by simp [results, Try.results27, go_sem, r0, r1, r2, r3, r4]) rfl ⟨z0, z1, z2, 8, z4, rfl, grown_five (grown_set HD1.out.2.2.1 (p := ⟨w.heap.size, 3, none⟩) (Nat.le_refl _) (.int .i64 8)) (by omega) _ _ _ _ _, src_five (HD1.out.2.1.set (p := ⟨w.heap.size, 3, none⟩) (show g ≠ w.heap.size by omega) (.int .i64 8)) (by omega) _ _ _ _ _⟩
  · go_wp2_with fail
    refine (l01Next_walk g 2 zs _ a cap HD1.out.1 HD1.out.2.1 (by omega) (by omega) hl).mono ?_
    rintro e w2 ⟨k, rfl, k0, k1, hg1, hs1⟩
    have HD2 := hide (HD1.out.step hg1 hs1)
    have HP2 := hide (HP1.out.gr hg1 (show w.heap.size ≠ g by omega))
    have HR2 := hide (HR1.out.gr hg1 (show w.heap.size + 1 ≠ g by omega))
    clear hg1 hs1
    obtain ⟨c0, c1, c2, c3, c4, cf⟩ := five_at HP2.out
    have hPn : HoldV (w2.setCell ⟨w.heap.size, 4, none⟩ (.int .i64 (1000000 + k))) w.heap.size #[.int .i64 z0, .int .i64 z1, .int .i64 z2, .int .i64 z3, .int .i64 (1000000 + k)] rtT8 := (HP2.out.set 4 (.int .i64 (1000000 + k)))
    have hRn : HoldV (w2.setCell ⟨w.heap.size, 4, none⟩ (.int .i64 (1000000 + k))) (w.heap.size + 1) #[.int .i64 0, .int .i64 0, .int .i64 0, .int .i64 0, .int .i64 0] rtT8 := (HR2.out.other (show w.heap.size + 1 ≠ w.heap.size by omega) 4 (.int .i64 (1000000 + k)))
    obtain ⟨p0, p1, p2, p3, p4, pf⟩ := five_at hPn
    obtain ⟨r0, r1, r2, r3, r4, rf⟩ := five_at hRn
    clear hPn hRn
    go_wp2_with fail
    exact bodyPost_ret (v := .agg #[.int .i64 z0, .int .i64 z1, .int .i64 z2, .int .i64 z3, .int .i64 (1000000 + k)]) (by simp [results, Try.results27, go_sem, r0, r1, r2, r3, r4]) rfl ⟨z0, z1, z2, z3, (1000000 + k), rfl, grown_five (grown_set HD2.out.2.2.1 (p := ⟨w.heap.size, 4, none⟩) (Nat.le_refl _) (.int .i64 (1000000 + k))) (by omega) _ _ _ _ _, src_five (HD2.out.2.1.set (p := ⟨w.heap.size, 4, none⟩) (show g ≠ w.heap.size by omega) (.int .i64 (1000000 + k))) (by omega) _ _ _ _ _⟩
  · obtain ⟨c0, c1, c2, c3, c4, cf⟩ := five_at HP1.out
    obtain ⟨r0, r1, r2, r3, r4, rf⟩ := five_at HR1.out
    go_wp2_with fail
    exact bodyPost_ret (v := .agg #[.int .i64 z0, .int .i64 z1, .int .i64 z2, .int .i64 z3, .int .i64 z4]) (by simp [results, Try.results27, go_sem, r0, r1, r2, r3, r4]) rfl ⟨z0, z1, z2, z3, z4, rfl, grown_five HD1.out.2.2.1 (by omega) _ _ _ _ _, src_five HD1.out.2.1 (by omega) _ _ _ _ _⟩
  · obtain ⟨c0, c1, c2, c3, c4, cf⟩ := five_at HP1.out
    obtain ⟨r0, r1, r2, r3, r4, rf⟩ := five_at HR1.out
    go_wp2_with fail
    exact bodyPost_ret (v := .agg #[.int .i64 z0, .int .i64 z1, .int .i64 z2, .int .i64 z3, .int .i64 z4]) (by simp [results, Try.results27, go_sem, r0, r1, r2, r3, r4]) rfl ⟨z0, z1, z2, z3, z4, rfl, grown_five HD1.out.2.2.1 (by omega) _ _ _ _ _, src_five HD1.out.2.1 (by omega) _ _ _ _ _⟩
end Go.Proofs.Ytmlpninkilcjaaa
