/-
At every input the law FnExactDecodeUdp of the landed program answers true, and its arguments read afterwards as before.
Condition: the package-level tables that the card lists are as the program lays them (the card ties them to the text, within the pruned copy).
-/
import Derived.Test.YtakoagfeiolkjabDoorRows
import Derived.WalkKit
import Derived.ProofKit
import Derived.OpenShut
import Derived.Test.YtakoagfeiolkjabDoorUda
import Derived.Test.YtakoagfeiolkjabDoorUdd
import Derived.Test.YtakoagfeiolkjabDoorLud
import Derived.ShutString
import Derived.ChangeOld
import Derived.Below
import Derived.Test.YtakoagfeiolkjabDoorCards
import Derived.Test.YtakoagfeiolkjabDoorTie
import Derived.Lib.LaidTab
import Derived.Stop.LaidErr
import Derived.LaidMore
import Derived.SevenTiedAt
import Derived.LaidLaws
import Derived.LaidHandle
namespace Go.Proofs.YtakoagfeiolkjabDoor
open Go.ChangeShapes Go.WideShapes Go.ChangeAt Go.RowKit
set_option linter.unusedVariables false
set_option maxRecDepth 100000
/-- What the walk is told of a slice of integers that came in: nil, or a row of 'cap' cells, the first 'len' of them its elements. -/
def IsRow (k : IntKind) (w : World) (a : Option Addr) (len cap : Nat) (zs : List Int) : Prop :=
  (a = none ∧ len = 0 ∧ cap = 0 ∧ zs = []) ∨
  ∃ x, a = some x ∧ len ≤ cap ∧ cap ≤ maxLen ∧ zs.length = cap ∧ (∀ i, i < zs.length → w.cell? (x.add i) = some (.int k (zs.getD i 0))) ∧ ∀ n ∈ zs, (Lit.int k n).wf = true
theorem cell_lt {w : World} {b o : Nat} {v : Value} (h : w.cell? ⟨b, o, none⟩ = some v) : b < w.heap.size := by
  by_cases hb : b < w.heap.size
  · exact hb
  · exfalso
    unfold World.cell? at h
    simp [Array.getElem?_eq_none (Nat.le_of_not_lt hb)] at h
theorem IsRow.arr {w : World} {a : Option Addr} {len cap : Nat} {zs : List Int} (h : IsRow .u8 w a len cap zs) : ∃ ys : List Int, ys.length = len ∧ Arr w a ys := by
  rcases h with ⟨rfl, rfl, rfl, rfl⟩ | ⟨x, rfl, hl, hm, hz, hcell, hwz⟩
  · exact ⟨[], rfl, by simp, fun j hj => by simp at hj⟩
  · refine ⟨zs.take len, by simp; omega, ?_, ?_⟩
    · intro z hz'
      have := hwz z (List.mem_of_mem_take hz')
      simpa [Lit.wf, IntKind.min, IntKind.max, IntKind.signed, IntKind.bits] using this
    · intro j hj
      have hj' : j < len := by simp at hj; omega
      obtain ⟨b, off, rfl, hc⟩ := ints_at hcell (by omega)
      have h1 := hc j (by omega)
      refine ⟨b, off, rfl, cell_lt h1, ?_⟩
      rw [h1, List.getD_eq_getElem?_getD, List.getD_eq_getElem?_getD, List.getElem?_take, if_pos hj']

theorem row_bound {w : World} {a : Option Addr} {n cap : Nat} {z : List Int} (h : IsRow .u8 w a n cap z) : n ≤ 9223372036854775807 := by
  rcases h with ⟨_, rfl, _, _⟩ | ⟨x, _, hl, hm, _⟩
  · omega
  · have : cap ≤ 9223372036854775807 := hm
    omega

theorem tnum_two (xs : List Int) (h : ∀ z ∈ xs, 0 ≤ z ∧ z ≤ 255) (p : Nat) (hp : p + 2 ≤ xs.length) : tnum ((xs.drop p).take 2) ≤ 65535 := by
  have hl : ((xs.drop p).take 2).length = 2 := by rw [List.length_take, List.length_drop]; omega
  have hb : ∀ z ∈ (xs.drop p).take 2, 0 ≤ z ∧ z ≤ 255 := fun z hz => h z (List.mem_of_mem_drop (List.mem_of_mem_take hz))
  match hx : (xs.drop p).take 2, hl, hb with
  | [a, b], _, hb =>
    have h1 := hb a (by simp)
    have h2 := hb b (by simp)
    simp [tnum]
    omega
/-- What the two sides have in common: the answer by cases. -/
theorem decU_all (f : Nat) (Pre : World → Prop) (zs : List Int) (s d : Int)
    (f1 : ∀ (a : Option Addr) (n cap : Nat) (w : World), zs.length = n → Arr w a zs → n ≤ 1048576 → Pre w → adrB s = false → Calls Tryd.prog f #[.slice a n cap, .int .i64 s, .int .i64 d] w fun e w' => e = .returned (.tuple #[.agg #[.int .i64 0, .int .i64 0, .slice none 0 0], .int .i64 1]) ∧ Below w.heap.size w w')
    (f2 : ∀ (a : Option Addr) (n cap : Nat) (w : World), zs.length = n → Arr w a zs → n ≤ 1048576 → Pre w → adrB s = true → adrB d = false → Calls Tryd.prog f #[.slice a n cap, .int .i64 s, .int .i64 d] w fun e w' => e = .returned (.tuple #[.agg #[.int .i64 0, .int .i64 0, .slice none 0 0], .int .i64 1]) ∧ Below w.heap.size w w')
    (f3 : ∀ (a : Option Addr) (n cap : Nat) (w : World), zs.length = n → Arr w a zs → n ≤ 1048576 → Pre w → adrB s = true → adrB d = true → n < 8 → Calls Tryd.prog f #[.slice a n cap, .int .i64 s, .int .i64 d] w fun e w' => e = .returned (.tuple #[.agg #[.int .i64 0, .int .i64 0, .slice none 0 0], .int .i64 2]) ∧ Below w.heap.size w w')
    (f4 : ∀ (b off n cap : Nat) (w : World), zs.length = n → Arr w (some ⟨b, off, none⟩) zs → n ≤ 1048576 → n ≤ cap → 8 ≤ n → Pre w → adrB s = true → adrB d = true → ¬ tnum ((zs.drop 4).take 2) = (n : Int) → Calls Tryd.prog f #[.slice (some ⟨b, off, none⟩) n cap, .int .i64 s, .int .i64 d] w fun e w' => e = .returned (.tuple #[.agg #[.int .i64 0, .int .i64 0, .slice none 0 0], .int .i64 5]) ∧ Below w.heap.size w w')
    (f5 : ∀ (b off n cap : Nat) (w : World), zs.length = n → Arr w (some ⟨b, off, none⟩) zs → n ≤ 65535 → n ≤ cap → 8 ≤ n → Pre w → adrB s = true → adrB d = true → tnum ((zs.drop 4).take 2) = (n : Int) → ¬ tnum ((zs.drop 6).take 2) = 0 → ¬ fsum s d 17 zs = 0 → Calls Tryd.prog f #[.slice (some ⟨b, off, none⟩) n cap, .int .i64 s, .int .i64 d] w fun e w' => e = .returned (.tuple #[.agg #[.int .i64 0, .int .i64 0, .slice none 0 0], .int .i64 3]) ∧ Below w.heap.size w w')
    (f6 : ∀ (b off n cap : Nat) (w : World), zs.length = n → Arr w (some ⟨b, off, none⟩) zs → n ≤ 65535 → n ≤ cap → 8 ≤ n → Pre w → adrB s = true → adrB d = true → tnum ((zs.drop 4).take 2) = (n : Int) → (tnum ((zs.drop 6).take 2) = 0 ∨ (¬ tnum ((zs.drop 6).take 2) = 0 ∧ fsum s d 17 zs = 0)) → Calls Tryd.prog f #[.slice (some ⟨b, off, none⟩) n cap, .int .i64 s, .int .i64 d] w fun e w' => ∃ v : Value, e = .returned (.tuple #[.agg #[.int .i64 (tnum ((zs.drop 0).take 2)), .int .i64 (tnum ((zs.drop 2).take 2)), v], .int .i64 0]) ∧ OwnB w' w.heap.size v (zs.drop 8) ∧ Below w.heap.size w w') :
    DecodeUdpP f Pre zs s d (gdP s d zs) (gdQ s d zs) (gdB s d zs) (gdC s d zs) := by
  intro a n cap W hn ha hc hm hp
  have bad : ∀ c : Int, gdC s d zs = c → ¬ c = 0 → ∀ r w', r = Ending.returned (.tuple #[.agg #[.int .i64 0, .int .i64 0, .slice none 0 0], .int .i64 c]) ∧ Below W.heap.size W w' →
      ∃ v : Value, r = .returned (.tuple #[.agg #[.int .i64 (gdP s d zs), .int .i64 (gdQ s d zs), v], .int .i64 (gdC s d zs)]) ∧ OwnB w' W.heap.size v (gdB s d zs) ∧ Below W.heap.size W w' := by
    rintro c hc' h0 r w' ⟨rfl, hb⟩
    obtain ⟨e0, e1, e2⟩ := gd_no (s := s) (d := d) (zs := zs) (by rw [hc']; exact h0)
    rw [e0, e1, e2, hc']
    exact ⟨_, rfl, ⟨World.ownsRow_nil _ _ _ _, by simp⟩, hb⟩
  cases h0 : adrB s with
  | false => exact (f1 a n cap W hn ha hm hp h0).mono (bad 1 (by unfold gdC; rw [h0]; rfl) (by decide))
  | true =>
    cases h1 : adrB d with
    | false => exact (f2 a n cap W hn ha hm hp h0 h1).mono (bad 1 (by unfold gdC; rw [h0, h1]; rfl) (by decide))
    | true =>
      by_cases h8 : n < 8
      · exact (f3 a n cap W hn ha hm hp h0 h1 h8).mono (bad 2 (by unfold gdC; rw [h0, h1, hn, if_pos h8]; rfl) (by decide))
      · obtain ⟨b, off, rfl, _⟩ := ha.2 0 (by omega)
        by_cases hl : tnum ((zs.drop 4).take 2) = (n : Int)
        · have hlen : n ≤ 65535 := by have := tnum_two zs ha.1 4 (by omega); omega
          by_cases hy : tnum ((zs.drop 6).take 2) = 0
          · have hC : gdC s d zs = 0 := by unfold gdC; rw [h0, h1, hn, if_neg h8, if_pos hl, if_pos hy]; rfl
            obtain ⟨e0, e1, e2⟩ := gd_yes hC
            refine (f6 b off n cap W hn ha hlen hc (by omega) hp h0 h1 hl (.inl hy)).mono ?_
            rintro r w' ⟨v, rfl, hO, hb⟩
            rw [e0, e1, e2, hC]
            exact ⟨v, rfl, hO, hb⟩
          · by_cases hf : fsum s d 17 zs = 0
            · have hC : gdC s d zs = 0 := by unfold gdC; rw [h0, h1, hn, if_neg h8, if_pos hl, if_neg hy, if_pos hf]; rfl
              obtain ⟨e0, e1, e2⟩ := gd_yes hC
              refine (f6 b off n cap W hn ha hlen hc (by omega) hp h0 h1 hl (.inr ⟨hy, hf⟩)).mono ?_
              rintro r w' ⟨v, rfl, hO, hb⟩
              rw [e0, e1, e2, hC]
              exact ⟨v, rfl, hO, hb⟩
            · exact (f5 b off n cap W hn ha hlen hc (by omega) hp h0 h1 hl hy hf).mono (bad 3 (by unfold gdC; rw [h0, h1, hn, if_neg h8, if_pos hl, if_neg hy, if_neg hf]; rfl) (by decide))
        · exact (f4 b off n cap W hn ha hm hc (by omega) hp h0 h1 hl).mono (bad 5 (by unfold gdC; rw [h0, h1, hn, if_neg h8, if_neg hl]; rfl) (by decide))
/-- DecodeUdp of the model. -/
theorem specDecUdp (zs : List Int) (s d : Int) (Pre : World → Prop) : DecodeUdpP 17 Pre zs s d (gdP s d zs) (gdQ s d zs) (gdB s d zs) (gdC s d zs) :=
  decU_all _ Pre zs s d
    (fun a n cap w _ _ _ _ h0 => specDecU_f1 a n cap s d w h0)
    (fun a n cap w _ _ _ _ h0 h1 => specDecU_f2 a n cap s d w h0 h1)
    (fun a n cap w _ _ _ _ h0 h1 h => specDecU_short a n cap s d w h0 h1 h)
    (fun b off n cap w hn ha hm hc h8 _ h0 h1 hl => specDecU_len b off n cap zs s d w h0 h1 h8 hm hn ha hc hl)
    (fun b off n cap w hn ha hm hc h8 _ h0 h1 hl hy hf => specDecU_sum b off n cap zs s d w h0 h1 h8 hm hn ha hc hl hy hf)
    (fun b off n cap w hn ha hm hc h8 _ h0 h1 hl hor => by
      rcases hor with hy | ⟨hy, hf⟩
      · exact specDecU_ok1 b off n cap zs s d w h0 h1 h8 hm hn ha hc hl hy
      · exact specDecU_ok2 b off n cap zs s d w h0 h1 h8 hm hn ha hc hl hy hf)
theorem drop_take_all (zs : List Int) (n : Nat) (hn : zs.length = n) : (zs.drop 8).take (n - 8) = zs.drop 8 := List.take_of_length_le (by rw [List.length_drop]; omega)
/-- DecodeUdp of the program. -/
theorem implDecUdp (zs : List Int) (s d : Int) : DecodeUdpP 19 ErrT zs s d (gdP s d zs) (gdQ s d zs) (gdB s d zs) (gdC s d zs) :=
  decU_all _ ErrT zs s d
    (fun a n cap w hn ha hm he h0 => implDecU_f1 a n cap zs w hn ha hm he s d h0)
    (fun a n cap w hn ha hm he h0 h1 => implDecU_f2 a n cap zs w hn ha hm he s d h0 h1)
    (fun a n cap w hn ha hm he h0 h1 h => implDecU_short a n cap zs w hn ha hm he s d h0 h1 h)
    (fun b off n cap w hn ha hm hc h8 he h0 h1 hl => implDecU_len b off n cap zs w hn ha hm hc h8 he s d h0 h1 _ _ _ rfl rfl rfl hl)
    (fun b off n cap w hn ha hm hc h8 he h0 h1 hl hy hf => implDecU_sum b off n cap zs w hn ha (by omega) hc h8 he s d h0 h1 _ _ _ _ rfl rfl hl rfl hy rfl hf)
    (fun b off n cap w hn ha hm hc h8 he h0 h1 hl hor => by
      rcases hor with hy | ⟨hy, hf⟩
      · exact implDecU_ok1 b off n cap zs w hn ha (by omega) hc h8 s d h0 h1 _ _ rfl rfl hl hy _ (drop_take_all zs n hn)
      · exact implDecU_ok2 b off n cap zs w hn ha (by omega) hc h8 s d h0 h1 _ _ _ rfl rfl hl rfl _ (drop_take_all zs n hn) hy hf)
theorem gdB_len (s d : Int) (zs : List Int) (h : zs.length ≤ 1048576) : (gdB s d zs).length ≤ 1048576 := by unfold gdB; split; (rw [List.length_drop]; omega); simp
theorem gdB_len2 (s d : Int) (zs : List Int) (hz : ∀ z ∈ zs, 0 ≤ z ∧ z ≤ 255) : (gdB s d zs).length ≤ 1048576 := by
  by_cases h : zs.length ≤ 1048576
  · exact gdB_len s d zs h
  · have ht := tnum_two zs hz 4 (by omega)
    have hc : ¬ gdC s d zs = 0 := by
      unfold gdC
      split
      · rw [if_neg (by omega), if_neg (by omega)]; decide
      · decide
    rw [(gd_no hc).2.2]
    simp
theorem walkDecodeUdp (a : Option Addr) (n cap : Nat) (z0 : List Int) (s d : Int) (w : World) (w0 : IsRow .u8 w a n cap z0) (_ : (Lit.int .i64 s).wf = true) (_ : (Lit.int .i64 d).wf = true) (he : ErrT w) :
    Calls Tryd.prog 4 #[.slice a n cap, .int .i64 s, .int .i64 d] w fun e w' => e = .returned (.bool true) ∧ Below w.heap.size w w' := by
  obtain ⟨ys, hn, ha⟩ := w0.arr
  exact walkDecodeUdp1 ErrT (fun _ _ h hb => h.below hb (Nat.le_refl _)) ys s d _ _ _ _ (specDecUdp ys s d _) (implDecUdp ys s d) (gdB_len2 s d ys ha.1) a n cap w hn ha (row_bound w0) he

theorem own : ownKnob Tryd.prog.godebug = none := by kernel_rfl
theorem laidOut : laidOutB Tryd.prog = true := by kernel_rfl
theorem errG : Tryd.prog.globalNamed "errors.errorType" = some 0 := by kernel_rfl
theorem rtT : (Tryd.prog.cutTypes.find? (·.1 == "internal/reflectlite.rtype")).map (·.2) = some 138 := by kernel_rfl
theorem oneErr : ((List.range 181).filter fun t => Tryd.prog.rowNamed t [101, 114, 114, 111, 114]) = [67] := by kernel_rfl
theorem typesN : Tryd.prog.types.size = 181 := by kernel_rfl
/-- What the row's list gives: the variable holds the handle of the type 'error'. -/
theorem errOf {W : World} (h : laidMetH Tryd.prog Rows.fnExactDecodeUdpRow.laid W) : ErrT W := by
  have h' : laidMet Tryd.prog [] W ∧ handlesMet Tryd.prog Rows.fnExactDecodeUdpRow.laid W := h
  obtain ⟨name, u, ty, e1, e2, e3, e4, e5⟩ := h'.2 _ (List.mem_singleton.2 rfl)
  have en : name = [101, 114, 114, 111, 114] := (Option.some.inj e1).symm
  subst en
  obtain rfl := Option.some.inj (rtT.symm.trans e2)
  have hm : ty ∈ (List.range 181).filter fun t => Tryd.prog.rowNamed t [101, 114, 114, 111, 114] := List.mem_filter.2 ⟨List.mem_range.2 (by rw [← typesN]; exact e3), e4⟩
  rw [oneErr] at hm
  obtain rfl := List.mem_singleton.1 hm
  have hh : typeHandle Tryd.prog 67 = .pointer (some ⟨1, 67, none⟩) := by kernel_rfl
  rw [hh] at e5
  have hc : W.cell? ⟨0, 0, none⟩ = some (.iface 138 (.agg #[.pointer (some ⟨1, 67, none⟩)])) := by simpa using World.var?_cell errG e5 0
  exact ⟨World.block_lt_of_cell? W _ hc, hc⟩
theorem door_met (os : Os) (args : Array Value) : laidMetH Tryd.prog Rows.fnExactDecodeUdpRow.laid ((World.doorLaid Tryd.prog 400 os).forCall (fun _ _ => 0) ⟨#[], args, []⟩).memory :=
  laidMetH_of_parts3 (fuel := 8) (laidMet_of_run' 8 (by kernel_rfl) (by kernel_rfl)) (by kernel_rfl) (by kernel_rfl)
set_option maxRecDepth 100000 in
theorem fnExactDecodeUdp_lifted (os : Os) (started : os.Started) (H : Type) (enc : TypeId × Value → H) :
    ReturnsInHanded {} Tryd.checked os 4 .any (fun w args => (Rows.fnExactDecodeUdpSpec.pre enc Tryd.prog Tryd.f4 [] false w args ∧ laidMetH Tryd.prog Rows.fnExactDecodeUdpRow.laid w) ∧ sizedMet enc Tryd.prog Tryd.f4 (OpenSpec.ofChange Rows.fnExactDecodeUdpSpec) false w args) (Rows.fnExactDecodeUdpSpec.post enc Tryd.prog Tryd.f4 false true false false) := by
  refine returnsInHanded_of_change_and (C := Tryd.checked) (X := fun w _ => laidMetH Tryd.prog Rows.fnExactDecodeUdpRow.laid w) (fun _ _ _ hh h => h.of_heap hh) own started (by kernel_rfl) Tryd.func4
    (ChangeSpec.witness_shaped (enc := enc) (C := Tryd.checked) (os := os) (X := fun w _ => laidMetH Tryd.prog Rows.fnExactDecodeUdpRow.laid w) false (World.doorLaid Tryd.prog 400 os) #[.slice none 0 0, .int .i64 0, .int .i64 0] 8 rfl (World.shaped_of_RefB (by kernel_rfl) (by kernel_rfl)) (by kernel_rfl) (by kernel_rfl) (by kernel_rfl) (door_met os _)) ?_
  intro W base args ds gs before hval0 hW _ _ hL _
  have hval : ∀ (j : Nat) t v, Tryd.f4.params[j]? = some t → args[j]? = some v → Value.okWide Tryd.prog W .any base t v := hval0
  have hW' := hW
  obtain ⟨p, q, hA0, hV, rfl, hfz, hnd⟩ := hW
  have hA : DataW.TrodAll enc Tryd.prog W 0 (fun _ => true) true Tryd.f4.params.toList args.toList ds p := hA0
  rw [Tryd.params4] at hA hval
  obtain ⟨v0, vs0, d0, ds0, p0, q0, hargs, rfl, rfl, h0, r0⟩ := trodAll_cons hA
  obtain ⟨v1, vs1, d1, ds1, p1, q1, rfl, rfl, rfl, h1, r1⟩ := trodAll_cons r0
  obtain ⟨v2, vs2, d2, ds2, p2, q2, rfl, rfl, rfl, h2, r2⟩ := trodAll_cons r1
  obtain ⟨rfl, rfl, rfl⟩ := trodAll_nil r2
  obtain rfl : args = #[v0, v1, v2] := by cases args; simp_all
  obtain ⟨rfl, rfl⟩ := trodVars_none hV
  obtain ⟨a0, len0, cap0, rfl⟩ := okWide_slice Tryd.underlying22 (hval 0 22 v0 rfl rfl)
  have k0 := h0
  have lt0 : ∀ x ∈ p0, x.block < W.heap.size := by obtain ⟨m, hm⟩ := k0; exact DataW.trod_lt m _ _ _ hm
  obtain ⟨z0, w0⟩ : ∃ zs, IsRow .u8 W a0 len0 cap0 zs := by
    obtain ⟨fuel, hf⟩ := h0
    rcases open_ints Tryd.underlying22 Tryd.underlying5 (by kernel_rfl) hf with ⟨hcs, _⟩ | ⟨x, l, c, zs, hcs, _, hl, hm, hz, _, hcell, hwz⟩
    · simp [Value.cells] at hcs
      obtain ⟨rfl, rfl, rfl⟩ := hcs
      exact ⟨[], .inl ⟨rfl, rfl, rfl, rfl⟩⟩
    · simp [Value.cells] at hcs
      obtain ⟨rfl, rfl, rfl⟩ := hcs
      exact ⟨zs, .inr ⟨_, rfl, hl, hm, by simpa using hz, hcell, hwz⟩⟩
  obtain ⟨a1, rfl, rfl, rfl, w1⟩ := open_int Tryd.underlying2 (hval 1 2 v1 rfl rfl) h1
  obtain ⟨a2, rfl, rfl, rfl, w2⟩ := open_int Tryd.underlying2 (hval 2 2 v2 rfl rfl) h2
  clear hA0 hval0
  refine (walkDecodeUdp a0 len0 cap0 z0 a1 a2 W w0 w1 w2 (errOf hL)).mono fun e W' ⟨he, bel⟩ => ?_
  subst he
  exact ⟨_, rfl, _, _, _, [], _, [], hW', trodAll_mk1 (shut_bool Tryd.underlying4 _), (trodAll_cons_mk (Below.trod laidOut (by kernel_rfl) (of_decide_eq_true (by kernel_rfl)) k0 bel lt0) (trodAll_cons_mk (shut_int Tryd.underlying2 w1) (trodAll_cons_mk (shut_int Tryd.underlying2 w2) trodAll_mk0))), rfl, bel.frame _, fun h => by cases h⟩
theorem fnExactDecodeUdp_said : Rows.FnExactDecodeUdpSaid :=
  OpenClaim.holds_of_wide 4 Tryd.f4 rfl rfl rfl rfl rfl rfl rfl ⟨rfl, rfl, rfl, rfl, rfl⟩ rfl rfl rfl rfl rfl (by kernel_rfl) Tryd.func4 (by kernel_rfl)
    (of_decide_eq_true (by kernel_rfl)) (by unfold Func.isWrapper; first | (rw [if_pos (by decide +kernel)]; kernel_rfl) | (rw [if_neg (by decide +kernel)]; exact ⟨rfl, rfl⟩))
    (fun os started H enc _ => fnExactDecodeUdp_lifted os started H enc)
theorem fnExactDecodeUdp_plain (f : FuncId) (fn : Func) (hf : Tryd.pinned.checked.prog.funcNamed "loop.example/g00003/laws.FnExactDecodeUdp" = some f) (hfn : Tryd.pinned.checked.prog.funcs[f]? = some fn) :
    true = Tryd.pinned.checked.prog.looks [] ∧ ∀ (j : Nat) t, fn.params[j]? = some t → Tryd.pinned.checked.prog.wantsStandIn t = false := by
  obtain rfl : f = 4 := Option.some.inj ((show Tryd.prog.funcNamed "loop.example/g00003/laws.FnExactDecodeUdp" = some 4 by kernel_rfl).symm.trans hf) |>.symm
  obtain rfl : fn = Tryd.f4 := (Option.some.inj (Tryd.func4.symm.trans hfn)).symm
  refine ⟨by kernel_rfl, fun j t ht => ?_⟩
  rw [Tryd.params4] at ht
  have hm : t ∈ [22, 2, 2] := by simpa using Array.mem_of_getElem? ht
  have hall : ([22, 2, 2].all fun u => !Tryd.prog.wantsStandIn u) = true := by kernel_rfl
  exact (show Tryd.prog.wantsStandIn t = false by simpa using List.all_eq_true.1 hall t hm)
theorem fnExactDecodeUdp_holds : Rows.FnExactDecodeUdpCardSaid :=
  Claim7.holds_tied_plain_at .later [] _ _ _ _ fnExactDecodeUdp_said (fun _ h => by cases h) (by kernel_rfl) (fun _ h => by cases h) fnExactDecodeUdp_row_tie rfl ⟨rfl, rfl⟩ (by kernel_rfl) rfl fnExactDecodeUdp_plain (by kernel_rfl)
end Go.Proofs.YtakoagfeiolkjabDoor
