/-
At every input the law FnExactDecodeSegment of the landed program answers true, and its arguments read afterwards as before.
Condition: the package-level tables that the card lists are as the program lays them (the card ties them to the text, within the pruned copy).
-/
import Derived.Test.YtcnfnimgpiaamaaDoorRows
import Derived.WalkKit
import Derived.ProofKit
import Derived.OpenShut
import Derived.Test.YtcnfnimgpiaamaaDoorDp1
import Derived.Test.YtcnfnimgpiaamaaDoorDp2
import Derived.Test.YtcnfnimgpiaamaaDoorDp3
import Derived.Test.YtcnfnimgpiaamaaDoorDp4
import Derived.ShutString
import Derived.ChangeOld
import Derived.Below
import Derived.Test.YtcnfnimgpiaamaaDoorCards
import Derived.Test.YtcnfnimgpiaamaaDoorTie
import Derived.Lib.LaidTab
import Derived.Stop.LaidErr
import Derived.LaidMore
import Derived.SevenTiedAt
import Derived.LaidLaws
import Derived.LaidHandle
namespace Go.Proofs.YtcnfnimgpiaamaaDoor
open Go.ChangeShapes Go.WideShapes Go.ChangeAt Go.RowKit
set_option linter.unusedVariables false
set_option maxRecDepth 100000
/-- What the walk is told of a slice of integers that came in: nil, or a row of 'cap' cells, the first 'len' of them its elements. -/
def IsRow (k : IntKind) (w : World) (a : Option Addr) (len cap : Nat) (zs : List Int) : Prop :=
  (a = none ∧ len = 0 ∧ cap = 0 ∧ zs = []) ∨
  ∃ x, a = some x ∧ len ≤ cap ∧ cap ≤ maxLen ∧ zs.length = cap ∧ (∀ i, i < zs.length → w.cell? (x.add i) = some (.int k (zs.getD i 0))) ∧ ∀ n ∈ zs, (Lit.int k n).wf = true
theorem cell_lt {w : World} {b o : Nat} {v : Value} (h : w.cell? ⟨b, o, none⟩ = some v) : b < w.heap.size := by
  by_cases hb : b < w.heap.size
  · exact hb
  · exfalso
    unfold World.cell? at h
    simp [Array.getElem?_eq_none (Nat.le_of_not_lt hb)] at h
theorem IsRow.arr {w : World} {a : Option Addr} {len cap : Nat} {zs : List Int} (h : IsRow .u8 w a len cap zs) : ∃ ys : List Int, ys.length = len ∧ Arr w a ys := by
  rcases h with ⟨rfl, rfl, rfl, rfl⟩ | ⟨x, rfl, hl, hm, hz, hcell, hwz⟩
  · exact ⟨[], rfl, by simp, fun j hj => by simp at hj⟩
  · refine ⟨zs.take len, by simp; omega, ?_, ?_⟩
    · intro z hz'
      have := hwz z (List.mem_of_mem_take hz')
      simpa [Lit.wf, IntKind.min, IntKind.max, IntKind.signed, IntKind.bits] using this
    · intro j hj
      have hj' : j < len := by simp at hj; omega
      obtain ⟨b, off, rfl, hc⟩ := ints_at hcell (by omega)
      have h1 := hc j (by omega)
      refine ⟨b, off, rfl, cell_lt h1, ?_⟩
      rw [h1, List.getD_eq_getElem?_getD, List.getD_eq_getElem?_getD, List.getElem?_take, if_pos hj']

theorem row_bound {w : World} {a : Option Addr} {n cap : Nat} {z : List Int} (h : IsRow .u8 w a n cap z) : n ≤ 9223372036854775807 := by
  rcases h with ⟨_, rfl, _, _⟩ | ⟨x, _, hl, hm, _⟩
  · omega
  · have : cap ≤ 9223372036854775807 := hm
    omega

theorem dec12 (zs : List Int) (h : 20 ≤ zs.length) (hz : ∀ z ∈ zs, 0 ≤ z ∧ z ≤ 255) : tnum ((zs.drop 12).take 1) = zs.getD 12 0 ∧ tnum ((zs.drop 13).take 1) = zs.getD 13 0 ∧ ((dsS zs : Nat) : Int) = zs.getD 12 0 / 16 * 4 := by
  have hb := getD_bd hz 12
  refine ⟨tnum_atq zs 12 (by omega), tnum_atq zs 13 (by omega), ?_⟩
  unfold dsS
  omega
/-- The program's DecodeSegment where it refuses. -/
theorem implDecSeg_bad (zs : List Int) (s d : Int) (h : dsC zs s d ≠ 0) : DecodeSegmentP 14 ErrT zs s d 0 0 0 0 0 0 0 false 0 false 0 [] [] (dsC zs s d) := by
  intro a n c W hn ha hcap hmx he
  refine dsP_refuse ?_
  cases h0 : adrB s with
  | false => rw [show dsC zs s d = 1 by unfold dsC; simp [h0]]; exact implDecS_f1 a n c s d zs W hn ha hmx hcap he h0
  | true =>
    cases h1 : adrB d with
    | false => rw [show dsC zs s d = 1 by unfold dsC; simp [h0, h1]]; exact implDecS_f2 a n c s d zs W hn ha hmx hcap he h0 h1
    | true =>
      by_cases h20 : n < 20
      · rw [show dsC zs s d = 2 by unfold dsC; simp [h0, h1, hn, h20]]; exact implDecS_short a n c s d zs W hn ha hmx hcap he h0 h1 h20
      · by_cases hm : 65515 < n
        · rw [show dsC zs s d = 7 by unfold dsC; simp [h0, h1, hn, h20, hm]]; exact implDecS_size a n c s d zs W hn ha hmx hcap he h0 h1 hm
        · obtain ⟨b, off, rfl, _, _⟩ := ha.2 0 (by omega)
          obtain ⟨e12, e13, eS⟩ := dec12 zs (by omega) ha.1
          have b12 := getD_bd ha.1 12
          have b13 := getD_bd ha.1 13
          by_cases hl : dsS zs < 20
          · rw [show dsC zs s d = 5 by unfold dsC; simp [h0, h1, hn, h20, hm, hl]]
            exact implDecS_low b off n c s d zs W hn ha hmx hcap he h0 h1 (by omega) (by omega) _ _ _ _ _ _ _ rfl rfl rfl rfl e12 e13 rfl b12.1 b12.2 b13.1 b13.2 (by omega)
          · by_cases hh : n < dsS zs
            · rw [show dsC zs s d = 5 by unfold dsC; simp [h0, h1, hn, h20, hm, hh]]
              exact implDecS_high b off n c s d zs W hn ha hmx hcap he h0 h1 (by omega) (by omega) _ _ _ _ _ _ _ rfl rfl rfl rfl e12 e13 rfl b12.1 b12.2 b13.1 b13.2 (by omega) (by omega)
            · by_cases hf : fsum s d 6 zs = 0
              · cases hr : rdO ((zs.take (dsS zs)).drop 20) ⟨0, false, 0, false, []⟩ with
                | some st => exact absurd (by unfold dsC; simp [h0, h1, hn, h20, hm, hl, hh, hf, hr]) h
                | none =>
                  rw [show dsC zs s d = 10 by unfold dsC; simp [h0, h1, hn, h20, hm, hl, hh, hf, hr]]
                  rw [rdO_same] at hr
                  exact implDecS_opt b off n c s d zs W hn ha hmx hcap he h0 h1 (by omega) (by omega) _ _ _ _ _ _ _ rfl rfl rfl rfl e12 e13 rfl b12.1 b12.2 b13.1 b13.2 (dsS zs - 20) (by omega) (by omega) hf hr
              · rw [show dsC zs s d = 3 by unfold dsC; simp [h0, h1, hn, h20, hm, hl, hh, hf]]
                exact implDecS_sum b off n c s d zs W hn ha hmx hcap he h0 h1 (by omega) (by omega) _ _ _ _ _ _ _ rfl rfl rfl rfl e12 e13 rfl b12.1 b12.2 b13.1 b13.2 (by omega) (by omega) _ rfl hf
/-- .. and where it takes them. -/
theorem implDecSeg_ok (zs : List Int) (s d : Int) (st : OSt) (h0 : adrB s = true) (h1 : adrB d = true) (h20 : 20 ≤ zs.length) (hm : zs.length ≤ 65515) (hl : ¬ dsS zs < 20) (hh : dsS zs ≤ zs.length) (hf : fsum s d 6 zs = 0) (hr : rdO ((zs.take (dsS zs)).drop 20) ⟨0, false, 0, false, []⟩ = some st) :
    DecodeSegmentP 14 ErrT zs s d (tnum (zs.take 2)) (tnum ((zs.drop 2).take 2)) (tnum ((zs.drop 4).take 4)) (tnum ((zs.drop 8).take 4)) (zs.getD 13 0 % 64) (tnum ((zs.drop 14).take 2)) st.m st.hs st.sc st.so (st.L.length / 2) st.L (zs.drop (dsS zs)) 0 := by
  intro a n c W hn ha hcap hmx he
  obtain ⟨b, off, rfl, _, _⟩ := ha.2 0 (by omega)
  obtain ⟨e12, e13, eS⟩ := dec12 zs (by omega) ha.1
  have b12 := getD_bd ha.1 12
  have b13 := getD_bd ha.1 13
  rw [rdO_same] at hr
  refine (implDecS_ok b off n c s d zs W hn ha hmx hcap h0 h1 (by omega) (by omega) (tnum (zs.take 2)) _ _ _ _ _ _ rfl rfl rfl rfl e12 e13 rfl b12.1 b12.2 b13.1 b13.2 (dsS zs - 20) (by omega) (by omega) hf st hr (zs.drop (dsS zs)) (by rw [show 20 + (dsS zs - 20) = dsS zs by omega]; exact List.take_of_length_le (by rw [List.length_drop]; omega))).mono ?_
  rintro e w' ⟨v0, v1, rfl, ⟨r, ho⟩, hb, hap, hbl⟩
  have hlen := ho.len
  exact ⟨v0, v1, rfl, by rw [show st.L.length / 2 = r by omega]; exact ho, hb, hap, hbl⟩

def LOk (L : List Int) : Prop := L.length % 2 = 0 ∧ L.length ≤ 6
theorem opt1_even {k : Int} {v : List Int} {s st : OSt} (h : opt1 k v s = some st) (hs : LOk s.L) : LOk st.L := by
  unfold opt1 at h
  split at h
  · split at h
    · cases h; exact hs
    · cases h
  · split at h
    · split at h
      · cases h; exact hs
      · cases h
    · split at h
      · split at h
        · cases h; exact hs
        · cases h
      · split at h
        · split at h
          · cases h
            refine ⟨?_, ?_⟩
            · simp only [skL, List.length_map, List.length_range]; omega
            · simp only [skL, List.length_map, List.length_range]; omega
          · cases h
        · cases h; exact hs
theorem rdO_even : ∀ (k : Nat) (b : List Int) (s st : OSt), b.length ≤ k → rdO b s = some st → LOk s.L → LOk st.L := by
  intro k
  induction k with
  | zero =>
    intro b s st hb h hs
    rw [rdO_end (.inl (by omega))] at h
    cases h; exact hs
  | succ k ih =>
    intro b s st hb h hs
    rw [rdO] at h
    split at h
    · cases h; exact hs
    · rename_i h1
      split at h
      · exact ih _ _ _ (by rw [List.length_drop]; omega) h hs
      · split at h
        · cases h
        · rename_i h3
          split at h
          · cases h
          · rename_i s' ho
            exact ih _ _ _ (by rw [List.length_drop]; omega) h (opt1_even ho hs)
theorem dsC_ok {zs : List Int} {s d : Int} (h : dsC zs s d = 0) : adrB s = true ∧ adrB d = true ∧ 20 ≤ zs.length ∧ zs.length ≤ 65515 ∧ ¬ dsS zs < 20 ∧ dsS zs ≤ zs.length ∧ fsum s d 6 zs = 0 ∧ ∃ st, rdO ((zs.take (dsS zs)).drop 20) ⟨0, false, 0, false, []⟩ = some st := by
  unfold dsC at h
  split at h
  · rename_i ha
    rw [Bool.and_eq_true] at ha
    split at h
    · cases h
    · split at h
      · cases h
      · split at h
        · cases h
        · split at h
          · cases h
          · split at h
            · cases h
            · rename_i st hr
              exact ⟨ha.1, ha.2, by omega, by omega, by omega, by omega, by omega, st, hr⟩
  · cases h
theorem walkDecodeSegment (a : Option Addr) (n cap : Nat) (z0 : List Int) (s d : Int) (w : World) (w0 : IsRow .u8 w a n cap z0) (_ : (Lit.int .i64 s).wf = true) (_ : (Lit.int .i64 d).wf = true) (he : ErrT w) :
    Calls Tryd.prog 4 #[.slice a n cap, .int .i64 s, .int .i64 d] w fun e w' => e = .returned (.bool true) ∧ Below w.heap.size w w' := by
  obtain ⟨ys, hn, ha⟩ := w0.arr
  by_cases h : dsC ys s d = 0
  · obtain ⟨h0, h1, h20, hm, hl, hh, hf, st, hr⟩ := dsC_ok h
    have hL := rdO_even _ _ _ _ (Nat.le_refl _) hr ⟨rfl, Nat.zero_le _⟩
    unfold LOk at hL
    exact walkDecodeSegment1 ErrT (fun _ _ h hb => h.below hb (Nat.le_refl _)) ys s d _ _ _ _ _ _ _ _ _ _ _ _ _ _ (specDecSeg_ok ys s d _ st h0 h1 h20 hm hl hh hf hr) (implDecSeg_ok ys s d st h0 h1 h20 hm hl hh hf hr) (by omega) (by omega) (by rw [List.length_drop]; omega) a n cap w hn ha (row_bound w0) he
  · exact walkDecodeSegment1 ErrT (fun _ _ h hb => h.below hb (Nat.le_refl _)) ys s d _ _ _ _ _ _ _ _ _ _ _ _ _ _ (specDecSeg_bad ys s d _ h) (implDecSeg_bad ys s d h) (by omega) (by simp) (by simp) a n cap w hn ha (row_bound w0) he

theorem own : ownKnob Tryd.prog.godebug = none := by kernel_rfl
theorem laidOut : laidOutB Tryd.prog = true := by kernel_rfl
theorem errG : Tryd.prog.globalNamed "errors.errorType" = some 0 := by kernel_rfl
theorem rtT : (Tryd.prog.cutTypes.find? (·.1 == "internal/reflectlite.rtype")).map (·.2) = some 177 := by kernel_rfl
theorem oneErr : ((List.range 230).filter fun t => Tryd.prog.rowNamed t [101, 114, 114, 111, 114]) = [67] := by kernel_rfl
theorem typesN : Tryd.prog.types.size = 230 := by kernel_rfl
/-- What the row's list gives: the variable holds the handle of the type 'error'. -/
theorem errOf {W : World} (h : laidMetH Tryd.prog Rows.fnExactDecodeSegmentRow.laid W) : ErrT W := by
  have h' : laidMet Tryd.prog [] W ∧ handlesMet Tryd.prog Rows.fnExactDecodeSegmentRow.laid W := h
  obtain ⟨name, u, ty, e1, e2, e3, e4, e5⟩ := h'.2 _ (List.mem_singleton.2 rfl)
  have en : name = [101, 114, 114, 111, 114] := (Option.some.inj e1).symm
  subst en
  obtain rfl := Option.some.inj (rtT.symm.trans e2)
  have hm : ty ∈ (List.range 230).filter fun t => Tryd.prog.rowNamed t [101, 114, 114, 111, 114] := List.mem_filter.2 ⟨List.mem_range.2 (by rw [← typesN]; exact e3), e4⟩
  rw [oneErr] at hm
  obtain rfl := List.mem_singleton.1 hm
  have hh : typeHandle Tryd.prog 67 = .pointer (some ⟨7, 67, none⟩) := by kernel_rfl
  rw [hh] at e5
  have hc : W.cell? ⟨0, 0, none⟩ = some (.iface 177 (.agg #[.pointer (some ⟨7, 67, none⟩)])) := by simpa using World.var?_cell errG e5 0
  exact ⟨World.block_lt_of_cell? W _ hc, hc⟩
theorem door_met (os : Os) (args : Array Value) : laidMetH Tryd.prog Rows.fnExactDecodeSegmentRow.laid ((World.doorLaid Tryd.prog 400 os).forCall (fun _ _ => 0) ⟨#[], args, []⟩).memory :=
  laidMetH_of_parts3 (fuel := 8) (laidMet_of_run' 8 (by kernel_rfl) (by kernel_rfl)) (by kernel_rfl) (by kernel_rfl)
set_option maxRecDepth 100000 in
theorem fnExactDecodeSegment_lifted (os : Os) (started : os.Started) (H : Type) (enc : TypeId × Value → H) :
    ReturnsInHanded {} Tryd.checked os 4 .any (fun w args => (Rows.fnExactDecodeSegmentSpec.pre enc Tryd.prog Tryd.f4 [] false w args ∧ laidMetH Tryd.prog Rows.fnExactDecodeSegmentRow.laid w) ∧ sizedMet enc Tryd.prog Tryd.f4 (OpenSpec.ofChange Rows.fnExactDecodeSegmentSpec) false w args) (Rows.fnExactDecodeSegmentSpec.post enc Tryd.prog Tryd.f4 false true false false) := by
  refine returnsInHanded_of_change_and (C := Tryd.checked) (X := fun w _ => laidMetH Tryd.prog Rows.fnExactDecodeSegmentRow.laid w) (fun _ _ _ hh h => h.of_heap hh) own started (by kernel_rfl) Tryd.func4
    (ChangeSpec.witness_shaped (enc := enc) (C := Tryd.checked) (os := os) (X := fun w _ => laidMetH Tryd.prog Rows.fnExactDecodeSegmentRow.laid w) false (World.doorLaid Tryd.prog 400 os) #[.slice none 0 0, .int .i64 0, .int .i64 0] 8 rfl (World.shaped_of_RefB (by kernel_rfl) (by kernel_rfl)) (by kernel_rfl) (by kernel_rfl) (by kernel_rfl) (door_met os _)) ?_
  intro W base args ds gs before hval0 hW _ _ hL _
  have hval : ∀ (j : Nat) t v, Tryd.f4.params[j]? = some t → args[j]? = some v → Value.okWide Tryd.prog W .any base t v := hval0
  have hW' := hW
  obtain ⟨p, q, hA0, hV, rfl, hfz, hnd⟩ := hW
  have hA : DataW.TrodAll enc Tryd.prog W 0 (fun _ => true) true Tryd.f4.params.toList args.toList ds p := hA0
  rw [Tryd.params4] at hA hval
  obtain ⟨v0, vs0, d0, ds0, p0, q0, hargs, rfl, rfl, h0, r0⟩ := trodAll_cons hA
  obtain ⟨v1, vs1, d1, ds1, p1, q1, rfl, rfl, rfl, h1, r1⟩ := trodAll_cons r0
  obtain ⟨v2, vs2, d2, ds2, p2, q2, rfl, rfl, rfl, h2, r2⟩ := trodAll_cons r1
  obtain ⟨rfl, rfl, rfl⟩ := trodAll_nil r2
  obtain rfl : args = #[v0, v1, v2] := by cases args; simp_all
  obtain ⟨rfl, rfl⟩ := trodVars_none hV
  obtain ⟨a0, len0, cap0, rfl⟩ := okWide_slice Tryd.underlying23 (hval 0 23 v0 rfl rfl)
  have k0 := h0
  have lt0 : ∀ x ∈ p0, x.block < W.heap.size := by obtain ⟨m, hm⟩ := k0; exact DataW.trod_lt m _ _ _ hm
  obtain ⟨z0, w0⟩ : ∃ zs, IsRow .u8 W a0 len0 cap0 zs := by
    obtain ⟨fuel, hf⟩ := h0
    rcases open_ints Tryd.underlying23 Tryd.underlying5 (by kernel_rfl) hf with ⟨hcs, _⟩ | ⟨x, l, c, zs, hcs, _, hl, hm, hz, _, hcell, hwz⟩
    · simp [Value.cells] at hcs
      obtain ⟨rfl, rfl, rfl⟩ := hcs
      exact ⟨[], .inl ⟨rfl, rfl, rfl, rfl⟩⟩
    · simp [Value.cells] at hcs
      obtain ⟨rfl, rfl, rfl⟩ := hcs
      exact ⟨zs, .inr ⟨_, rfl, hl, hm, by simpa using hz, hcell, hwz⟩⟩
  obtain ⟨a1, rfl, rfl, rfl, w1⟩ := open_int Tryd.underlying2 (hval 1 2 v1 rfl rfl) h1
  obtain ⟨a2, rfl, rfl, rfl, w2⟩ := open_int Tryd.underlying2 (hval 2 2 v2 rfl rfl) h2
  clear hA0 hval0
  refine (walkDecodeSegment a0 len0 cap0 z0 a1 a2 W w0 w1 w2 (errOf hL)).mono fun e W' ⟨he, bel⟩ => ?_
  subst he
  exact ⟨_, rfl, _, _, _, [], _, [], hW', trodAll_mk1 (shut_bool Tryd.underlying4 _), (trodAll_cons_mk (Below.trod laidOut (by kernel_rfl) (of_decide_eq_true (by kernel_rfl)) k0 bel lt0) (trodAll_cons_mk (shut_int Tryd.underlying2 w1) (trodAll_cons_mk (shut_int Tryd.underlying2 w2) trodAll_mk0))), rfl, bel.frame _, fun h => by cases h⟩
theorem fnExactDecodeSegment_said : Rows.FnExactDecodeSegmentSaid :=
  OpenClaim.holds_of_wide 4 Tryd.f4 rfl rfl rfl rfl rfl rfl rfl ⟨rfl, rfl, rfl, rfl, rfl⟩ rfl rfl rfl rfl rfl (by kernel_rfl) Tryd.func4 (by kernel_rfl)
    (of_decide_eq_true (by kernel_rfl)) (by unfold Func.isWrapper; first | (rw [if_pos (by decide +kernel)]; kernel_rfl) | (rw [if_neg (by decide +kernel)]; exact ⟨rfl, rfl⟩))
    (fun os started H enc _ => fnExactDecodeSegment_lifted os started H enc)
theorem fnExactDecodeSegment_plain (f : FuncId) (fn : Func) (hf : Tryd.pinned.checked.prog.funcNamed "loop.example/g00003/laws.FnExactDecodeSegment" = some f) (hfn : Tryd.pinned.checked.prog.funcs[f]? = some fn) :
    true = Tryd.pinned.checked.prog.looks [] ∧ ∀ (j : Nat) t, fn.params[j]? = some t → Tryd.pinned.checked.prog.wantsStandIn t = false := by
  obtain rfl : f = 4 := Option.some.inj ((show Tryd.prog.funcNamed "loop.example/g00003/laws.FnExactDecodeSegment" = some 4 by kernel_rfl).symm.trans hf) |>.symm
  obtain rfl : fn = Tryd.f4 := (Option.some.inj (Tryd.func4.symm.trans hfn)).symm
  refine ⟨by kernel_rfl, fun j t ht => ?_⟩
  rw [Tryd.params4] at ht
  have hm : t ∈ [23, 2, 2] := by simpa using Array.mem_of_getElem? ht
  have hall : ([23, 2, 2].all fun u => !Tryd.prog.wantsStandIn u) = true := by kernel_rfl
  exact (show Tryd.prog.wantsStandIn t = false by simpa using List.all_eq_true.1 hall t hm)
theorem fnExactDecodeSegment_holds : Rows.FnExactDecodeSegmentCardSaid :=
  Claim7.holds_tied_plain_at .later [] _ _ _ _ fnExactDecodeSegment_said (fun _ h => by cases h) (by kernel_rfl) (fun _ h => by cases h) fnExactDecodeSegment_row_tie rfl ⟨rfl, rfl⟩ (by kernel_rfl) rfl fnExactDecodeSegment_plain (by kernel_rfl)
end Go.Proofs.YtcnfnimgpiaamaaDoor
