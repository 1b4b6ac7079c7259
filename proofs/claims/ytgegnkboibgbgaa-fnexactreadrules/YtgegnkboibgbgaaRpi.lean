/-
Contracts of functions of this seat.
-/
import Derived.Test.YtgegnkboibgbgaaRows
import Derived.WalkKit
import Derived.ProofKit
import Derived.OpenShut
import Derived.Test.YtgegnkboibgbgaaPcl
import Derived.Test.YtgegnkboibgbgaaPri
import Derived.Laws.Externs
import Derived.BigQuiet
namespace Go.Proofs.Ytgegnkboibgbgaa
open Go.ChangeShapes Go.WideShapes Go.ChangeAt Go.RowKit
set_option linter.unusedVariables false
set_option maxRecDepth 100000
/-- The place of a byte in a text, by the model's entry. -/
theorem idx_run (s : ByteArray) (c : Int) (w : World) : (callFunc 89 #[.string s, .int .u8 c]).run Try.prog w = .ok (.value (.int .i64 (firstIdx s c.toNat.toUInt8))) w := by
  rw [run_callFunc_extern Try.func89 (by kernel_rfl) (by kernel_rfl) (by kernel_rfl) (e := Extern.BytealgIndexByte.indexByte) (by kernel_rfl), run_indexByte_string]; rfl
theorem indexByte_walk (s : ByteArray) (c : Int) (w : World) :
    Calls Try.prog 85 #[.string s, .int .u8 c] w fun e w' => e = .returned (.int .i64 (firstIdx s c.toNat.toUInt8)) ∧ w' = w := by
  have hx := idx_run s c
  generalize firstIdx s c.toNat.toUInt8 = k at *
  go_enter Try.func85, Try.ntmps85
  go_wp2
  go_ret
  exact ⟨rfl, rfl⟩
theorem index_walk (s p : ByteArray) (c : UInt8) (w : World) (hp : p = ⟨#[c]⟩) :
    Calls Try.prog 82 #[.string s, .string p] w fun e w' => e = .returned (.int .i64 (firstIdx s c)) ∧ w' = w := by
  have h1 : p.size = 1 := by rw [hp]; rfl
  have h0 : (p[0]'(by omega)) = c := by subst hp; rfl
  have hc : (((p[0]'(by omega)).toNat : Int).toNat.toUInt8) = c := by rw [h0]; simp
  have hb := c.toNat_lt
  have HE : Hid ((p.toList == s.toList) = true → firstIdx s c = 0) := hide (fun h => by
    have h2 : s = p := ByteArray.ext (Array.toList_inj.1 (by
      have := (beq_iff_eq.1 h)
      rw [ByteArray.toList_eq, ByteArray.toList_eq] at this
      exact this.symm))
    rw [h2, hp]
    exact firstIdx_yes [] [] c (by simp))
  clear hp
  go_enter Try.func82, Try.ntmps82
  go_wp2_with (go_at_call 85; refine (indexByte_walk _ _ _).mono ?_; rintro e w' ⟨rfl, rfl⟩)
  · go_ret
    exact ⟨ret_int (by rw [(HE.out (by assumption))]), rfl⟩
  · go_ret
    exact ⟨rfl, rfl⟩
theorem cut_walk (s p : ByteArray) (c : UInt8) (i : Nat) (w : World) (hp : p = ⟨#[c]⟩) (hs : s.size ≤ 1048576) (hi : firstIdx s c = i) (hlt : i < s.size) :
    Calls Try.prog 72 #[.string s, .string p] w fun e w' => e = .returned (.tuple #[.string (s.extract 0 i), .string (s.extract (i + 1) s.size), .bool true]) ∧ Below w.heap.size w w' := by
  have h1 : p.size = 1 := by rw [hp]; rfl
  have HI := hide hi
  have HP := hide hp
  have e1 : IntKind.i64.wrap ((i : Int) + 1) = ((i + 1 : Nat) : Int) := by rw [wrap_i64' _ (by omega) (by omega)]; rfl
  clear hp hi
  go_enter Try.func72, Try.ntmps72
  go_wp2_with (go_at_call 82; refine (index_walk _ _ c _ HP.out).mono ?_; rintro e w' ⟨rfl, rfl⟩; rw [HI.out])
  go_quiet (fail)
  go_wp2
  go_ret3
  exact ⟨rfl, below_drewN (Below.refl _ _) _⟩
theorem cut_none (s p : ByteArray) (c : UInt8) (w : World) (hp : p = ⟨#[c]⟩) (hi : firstIdx s c = -1) :
    Calls Try.prog 72 #[.string s, .string p] w fun e w' => e = .returned (.tuple #[.string s, .string ⟨#[]⟩, .bool false]) ∧ Below w.heap.size w w' := by
  have HI := hide hi
  have HP := hide hp
  clear hp hi
  go_enter Try.func72, Try.ntmps72
  go_wp2_with (go_at_call 82; refine (index_walk _ _ c _ HP.out).mono ?_; rintro e w' ⟨rfl, rfl⟩; rw [HI.out])
  go_ret3
  exact ⟨rfl, Below.refl _ _⟩
/-- strings.Cut at a byte that is there. -/
theorem cut_yes (a b : List UInt8) (c : UInt8) (w : World) (hs : (a ++ c :: b).length ≤ 1048576) (hc : c ∉ a) :
    Calls Try.prog 55 #[.string (bs (a ++ c :: b)), .string (bs [c])] w fun e w' => e = .returned (.tuple #[.string (bs a), .string (bs b), .bool true]) ∧ Below w.heap.size w w' := by
  have h1 : (bs (a ++ c :: b)).extract 0 a.length = bs a := by rw [bs_extract]; simp
  have h2 : (bs (a ++ c :: b)).extract (a.length + 1) (bs (a ++ c :: b)).size = bs b := by
    rw [bs_extract, bs_size]; congr 1
    rw [show a ++ c :: b = (a ++ [c]) ++ b by simp, List.drop_left' (by simp)]
    apply List.take_of_length_le; simp; omega
  have hw := cut_walk (bs (a ++ c :: b)) (bs [c]) c a.length w rfl (by rw [bs_size]; exact hs) (firstIdx_yes a b c hc) (by rw [bs_size]; simp)
  rw [h1, h2] at hw
  have HW := hide hw
  clear hw h1 h2
  generalize bs (a ++ c :: b) = s at *
  generalize bs [c] = p at *
  go_enter Try.func55, Try.ntmps55
  go_wp2_with (go_at_call 72; refine HW.out.mono ?_; rintro e w' ⟨rfl, hb⟩)
  go_ret3
  exact ⟨rfl, hb⟩
/-- strings.Cut at a byte that is not there. -/
theorem cut_no (l : List UInt8) (c : UInt8) (w : World) (hc : c ∉ l) :
    Calls Try.prog 55 #[.string (bs l), .string (bs [c])] w fun e w' => e = .returned (.tuple #[.string (bs l), .string (bs []), .bool false]) ∧ Below w.heap.size w w' := by
  have HW := hide (cut_none (bs l) (bs [c]) c w rfl (firstIdx_no l c hc))
  generalize bs l = s at *
  generalize bs [c] = p at *
  go_enter Try.func55, Try.ntmps55
  go_wp2_with (go_at_call 72; refine HW.out.mono ?_; rintro e w' ⟨rfl, hb⟩)
  go_ret3
  exact ⟨rfl, hb⟩

/-- A number out of bytes, the highest first. -/
def tnum (zs : List Int) : Int := zs.foldl (fun n x => n * 256 + x) 0
theorem tnum_take (zs : List Int) (k : Nat) (h : k < zs.length) : tnum (zs.take (k + 1)) = tnum (zs.take k) * 256 + zs.getD k 0 := by
  unfold tnum
  rw [List.take_succ_eq_append_getElem h, List.foldl_append]
  simp [List.getD_eq_getElem?_getD, h]
theorem tnum_bd (zs : List Int) (h : ∀ z ∈ zs, 0 ≤ z ∧ z ≤ 255) : ∀ k, k ≤ zs.length → 0 ≤ tnum (zs.take k) ∧ tnum (zs.take k) < 256 ^ k
  | 0, _ => by simp [tnum]
  | k + 1, hk => by
    have ih := tnum_bd zs h k (by omega)
    rw [tnum_take zs k (by omega), Int.pow_succ]
    have := getD_bd h k
    omega
theorem or_low_i64 (x y : Int) (hx : 0 ≤ x) (hx1 : x < 36028797018963968) (hy : 0 ≤ y ∧ y ≤ 255) : bits .or .i64 (x * 256) y = x * 256 + y :=
  bits_join .i64 63 (by decide) (fun n h0 h1 => wrap_i64' n h0 (by have : n < 2 ^ 63 := h1; omega)) 8 (x * 256) y (by omega) (by show x * 256 % 256 = 0; omega) (by show x * 256 < 9223372036854775808; omega) hy.1 (by show y < 256; omega) (by show y < 9223372036854775808; omega)

set_option maxHeartbeats 1000000 in
theorem takeNumber_walk (a : Option Addr) (n cap : Nat) (zs : List Int) (w : World) (hn : zs.length = n) (ha : Arr w a zs) (hm : n ≤ 6) :
    Calls Try.prog 75 #[.slice a n cap] w fun e w' => e = .returned (.int .i64 (tnum zs)) ∧ w' = w := by
  have HN := hide hn
  have HA := hide ha
  clear hn ha
  go_enter Try.func75, Try.ntmps75
  go_wp2_with fail
  go_loop [3, 8] (fun r t => ∃ k : Nat, k ≤ n ∧ t = .int .i64 k ∧ r = .int .i64 (tnum (zs.take k))) (fun _ t => n - (intOf t).toNat)
  case atStart => exact ⟨0, Nat.zero_le _, rfl, rfl⟩
  case round =>
    obtain ⟨k, hk, rfl, rfl⟩ := hrel
    have hb := tnum_bd zs HA.out.1 k (by rw [HN.out]; exact hk)
    by_cases hlt : k < n
    · obtain ⟨b1, o1, rfl, hb1, hc1⟩ := HA.out.2 k (by rw [HN.out]; exact hlt)
      have HT := hide (tnum_take zs k (by rw [HN.out]; exact hlt))
      have hz := getD_bd HA.out.1 k
      have hp : (256 : Nat) ^ k ≤ 256 ^ 5 := Nat.pow_le_pow_right (by decide) (by omega)
      have hp2 : (256 : Nat) ^ k ≤ 1099511627776 := hp
      have hp' : ((256 : Int) ^ k) ≤ 1099511627776 := by
        have h2 : ((256 ^ k : Nat) : Int) ≤ ((1099511627776 : Nat) : Int) := Int.ofNat_le.2 hp2
        rw [Int.natCast_pow] at h2; exact h2
      have hb0 := hb.1
      have hb2 : tnum (zs.take k) < 1099511627776 := by have := hb.2; omega
      have ho := or_low_i64 (tnum (zs.take k)) (zs.getD k 0) hb.1 (by omega) hz
      clear hb hp hp2 hp'
      generalize zs.getD k 0 = z at *
      generalize tnum (zs.take k) = r at *
      go_wp2
      go_round
      case rel => exact ⟨k + 1, by omega, by go_num, by rw [HT.out]⟩
      case measure => simp [intOf]; omega
    · have hk' : k = n := by omega
      subst hk'
      have HE : Hid (zs.take k = zs) := hide (List.take_of_length_le (by rw [HN.out]; exact Nat.le_refl _))
      go_wp2
      go_ret
      exact ⟨ret_int (by rw [HE.out]), rfl⟩

theorem own_bel {w w' : World} {B e size n : Nat} {v : Value} {xs : List Value} (h : w.ownsRow B e size v n xs) (hb : Below w.heap.size w w') : w'.ownsRow B e size v n xs := by
  refine ⟨h.1, ?_⟩
  rcases h.2 with h0 | ⟨g, cap, cur, hv, hB, hg, hrest⟩
  · exact .inl h0
  · have hlt : g < w.heap.size := by
      by_cases hlt : g < w.heap.size
      · exact hlt
      · rw [Array.getElem?_eq_none (by omega)] at hg; cases hg
    exact .inr ⟨g, cap, cur, hv, hB, by rw [hb.block g hlt]; exact hg, hrest⟩
/-- The four parts lie in block B; their bytes are zs. -/
def Part4 (w0 w : World) (t : Nat) (zs : List Int) : Prop :=
  Below w0.heap.size w0 w ∧ w0.heap.size < w.heap.size ∧ zs.length = 4 ∧ w.ownsRow w0.heap.size t 1 (.slice (some ⟨w0.heap.size, 0, none⟩) 4 4) 4 (zs.map (Value.int .u8))
theorem Part4.start (w0 : World) (t : Nat) : Part4 w0 (w0.alloc (.cells #[.int .u8 0, .int .u8 0, .int .u8 0, .int .u8 0] t)) t [0, 0, 0, 0] :=
  ⟨(Below.refl _ _).alloc (Nat.le_refl _) _, by rw [World.size_alloc]; omega, rfl, World.ownsRow_lit (base := w0.heap.size) (e := t) (size := 1) w0 #[.int .u8 0, .int .u8 0, .int .u8 0, .int .u8 0] 4 (Nat.le_refl _) (by decide) rfl⟩
theorem Part4.cell {w0 w : World} {t : Nat} {zs : List Int} (h : Part4 w0 w t zs) {i : Nat} {z : Int} (hz : zs[i]? = some z) : w.cell? ⟨w0.heap.size, i, none⟩ = some (.int .u8 z) ∧ w.frozen? ⟨w0.heap.size, i, none⟩ = false := by
  have hi : i < 4 := by have := (List.getElem?_eq_some_iff.1 hz).1; rw [h.2.2.1] at this; exact this
  refine ⟨?_, h.2.2.2.frozenAt i⟩
  rw [h.2.2.2.cellAt i (by omega), List.getElem?_map, hz]; rfl
theorem Part4.store {w0 w : World} {t : Nat} {zs : List Int} (h : Part4 w0 w t zs) (i : Nat) (z : Int) : Part4 w0 (w.setCell ⟨w0.heap.size, i, none⟩ (.int .u8 z)) t (zs.set i z) := by
  refine ⟨h.1.setCell (p := ⟨w0.heap.size, i, none⟩) (Nat.le_refl _) _, by simpa using h.2.1, by rw [List.length_set]; exact h.2.2.1, ?_⟩
  have := (h.2.2.2.stored i (.int .u8 z)).1
  rw [List.map_set]; exact this
theorem Part4.below {w0 w w' : World} {t : Nat} {zs : List Int} (h : Part4 w0 w t zs) (hb : Below w.heap.size w w') : Part4 w0 w' t zs :=
  ⟨h.1.trans (hb.mono h.1.size), by have := hb.size; have := h.2.1; omega, h.2.2.1, own_bel h.2.2.2 hb⟩
theorem Part4.arr {w0 w : World} {t : Nat} {zs : List Int} (h : Part4 w0 w t zs) (hz : ∀ z ∈ zs, 0 ≤ z ∧ z ≤ 255) : Arr w (some ⟨w0.heap.size, 0, none⟩) zs := by
  refine ⟨hz, fun j hj => ⟨_, 0, rfl, h.2.1, ?_⟩⟩
  have h1 : zs[j]? = some (zs.getD j 0) := by rw [List.getD_eq_getElem?_getD, List.getElem?_eq_getElem hj]; rfl
  rw [Nat.zero_add]; exact (h.cell h1).1
def p4 (ds : List (List UInt8)) : List Int := ds.map numV ++ List.replicate (4 - ds.length) 0
theorem p4_get {ds : List (List UInt8)} {i : Nat} (h : ds.length = i) (hi : i < 4) : (p4 ds)[i]? = some 0 := by
  unfold p4
  rw [List.getElem?_append_right (by rw [List.length_map, h]; exact Nat.le_refl _), List.length_map, h, List.getElem?_replicate, if_pos (by omega)]
theorem p4_set {ds : List (List UInt8)} {i : Nat} (a : List UInt8) (h : ds.length = i) (hi : i < 4) : (p4 ds).set i (numV a) = p4 (ds ++ [a]) := by
  unfold p4
  rw [List.set_append_right _ _ (by rw [List.length_map, h]; exact Nat.le_refl _), List.length_map, h, Nat.sub_self, List.length_append, List.map_append, List.append_assoc]
  congr 1
  rw [show 4 - i = (4 - (i + 1)) + 1 by omega, List.replicate_succ, List.set_cons_zero, h]
  rfl
theorem p4_end {ds : List (List UInt8)} (h : ds.length = 4) : p4 ds = ds.map numV := by unfold p4; rw [h]; simp
theorem tnum_fold (ds : List (List UInt8)) : tnum (ds.map numV) = adFold ds := by unfold tnum adFold; rw [List.foldl_map]
theorem ad_len {l : List UInt8} (h : ¬ (splitL 46 l).length = 4) : adOK l = false := by unfold adOK; rw [decide_eq_false h]; rfl
theorem ad_part {l : List UInt8} {ds qs : List (List UInt8)} {a : List UInt8} (h : splitL 46 l = ds ++ a :: qs) (h1 : okP a = false) : adOK l = false := by
  unfold adOK; rw [h, List.all_append, List.all_cons, h1]; simp
/-- What is left behind i parts. -/
def Left (l : List UInt8) (ds : List (List UInt8)) (r : List UInt8) (i : Nat) : Prop :=
  AllP ds ∧ (i < 4 → splitL 46 l = ds ++ splitL 46 r) ∧ (i = 4 → splitL 46 l = ds)
theorem Left.len {l : List UInt8} {ds : List (List UInt8)} {r : List UInt8} {i : Nat} (h : Left l ds r i) (hi : i < 4) (hd : ds.length = i) (hq : ¬ i + (splitL 46 r).length = 4) : adOK l = false :=
  ad_len (by rw [h.2.1 hi, List.length_append, hd]; exact hq)
theorem AllP.snoc {ds : List (List UInt8)} {a : List UInt8} (h : AllP ds) (h1 : okP a = true) : AllP (ds ++ [a]) := by
  unfold AllP at *; rw [List.all_append, h]; simp [h1]
theorem decimal_yes (l : List UInt8) (most : Int) (w : World) (hl : l.length ≤ 1048576) (hm : 0 ≤ most ∧ most ≤ 1000000) (h : numOK l most = true) :
    Calls Try.prog 61 #[.string (bs l), .int .i64 most] w fun e w' => e = .returned (.tuple #[.int .i64 (numV l), .bool true]) ∧ w' = w := by
  have h2 := decimal_walk l most w hl hm
  rw [numX_yes h, h] at h2; exact h2
theorem decimal_no (l : List UInt8) (most : Int) (w : World) (hl : l.length ≤ 1048576) (hm : 0 ≤ most ∧ most ≤ 1000000) (h : numOK l most = false) :
    Calls Try.prog 61 #[.string (bs l), .int .i64 most] w fun e w' => e = .returned (.tuple #[.int .i64 0, .bool false]) ∧ w' = w := by
  have h2 := decimal_walk l most w hl hm
  rw [numX_no h, h] at h2; exact h2
theorem bs46 : (⟨#[46]⟩ : ByteArray) = bs [46] := rfl
set_option maxHeartbeats 4000000 in
theorem addr_walk (l : List UInt8) (w : World) (hl : l.length ≤ 1048576) :
    Calls Try.prog 59 #[.string (bs l)] w fun e w' => e = .returned (.tuple #[.int .i64 (adX l), .int .i64 (adC l)]) ∧ Below w.heap.size w w' := by
  go_enter Try.func59, Try.ntmps59
  go_wp2_with fail
  have HP0 : Hid (Part4 w (w.alloc (.cells #[.int .u8 0, .int .u8 0, .int .u8 0, .int .u8 0] 101)) 101 (p4 [])) := hide (Part4.start w _)
  have HL0 : Hid (Left l [] l 0) := hide ⟨rfl, fun _ => rfl, fun h => by cases h⟩
  generalize w.alloc (.cells #[.int .u8 0, .int .u8 0, .int .u8 0, .int .u8 0] 101) = W at *
  go_loopw [5, 13] (fun g t w2 => ∃ (i : Nat) (ds : List (List UInt8)) (r : List UInt8), i ≤ 4 ∧ t = .int .i64 i ∧ g = .string (bs r) ∧ r.length ≤ 1048576 ∧ Hid (ds.length = i) ∧ Hid (Part4 w w2 101 (p4 ds)) ∧ Hid (Left l ds r i)) (fun _ t _ => 4 - (intOf t).toNat)
  case atStart => exact ⟨0, [], l, by omega, rfl, rfl, hl, hide rfl, HP0, HL0⟩
  case round =>
    obtain ⟨i, ds, r, hi, rfl, rfl, hr, HD, HP, HL⟩ := hrel
    clear HP0 HL0
    by_cases hlt : i < 4
    · by_cases hdot : (46 : UInt8) ∈ r
      · obtain ⟨a, b, rfl, hna⟩ := List.eq_append_cons_of_mem hdot
        have HSP := hide (split_yes 46 b a hna)
        have HCW := hide (cut_yes a b 46 wr hr hna)
        have hla : a.length ≤ 1048576 ∧ b.length ≤ 1048576 := by rw [List.length_append, List.length_cons] at hr; omega
        clear hdot hna hr
        generalize a ++ 46 :: b = r at *
        by_cases h3 : i = 3
        · have HN : Hid (adOK l = false) := hide (HL.out.len hlt HD.out (by rw [HSP.out, List.length_cons]; have := List.length_pos_iff.2 (split_ne 46 b); omega))
          subst h3
          go_wp2_with (go_at_call 55; refine HCW.out.mono ?_; rintro e w3 ⟨rfl, hb3⟩)
          go_ret2
          exact ⟨ret_pair (adX_no HN.out).symm (adC_no HN.out).symm, (HP.out.below hb3).1⟩
        · have hi3 : i < 3 := by omega
          have hq : (!decide ((i : Int) < 3)) = false := by simp; omega
          clear h3
          by_cases hok : numOK a 255 = true
          · have hv := numOK_len hok
            have HPA : Hid (okP a = true) := hide hok
            have HOK := hide hok
            have HL2 : Hid (Left l (ds ++ [a]) b (i + 1)) := hide ⟨HL.out.1.snoc hok, fun _ => by rw [HL.out.2.1 hlt, HSP.out, List.append_assoc]; rfl, fun h => absurd h (by omega)⟩
            have HSET := hide (p4_set a HD.out hlt)
            have HGET := hide (p4_get HD.out hlt)
            have hv0 := hv.2.2.1
            have hv1 := hv.2.2.2
            clear hok hv
            go_wp2_with (first | (go_at_call 55; refine HCW.out.mono ?_; rintro e w3 ⟨rfl, hb3⟩; have HP3 := hide (HP.out.below hb3); obtain ⟨hk1, hk2⟩ := HP3.out.cell HGET.out) | (go_at_call 61; refine (decimal_yes a 255 _ hla.1 (by omega) HOK.out).mono ?_; rintro e w4 ⟨rfl, rfl⟩))
            exact ⟨⟨i + 1, ds ++ [a], b, by omega, by go_num, rfl, hla.2, hide (by rw [List.length_append, HD.out]; rfl), hide (by rw [← HSET.out]; exact HP3.out.store i _), HL2⟩, by simp [intOf]; omega⟩
          · have HF : Hid (numOK a 255 = false) := hide (by simpa using hok)
            have HN : Hid (adOK l = false) := hide (ad_part (ds := ds) (a := a) (qs := splitL 46 b) (by rw [HL.out.2.1 hlt, HSP.out]) HF.out)
            clear hok
            go_wp2_with (first | (go_at_call 55; refine HCW.out.mono ?_; rintro e w3 ⟨rfl, hb3⟩) | (go_at_call 61; refine (decimal_no a 255 _ hla.1 (by omega) HF.out).mono ?_; rintro e w4 ⟨rfl, rfl⟩))
            go_ret2
            exact ⟨ret_pair (adX_no HN.out).symm (adC_no HN.out).symm, (HP.out.below hb3).1⟩
      · have HSP := hide (split_no 46 r hdot)
        have HCW := hide (cut_no r 46 wr hdot)
        clear hdot
        by_cases h3 : i = 3
        · subst h3
          by_cases hok : numOK r 255 = true
          · have hv := numOK_len hok
            have HOK := hide hok
            have HL2 : Hid (Left l (ds ++ [r]) [] 4) := hide ⟨HL.out.1.snoc hok, fun h => absurd h (by omega), fun _ => by rw [HL.out.2.1 (by omega), HSP.out]⟩
            have HSET := hide (p4_set r HD.out hlt)
            have HGET := hide (p4_get HD.out hlt)
            have hv0 := hv.2.2.1
            have hv1 := hv.2.2.2
            clear hok hv
            go_wp2_with (first | (go_at_call 55; refine HCW.out.mono ?_; rintro e w3 ⟨rfl, hb3⟩; have HP3 := hide (HP.out.below hb3); obtain ⟨hk1, hk2⟩ := HP3.out.cell HGET.out) | (go_at_call 61; refine (decimal_yes r 255 _ hr (by omega) HOK.out).mono ?_; rintro e w4 ⟨rfl, rfl⟩))
            exact ⟨⟨4, ds ++ [r], [], by omega, rfl, rfl, by simp, hide (by rw [List.length_append, HD.out]; rfl), hide (by rw [← HSET.out]; exact HP3.out.store 3 _), HL2⟩, by simp [intOf]⟩
          · have HF : Hid (numOK r 255 = false) := hide (by simpa using hok)
            have HN : Hid (adOK l = false) := hide (ad_part (ds := ds) (a := r) (qs := []) (by rw [HL.out.2.1 hlt, HSP.out]) HF.out)
            clear hok
            go_wp2_with (first | (go_at_call 55; refine HCW.out.mono ?_; rintro e w3 ⟨rfl, hb3⟩) | (go_at_call 61; refine (decimal_no r 255 _ hr (by omega) HF.out).mono ?_; rintro e w4 ⟨rfl, rfl⟩))
            go_ret2
            exact ⟨ret_pair (adX_no HN.out).symm (adC_no HN.out).symm, (HP.out.below hb3).1⟩
        · have hi3 : i < 3 := by omega
          have HN : Hid (adOK l = false) := hide (HL.out.len hlt HD.out (by rw [HSP.out]; show ¬ i + 1 = 4; omega))
          clear h3
          go_wp2_with (go_at_call 55; refine HCW.out.mono ?_; rintro e w3 ⟨rfl, hb3⟩)
          go_ret2
          exact ⟨ret_pair (adX_no HN.out).symm (adC_no HN.out).symm, (HP.out.below hb3).1⟩
    · have hi' : i = 4 := by omega
      subst hi'
      have HSP := hide (HL.out.2.2 rfl)
      have HY : Hid (adOK l = true) := hide (by
        have h1 := HD.out
        have h2 : ds.all okP = true := HL.out.1
        unfold adOK; rw [HSP.out, h1, h2]; rfl)
      have HV : Hid (adX l = tnum (p4 ds)) := hide (by rw [adX_yes HY.out, HSP.out, p4_end HD.out, tnum_fold])
      have hzs : ∀ z ∈ p4 ds, 0 ≤ z ∧ z ≤ 255 := by
        rw [p4_end HD.out]
        intro z hz
        obtain ⟨p, hp, rfl⟩ := List.mem_map.1 hz
        exact (numOK_len (List.all_eq_true.1 HL.out.1 p hp)).2.2
      have HR := hide (HP.out.arr hzs)
      have HLN := hide HP.out.2.2.1
      clear hzs
      go_wp2_with (go_at_call 75; refine (takeNumber_walk _ 4 _ (p4 ds) _ HLN.out HR.out (by omega)).mono ?_; rintro e w2 ⟨rfl, rfl⟩)
      go_ret2
      exact ⟨ret_pair HV.out.symm (adC_yes HY.out).symm, HP.out.1⟩

/-- The result's cell is as it was laid. -/
def Res (w0 w : World) : Prop := Below w0.heap.size w0 w ∧ w0.heap.size < w.heap.size ∧ w.heap[w0.heap.size]? = some (.cells #[.int .i64 0, .int .i64 0] 37)
theorem Res.start (w0 : World) : Res w0 (w0.alloc (.cells #[.int .i64 0, .int .i64 0] 37)) :=
  ⟨(Below.refl _ _).alloc (Nat.le_refl _) _, by rw [World.size_alloc]; omega, heap_alloc_new _ _⟩
theorem Res.below {w0 w w' : World} (h : Res w0 w) (hb : Below w.heap.size w w') : Res w0 w' :=
  ⟨h.1.trans (hb.mono h.1.size), by have := hb.size; have := h.2.1; omega, by rw [hb.block _ h.2.1]; exact h.2.2⟩
theorem Res.cells {w0 w : World} (h : Res w0 w) : w.cell? ⟨w0.heap.size, 0, none⟩ = some (.int .i64 0) ∧ w.cell? ⟨w0.heap.size, 1, none⟩ = some (.int .i64 0) ∧ (∀ o, w.frozen? ⟨w0.heap.size, o, none⟩ = false) := pair_cells h.2.2
set_option maxHeartbeats 1000000 in
theorem pref_ad (l a b : List UInt8) (m : Bool) (w : World) (hcut : ∀ w, Calls Try.prog 55 #[.string (bs l), .string (bs [47])] w fun e w' => e = .returned (.tuple #[.string (bs a), .string (bs b), .bool m]) ∧ Below w.heap.size w w') (hla : a.length ≤ 1048576) (hlb : b.length ≤ 1048576) (hn : pfOK l = false) (had : adOK a = false) :
    Calls Try.prog 57 #[.string (bs l)] w fun e w' => e = .returned (.tuple #[.agg #[.int .i64 (pfA l), .int .i64 (pfB l)], .int .i64 (pfC l)]) ∧ Below w.heap.size w w' := by
  have HC := hide hcut
  have HA := hide (fun w => addr_walk a w hla)
  rw [adX_no had, adC_no had] at HA
  clear had
  obtain ⟨p1, p2, p3⟩ := pf_no hn
  rw [p1, p2, p3]
  clear hn p1 p2 p3
  clear hcut
  generalize bs l = s at *
  generalize bs a = s1 at *
  generalize bs b = s2 at *
  have HR := hide (Res.start w)
  go_enter Try.func57, Try.ntmps57
  go_wp2_with fail
  generalize w.alloc (.cells #[.int .i64 0, .int .i64 0] 37) = W at *
  refine (HC.out _).mono ?_
  rintro e w1 ⟨rfl, hb1⟩
  go_wp2_with fail
  refine (HA.out _).mono ?_
  rintro e w2 ⟨rfl, hb2⟩
  have HR2 := hide ((HR.out.below hb1).below hb2)
  clear HR hb1 hb2
  obtain ⟨d0, d1, df⟩ := HR2.out.cells
  go_wp2_with fail
  exact bodyPost_ret (v := .tuple #[.agg #[.int .i64 0, .int .i64 0], .int .i64 6]) (by simp [results, Try.results57, go_sem, d0, d1]) rfl ⟨rfl, (HR2.out.1.setCell (Nat.le_refl _) _).setCell (Nat.le_refl _) _⟩
set_option maxHeartbeats 1000000 in
theorem pref_num (l a b : List UInt8) (m : Bool) (w : World) (hcut : ∀ w, Calls Try.prog 55 #[.string (bs l), .string (bs [47])] w fun e w' => e = .returned (.tuple #[.string (bs a), .string (bs b), .bool m]) ∧ Below w.heap.size w w') (hla : a.length ≤ 1048576) (hlb : b.length ≤ 1048576) (hn : pfOK l = false) (had : adOK a = true) (hnum : numOK b 32 = false) :
    Calls Try.prog 57 #[.string (bs l)] w fun e w' => e = .returned (.tuple #[.agg #[.int .i64 (pfA l), .int .i64 (pfB l)], .int .i64 (pfC l)]) ∧ Below w.heap.size w w' := by
  have HC := hide hcut
  have HA := hide (fun w => addr_walk a w hla)
  have hax := adX_bd a
  rw [adC_yes had] at HA
  clear had
  have HD := hide (fun w => decimal_no b 32 w hlb (by omega) hnum)
  clear hnum
  generalize adX a = x at *
  obtain ⟨p1, p2, p3⟩ := pf_no hn
  rw [p1, p2, p3]
  clear hn p1 p2 p3
  clear hcut
  generalize bs l = s at *
  generalize bs a = s1 at *
  generalize bs b = s2 at *
  have HR := hide (Res.start w)
  go_enter Try.func57, Try.ntmps57
  go_wp2_with fail
  generalize w.alloc (.cells #[.int .i64 0, .int .i64 0] 37) = W at *
  refine (HC.out _).mono ?_
  rintro e w1 ⟨rfl, hb1⟩
  go_wp2_with fail
  refine (HA.out _).mono ?_
  rintro e w2 ⟨rfl, hb2⟩
  have HR2 := hide ((HR.out.below hb1).below hb2)
  clear HR hb1 hb2
  go_wp2_with fail
  refine (HD.out _).mono ?_
  rintro e w3 ⟨rfl, hw3⟩
  rw [hw3]
  clear hw3
  have hba := (Below.refl w2.heap.size w2).alloc (Nat.le_refl _) (.cells #[.int .i64 x, .int .i64 0] 37)
  have HR3 := hide (HR2.out.below hba)
  obtain ⟨d0, d1, df⟩ := HR3.out.cells
  go_wp2_with fail
  exact bodyPost_ret (v := .tuple #[.agg #[.int .i64 0, .int .i64 0], .int .i64 6]) (by simp [results, Try.results57, go_sem, d0, d1]) rfl ⟨rfl, (HR3.out.1.setCell (Nat.le_refl _) _).setCell (Nat.le_refl _) _⟩
set_option maxHeartbeats 1000000 in
theorem pref_bad (l a b : List UInt8) (m : Bool) (w : World) (hcut : ∀ w, Calls Try.prog 55 #[.string (bs l), .string (bs [47])] w fun e w' => e = .returned (.tuple #[.string (bs a), .string (bs b), .bool m]) ∧ Below w.heap.size w w') (hla : a.length ≤ 1048576) (hlb : b.length ≤ 1048576) (hn : pfOK l = false) (had : adOK a = true) (hnum : numOK b 32 = true) (hp : prefB (adX a) (numV b) = false) :
    Calls Try.prog 57 #[.string (bs l)] w fun e w' => e = .returned (.tuple #[.agg #[.int .i64 (pfA l), .int .i64 (pfB l)], .int .i64 (pfC l)]) ∧ Below w.heap.size w w' := by
  have HC := hide hcut
  have HA := hide (fun w => addr_walk a w hla)
  have hax := adX_bd a
  rw [adC_yes had] at HA
  clear had
  have HD := hide (fun w => decimal_yes b 32 w hlb (by omega) hnum)
  have HV := hide (fun w => valid_walk (adX a) (numV b) w)
  rw [hp] at HV
  clear hnum hp
  generalize adX a = x at *
  generalize numV b = y at *
  obtain ⟨p1, p2, p3⟩ := pf_no hn
  rw [p1, p2, p3]
  clear hn p1 p2 p3
  clear hcut
  generalize bs l = s at *
  generalize bs a = s1 at *
  generalize bs b = s2 at *
  have HR := hide (Res.start w)
  go_enter Try.func57, Try.ntmps57
  go_wp2_with fail
  generalize w.alloc (.cells #[.int .i64 0, .int .i64 0] 37) = W at *
  refine (HC.out _).mono ?_
  rintro e w1 ⟨rfl, hb1⟩
  go_wp2_with fail
  refine (HA.out _).mono ?_
  rintro e w2 ⟨rfl, hb2⟩
  have HR2 := hide ((HR.out.below hb1).below hb2)
  clear HR hb1 hb2
  go_wp2_with fail
  refine (HD.out _).mono ?_
  rintro e w3 ⟨rfl, hw3⟩
  rw [hw3]
  clear hw3
  have hba := (Below.refl w2.heap.size w2).alloc (Nat.le_refl _) (.cells #[.int .i64 x, .int .i64 y] 37)
  have HR3 := hide (HR2.out.below hba)
  obtain ⟨hbB, hc0, hc1⟩ := box_facts w2 (.int .i64 x) (.int .i64 y) 37
  have hsB : w2.heap.size < (w2.alloc (.cells #[.int .i64 x, .int .i64 y] 37)).heap.size := by rw [World.size_alloc]; omega
  go_wp2_with fail
  generalize w2.alloc (.cells #[.int .i64 x, .int .i64 y] 37) = W3 at *
  refine (HV.out _).mono ?_
  rintro e w4 ⟨rfl, hb4⟩
  have HR4 := hide (HR3.out.below hb4)
  obtain ⟨d0, d1, df⟩ := HR4.out.cells
  have g0 : w4.cell? ⟨w2.heap.size, 0, none⟩ = some (.int .i64 x) := by rw [hb4.cell (p := ⟨w2.heap.size, 0, none⟩) hsB]; exact hc0
  have g1 : w4.cell? ⟨w2.heap.size, 1, none⟩ = some (.int .i64 y) := by rw [hb4.cell (p := ⟨w2.heap.size, 1, none⟩) hsB]; exact hc1
  clear hc0 hc1
  go_wp2_with fail
  exact bodyPost_ret (v := .tuple #[.agg #[.int .i64 0, .int .i64 0], .int .i64 6]) (by simp [results, Try.results57, go_sem, d0, d1]) rfl ⟨rfl, (HR4.out.1.setCell (Nat.le_refl _) _).setCell (Nat.le_refl _) _⟩
set_option maxHeartbeats 1000000 in
theorem pref_good (l a b : List UInt8) (m : Bool) (w : World) (hcut : ∀ w, Calls Try.prog 55 #[.string (bs l), .string (bs [47])] w fun e w' => e = .returned (.tuple #[.string (bs a), .string (bs b), .bool m]) ∧ Below w.heap.size w w') (hla : a.length ≤ 1048576) (hlb : b.length ≤ 1048576) (hy : pfA l = adX a ∧ pfB l = numV b ∧ pfC l = 0) (had : adOK a = true) (hnum : numOK b 32 = true) (hp : prefB (adX a) (numV b) = true) :
    Calls Try.prog 57 #[.string (bs l)] w fun e w' => e = .returned (.tuple #[.agg #[.int .i64 (pfA l), .int .i64 (pfB l)], .int .i64 (pfC l)]) ∧ Below w.heap.size w w' := by
  have HC := hide hcut
  have HA := hide (fun w => addr_walk a w hla)
  have hax := adX_bd a
  rw [adC_yes had] at HA
  clear had
  have HD := hide (fun w => decimal_yes b 32 w hlb (by omega) hnum)
  have HV := hide (fun w => valid_walk (adX a) (numV b) w)
  rw [hp] at HV
  clear hnum hp
  rw [hy.1, hy.2.1, hy.2.2]
  clear hy
  generalize adX a = x at *
  generalize numV b = y at *

  clear hcut
  generalize bs l = s at *
  generalize bs a = s1 at *
  generalize bs b = s2 at *
  have HR := hide (Res.start w)
  go_enter Try.func57, Try.ntmps57
  go_wp2_with fail
  generalize w.alloc (.cells #[.int .i64 0, .int .i64 0] 37) = W at *
  refine (HC.out _).mono ?_
  rintro e w1 ⟨rfl, hb1⟩
  go_wp2_with fail
  refine (HA.out _).mono ?_
  rintro e w2 ⟨rfl, hb2⟩
  have HR2 := hide ((HR.out.below hb1).below hb2)
  clear HR hb1 hb2
  go_wp2_with fail
  refine (HD.out _).mono ?_
  rintro e w3 ⟨rfl, hw3⟩
  rw [hw3]
  clear hw3
  have hba := (Below.refl w2.heap.size w2).alloc (Nat.le_refl _) (.cells #[.int .i64 x, .int .i64 y] 37)
  have HR3 := hide (HR2.out.below hba)
  obtain ⟨hbB, hc0, hc1⟩ := box_facts w2 (.int .i64 x) (.int .i64 y) 37
  have hsB : w2.heap.size < (w2.alloc (.cells #[.int .i64 x, .int .i64 y] 37)).heap.size := by rw [World.size_alloc]; omega
  go_wp2_with fail
  generalize w2.alloc (.cells #[.int .i64 x, .int .i64 y] 37) = W3 at *
  refine (HV.out _).mono ?_
  rintro e w4 ⟨rfl, hb4⟩
  have HR4 := hide (HR3.out.below hb4)
  obtain ⟨d0, d1, df⟩ := HR4.out.cells
  have g0 : w4.cell? ⟨w2.heap.size, 0, none⟩ = some (.int .i64 x) := by rw [hb4.cell (p := ⟨w2.heap.size, 0, none⟩) hsB]; exact hc0
  have g1 : w4.cell? ⟨w2.heap.size, 1, none⟩ = some (.int .i64 y) := by rw [hb4.cell (p := ⟨w2.heap.size, 1, none⟩) hsB]; exact hc1
  clear hc0 hc1
  go_wp2_with fail
  exact bodyPost_ret (v := .tuple #[.agg #[.int .i64 x, .int .i64 y], .int .i64 0]) (by simp [results, Try.results57, go_sem, d0, d1]) rfl ⟨rfl, (HR4.out.1.setCell (Nat.le_refl _) _).setCell (Nat.le_refl _) _⟩
theorem pref_walk (l : List UInt8) (w : World) (hl : l.length ≤ 1048576) :
    Calls Try.prog 57 #[.string (bs l)] w fun e w' => e = .returned (.tuple #[.agg #[.int .i64 (pfA l), .int .i64 (pfB l)], .int .i64 (pfC l)]) ∧ Below w.heap.size w w' := by
  by_cases hm : (47 : UInt8) ∈ l
  · obtain ⟨a, b, rfl, hna⟩ := List.eq_append_cons_of_mem hm
    have hla : a.length ≤ 1048576 ∧ b.length ≤ 1048576 := by rw [List.length_append, List.length_cons] at hl; omega
    have hk := pf_cut (b := b) hna
    have hc := fun w => cut_yes a b 47 w hl hna
    cases had : adOK a with
    | false => exact pref_ad _ a b true w hc hla.1 hla.2 (by rw [hk, had]; rfl) had
    | true =>
      cases hnum : numOK b 32 with
      | false => exact pref_num _ a b true w hc hla.1 hla.2 (by rw [hk, had, hnum]; rfl) had hnum
      | true =>
        cases hp : prefB (adX a) (numV b) with
        | false => exact pref_bad _ a b true w hc hla.1 hla.2 (by rw [hk, had, hnum, hp]; rfl) had hnum hp
        | true =>
          have hok : pfOK (a ++ 47 :: b) = true := by rw [hk, had, hnum, hp]; rfl
          exact pref_good _ a b true w hc hla.1 hla.2 (pf_yes (pf_split hna hok) hok) had hnum hp
  · have hn := pf_none hm
    have hc := fun w => cut_no l 47 w hm
    cases had : adOK l with
    | false => exact pref_ad _ l [] false w hc hl (by simp) hn had
    | true => exact pref_num _ l [] false w hc hl (by simp) hn had rfl
end Go.Proofs.Ytgegnkboibgbgaa
