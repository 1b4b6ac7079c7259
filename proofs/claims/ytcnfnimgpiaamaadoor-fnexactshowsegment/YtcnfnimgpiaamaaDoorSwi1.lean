/-
Contracts of functions of this seat.
-/
import Derived.Test.YtcnfnimgpiaamaaDoorRows
import Derived.WalkKit
import Derived.ProofKit
import Derived.OpenShut
import Derived.Test.YtcnfnimgpiaamaaDoorSw2
import Derived.Deep.RegionLaw
import Derived.Laws.AppendOwn
namespace Go.Proofs.YtcnfnimgpiaamaaDoor
open Go.ChangeShapes Go.WideShapes Go.ChangeAt Go.RowKit
set_option linter.unusedVariables false
set_option maxRecDepth 100000
theorem step_append_own {P : Program} {ops : Array Oper} {o : Oper} {a : Act} {w : World} {K : Act → World → Prop} {Q : Exit → Act → World → Prop} {E : Prop} (hgd : o.guard = none) (s x : Operand) (t : TypeId)
    (ho : o.op = .call { callee := .builtin .append, args := #[s, x], argTypes := #[t, t] })
    (base : Nat) (e : TypeId) (i : TypeInfo) (z : Value) (size bytes : Nat) (ht : P.underlying t = some (.slice e)) (hi : P.info? e = some i) (hz : i.zero = some z)
    (hsize : i.size = size) (hby : i.bytes = bytes) (hzs : z.cells.size = size) (hsz : 0 < size)
    (v : Value) (n : Nat) (xs : List Value) (hs : a.eval s = v) (hown : w.ownsRow base e size v n xs)
    (ad : Addr) (m c : Nat) (news : List Value) (hx : a.eval x = .slice (some ad) m c) (hl : news.length = m * size) (hnews : ∀ j u, news[j]? = some u → w.cell? (ad.add j) = some u) (h1 : ∀ u ∈ news, u.oneCell' = true)
    (h63 : n + m ≤ maxLen) (hbytes : (n + m) * bytes ≤ 140737488355328) (hbase : base ≤ w.heap.size)
    (h : ∀ v' w', w'.ownsRow base e size v' (n + m) (xs ++ news) → w.grownBy w' v.ownBlock → (v' = .slice none 0 0 ↔ v = .slice none 0 0 ∧ m = 0) → K (a.put o.dst v') w') :
    if Region.wanted o (yielded ops a.tmps) = true then Oper.wp P o a w K Q else E := by
  have hw : Region.wanted o (yielded ops a.tmps) = true := by simp [Region.wanted, hgd]
  rw [if_pos hw]
  exact wp_append_own w s x t ho base e i z size bytes ht hi hz hsize hby hzs hsz v n xs hs hown ad m c news hx hl hnews h1 h63 hbytes hbase h

theorem cell_twoH (w : World) (x y : Int) (t : Nat) : ∀ j u, (bval [x, y])[j]? = some u → (w.alloc (.cells #[.int .u8 x, .int .u8 y] t)).cell? ((⟨w.heap.size, 0, none⟩ : Addr).add j) = some u := by
  intro j u hu
  match j with
  | 0 =>
    simp [bval] at hu
    subst hu
    rw [Addr.add_lit]
    exact cell_of_row _ w.heap.size 0 _ t (0, 0) (heap_alloc_new w _)
  | 1 =>
    simp [bval] at hu
    subst hu
    rw [Addr.add_lit]
    exact cell_of_row _ w.heap.size 1 _ t (0, 0) (heap_alloc_new w _)
  | k + 2 => simp [bval] at hu
set_option maxHeartbeats 4000000 in
/-- showHex of the program. -/
theorem showHex_walk (a : Option Addr) (n cap : Nat) (zs : List Int) (w : World) (hn : zs.length = n) (ha : Arr w a zs) (hm : n ≤ 4000) :
    Calls Tryd.prog 79 #[.slice a n cap] w fun e w' => e = .returned (.string (strB (hexL zs))) ∧ Below w.heap.size w w' := by
  obtain ⟨i, hi, hz0, hz1, hz2⟩ := info_parts Tryd.infoB
  have HI := hide hi
  have HZ0 := hide hz0
  have HZ1 := hide hz1
  have HZ2 := hide hz2
  have HN := hide hn
  have HA := hide ha
  obtain ⟨W0, hmk, hrow, hgr⟩ := run_make_own (P := Tryd.prog) (w := w) w.heap.size 23 5 i (.int .u8 0) 1 Tryd.underlying23 hi hz0 hz1 .i64 .i64 (2 * n) (by rw [hz2]; omega) (by unfold maxLen; omega) (Nat.le_refl _)
  rw [show ((2 * n : Nat) : Int) = 2 * (n : Int) by omega] at hmk
  have HO0 : Hid (OwnB W0 w.heap.size (.slice (some ⟨w.heap.size, 0, none⟩) 0 (2 * n)) []) := hide ⟨hrow, by simp⟩
  have hb0 : Below w.heap.size w W0 := (Below.refl w.heap.size w).grown hgr (Nat.le_refl _) (fun k hk => by cases hk)
  clear hi hz0 hz1 hz2 hn ha hrow hgr
  go_enter Tryd.func79, Tryd.ntmps79
  go_wp2_with fail
  go_loopw [3, 12] (fun o t w2 => ∃ k : Nat, k ≤ n ∧ t = .int .i64 k ∧ Hid (OwnB w2 w.heap.size o (hexL (zs.take k))) ∧ Below w.heap.size w w2) (fun _ t _ => n - (intOf t).toNat)
  case atStart => exact ⟨0, Nat.zero_le _, rfl, HO0, hb0⟩
  case round =>
    obtain ⟨k, hk, rfl, HO, hb⟩ := hrel
    clear hb0 hmk HO0
    by_cases hlt : k < n
    · have hkz : k < zs.length := by rw [HN.out]; exact hlt
      obtain ⟨b, off, rfl, hbs, hc⟩ := HA.out.2 k hkz
      have hc2 : wr.cell? ⟨b, off + k, none⟩ = some (.int .u8 (zs.getD k 0)) := by rw [hb.cell (p := ⟨b, off + k, none⟩) hbs]; exact hc
      have hzb := getD_bd HA.out.1 k
      have HT : Hid (hexL (zs.take (k + 1)) = (hexL (zs.take k) ++ [hxI (zs.getD k 0 / 16).toNat]) ++ [hxI (zs.getD k 0 % 16).toNat]) := hide (by rw [← hexL_snoc, List.take_succ_eq_append_getElem hkz, List.getD_eq_getElem?_getD, List.getElem?_eq_getElem hkz]; rfl)
      have hl : (hexL (zs.take k)).length ≤ 8000 := by rw [hexL_len, List.length_take]; omega
      have HL := hide hl
      clear hc hl
      generalize zs.getD k 0 = z at *
      obtain ⟨q, hq⟩ := Int.eq_ofNat_of_zero_le (show 0 ≤ z / 16 by omega)
      obtain ⟨r, hr⟩ := Int.eq_ofNat_of_zero_le (show 0 ≤ z % 16 by omega)
      have hq16 : q < 16 := by omega
      have hr16 : r < 16 := by omega
      have HT2 : Hid (hexL (zs.take (k + 1)) = hexL (zs.take k) ++ [hxI q, hxI r]) := hide (by rw [HT.out, hq, hr, Int.toNat_natCast, Int.toNat_natCast, List.append_assoc]; rfl)
      have i1 := idx_hexI q hq16
      have i2 := idx_hexI r hr16
      have e15 : bits .and .u8 z 15 = (r : Int) := (and_15_u8 z).trans hr
      have b1 := hxI_bd q hq16
      have b2 := hxI_bd r hr16
      clear HT hr
      generalize hxI q = x1 at *
      generalize hxI r = x2 at *
      generalize hLL : hexL (zs.take k) = LL at *
      clear hLL
      go_wp2_with fail
      go_region_law (refine step_append_own rfl (.tmp 16) (.tmp 23) 23 rfl w.heap.size 5 i _ 1 1 Tryd.underlying23 HI.out HZ0.out HZ1.out HZ2.out rfl (by decide) u3 LL.length (bval LL) (by simp [Act.eval]) (by exact World.ownsRow.drew (HO.out.1.alloc _)) ⟨wr.heap.size, 0, none⟩ 2 2 (bval [x1, x2]) (by simp [Act.eval]) rfl (by exact cell_twoH wr _ _ _) (oneCells _) (by have := HL.out; unfold maxLen; omega) (by have := HL.out; omega) (by show _ ≤ (World.alloc _ _).heap.size; rw [World.size_alloc]; have := hb.size; omega) ?_; intro v3 w3 hown3 hgrow3 hnil3)
      all_goals
        have hO3 := OwnB.app hown3 rfl HO.out.2 (by intro z hz; simp at hz; rcases hz with rfl | rfl <;> omega)
        have HO3 : Hid (OwnB w3 w.heap.size v3 (hexL (zs.take (k + 1)))) := hide (by rw [HT2.out]; exact hO3)
        have hlo := HO.out.1.lt
        have hb3 : Below w.heap.size w w3 := ((hb.alloc hb.size _).drew).grown hgrow3 (by show _ ≤ (World.alloc _ _).heap.size; rw [World.size_alloc]; have := hb.size; omega) (fun k hk => (hlo k hk).1)
        clear hO3 hown3 hgrow3 hnil3 hlo
        go_wp2_with fail
        exact ⟨⟨k + 1, by omega, by go_num, HO3, hb3⟩, by simp [intOf]; omega⟩
    · have hk' : k = n := by omega
      subst hk'
      have HE : Hid (zs.take k = zs) := hide (List.take_of_length_le (by rw [HN.out]; exact Nat.le_refl _))
      rw [HE.out] at HO
      obtain ⟨a9, c9, rfl, ha9, _⟩ := HO.out.arr
      have cv := conv_str a9 _ c9 _ wr rfl ha9
      generalize hln : (hexL zs).length = ln at *
      go_wp2_with fail
      go_ret
      exact ⟨rfl, hb⟩
end Go.Proofs.YtcnfnimgpiaamaaDoor
