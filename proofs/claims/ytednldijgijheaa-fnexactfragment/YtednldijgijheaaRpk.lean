/-
Contracts of functions of this seat.
-/
import Derived.Test.YtednldijgijheaaRows
import Derived.WalkKit
import Derived.ProofKit
import Derived.OpenShut
import Derived.Test.YtednldijgijheaaDmk
namespace Go.Proofs.Ytednldijgijheaa
open Go.ChangeShapes Go.WideShapes Go.ChangeAt Go.RowKit
set_option linter.unusedVariables false
set_option maxRecDepth 100000
structure PacketM where
  f0 : Int
  f1 : Int
  f2 : Bool
  f3 : Bool
  f4 : Int
  f5 : Int
  f6 : Int
  f7 : Int
  f8 : Int
  f9 : List Int
  f10 : List Int
def dPacket (o : PacketM) : List D := [.c (.int .i64 o.f0), .c (.int .i64 o.f1), .c (.bool o.f2), .c (.bool o.f3), .c (.int .i64 o.f4), .c (.int .i64 o.f5), .c (.int .i64 o.f6), .c (.int .i64 o.f7), .c (.int .i64 o.f8), bytesD o.f9, bytesD o.f10]
theorem dPacket_len (o : PacketM) : (dPacket o).length = 11 := rfl
def dPacketS (os : List PacketM) : D := .s 29 11 os.length (os.flatMap dPacket)
/-- Its bytes are bytes, and not too many. -/
def okPacket (o : PacketM) : Prop := (∀ z ∈ o.f9, 0 ≤ z ∧ z ≤ 255) ∧ o.f9.length ≤ 1048576 ∧ (∀ z ∈ o.f10, 0 ≤ z ∧ z ≤ 255) ∧ o.f10.length ≤ 1048576
theorem Packet_at0 (os : List PacketM) (i : Nat) (h : i < os.length) : (os.flatMap dPacket)[i * 11]? = some (.c (.int .i64 os[i].f0)) := flat_get dPacket 11 dPacket_len os i 0 h (by omega)
theorem Packet_at1 (os : List PacketM) (i : Nat) (h : i < os.length) : (os.flatMap dPacket)[i * 11 + 1]? = some (.c (.int .i64 os[i].f1)) := flat_get dPacket 11 dPacket_len os i 1 h (by omega)
theorem Packet_at2 (os : List PacketM) (i : Nat) (h : i < os.length) : (os.flatMap dPacket)[i * 11 + 2]? = some (.c (.bool os[i].f2)) := flat_get dPacket 11 dPacket_len os i 2 h (by omega)
theorem Packet_at3 (os : List PacketM) (i : Nat) (h : i < os.length) : (os.flatMap dPacket)[i * 11 + 3]? = some (.c (.bool os[i].f3)) := flat_get dPacket 11 dPacket_len os i 3 h (by omega)
theorem Packet_at4 (os : List PacketM) (i : Nat) (h : i < os.length) : (os.flatMap dPacket)[i * 11 + 4]? = some (.c (.int .i64 os[i].f4)) := flat_get dPacket 11 dPacket_len os i 4 h (by omega)
theorem Packet_at5 (os : List PacketM) (i : Nat) (h : i < os.length) : (os.flatMap dPacket)[i * 11 + 5]? = some (.c (.int .i64 os[i].f5)) := flat_get dPacket 11 dPacket_len os i 5 h (by omega)
theorem Packet_at6 (os : List PacketM) (i : Nat) (h : i < os.length) : (os.flatMap dPacket)[i * 11 + 6]? = some (.c (.int .i64 os[i].f6)) := flat_get dPacket 11 dPacket_len os i 6 h (by omega)
theorem Packet_at7 (os : List PacketM) (i : Nat) (h : i < os.length) : (os.flatMap dPacket)[i * 11 + 7]? = some (.c (.int .i64 os[i].f7)) := flat_get dPacket 11 dPacket_len os i 7 h (by omega)
theorem Packet_at8 (os : List PacketM) (i : Nat) (h : i < os.length) : (os.flatMap dPacket)[i * 11 + 8]? = some (.c (.int .i64 os[i].f8)) := flat_get dPacket 11 dPacket_len os i 8 h (by omega)
theorem Packet_at9 (os : List PacketM) (i : Nat) (h : i < os.length) : (os.flatMap dPacket)[i * 11 + 9]? = some (bytesD os[i].f9) := flat_get dPacket 11 dPacket_len os i 9 h (by omega)
theorem Packet_at10 (os : List PacketM) (i : Nat) (h : i < os.length) : (os.flatMap dPacket)[i * 11 + 10]? = some (bytesD os[i].f10) := flat_get dPacket 11 dPacket_len os i 10 h (by omega)
theorem Packet_sz (os : List PacketM) (i : Nat) (h : i < os.length) (k kk : Nat) (hk : kk = k + szL ((os.flatMap dPacket).take (i * 11))) : k + szL ((os.flatMap dPacket).take (i * 11)) = kk + 0 ∧ k + szL ((os.flatMap dPacket).take (i * 11 + 1)) = kk + 1 ∧ k + szL ((os.flatMap dPacket).take (i * 11 + 2)) = kk + 2 ∧ k + szL ((os.flatMap dPacket).take (i * 11 + 3)) = kk + 3 ∧ k + szL ((os.flatMap dPacket).take (i * 11 + 4)) = kk + 4 ∧ k + szL ((os.flatMap dPacket).take (i * 11 + 5)) = kk + 5 ∧ k + szL ((os.flatMap dPacket).take (i * 11 + 6)) = kk + 6 ∧ k + szL ((os.flatMap dPacket).take (i * 11 + 7)) = kk + 7 ∧ k + szL ((os.flatMap dPacket).take (i * 11 + 8)) = kk + 8 ∧ k + szL ((os.flatMap dPacket).take (i * 11 + 9)) = kk + 9 ∧ k + szL ((os.flatMap dPacket).take (i * 11 + 10)) = kk + 9 + os[i].f9.length ∧ k + szL ((os.flatMap dPacket).take ((i + 1) * 11)) = kk + 9 + os[i].f9.length + os[i].f10.length := by
  have s0 : k + szL ((os.flatMap dPacket).take (i * 11)) = kk + 0 := by omega
  have t0 := szL_take (os.flatMap dPacket) (i * 11) _ (Packet_at0 os i h)
  have s1 : k + szL ((os.flatMap dPacket).take (i * 11 + 1)) = kk + 1 := by
    rw [show i * 11 + 1 = i * 11 + 1 from rfl, t0]
    simp only [szD]
    omega
  have t1 := szL_take (os.flatMap dPacket) (i * 11 + 1) _ (Packet_at1 os i h)
  have s2 : k + szL ((os.flatMap dPacket).take (i * 11 + 2)) = kk + 2 := by
    rw [show i * 11 + 2 = i * 11 + 1 + 1 from rfl, t1]
    simp only [szD]
    omega
  have t2 := szL_take (os.flatMap dPacket) (i * 11 + 2) _ (Packet_at2 os i h)
  have s3 : k + szL ((os.flatMap dPacket).take (i * 11 + 3)) = kk + 3 := by
    rw [show i * 11 + 3 = i * 11 + 2 + 1 from rfl, t2]
    simp only [szD]
    omega
  have t3 := szL_take (os.flatMap dPacket) (i * 11 + 3) _ (Packet_at3 os i h)
  have s4 : k + szL ((os.flatMap dPacket).take (i * 11 + 4)) = kk + 4 := by
    rw [show i * 11 + 4 = i * 11 + 3 + 1 from rfl, t3]
    simp only [szD]
    omega
  have t4 := szL_take (os.flatMap dPacket) (i * 11 + 4) _ (Packet_at4 os i h)
  have s5 : k + szL ((os.flatMap dPacket).take (i * 11 + 5)) = kk + 5 := by
    rw [show i * 11 + 5 = i * 11 + 4 + 1 from rfl, t4]
    simp only [szD]
    omega
  have t5 := szL_take (os.flatMap dPacket) (i * 11 + 5) _ (Packet_at5 os i h)
  have s6 : k + szL ((os.flatMap dPacket).take (i * 11 + 6)) = kk + 6 := by
    rw [show i * 11 + 6 = i * 11 + 5 + 1 from rfl, t5]
    simp only [szD]
    omega
  have t6 := szL_take (os.flatMap dPacket) (i * 11 + 6) _ (Packet_at6 os i h)
  have s7 : k + szL ((os.flatMap dPacket).take (i * 11 + 7)) = kk + 7 := by
    rw [show i * 11 + 7 = i * 11 + 6 + 1 from rfl, t6]
    simp only [szD]
    omega
  have t7 := szL_take (os.flatMap dPacket) (i * 11 + 7) _ (Packet_at7 os i h)
  have s8 : k + szL ((os.flatMap dPacket).take (i * 11 + 8)) = kk + 8 := by
    rw [show i * 11 + 8 = i * 11 + 7 + 1 from rfl, t7]
    simp only [szD]
    omega
  have t8 := szL_take (os.flatMap dPacket) (i * 11 + 8) _ (Packet_at8 os i h)
  have s9 : k + szL ((os.flatMap dPacket).take (i * 11 + 9)) = kk + 9 := by
    rw [show i * 11 + 9 = i * 11 + 8 + 1 from rfl, t8]
    simp only [szD]
    omega
  have t9 := szL_take (os.flatMap dPacket) (i * 11 + 9) _ (Packet_at9 os i h)
  have s10 : k + szL ((os.flatMap dPacket).take (i * 11 + 10)) = kk + 9 + os[i].f9.length := by
    rw [show i * 11 + 10 = i * 11 + 9 + 1 from rfl, t9]
    rw [bytesD_sz]
    omega
  have t10 := szL_take (os.flatMap dPacket) (i * 11 + 10) _ (Packet_at10 os i h)
  have s11 : k + szL ((os.flatMap dPacket).take (i * 11 + 11)) = kk + 9 + os[i].f9.length + os[i].f10.length := by
    rw [show i * 11 + 11 = i * 11 + 10 + 1 from rfl, t10]
    rw [bytesD_sz]
    omega
  have e : (i + 1) * 11 = i * 11 + 11 := by omega
  rw [e]
  exact ⟨s0, s1, s2, s3, s4, s5, s6, s7, s8, s9, s10, s11⟩
set_option maxHeartbeats 8000000 in
theorem markPacketS_some (g off cap n B : Nat) (os : List PacketM) (bs : List Nat) (k : Nat) (w : World) (hn : os.length = n) (h : Holds w B (dPacketS os) (.slice (some ⟨g, off, none⟩) n cap) bs) (hnd : bs.Nodup) (hm : n ≤ 1073741824) (hk : k + szL (os.flatMap dPacket) ≤ 1073741824) :
    Calls Try.prog 11 #[.slice (some ⟨g, off, none⟩) n cap, .int .i64 (k : Int)] w fun e w' => e = .returned (.int .i64 ((k + szL (os.flatMap dPacket) : Nat) : Int)) ∧ Holds w' B (mkD k (dPacketS os)) (.slice (some ⟨g, off, none⟩) n cap) bs ∧ Only bs w w' := by
  unfold dPacketS at h ⊢
  rw [hn] at h ⊢
  have HN := hide hn
  have HO := hide h
  have HND := hide hnd
  have HG := hide h.mine
  have HK := hide hk
  clear hn h hnd hk
  go_enter Try.func11, Try.ntmps11
  go_wp2_with fail
  go_loopw [1, 5] (fun s t w2 => ∃ i : Nat, i ≤ n ∧ s = .int .i64 ((k + szL ((os.flatMap dPacket).take (i * 11)) : Nat) : Int) ∧ t = .int .i64 i ∧ Hid (Holds w2 B (.s 29 11 n (mdL k (os.flatMap dPacket) (i * 11))) (.slice (some ⟨g, off, none⟩) n cap) bs) ∧ Only bs w w2) (fun _ t _ => n - (intOf t).toNat)
  case atStart => exact ⟨0, Nat.zero_le _, by simp [szL], rfl, hide (by rw [Nat.zero_mul, mdL_zero]; exact HO.out), Only.refl _ _⟩
  case round =>
    obtain ⟨i, hi, rfl, rfl, HO, hon⟩ := hrel
    by_cases hlt : i < n
    · have hi2 : i < os.length := by rw [HN.out]; exact hlt
      obtain ⟨kk, hkk⟩ : ∃ kk, kk = k + szL ((os.flatMap dPacket).take (i * 11)) := ⟨_, rfl⟩
      obtain ⟨s0, s1, s2, s3, s4, s5, s6, s7, s8, s9, s10, s11⟩ := Packet_sz os i hi2 k kk hkk
      have hle := szL_take_le (os.flatMap dPacket) ((i + 1) * 11)
      have hkb : kk + 9 + os[i].f9.length + os[i].f10.length ≤ 1073741824 := by have := HK.out; omega
      rw [← hkk]
      have HFIN := hide s11
      have HS0 := hide s0
      have HS1 := hide s1
      have HS2 := hide s2
      have HS3 := hide s3
      have HS4 := hide s4
      have HS5 := hide s5
      have HS6 := hide s6
      have HS7 := hide s7
      have HS8 := hide s8
      have HS9 := hide s9
      have HS10 := hide s10
      clear s0 s1 s2 s3 s4 s5 s6 s7 s8 s9 s10 s11 hle hkk
      have HG0 := hide (Packet_at0 os i hi2)
      have HG1 := hide (Packet_at1 os i hi2)
      have HG2 := hide (Packet_at2 os i hi2)
      have HG3 := hide (Packet_at3 os i hi2)
      have HG4 := hide (Packet_at4 os i hi2)
      have HG5 := hide (Packet_at5 os i hi2)
      have HG6 := hide (Packet_at6 os i hi2)
      have HG7 := hide (Packet_at7 os i hi2)
      have HG8 := hide (Packet_at8 os i hi2)
      have HG9 := hide (Packet_at9 os i hi2)
      have HG10 := hide (Packet_at10 os i hi2)
      generalize hz9 : os[i].f9 = z9 at *
      clear hz9
      generalize hz10 : os[i].f10 = z10 at *
      clear hz10
      generalize hz0 : os[i].f0 = z0 at *
      clear hz0
      generalize hz1 : os[i].f1 = z1 at *
      clear hz1
      generalize hz2 : os[i].f2 = z2 at *
      clear hz2
      generalize hz3 : os[i].f3 = z3 at *
      clear hz3
      generalize hz4 : os[i].f4 = z4 at *
      clear hz4
      generalize hz5 : os[i].f5 = z5 at *
      clear hz5
      generalize hz6 : os[i].f6 = z6 at *
      clear hz6
      generalize hz7 : os[i].f7 = z7 at *
      clear hz7
      generalize hz8 : os[i].f8 = z8 at *
      clear hz8
      have hl9 : z9.length ≤ 1073741824 := by omega
      have hl10 : z10.length ≤ 1073741824 := by omega
      have a0 := HO.out.cellA (A := off + i * 11) (m := i * 11) (by omega) (by rw [mdL_ge _ _ _ _ (by omega)]; exact HG0.out)
      have a1 := HO.out.cellA (A := off + i * 11 + 1) (m := i * 11 + 1) (by omega) (by rw [mdL_ge _ _ _ _ (by omega)]; exact HG1.out)
      have a2 := HO.out.cellA (A := off + i * 11 + 2) (m := i * 11 + 2) (by omega) (by rw [mdL_ge _ _ _ _ (by omega)]; exact HG2.out)
      have a3 := HO.out.cellA (A := off + i * 11 + 3) (m := i * 11 + 3) (by omega) (by rw [mdL_ge _ _ _ _ (by omega)]; exact HG3.out)
      have a4 := HO.out.cellA (A := off + i * 11 + 4) (m := i * 11 + 4) (by omega) (by rw [mdL_ge _ _ _ _ (by omega)]; exact HG4.out)
      have a5 := HO.out.cellA (A := off + i * 11 + 5) (m := i * 11 + 5) (by omega) (by rw [mdL_ge _ _ _ _ (by omega)]; exact HG5.out)
      have a6 := HO.out.cellA (A := off + i * 11 + 6) (m := i * 11 + 6) (by omega) (by rw [mdL_ge _ _ _ _ (by omega)]; exact HG6.out)
      have a7 := HO.out.cellA (A := off + i * 11 + 7) (m := i * 11 + 7) (by omega) (by rw [mdL_ge _ _ _ _ (by omega)]; exact HG7.out)
      have a8 := HO.out.cellA (A := off + i * 11 + 8) (m := i * 11 + 8) (by omega) (by rw [mdL_ge _ _ _ _ (by omega)]; exact HG8.out)
      have ff : ∀ q, wr.frozen? ⟨g, q, none⟩ = false := fun q => HO.out.frozen q
      have m0 := HO.out.markA HND.out (A := off + i * 11) (by omega) HG0.out (.int .i64 ((kk : Int))) (by rw [HS0.out, mkV_i64]; congr 1 <;> omega)
      have m1 := m0.1.markA HND.out (A := off + i * 11 + 1) (by omega) HG1.out (.int .i64 ((kk : Int) + 1)) (by rw [HS1.out, mkV_i64]; congr 1 <;> omega)
      have m2 := m1.1.markA HND.out (A := off + i * 11 + 2) (by omega) HG2.out (.bool (((kk : Int) + 1 + 1) % 3 == 0)) (by rw [HS2.out, mkV_bool, ← mark_bool]; congr 3 <;> omega)
      have m3 := m2.1.markA HND.out (A := off + i * 11 + 3) (by omega) HG3.out (.bool (((kk : Int) + 1 + 1 + 1) % 3 == 0)) (by rw [HS3.out, mkV_bool, ← mark_bool]; congr 3 <;> omega)
      have m4 := m3.1.markA HND.out (A := off + i * 11 + 4) (by omega) HG4.out (.int .i64 ((kk : Int) + 1 + 1 + 1 + 1)) (by rw [HS4.out, mkV_i64]; congr 1 <;> omega)
      have m5 := m4.1.markA HND.out (A := off + i * 11 + 5) (by omega) HG5.out (.int .i64 ((kk : Int) + 1 + 1 + 1 + 1 + 1)) (by rw [HS5.out, mkV_i64]; congr 1 <;> omega)
      have m6 := m5.1.markA HND.out (A := off + i * 11 + 6) (by omega) HG6.out (.int .i64 ((kk : Int) + 1 + 1 + 1 + 1 + 1 + 1)) (by rw [HS6.out, mkV_i64]; congr 1 <;> omega)
      have m7 := m6.1.markA HND.out (A := off + i * 11 + 7) (by omega) HG7.out (.int .i64 ((kk : Int) + 1 + 1 + 1 + 1 + 1 + 1 + 1)) (by rw [HS7.out, mkV_i64]; congr 1 <;> omega)
      have m8 := m7.1.markA HND.out (A := off + i * 11 + 8) (by omega) HG8.out (.int .i64 ((kk : Int) + 1 + 1 + 1 + 1 + 1 + 1 + 1 + 1)) (by rw [HS8.out, mkV_i64]; congr 1 <;> omega)
      have on0 : Only [g] wr (((((((((wr.setCell ⟨g, off + i * 11, none⟩ (.int .i64 ((kk : Int)))).setCell ⟨g, off + i * 11 + 1, none⟩ (.int .i64 ((kk : Int) + 1))).setCell ⟨g, off + i * 11 + 2, none⟩ (.bool (((kk : Int) + 1 + 1) % 3 == 0))).setCell ⟨g, off + i * 11 + 3, none⟩ (.bool (((kk : Int) + 1 + 1 + 1) % 3 == 0))).setCell ⟨g, off + i * 11 + 4, none⟩ (.int .i64 ((kk : Int) + 1 + 1 + 1 + 1))).setCell ⟨g, off + i * 11 + 5, none⟩ (.int .i64 ((kk : Int) + 1 + 1 + 1 + 1 + 1))).setCell ⟨g, off + i * 11 + 6, none⟩ (.int .i64 ((kk : Int) + 1 + 1 + 1 + 1 + 1 + 1))).setCell ⟨g, off + i * 11 + 7, none⟩ (.int .i64 ((kk : Int) + 1 + 1 + 1 + 1 + 1 + 1 + 1))).setCell ⟨g, off + i * 11 + 8, none⟩ (.int .i64 ((kk : Int) + 1 + 1 + 1 + 1 + 1 + 1 + 1 + 1))) := (((((((((Only.refl [g] _).trans m0.2.1).trans m1.2.1).trans m2.2.1).trans m3.2.1).trans m4.2.1).trans m5.2.1).trans m6.2.1).trans m7.2.1).trans m8.2.1
      obtain ⟨u9, bu9, cu9, hu9, hs9, hb9, hg9, hc9⟩ := Holds.marksA (m8.1) HND.out (A := off + i * 11 + 9) (by omega) HG9.out
      have au9 : wr.cell? ⟨g, off + i * 11 + 9, none⟩ = some u9 := by rw [m8.2.2 _ (by omega), m7.2.2 _ (by omega), m6.2.2 _ (by omega), m5.2.2 _ (by omega), m4.2.2 _ (by omega), m3.2.2 _ (by omega), m2.2.2 _ (by omega), m1.2.2 _ (by omega), m0.2.2 _ (by omega)] at cu9; exact cu9
      obtain ⟨ad9, cd9, rfl⟩ := Holds.slice hu9
      have CM := markByteS_d z9 (.slice ad9 z9.length cd9) B bu9 (kk + 9) _ hu9 hb9 (by omega)
      rw [show ((kk + 9 : Nat) : Int) = (kk : Int) + 1 + 1 + 1 + 1 + 1 + 1 + 1 + 1 + 1 by omega] at CM
      have HM := hide CM
      have HCN := hide hc9
      have HSB := hide hs9
      have HGN := hide hg9
      have HON0 := hide on0
      clear CM cu9 hu9 hs9 hb9 hg9 hc9 m0 m1 m2 m3 m4 m5 m6 m7 m8 on0 HO
      go_wp2_with fail
      generalize (((((((((wr.setCell ⟨g, off + i * 11, none⟩ (.int .i64 ((kk : Int)))).setCell ⟨g, off + i * 11 + 1, none⟩ (.int .i64 ((kk : Int) + 1))).setCell ⟨g, off + i * 11 + 2, none⟩ (.bool (((kk : Int) + 1 + 1) % 3 == 0))).setCell ⟨g, off + i * 11 + 3, none⟩ (.bool (((kk : Int) + 1 + 1 + 1) % 3 == 0))).setCell ⟨g, off + i * 11 + 4, none⟩ (.int .i64 ((kk : Int) + 1 + 1 + 1 + 1))).setCell ⟨g, off + i * 11 + 5, none⟩ (.int .i64 ((kk : Int) + 1 + 1 + 1 + 1 + 1))).setCell ⟨g, off + i * 11 + 6, none⟩ (.int .i64 ((kk : Int) + 1 + 1 + 1 + 1 + 1 + 1))).setCell ⟨g, off + i * 11 + 7, none⟩ (.int .i64 ((kk : Int) + 1 + 1 + 1 + 1 + 1 + 1 + 1))).setCell ⟨g, off + i * 11 + 8, none⟩ (.int .i64 ((kk : Int) + 1 + 1 + 1 + 1 + 1 + 1 + 1 + 1))) = WA0 at *
      refine HM.out.mono ?_
      rintro e w0 ⟨rfl, hd, hx⟩
      have HX := hide (HCN.out w0 hx (by rw [HS9.out]; exact hd))
      have HOX0 := hide hx
      clear hd hx HM HCN ff au9 a0 a1 a2 a3 a4 a5 a6 a7 a8
      have HT0 : Hid (Only bs w w0) := hide (hon.trans ((HON0.out.mono (by intro x hx; rw [List.mem_singleton.1 hx]; exact HG.out)).trans (HOX0.out.mono HSB.out)))
      clear HSB HGN HOX0 HON0 hon
      obtain ⟨kb0, hnb0⟩ : ∃ x, x = kk + 9 + z9.length := ⟨_, rfl⟩
      rw [← hnb0]
      have HS10' : Hid (k + szL ((os.flatMap dPacket).take (i * 11 + 10)) = kb0 + 0) := hide (by have := HS10.out; omega)
      clear HS10
      have HS10 := HS10'
      clear HS10'
      have HFIN' : Hid (k + szL ((os.flatMap dPacket).take ((i + 1) * 11)) = kb0 + 0 + z10.length) := hide (by have := HFIN.out; omega)
      have hkb0 : kb0 + 0 + z10.length ≤ 1073741824 := by omega
      clear HFIN hnb0
      have HFIN := HFIN'
      clear HFIN'
      have ff : ∀ q, w0.frozen? ⟨g, q, none⟩ = false := fun q => HX.out.frozen q
      obtain ⟨u10, bu10, cu10, hu10, hs10, hb10, hg10, hc10⟩ := Holds.marksA (HX.out) HND.out (A := off + i * 11 + 10) (by omega) HG10.out
      have au10 := cu10
      obtain ⟨ad10, cd10, rfl⟩ := Holds.slice hu10
      have CM := markByteS_d z10 (.slice ad10 z10.length cd10) B bu10 (kb0 + 0) _ hu10 hb10 (by omega)
      rw [show ((kb0 + 0 : Nat) : Int) = (kb0 : Int) by omega] at CM
      have HM := hide CM
      have HCN := hide hc10
      have HSB := hide hs10
      have HGN := hide hg10
      clear CM cu10 hu10 hs10 hb10 hg10 hc10   HX
      go_wp2_with fail
      refine HM.out.mono ?_
      rintro e w1 ⟨rfl, hd, hx⟩
      have HX := hide (HCN.out w1 hx (by rw [HS10.out]; exact hd))
      have HOX1 := hide hx
      clear hd hx HM HCN ff au10 
      have HT1 : Hid (Only bs w w1) := hide (HT0.out.trans ((HOX1.out.mono HSB.out)))
      clear HSB HGN HOX1  HT0
      obtain ⟨kb1, hnb1⟩ : ∃ x, x = kb0 + 0 + z10.length := ⟨_, rfl⟩
      rw [← hnb1]
      have HFIN' : Hid (k + szL ((os.flatMap dPacket).take ((i + 1) * 11)) = kb1 + 0) := hide (by have := HFIN.out; omega)
      have hkb1 : kb1 + 0 ≤ 1073741824 := by omega
      clear HFIN hnb1
      have HFIN := HFIN'
      clear HFIN'
      go_wp2_with fail
      exact ⟨⟨i + 1, by omega, by rw [HFIN.out]; congr 1, by go_num, hide (by rw [show (i + 1) * 11 = i * 11 + 11 by omega]; exact HX.out), HT1.out⟩, by simp [intOf]; omega⟩
    · have hi' : i = n := by omega
      subst hi'
      have HE : Hid (mdL k (os.flatMap dPacket) (i * 11) = mkL k (os.flatMap dPacket)) := hide (mdL_end k _ _ (by rw [flat_len dPacket 11 dPacket_len, HN.out]))
      have HE2 : Hid ((os.flatMap dPacket).take (i * 11) = os.flatMap dPacket) := hide (List.take_of_length_le (by rw [flat_len dPacket 11 dPacket_len, HN.out]; exact Nat.le_refl _))
      have HFN : Hid (k + szL ((os.flatMap dPacket).take (i * 11)) = k + szL (os.flatMap dPacket)) := hide (by rw [HE2.out])
      have hbd : k + szL ((os.flatMap dPacket).take (i * 11)) ≤ 1073741824 := by rw [HFN.out]; exact HK.out
      generalize k + szL ((os.flatMap dPacket).take (i * 11)) = fin at *
      go_wp2_with fail
      go_ret
      exact ⟨ret_int (by rw [HFN.out]), by simp only [mkD]; rw [← HE.out]; exact HO.out, hon⟩
theorem markPacketS_d (os : List PacketM) (v : Value) (B : Nat) (bs : List Nat) (k : Nat) (w : World) (h : Holds w B (dPacketS os) v bs) (hnd : bs.Nodup) (hm : os.length ≤ 1073741824) (hk : k + szL (os.flatMap dPacket) ≤ 1073741824) :
    Calls Try.prog 11 #[v, .int .i64 (k : Int)] w fun e w' => e = .returned (.int .i64 ((k + szL (os.flatMap dPacket) : Nat) : Int)) ∧ Holds w' B (mkD k (dPacketS os)) v bs ∧ Only bs w w' := by
  rcases Holds.form h with ⟨rfl, h0, _⟩ | ⟨g, off, cap, rfl, _⟩
  · have e : os = [] := List.length_eq_zero_iff.1 h0
    subst e
    have CN : Calls Try.prog 11 #[.slice none 0 0, .int .i64 (k : Int)] w fun e w' => e = .returned (.int .i64 (k : Int)) ∧ w' = w := by
      go_enter Try.func11, Try.ntmps11
      go_wp2_with fail
      go_loop [1, 5] (fun s t => s = .int .i64 (k : Int) ∧ t = .int .i64 0) (fun _ _ => 0)
      case atStart => exact ⟨rfl, rfl⟩
      case round =>
        obtain ⟨rfl, rfl⟩ := hrel
        go_wp2_with fail
        go_ret
        exact ⟨rfl, rfl⟩
    refine CN.mono ?_
    rintro e w' ⟨rfl, rfl⟩
    exact ⟨by simp [szL], h, Only.refl _ _⟩
  · exact markPacketS_some g off cap _ B os bs k w rfl h hnd hm hk
set_option maxHeartbeats 8000000 in
theorem heldPacketS_some (g off cap n B : Nat) (os : List PacketM) (bs : List Nat) (k : Nat) (w : World) (hn : os.length = n) (h : Holds w B (mkD k (dPacketS os)) (.slice (some ⟨g, off, none⟩) n cap) bs) (hm : n ≤ 1073741824) (hk : k + szL (os.flatMap dPacket) ≤ 1073741824) :
    Calls Try.prog 12 #[.slice (some ⟨g, off, none⟩) n cap, .int .i64 (k : Int)] w fun e w' => e = .returned (.int .i64 ((k + szL (os.flatMap dPacket) : Nat) : Int)) ∧ w' = w := by
  unfold dPacketS at h
  simp only [mkD] at h
  rw [hn] at h
  have HN := hide hn
  have HO := hide h
  have HK := hide hk
  clear hn h hk
  go_enter Try.func12, Try.ntmps12
  go_wp2_with fail
  go_loop [1, 5] (fun s t => ∃ i : Nat, i ≤ n ∧ s = .int .i64 ((k + szL ((os.flatMap dPacket).take (i * 11)) : Nat) : Int) ∧ t = .int .i64 i) (fun _ t => n - (intOf t).toNat)
  case atStart => exact ⟨0, Nat.zero_le _, by simp [szL], rfl⟩
  case round =>
    obtain ⟨i, hi, rfl, rfl⟩ := hrel
    by_cases hlt : i < n
    · have hi2 : i < os.length := by rw [HN.out]; exact hlt
      obtain ⟨kk, hkk⟩ : ∃ kk, kk = k + szL ((os.flatMap dPacket).take (i * 11)) := ⟨_, rfl⟩
      obtain ⟨s0, s1, s2, s3, s4, s5, s6, s7, s8, s9, s10, s11⟩ := Packet_sz os i hi2 k kk hkk
      have hle := szL_take_le (os.flatMap dPacket) ((i + 1) * 11)
      have hkb : kk + 9 + os[i].f9.length + os[i].f10.length ≤ 1073741824 := by have := HK.out; omega
      rw [← hkk]
      have HFIN := hide s11
      have g0 := mkL_get _ k _ _ (Packet_at0 os i hi2)
      rw [s0] at g0
      have g1 := mkL_get _ k _ _ (Packet_at1 os i hi2)
      rw [s1] at g1
      have g2 := mkL_get _ k _ _ (Packet_at2 os i hi2)
      rw [s2] at g2
      have g3 := mkL_get _ k _ _ (Packet_at3 os i hi2)
      rw [s3] at g3
      have g4 := mkL_get _ k _ _ (Packet_at4 os i hi2)
      rw [s4] at g4
      have g5 := mkL_get _ k _ _ (Packet_at5 os i hi2)
      rw [s5] at g5
      have g6 := mkL_get _ k _ _ (Packet_at6 os i hi2)
      rw [s6] at g6
      have g7 := mkL_get _ k _ _ (Packet_at7 os i hi2)
      rw [s7] at g7
      have g8 := mkL_get _ k _ _ (Packet_at8 os i hi2)
      rw [s8] at g8
      have g9 := mkL_get _ k _ _ (Packet_at9 os i hi2)
      rw [s9] at g9
      have g10 := mkL_get _ k _ _ (Packet_at10 os i hi2)
      rw [s10] at g10
      clear s0 s1 s2 s3 s4 s5 s6 s7 s8 s9 s10 s11 hle hkk
      generalize hz9 : os[i].f9 = z9 at *
      clear hz9
      generalize hz10 : os[i].f10 = z10 at *
      clear hz10
      obtain ⟨kb0, hkb0⟩ : ∃ x, x = kk + 9 + z9.length := ⟨_, rfl⟩
      obtain ⟨kb1, hkb1⟩ : ∃ x, x = kb0 + 0 + z10.length := ⟨_, rfl⟩
      have a0 : w.cell? ⟨g, off + i * 11, none⟩ = some (.int .i64 ((kk : Int))) := by rw [HO.out.cellA (A := off + i * 11) (m := i * 11) (by omega) g0, mkV_i64]; congr 2 <;> omega
      have a1 : w.cell? ⟨g, off + i * 11 + 1, none⟩ = some (.int .i64 ((kk : Int) + 1)) := by rw [HO.out.cellA (A := off + i * 11 + 1) (m := i * 11 + 1) (by omega) g1, mkV_i64]; congr 2 <;> omega
      have a2 : w.cell? ⟨g, off + i * 11 + 2, none⟩ = some (.bool (((kk : Int) + 1 + 1) % 3 == 0)) := by rw [HO.out.cellA (A := off + i * 11 + 2) (m := i * 11 + 2) (by omega) g2, mkV_bool, ← mark_bool]; congr 4 <;> omega
      have a3 : w.cell? ⟨g, off + i * 11 + 3, none⟩ = some (.bool (((kk : Int) + 1 + 1 + 1) % 3 == 0)) := by rw [HO.out.cellA (A := off + i * 11 + 3) (m := i * 11 + 3) (by omega) g3, mkV_bool, ← mark_bool]; congr 4 <;> omega
      have a4 : w.cell? ⟨g, off + i * 11 + 4, none⟩ = some (.int .i64 ((kk : Int) + 1 + 1 + 1 + 1)) := by rw [HO.out.cellA (A := off + i * 11 + 4) (m := i * 11 + 4) (by omega) g4, mkV_i64]; congr 2 <;> omega
      have a5 : w.cell? ⟨g, off + i * 11 + 5, none⟩ = some (.int .i64 ((kk : Int) + 1 + 1 + 1 + 1 + 1)) := by rw [HO.out.cellA (A := off + i * 11 + 5) (m := i * 11 + 5) (by omega) g5, mkV_i64]; congr 2 <;> omega
      have a6 : w.cell? ⟨g, off + i * 11 + 6, none⟩ = some (.int .i64 ((kk : Int) + 1 + 1 + 1 + 1 + 1 + 1)) := by rw [HO.out.cellA (A := off + i * 11 + 6) (m := i * 11 + 6) (by omega) g6, mkV_i64]; congr 2 <;> omega
      have a7 : w.cell? ⟨g, off + i * 11 + 7, none⟩ = some (.int .i64 ((kk : Int) + 1 + 1 + 1 + 1 + 1 + 1 + 1)) := by rw [HO.out.cellA (A := off + i * 11 + 7) (m := i * 11 + 7) (by omega) g7, mkV_i64]; congr 2 <;> omega
      have a8 : w.cell? ⟨g, off + i * 11 + 8, none⟩ = some (.int .i64 ((kk : Int) + 1 + 1 + 1 + 1 + 1 + 1 + 1 + 1)) := by rw [HO.out.cellA (A := off + i * 11 + 8) (m := i * 11 + 8) (by omega) g8, mkV_i64]; congr 2 <;> omega
      obtain ⟨u9, bu9, a9, hu9⟩ := HO.out.subA (A := off + i * 11 + 9) (m := i * 11 + 9) (by omega) g9
      obtain ⟨ad9, cd9, rfl⟩ := Holds.slice hu9
      have CM9 := heldByteS_d z9 _ B bu9 (kk + 9) w (by rw [show kk + 9 = kk + 9 by omega]; exact hu9) (by omega)
      rw [show ((kk + 9 : Nat) : Int) = (kk : Int) + 1 + 1 + 1 + 1 + 1 + 1 + 1 + 1 + 1 by omega] at CM9
      have HM9 := hide CM9
      clear CM9 hu9
      obtain ⟨u10, bu10, a10, hu10⟩ := HO.out.subA (A := off + i * 11 + 10) (m := i * 11 + 10) (by omega) g10
      obtain ⟨ad10, cd10, rfl⟩ := Holds.slice hu10
      have CM10 := heldByteS_d z10 _ B bu10 (kb0 + 0) w (by rw [show kb0 + 0 = kk + 9 + z9.length by omega]; exact hu10) (by omega)
      rw [show ((kb0 + 0 : Nat) : Int) = (kb0 : Int) by omega] at CM10
      have HM10 := hide CM10
      clear CM10 hu10
      have HFIN' : Hid (k + szL ((os.flatMap dPacket).take ((i + 1) * 11)) = kb1 + 0) := hide (by have := HFIN.out; omega)
      have hbb0 : kb0 ≤ 1073741824 := by omega
      have hbb1 : kb1 ≤ 1073741824 := by omega
      have HKB0 := hide hkb0
      have HKB1 := hide hkb1
      clear hkb0 hkb1
      clear HFIN g0 g1 g2 g3 g4 g5 g6 g7 g8 g9 g10 
      go_wp2_with fail
      refine HM9.out.mono ?_
      rintro e v ⟨rfl, hv⟩
      rw [hv, ← HKB0.out]
      clear hv
      go_wp2_with fail
      refine HM10.out.mono ?_
      rintro e v ⟨rfl, hv⟩
      rw [hv, ← HKB1.out]
      clear hv
      go_wp2_with fail
      exact ⟨⟨i + 1, by omega, by rw [HFIN'.out]; congr 1, by go_num⟩, by simp [intOf]; omega⟩
    · have hi' : i = n := by omega
      subst hi'
      have HE2 : Hid ((os.flatMap dPacket).take (i * 11) = os.flatMap dPacket) := hide (List.take_of_length_le (by rw [flat_len dPacket 11 dPacket_len, HN.out]; exact Nat.le_refl _))
      have HFN : Hid (k + szL ((os.flatMap dPacket).take (i * 11)) = k + szL (os.flatMap dPacket)) := hide (by rw [HE2.out])
      have hbd : k + szL ((os.flatMap dPacket).take (i * 11)) ≤ 1073741824 := by rw [HFN.out]; exact HK.out
      generalize k + szL ((os.flatMap dPacket).take (i * 11)) = fin at *
      go_wp2_with fail
      go_ret
      exact ⟨ret_int (by have := HFN.out; omega), rfl⟩
theorem heldPacketS_d (os : List PacketM) (v : Value) (B : Nat) (bs : List Nat) (k : Nat) (w : World) (h : Holds w B (mkD k (dPacketS os)) v bs) (hm : os.length ≤ 1073741824) (hk : k + szL (os.flatMap dPacket) ≤ 1073741824) :
    Calls Try.prog 12 #[v, .int .i64 (k : Int)] w fun e w' => e = .returned (.int .i64 ((k + szL (os.flatMap dPacket) : Nat) : Int)) ∧ w' = w := by
  have h' : Holds w B (.s 29 11 os.length (mkL k (os.flatMap dPacket))) v bs := h
  rcases Holds.form h' with ⟨rfl, h0, _⟩ | ⟨g, off, cap, rfl, _⟩
  · have e : os = [] := List.length_eq_zero_iff.1 h0
    subst e
    have CN : Calls Try.prog 12 #[.slice none 0 0, .int .i64 (k : Int)] w fun e w' => e = .returned (.int .i64 (k : Int)) ∧ w' = w := by
      go_enter Try.func12, Try.ntmps12
      go_wp2_with fail
      go_loop [1, 5] (fun s t => s = .int .i64 (k : Int) ∧ t = .int .i64 0) (fun _ _ => 0)
      case atStart => exact ⟨rfl, rfl⟩
      case round =>
        obtain ⟨rfl, rfl⟩ := hrel
        go_wp2_with fail
        go_ret
        exact ⟨rfl, rfl⟩
    refine CN.mono ?_
    rintro e w' ⟨rfl, rfl⟩
    exact ⟨by simp [szL], rfl⟩
  · exact heldPacketS_some g off cap _ B os bs k w rfl h hm hk
theorem eqPacket_d (o : PacketM) (B1 B2 : Nat) (w : World) (u9 v9 : Value) (bu9 bv9 : List Nat) (hu9 : Holds w B1 (bytesD o.f9) u9 bu9) (hv9 : Holds w B2 (bytesD o.f9) v9 bv9) (u10 v10 : Value) (bu10 bv10 : List Nat) (hu10 : Holds w B1 (bytesD o.f10) u10 bu10) (hv10 : Holds w B2 (bytesD o.f10) v10 bv10) (hok : okPacket o) :
    Calls Try.prog 9 #[.agg #[.int .i64 o.f0, .int .i64 o.f1, .bool o.f2, .bool o.f3, .int .i64 o.f4, .int .i64 o.f5, .int .i64 o.f6, .int .i64 o.f7, .int .i64 o.f8, u9, u10], .agg #[.int .i64 o.f0, .int .i64 o.f1, .bool o.f2, .bool o.f3, .int .i64 o.f4, .int .i64 o.f5, .int .i64 o.f6, .int .i64 o.f7, .int .i64 o.f8, v9, v10]] w fun e w' => e = .returned (.bool true) ∧ Below w.heap.size w w' := by
  obtain ⟨hz9, hm9, hz10, hm10⟩ := hok
  obtain ⟨a9, c9, rfl, k9⟩ := bytes_arr hu9 hz9
  obtain ⟨b9, d9, rfl, l9⟩ := bytes_arr hv9 hz9
  obtain ⟨a10, c10, rfl, k10⟩ := bytes_arr hu10 hz10
  obtain ⟨b10, d10, rfl, l10⟩ := bytes_arr hv10 hz10
  exact eqPacket_walk o.f0 o.f1 o.f2 o.f3 o.f4 o.f5 o.f6 o.f7 o.f8 a9 _ c9 a10 _ c10 b9 d9 b10 d10 o.f9 o.f10 w rfl k9 l9 hm9 rfl k10 l10 hm10
set_option maxHeartbeats 8000000 in
theorem eqPacketS_d (os : List PacketM) (v1 v2 : Value) (B1 B2 : Nat) (f1 f2 : List Nat) (w : World) (h1 : Holds w B1 (dPacketS os) v1 f1) (h2 : Holds w B2 (dPacketS os) v2 f2) (hok : ∀ o ∈ os, okPacket o) (hm : os.length ≤ 1073741824) :
    Calls Try.prog 8 #[v1, v2] w fun e w' => e = .returned (.bool true) ∧ Below w.heap.size w w' := by
  obtain ⟨a1, c1, rfl⟩ := Holds.slice h1
  obtain ⟨a2, c2, rfl⟩ := Holds.slice h2
  have H1 := hide h1
  have H2 := hide h2
  have HOK := hide hok
  clear h1 h2 hok
  obtain ⟨n, hn⟩ : ∃ n, n = os.length := ⟨_, rfl⟩
  rw [← hn] at hm ⊢
  have HN := hide hn
  unfold dPacketS at H1 H2
  rw [← hn] at H1 H2
  clear hn
  go_enter Try.func8, Try.ntmps8
  go_wp2_with fail
  go_loopw [5] (fun t w2 => ∃ i : Nat, i ≤ n ∧ t = .int .i64 i ∧ Below w.heap.size w w2) (fun t _ => n - (intOf t).toNat)
  case atStart => exact ⟨0, Nat.zero_le _, rfl, Below.refl _ _⟩
  case round =>
    obtain ⟨i, hi, rfl, hbel⟩ := hrel
    by_cases hlt : i < n
    · have hi2 : i < os.length := by rw [← HN.out]; exact hlt
      have K1 := H1.out.next hbel
      have K2 := H2.out.next hbel
      rcases Holds.form K1 with ⟨_, h0, _⟩ | ⟨g1, o1, k1, e1, _⟩
      · omega
      rcases Holds.form K2 with ⟨_, h0, _⟩ | ⟨g2, o2, k2, e2, _⟩
      · omega
      cases e1
      cases e2
      have hok := HOK.out os[i] (List.getElem_mem hi2)
      have p0 := cell_regrown (K1.cellA (A := o1 + i * 11) (m := i * 11) (by omega) (Packet_at0 os i hi2))
      have q0 := cell_regrown (K2.cellA (A := o2 + i * 11) (m := i * 11) (by omega) (Packet_at0 os i hi2))
      have p1 := cell_regrown (K1.cellA (A := o1 + i * 11 + 1) (m := i * 11 + 1) (by omega) (Packet_at1 os i hi2))
      have q1 := cell_regrown (K2.cellA (A := o2 + i * 11 + 1) (m := i * 11 + 1) (by omega) (Packet_at1 os i hi2))
      have p2 := cell_regrown (K1.cellA (A := o1 + i * 11 + 2) (m := i * 11 + 2) (by omega) (Packet_at2 os i hi2))
      have q2 := cell_regrown (K2.cellA (A := o2 + i * 11 + 2) (m := i * 11 + 2) (by omega) (Packet_at2 os i hi2))
      have p3 := cell_regrown (K1.cellA (A := o1 + i * 11 + 3) (m := i * 11 + 3) (by omega) (Packet_at3 os i hi2))
      have q3 := cell_regrown (K2.cellA (A := o2 + i * 11 + 3) (m := i * 11 + 3) (by omega) (Packet_at3 os i hi2))
      have p4 := cell_regrown (K1.cellA (A := o1 + i * 11 + 4) (m := i * 11 + 4) (by omega) (Packet_at4 os i hi2))
      have q4 := cell_regrown (K2.cellA (A := o2 + i * 11 + 4) (m := i * 11 + 4) (by omega) (Packet_at4 os i hi2))
      have p5 := cell_regrown (K1.cellA (A := o1 + i * 11 + 5) (m := i * 11 + 5) (by omega) (Packet_at5 os i hi2))
      have q5 := cell_regrown (K2.cellA (A := o2 + i * 11 + 5) (m := i * 11 + 5) (by omega) (Packet_at5 os i hi2))
      have p6 := cell_regrown (K1.cellA (A := o1 + i * 11 + 6) (m := i * 11 + 6) (by omega) (Packet_at6 os i hi2))
      have q6 := cell_regrown (K2.cellA (A := o2 + i * 11 + 6) (m := i * 11 + 6) (by omega) (Packet_at6 os i hi2))
      have p7 := cell_regrown (K1.cellA (A := o1 + i * 11 + 7) (m := i * 11 + 7) (by omega) (Packet_at7 os i hi2))
      have q7 := cell_regrown (K2.cellA (A := o2 + i * 11 + 7) (m := i * 11 + 7) (by omega) (Packet_at7 os i hi2))
      have p8 := cell_regrown (K1.cellA (A := o1 + i * 11 + 8) (m := i * 11 + 8) (by omega) (Packet_at8 os i hi2))
      have q8 := cell_regrown (K2.cellA (A := o2 + i * 11 + 8) (m := i * 11 + 8) (by omega) (Packet_at8 os i hi2))
      obtain ⟨u9, bu9, cu9, hu9⟩ := K1.subA (A := o1 + i * 11 + 9) (m := i * 11 + 9) (by omega) (Packet_at9 os i hi2)
      obtain ⟨v9, bv9, cv9, hv9⟩ := K2.subA (A := o2 + i * 11 + 9) (m := i * 11 + 9) (by omega) (Packet_at9 os i hi2)
      have p9 := cell_regrown cu9
      have q9 := cell_regrown cv9
      obtain ⟨u10, bu10, cu10, hu10⟩ := K1.subA (A := o1 + i * 11 + 10) (m := i * 11 + 10) (by omega) (Packet_at10 os i hi2)
      obtain ⟨v10, bv10, cv10, hv10⟩ := K2.subA (A := o2 + i * 11 + 10) (m := i * 11 + 10) (by omega) (Packet_at10 os i hi2)
      have p10 := cell_regrown cu10
      have q10 := cell_regrown cv10
      have cE : ∀ d q, Calls Try.prog 9 #[.agg #[.int .i64 os[i].f0, .int .i64 os[i].f1, .bool os[i].f2, .bool os[i].f3, .int .i64 os[i].f4, .int .i64 os[i].f5, .int .i64 os[i].f6, .int .i64 os[i].f7, .int .i64 os[i].f8, u9, u10], .agg #[.int .i64 os[i].f0, .int .i64 os[i].f1, .bool os[i].f2, .bool os[i].f3, .int .i64 os[i].f4, .int .i64 os[i].f5, .int .i64 os[i].f6, .int .i64 os[i].f7, .int .i64 os[i].f8, v9, v10]] (Go.Sort.grow (redrawn wr d) q) fun e w'' => e = .returned (.bool true) ∧ ∃ p : Regrown, w'' = Go.Sort.grow (redrawn wr p.d) p.os := fun d q => Calls.regrown_of (by
        have hn := below_regrown wr d q
        exact eqPacket_d os[i] B1 B2 (Go.Sort.grow (redrawn wr d) q) u9 v9 bu9 bv9 (Holds.next hu9 hn) (Holds.next hv9 hn) u10 v10 bu10 bv10 (Holds.next hu10 hn) (Holds.next hv10 hn) hok)
      generalize os[i].f0 = z0 at *
      generalize os[i].f1 = z1 at *
      generalize os[i].f2 = z2 at *
      generalize os[i].f3 = z3 at *
      generalize os[i].f4 = z4 at *
      generalize os[i].f5 = z5 at *
      generalize os[i].f6 = z6 at *
      generalize os[i].f7 = z7 at *
      generalize os[i].f8 = z8 at *
      have hsu9 := Holds.slice hu9
      have hsv9 := Holds.slice hv9
      have hsu10 := Holds.slice hu10
      have hsv10 := Holds.slice hv10
      clear cu9 cv9 hu9 hv9 cu10 cv10 hu10 hv10 K1 K2 H1 H2 hok
      obtain ⟨x9, y9, rfl⟩ : ∃ a c, u9 = Value.slice a os[i].f9.length c := hsu9
      obtain ⟨x9', y9', rfl⟩ : ∃ a c, v9 = Value.slice a os[i].f9.length c := hsv9
      obtain ⟨x10, y10, rfl⟩ : ∃ a c, u10 = Value.slice a os[i].f10.length c := hsu10
      obtain ⟨x10', y10', rfl⟩ : ∃ a c, v10 = Value.slice a os[i].f10.length c := hsv10
      go_wp2_with fail
      refine wp_region_quiet_below (by kernel_rfl) (by kernel_rfl) ?_
      repeat (first | go_big_quiet_step ((go_at_call 9; exact cE _ _)) | quiet_step ((go_at_call 9; exact cE _ _)))
      refine wpQuiet_nil ?_
      intro _ hw'
      obtain ⟨⟨dq, osq⟩, hw''⟩ := hw'
      subst hw''
      go_wp2
      exact ⟨⟨i + 1, by omega, by go_num, below_then hbel dq osq⟩, by simp [intOf]; omega⟩
    · go_wp2
      go_ret
      exact ⟨rfl, hbel⟩
end Go.Proofs.Ytednldijgijheaa
