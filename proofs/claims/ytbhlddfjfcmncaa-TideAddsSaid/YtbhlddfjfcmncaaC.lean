import Derived.Test.YtbhlddfjfcmncaaB
import Derived.WalkKit
import Derived.WalkSpells
import Derived.WalkLawsBesides
import Derived.BigQuiet
import Derived.Deep.QuietTactic
import Derived.Lib.Hide
import Derived.StillTailTactics
import Derived.Lib.SlBytesRow
namespace Go.Proofs.Ytbhlddfjfcmncaa
open Go.RowKit
/-- the string of the bytes l -/
def toS (l : List UInt8) : ByteArray := ⟨l.toArray⟩
theorem toS_size (l : List UInt8) : (toS l).size = l.length := by unfold toS; show l.toArray.size = _; simp
theorem toS_list (l : List UInt8) : (toS l).data.toList = l := by unfold toS; simp

theorem AtB.bytes {w : World} {b o : Nat} {l : List UInt8} (h : AtB w b o l) : Lib.Bytes w b o (toS l) := fun i hi => by
  have hi' : i < l.length := by rw [toS_size] at hi; exact hi
  rw [h i hi']; rfl

theorem conv_any (b o n c : Nat) (l : List UInt8) (w : World) (hn : l.length = n) (hat : AtB w b o l) :
    (convert 85 9 (.slice (some ⟨b, o, none⟩) n c)).run Try.prog w = .ok (.string (toS l)) w := by
  have h := Lib.run_convert_whole (P := Try.prog) w 85 5 9 Try.underlying85 Try.underlying5 Try.underlying9 b o (toS l) hat.bytes c
  rw [toS_size, hn] at h; exact h

theorem cell_of_heap {w W : World} (h : W.heap = w.heap) (a : Addr) : W.cell? a = w.cell? a := World.cell?_of_block (w := w) (by rw [h])
theorem AtB.heap {w W : World} {b o : Nat} {l : List UInt8} (h : AtB w b o l) (hh : W.heap = w.heap) : AtB W b o l := fun i hi => by
  rw [cell_of_heap hh]; exact h i hi

def backL (l : List UInt8) (round : Nat) : Nat → Nat
  | 0 => 0
  | k + 1 => if l[k]?.getD 0 == l[k + round]?.getD 0 then backL l round k else k + 1
theorem backL_le (l : List UInt8) (round : Nat) : ∀ k, backL l round k ≤ k
  | 0 => Nat.le_refl _
  | k + 1 => by
    unfold backL; split
    · exact Nat.le_succ_of_le (backL_le l round k)
    · exact Nat.le_refl _

theorem shortFrom_le (l : List UInt8) : ∀ fuel n, n ≤ shortFrom l fuel n ∧ shortFrom l fuel n ≤ n + fuel
  | 0, n => ⟨Nat.le_refl _, Nat.le_refl _⟩
  | fuel + 1, n => by
    unfold shortFrom; split
    · exact ⟨Nat.le_refl _, by omega⟩
    · have := shortFrom_le l fuel (n + 1); omega
theorem shortestL_le (l : List UInt8) (h : 1 ≤ l.length) : 1 ≤ shortestL l ∧ shortestL l ≤ l.length := by
  have := shortFrom_le l (l.length - 1) 1; unfold shortestL; omega

/-- what formOf makes -/
def formK (l : List UInt8) (first : Nat) : Nat := backL l (shortestL (l.drop first)) first
def formF (l : List UInt8) (first : Nat) : List UInt8 := l.take (formK l first)
def formR (l : List UInt8) (first : Nat) : List UInt8 := (l.drop (formK l first)).take (shortestL (l.drop first))

theorem enc_eq (a b : UInt8) : ((((a.toNat : Nat) : Int)) == ((b.toNat : Nat) : Int)) = (a == b) := by
  rw [Bool.eq_iff_iff, beq_iff_eq, beq_iff_eq, ← UInt8.toNat_inj]; omega

theorem getD_of_lt {l : List UInt8} {k : Nat} (h : k < l.length) : l[k]?.getD 0 = l[k] := by simp [h]

theorem backL_step {l : List UInt8} {rd k : Nat} {v : Bool} (hk : 1 ≤ k) (h1 : k - 1 < l.length) (h2 : k - 1 + rd < l.length) (h : (l[k - 1] == l[k - 1 + rd]) = v) :
    backL l rd k = if v then backL l rd (k - 1) else k := by
  obtain ⟨j, rfl⟩ : ∃ j, k = j + 1 := ⟨k - 1, by omega⟩
  simp only [Nat.add_sub_cancel] at h1 h2 h ⊢
  rw [backL, getD_of_lt h1, getD_of_lt h2, h]

set_option maxRecDepth 100000 in
set_option maxHeartbeats 400000 in
theorem formOf_any (b o n c first : Nat) (l : List UInt8) (w : World) (hn : l.length = n) (hf : first < n) (hl : n ≤ 1000000) (hc : n ≤ c) (hat : AtB w b o l) (hb : b < w.heap.size) :
    Calls Try.prog 72 #[.slice (some ⟨b, o, none⟩) n c, .int .i64 first] w fun e w' => e = .returned (.agg #[.string (toS (formF l first)), .string (toS (formR l first))]) ∧ Below w.heap.size w w' := by
  have H1 := Lib.hid hat
  have N1 := Lib.hid hn
  have D1 : Hid ((l.drop first).length = n - first) := Lib.hid (by rw [List.length_drop, hn])
  have SL := shortestL_le (l.drop first) (by rw [List.length_drop]; omega)
  rw [D1.out] at SL
  obtain ⟨sl1, sl2⟩ := SL
  clear hat hn
  have s1 := fun w => slice_from b o n c first (by omega) (by omega) w
  go_enter Try.func72, Try.ntmps72
  go_wp2_with fail
  clear s1
  have At2 := Lib.hid (H1.out.below ((Below.refl w.heap.size w).alloc (Nat.le_refl _) (.cells #[.string { data := #[] }, .string { data := #[] }] 23)) hb)
  refine (shortest_any b (o + first) (c - first) (n - first) (l.drop first) _ D1.out (by omega) (by omega) (by omega) (At2.out.drop first)).mono ?_
  rintro e w1 ⟨rfl, hw1⟩
  have HW1 := Lib.hid hw1
  clear hw1
  have K0 : Hid (backL l (shortestL (l.drop first)) first = formK l first) := Lib.hid rfl
  have FR : Hid (formR l first = (l.drop (formK l first)).take (shortestL (l.drop first))) := Lib.hid rfl
  have FK := Lib.hid (backL_le l (shortestL (l.drop first)) first)
  clear D1
  generalize shortestL (l.drop first) = rd at *
  go_wp2_with fail
  go_loopw [1] (fun i wr => ∃ k : Nat, k ≤ first ∧ i = .int .i64 k ∧ Hid (backL l rd k = formK l first) ∧ Hid (∃ q, wr = (w.alloc (.cells #[.string { data := #[] }, .string { data := #[] }] 23)).drewN q)) (fun i _ => (intOf i).toNat)
  case atStart => exact ⟨first, Nat.le_refl _, rfl, K0, HW1⟩
  case round =>
    obtain ⟨k, hk, rfl, hK, hw⟩ := hrel
    have A1 : Hid (AtB wr b o l) := by obtain ⟨q, rfl⟩ := hw.out; exact Lib.hid (At2.out.drewN q)
    clear HW1 K0 At2
    have B1 : Hid (Below w.heap.size w wr) := by obtain ⟨q, rfl⟩ := hw.out; exact Lib.hid (below_drewN ((Below.refl _ _).alloc (Nat.le_refl _) _) q)
    have c0 : wr.cell? ⟨w.heap.size, 0, none⟩ = some (.string { data := #[] }) := by obtain ⟨q, rfl⟩ := hw.out; simp
    have c1 : wr.cell? ⟨w.heap.size, 1, none⟩ = some (.string { data := #[] }) := by obtain ⟨q, rfl⟩ := hw.out; simp
    have f0 : wr.frozen? ⟨w.heap.size, 0, none⟩ = false := by obtain ⟨q, rfl⟩ := hw.out; simp
    have f1 : wr.frozen? ⟨w.heap.size, 1, none⟩ = false := by obtain ⟨q, rfl⟩ := hw.out; simp
    by_cases hz : k = 0
    · have t1 : decide (0 < k) = false := by simp [hz]
      have hkf : Hid (k = formK l first) := Lib.hid (by rw [← hK.out, hz]; rfl)
      clear hz hw hK
      go_wp2
      go_quiet (fail)
      go_wp2
      obtain ⟨wq, hwq⟩ : ∃ wq, wq = wr.drewN nq := ⟨_, rfl⟩
      rw [← hwq]
      have B2 : Hid (Below w.heap.size w wq) := Lib.hid (by rw [hwq]; exact below_drewN B1.out _)
      have A2 : Hid (AtB wq b o l) := Lib.hid (by rw [hwq]; exact A1.out.drewN _)
      have d0 : wq.cell? ⟨w.heap.size, 0, none⟩ = some (.string { data := #[] }) := by rw [hwq]; simpa using c0
      have d1 : wq.cell? ⟨w.heap.size, 1, none⟩ = some (.string { data := #[] }) := by rw [hwq]; simpa using c1
      have g0 : wq.frozen? ⟨w.heap.size, 0, none⟩ = false := by rw [hwq]; simpa using f0
      have g1 : wq.frozen? ⟨w.heap.size, 1, none⟩ = false := by rw [hwq]; simpa using f1
      clear hwq c0 c1 f0 f1 B1 A1
      have s1 := fun w => slice_to_to b o n c k (by omega) w
      have s2 : ∀ w, (Instr.slice 85 (.slice (some ⟨b, o, none⟩) n c) (some (.int .i64 (k : Int))) (some (.int .i64 ((k : Int) + (rd : Int)))) (some (.int .i64 ((k : Int) + (rd : Int))))).run Try.prog w = .ok (.slice (some ⟨b, o + k, none⟩) rd rd) w := fun w => by
        have := slice_mid b o n c k (k + rd) (by omega) (by omega) w
        rw [show k + rd - k = rd by omega, show ((k + rd : Nat) : Int) = (k : Int) + (rd : Int) by omega] at this; exact this
      have v1 : (convert 85 9 (.slice (some ⟨b, o, none⟩) k k)).run Try.prog wq.drew = .ok (.string (toS (formF l first))) wq.drew := by
        have := conv_any b o k k (l.take k) wq.drew (by rw [List.length_take, N1.out]; omega) ((A2.out.take k).heap rfl)
        unfold formF; rw [← hkf.out]; exact this
      have v2 : (convert 85 9 (.slice (some ⟨b, o + k, none⟩) rd rd)).run Try.prog wq.drew = .ok (.string (toS (formR l first))) wq.drew := by
        have := conv_any b (o + k) rd rd ((l.drop k).take rd) wq.drew (by rw [List.length_take, List.length_drop, N1.out]; omega) (((A2.out.drop k).take rd).heap rfl)
        rw [FR.out, ← hkf.out]; exact this
      obtain ⟨SF, hSF⟩ : ∃ SF, SF = toS (formF l first) := ⟨_, rfl⟩
      obtain ⟨SR, hSR⟩ : ∃ SR, SR = toS (formR l first) := ⟨_, rfl⟩
      rw [← hSF] at v1
      rw [← hSR] at v2
      have HSF := Lib.hid hSF
      have HSR := Lib.hid hSR
      clear hSF hSR
      go_still_tail 12, (by kernel_rfl)
      go_wp2
      exact bodyPost_ret (v := .agg #[.string SF, .string SR]) (by simp [results, Try.results72, go_sem, d0, d1]) rfl ⟨by rw [HSF.out, HSR.out], ((B2.out.setCell (p := ⟨w.heap.size, 0, none⟩) (Nat.le_refl _) _).setCell (p := ⟨w.heap.size, 1, none⟩) (Nat.le_refl _) _).drew⟩
    · have t1 : decide (0 < k) = true := by simp; omega
      have hk1 : 1 ≤ k := by omega
      have L1 : k - 1 < l.length := by rw [N1.out]; omega
      have L2 : k - 1 + rd < l.length := by rw [N1.out]; omega
      have a1 := A1.out (k - 1) L1
      have a2 := A1.out (k - 1 + rd) L2
      have E := Lib.hid (enc_eq (l[k - 1]) (l[k - 1 + rd]))
      unfold encB at a1 a2
      have HB : ∀ v : Bool, Hid ((l[k - 1] == l[k - 1 + rd]) = v → backL l rd k = if v then backL l rd (k - 1) else k) := fun v => Lib.hid (fun h =>
        backL_step hk1 L1 L2 h)
      have HB' := Lib.hid HB
      clear HB hz
      generalize l[k - 1] = x at *
      generalize l[k - 1 + rd] = y at *
      cases hb : (((x.toNat : Nat) : Int) == ((y.toNat : Nat) : Int))
      · have hkf : Hid (k = formK l first) := Lib.hid (by rw [← hK.out, (HB'.out false).out (by rw [← E.out, hb])]; rfl)
        clear hw hK
        go_wp2
        go_quiet (fail)
        go_wp2
        obtain ⟨wq, hwq⟩ : ∃ wq, wq = wr.drewN nq := ⟨_, rfl⟩
        rw [← hwq]
        have B2 : Hid (Below w.heap.size w wq) := Lib.hid (by rw [hwq]; exact below_drewN B1.out _)
        have A2 : Hid (AtB wq b o l) := Lib.hid (by rw [hwq]; exact A1.out.drewN _)
        have d0 : wq.cell? ⟨w.heap.size, 0, none⟩ = some (.string { data := #[] }) := by rw [hwq]; simpa using c0
        have d1 : wq.cell? ⟨w.heap.size, 1, none⟩ = some (.string { data := #[] }) := by rw [hwq]; simpa using c1
        have g0 : wq.frozen? ⟨w.heap.size, 0, none⟩ = false := by rw [hwq]; simpa using f0
        have g1 : wq.frozen? ⟨w.heap.size, 1, none⟩ = false := by rw [hwq]; simpa using f1
        clear hwq c0 c1 f0 f1 B1 A1
        have s1 := fun w => slice_to_to b o n c k (by omega) w
        have s2 : ∀ w, (Instr.slice 85 (.slice (some ⟨b, o, none⟩) n c) (some (.int .i64 (k : Int))) (some (.int .i64 ((k : Int) + (rd : Int)))) (some (.int .i64 ((k : Int) + (rd : Int))))).run Try.prog w = .ok (.slice (some ⟨b, o + k, none⟩) rd rd) w := fun w => by
          have := slice_mid b o n c k (k + rd) (by omega) (by omega) w
          rw [show k + rd - k = rd by omega, show ((k + rd : Nat) : Int) = (k : Int) + (rd : Int) by omega] at this; exact this
        have v1 : (convert 85 9 (.slice (some ⟨b, o, none⟩) k k)).run Try.prog wq.drew = .ok (.string (toS (formF l first))) wq.drew := by
          have := conv_any b o k k (l.take k) wq.drew (by rw [List.length_take, N1.out]; omega) ((A2.out.take k).heap rfl)
          unfold formF; rw [← hkf.out]; exact this
        have v2 : (convert 85 9 (.slice (some ⟨b, o + k, none⟩) rd rd)).run Try.prog wq.drew = .ok (.string (toS (formR l first))) wq.drew := by
          have := conv_any b (o + k) rd rd ((l.drop k).take rd) wq.drew (by rw [List.length_take, List.length_drop, N1.out]; omega) (((A2.out.drop k).take rd).heap rfl)
          rw [FR.out, ← hkf.out]; exact this
        obtain ⟨SF, hSF⟩ : ∃ SF, SF = toS (formF l first) := ⟨_, rfl⟩
        obtain ⟨SR, hSR⟩ : ∃ SR, SR = toS (formR l first) := ⟨_, rfl⟩
        rw [← hSF] at v1
        rw [← hSR] at v2
        have HSF := Lib.hid hSF
        have HSR := Lib.hid hSR
        clear hSF hSR
        go_still_tail 12, (by kernel_rfl)
        go_wp2
        exact bodyPost_ret (v := .agg #[.string SF, .string SR]) (by simp [results, Try.results72, go_sem, d0, d1]) rfl ⟨by rw [HSF.out, HSR.out], ((B2.out.setCell (p := ⟨w.heap.size, 0, none⟩) (Nat.le_refl _) _).setCell (p := ⟨w.heap.size, 1, none⟩) (Nat.le_refl _) _).drew⟩
      · have hkf : Hid (backL l rd (k - 1) = formK l first) := Lib.hid (by rw [← hK.out, (HB'.out true).out (by rw [← E.out, hb])]; rfl)
        have e3 : ((k : Int) - 1) = ((k - 1 : Nat) : Int) := by omega
        have e3' := Lib.hid e3
        clear e3 c0 c1 f0 f1
        go_wp2
        go_quiet (fail)
        go_wp2
        go_roundw
        case rel => exact ⟨k - 1, by omega, by rw [e3'.out], hkf, Lib.hid (by obtain ⟨q, rfl⟩ := hw.out; exact ⟨_, drewN_drewN _ _ _⟩)⟩
        case measure => simp [intOf]; omega
end Go.Proofs.Ytbhlddfjfcmncaa
