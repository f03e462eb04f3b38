import Derived.Test.YtbhlddfjfcmncaaC
import Derived.WalkKit
import Derived.WalkSpells
import Derived.WalkLawsBesides
import Derived.BigQuiet
import Derived.Deep.QuietTactic
import Derived.Lib.Hide
import Derived.StillTailTactics
import Derived.Lib.SlBytesRow
namespace Go.Proofs.Ytbhlddfjfcmncaa
open Go.RowKit
def TidesAt (w : World) (b : Nat) (ts : List (ByteArray × ByteArray)) : Prop :=
  ∀ i (h : i < ts.length), w.cell? ⟨b, i * 2, none⟩ = some (.string ts[i].1) ∧ w.cell? ⟨b, i * 2 + 1, none⟩ = some (.string ts[i].2)
theorem TidesAt.below {B : Nat} {w w' : World} {b : Nat} {ts : List (ByteArray × ByteArray)} (h : TidesAt w b ts) (hb : Below B w w') (hg : b < B) : TidesAt w' b ts := fun i hi => by
  rw [hb.cell (p := ⟨b, i * 2, none⟩) hg, hb.cell (p := ⟨b, i * 2 + 1, none⟩) hg]; exact h i hi

/-- is this pair of strings a tide? -/
def tideB (t : ByteArray × ByteArray) : Bool := !(t.2.size == 0) && marksB t.1 && marksB t.2
def checkN (ts : List (ByteArray × ByteArray)) : Int := if ts.all tideB then 0 else 10

theorem size_le (s : ByteArray) (h : s.size ≤ 60) : s.size ≤ 9223372036854775807 := by omega

set_option maxRecDepth 100000 in
set_option maxHeartbeats 400000 in
theorem check_any (b n c : Nat) (ts : List (ByteArray × ByteArray)) (w : World) (hn : ts.length = n) (hl : n ≤ 1000000) (hat : TidesAt w b ts) (hb : b < w.heap.size)
    (hs : ∀ t ∈ ts, t.1.size ≤ 9223372036854775807 ∧ t.2.size ≤ 9223372036854775807) :
    Calls Try.prog 56 #[.slice (some ⟨b, 0, none⟩) n c] w fun e w' => e = .returned (.int .i64 (checkN ts)) ∧ Below w.heap.size w w' := by
  have H1 := Lib.hid hat
  have N1 := Lib.hid hn
  have S1 := Lib.hid hs
  clear hat hn hs
  go_enter Try.func56, Try.ntmps56
  go_wp2
  go_loopw [4, 7] (fun _ i wr => ∃ k : Nat, k ≤ n ∧ i = .int .i64 k ∧ Hid ((ts.take k).all tideB = true) ∧ Hid (Below w.heap.size w wr)) (fun _ i _ => n - (intOf i).toNat)
  case atStart => exact ⟨0, Nat.zero_le _, rfl, Lib.hid rfl, Lib.hid (Below.refl _ _)⟩
  case round =>
    obtain ⟨k, hk, rfl, hall, hbel⟩ := hrel
    by_cases hlt : k < n
    · have L1 : k < ts.length := by rw [N1.out]; exact hlt
      obtain ⟨a0, a1⟩ := (H1.out.below hbel.out hb) k L1
      obtain ⟨z0, z1⟩ := S1.out ts[k] (List.getElem_mem L1)
      have HT : Hid (tideB ts[k] = true → (ts.take (k + 1)).all tideB = true) := Lib.hid (fun h => by
        rw [List.take_succ_eq_append_getElem L1, List.all_append, hall.out]; simp [h])
      have HF : Hid (tideB ts[k] = false → checkN ts = 10) := Lib.hid (fun h => by
        unfold checkN; rw [if_neg]; intro hc; rw [List.all_eq_true] at hc; rw [hc _ (List.getElem_mem L1)] at h; cases h)
      generalize ts[k] = t at *
      obtain ⟨f, r⟩ := t
      simp only at a0 a1 z0 z1
      by_cases hr0 : r.size = 0
      · have hr1 : r = ByteArray.empty := ByteArray.ext (Array.eq_empty_of_size_eq_zero hr0)
        subst hr1
        have F := Lib.hid (HF.out (by unfold tideB; simp))
        clear HT HF hr0
        go_wp2_with fail
        go_ret
        exact ⟨ret_int F.out.symm, hbel.out.alloc hbel.out.size _⟩
      · have t1 : ((r.size : Int) == 0) = false := beq_eq_false_iff_ne.2 (by omega)
        have t2 : ¬ r.size = 0 := hr0
        have t3 : ¬ r = ByteArray.empty := by intro h; subst h; exact hr0 rfl
        cases hm1 : marksB f
        · have F := Lib.hid (HF.out (by unfold tideB; simp [hm1]))
          clear HT HF
          go_wp2_with fail
          refine (areMarks_any f _ z0).mono ?_
          rintro e w1 ⟨rfl, hb1⟩
          have Hb1 := Lib.hid hb1
          clear hb1
          go_wp2_with fail
          go_ret
          exact ⟨ret_int F.out.symm, (hbel.out.alloc hbel.out.size _).trans (Hb1.out.mono (by have h9 := hbel.out.size; rw [World.size_alloc]; omega))⟩
        · cases hm2 : marksB r
          all_goals
            have F := Lib.hid (HF.out)
            have G := Lib.hid (HT.out)
            have T : Hid (tideB (f, r) = marksB r) := Lib.hid (by unfold tideB; simp [hm1, hr0])
            clear HT HF
            go_wp2_with fail
            refine (areMarks_any f _ z0).mono ?_
            rintro e w1 ⟨rfl, hb1⟩
            have e0 : w1.cell? ⟨wr.heap.size, 0, none⟩ = some (.string f) := (hb1.cell (p := ⟨wr.heap.size, 0, none⟩) (by simp)).trans (by simp)
            have e1 : w1.cell? ⟨wr.heap.size, 1, none⟩ = some (.string r) := (hb1.cell (p := ⟨wr.heap.size, 1, none⟩) (by simp)).trans (by simp)
            have Hb1 : Hid (Below w.heap.size w w1) := Lib.hid ((hbel.out.alloc hbel.out.size _).trans (hb1.mono (by have h9 := hbel.out.size; rw [World.size_alloc]; omega)))
            clear hb1
            go_wp2_with fail
            refine (areMarks_any r _ z1).mono ?_
            rintro e w2 ⟨rfl, hb2⟩
            have Hb2 : Hid (Below w.heap.size w w2) := Lib.hid (Hb1.out.trans (hb2.mono Hb1.out.size))
            clear hb2 e0 e1
            go_wp2_with fail
          · go_ret
            exact ⟨ret_int (F.out (by rw [T.out, hm2])).symm, Hb2.out⟩
          · go_roundw
            case rel => exact ⟨k + 1, by omega, rfl, Lib.hid (G.out (by rw [T.out, hm2])), Hb2⟩
            case measure => simp [intOf]; omega
    · obtain rfl : k = n := by omega
      have F : Hid (checkN ts = 0) := Lib.hid (by
        unfold checkN; have := hall.out; rw [List.take_of_length_le (by rw [N1.out]; omega)] at this; rw [if_pos this])
      go_wp2
      go_ret
      exact ⟨ret_int F.out.symm, hbel.out⟩
theorem tidesAt_one {w : World} {b : Nat} {f r : ByteArray} (h0 : w.cell? ⟨b, 0, none⟩ = some (.string f)) (h1 : w.cell? ⟨b, 1, none⟩ = some (.string r)) : TidesAt w b [(f, r)] := by
  intro i hi
  obtain rfl : i = 0 := by simp at hi; omega
  exact ⟨h0, h1⟩
theorem tidesAt_two {w : World} {b : Nat} {f r g s : ByteArray} (h0 : w.cell? ⟨b, 0, none⟩ = some (.string f)) (h1 : w.cell? ⟨b, 1, none⟩ = some (.string r)) (h2 : w.cell? ⟨b, 2, none⟩ = some (.string g)) (h3 : w.cell? ⟨b, 3, none⟩ = some (.string s)) : TidesAt w b [(f, r), (g, s)] := by
  intro i hi
  match i, hi with
  | 0, _ => exact ⟨h0, h1⟩
  | 1, _ => exact ⟨h2, h3⟩

def checkE (f r : ByteArray) : Int := if tideB (f, r) then 0 else 10
def checkE2 (f r g s : ByteArray) : Int := if tideB (f, r) && tideB (g, s) then 0 else 10
def checkAtE (f r : ByteArray) (h : Int) : Int := if tideB (f, r) then (if 0 ≤ h ∧ h ≤ 1000000000 then 0 else 1) else 10
theorem checkE_ok {f r : ByteArray} (h : tideB (f, r) = true) : checkE f r = 0 := by unfold checkE; rw [if_pos h]
theorem checkE_no {f r : ByteArray} (h : tideB (f, r) = false) : checkE f r = 10 := by unfold checkE; rw [h]; rfl
theorem checkE2_ok {f r g s : ByteArray} (h : tideB (f, r) = true) (h' : tideB (g, s) = true) : checkE2 f r g s = 0 := by unfold checkE2; rw [h, h']; rfl
theorem checkE2_no1 {f r g s : ByteArray} (h : tideB (f, r) = false) : checkE2 f r g s = 10 := by unfold checkE2; rw [h]; rfl
theorem checkE2_no2 {f r g s : ByteArray} (h : tideB (g, s) = false) : checkE2 f r g s = 10 := by unfold checkE2; rw [h, Bool.and_false]; rfl

theorem check_one (b c : Nat) (f r : ByteArray) (w : World) (h0 : w.cell? ⟨b, 0, none⟩ = some (.string f)) (h1 : w.cell? ⟨b, 1, none⟩ = some (.string r)) (hf : f.size ≤ 9223372036854775807) (hr : r.size ≤ 9223372036854775807) :
    Calls Try.prog 56 #[.slice (some ⟨b, 0, none⟩) 1 c] w fun e w' => e = .returned (.int .i64 (checkE f r)) ∧ Below w.heap.size w w' := by
  refine (check_any b 1 c [(f, r)] w rfl (by omega) (tidesAt_one h0 h1) (block_lt_of_cell h0) (by simp; exact ⟨hf, hr⟩)).mono ?_
  rintro e w' ⟨rfl, hb⟩
  exact ⟨ret_int (by unfold checkN checkE; simp), hb⟩

theorem check_two (b c : Nat) (f r g s : ByteArray) (w : World) (h0 : w.cell? ⟨b, 0, none⟩ = some (.string f)) (h1 : w.cell? ⟨b, 1, none⟩ = some (.string r)) (h2 : w.cell? ⟨b, 2, none⟩ = some (.string g)) (h3 : w.cell? ⟨b, 3, none⟩ = some (.string s)) (hf : f.size ≤ 9223372036854775807) (hr : r.size ≤ 9223372036854775807) (hg : g.size ≤ 9223372036854775807) (hs : s.size ≤ 9223372036854775807) :
    Calls Try.prog 56 #[.slice (some ⟨b, 0, none⟩) 2 c] w fun e w' => e = .returned (.int .i64 (checkE2 f r g s)) ∧ Below w.heap.size w w' := by
  refine (check_any b 2 c [(f, r), (g, s)] w rfl (by omega) (tidesAt_two h0 h1 h2 h3) (block_lt_of_cell h0) (by simp; exact ⟨⟨hf, hr⟩, hg, hs⟩)).mono ?_
  rintro e w' ⟨rfl, hb⟩
  exact ⟨ret_int (by unfold checkN checkE2; simp), hb⟩

theorem below_at {B : Nat} {w w' : World} (hb : Below B w w') {b o : Nat} {v : Value} (hg : b < B) (h : w.cell? ⟨b, o, none⟩ = some v) : w'.cell? ⟨b, o, none⟩ = some v := (hb.cell (p := ⟨b, o, none⟩) hg).trans h

set_option maxRecDepth 100000 in
set_option maxHeartbeats 400000 in
theorem checkAt_any (f r : ByteArray) (h : Int) (w : World) (hf : f.size ≤ 9223372036854775807) (hr : r.size ≤ 9223372036854775807) :
    Calls Try.prog 57 #[.agg #[.string f, .string r], .int .i64 h] w fun e w' => e = .returned (.int .i64 (checkAtE f r h)) ∧ Below w.heap.size w w' := by
  go_enter Try.func57, Try.ntmps57
  go_wp2_with fail
  refine (check_one (w.heap.size + 1) _ f r _ (by simp) (by simp) hf hr).mono ?_
  rintro e w1 ⟨rfl, hb1⟩
  have B1 : Hid (Below w.heap.size w w1) := Lib.hid ((((Below.refl _ _).alloc (Nat.le_refl _) _).alloc (by simp) _).trans (hb1.mono (by simp; omega)))
  clear hb1
  cases ht : tideB (f, r)
  · have E := checkE_no ht
    have F : Hid (checkAtE f r h = 10) := Lib.hid (by unfold checkAtE; rw [ht]; rfl)
    clear ht
    go_wp2_with fail
    go_ret
    exact ⟨ret_int F.out.symm, B1.out⟩
  · have E := checkE_ok ht
    by_cases h1 : 0 ≤ h
    · by_cases h2 : h ≤ 1000000000
      · have F : Hid (checkAtE f r h = 0) := Lib.hid (by unfold checkAtE; rw [ht, if_pos rfl, if_pos ⟨h1, h2⟩])
        clear ht
        go_wp2_with fail
        go_ret
        exact ⟨ret_int F.out.symm, B1.out⟩
      · have F : Hid (checkAtE f r h = 1) := Lib.hid (by unfold checkAtE; rw [ht, if_pos rfl, if_neg (fun h => h2 h.2)])
        clear ht
        go_wp2_with fail
        go_ret
        exact ⟨ret_int F.out.symm, B1.out⟩
    · have F : Hid (checkAtE f r h = 1) := Lib.hid (by unfold checkAtE; rw [ht, if_pos rfl, if_neg (fun h => h1 h.1)])
      clear ht
      go_wp2_with fail
      go_ret
      exact ⟨ret_int F.out.symm, B1.out⟩
end Go.Proofs.Ytbhlddfjfcmncaa
