import Derived.Test.YtbhlddfjfcmncaaD
import Derived.WalkKit
import Derived.WalkSpells
import Derived.WalkLawsBesides
import Derived.BigQuiet
import Derived.Deep.QuietTactic
import Derived.Lib.Hide
import Derived.StillTailTactics
import Derived.Lib.SlBytesRow
import Derived.Deep.RegionHeld3
namespace Go.Proofs.Ytbhlddfjfcmncaa
open Go.RowKit
theorem cell_al (w : World) (cs : Array Value) (t : TypeId) (b o : Nat) : (w.alloc (.cells cs t)).cell? ⟨b, o, none⟩ = if b = w.heap.size then cs[o]? else w.cell? ⟨b, o, none⟩ := by
  by_cases h : b = w.heap.size
  · subst h; rw [if_pos rfl, cell_of_row _ _ _ cs t (0, 0) (heap_alloc_new w _)]
  · rw [if_neg h]
    exact World.cell?_of_block (w := w) (a := ⟨b, o, none⟩) (by show (w.heap.push _)[b]? = _; rw [Array.getElem?_push, if_neg h])
theorem frozen_al (w : World) (cs : Array Value) (t : TypeId) (b o : Nat) : (w.alloc (.cells cs t)).frozen? ⟨b, o, none⟩ = if b = w.heap.size then false else w.frozen? ⟨b, o, none⟩ := by
  by_cases h : b = w.heap.size
  · subst h; rw [if_pos rfl, frozen_of_row _ _ _ cs t (heap_alloc_new w _)]
  · rw [if_neg h]
    exact World.frozen?_of_block (w := w) (a := ⟨b, o, none⟩) (by show (w.heap.push _)[b]? = _; rw [Array.getElem?_push, if_neg h])
theorem size_al (w : World) (o : Obj) : (w.alloc o).heap.size = w.heap.size + 1 := by simp
/-- the lists that formOf makes of a tide -/
def fmF (f r : ByteArray) : List UInt8 := formF (toldL f r (f.size + r.size)) f.size
def fmR (f r : ByteArray) : List UInt8 := formR (toldL f r (f.size + r.size)) f.size
theorem toldL_length (f r : ByteArray) (n : Nat) : (toldL f r n).length = n := by simp [toldL]

set_option maxRecDepth 100000 in
set_option maxHeartbeats 1000000 in
theorem form_any (f r : ByteArray) (w : World) (hf : f.size ≤ 60) (hr : r.size ≤ 60) (hr1 : 1 ≤ r.size) :
    Calls Try.prog 59 #[.agg #[.string f, .string r]] w fun e w' => e = .returned (.agg #[.string (toS (fmF f r)), .string (toS (fmR f r))]) ∧ Below w.heap.size w w' := by
  have e1 : IntKind.i64.wrap ((f.size : Int) + (r.size : Int)) = ((f.size + r.size : Nat) : Int) := by rw [i64_of _ (by omega) (by omega)]; omega
  have Tl := Lib.hid (toldL_length f r (f.size + r.size))
  go_enter Try.func59, Try.ntmps59
  go_wp2_with fail
  obtain ⟨W0, hW0⟩ : ∃ W0, W0 = (w.alloc (.cells #[.string f, .string r] 23)).alloc (.cells #[.string { data := #[] }, .string { data := #[] }] 23) := ⟨_, rfl⟩
  have hsz : W0.heap.size = w.heap.size + 2 := by rw [hW0]; simp
  have B0 : Below w.heap.size w W0 := by rw [hW0]; exact (((Below.refl _ _).alloc (Nat.le_refl _) _).alloc (by simp) _)
  have c0 : W0.cell? ⟨w.heap.size, 0, none⟩ = some (.string f) := by rw [hW0]; simp
  have c1 : W0.cell? ⟨w.heap.size, 1, none⟩ = some (.string r) := by rw [hW0]; simp
  have c2 : W0.cell? ⟨w.heap.size + 1, 0, none⟩ = some (.string { data := #[] }) := by rw [hW0]; simp
  have c3 : W0.cell? ⟨w.heap.size + 1, 1, none⟩ = some (.string { data := #[] }) := by rw [hW0]; simp
  have f0 : W0.frozen? ⟨w.heap.size + 1, 0, none⟩ = false := by rw [hW0]; simp
  have f1 : W0.frozen? ⟨w.heap.size + 1, 1, none⟩ = false := by rw [hW0]; simp
  rw [← hW0]
  have lt0 : w.heap.size < W0.heap.size := by omega
  have lt1 : w.heap.size + 1 < W0.heap.size := by omega
  clear hW0
  have BB : Below W0.heap.size W0 W0 := Below.refl _ _
  have SS : ∀ W, Below (w.heap.size + 1) W0 W → Below (w.heap.size + 1) W0 W ∧ W.cell? ⟨w.heap.size, 0, none⟩ = some (.string f) ∧ W.cell? ⟨w.heap.size, 1, none⟩ = some (.string r) :=
    fun W h => ⟨h, below_at h (by omega) c0, below_at h (by omega) c1⟩
  have SS' := Lib.hid SS
  clear SS
  go_region_held3 (fun W => Below (w.heap.size + 1) W0 W ∧ W.cell? ⟨w.heap.size, 0, none⟩ = some (.string f) ∧ W.cell? ⟨w.heap.size, 1, none⟩ = some (.string r))
    (first
      | exact SS'.out _ (BB.drew.mono (by omega))
      | exact SS'.out _ (B2.mono (by omega))
      | exact SS'.out _ (B1.mono (by omega))
      | exact SS'.out _ (((show Below (w.heap.size + 1) W0 w2 from B2.mono (by omega)).setCell (p := ⟨w.heap.size + 1, 0, none⟩) (Nat.le_refl _) _).setCell (p := ⟨w.heap.size + 1, 1, none⟩) (Nat.le_refl _) _))
    (first
      | (go_at_call 70; refine (told_any f r (f.size + r.size) _ hr1 (by omega)).mono ?_; rintro e w1 ⟨g, rfl, hg, hrow, hb⟩; have B1 : Below W0.heap.size W0 w1 := BB.drew.trans hb)
      | (go_at_call 72; refine (formOf_any g 0 (f.size + r.size) (f.size + r.size) f.size (toldL f r (f.size + r.size)) _ Tl.out (by omega) (by omega) (Nat.le_refl _) hrow.atB hrow.lt).mono ?_; rintro e w2 ⟨rfl, hb2⟩; have B2 : Below W0.heap.size W0 w2 := B1.trans (hb2.mono B1.size); have k6 := below_at B2 lt1 c2; have k7 := below_at B2 lt1 c3; have k8 := (B2.frozen (p := ⟨w.heap.size + 1, 0, none⟩) lt1).trans f0; have k9 := (B2.frozen (p := ⟨w.heap.size + 1, 1, none⟩) lt1).trans f1))
  go_wp2
  exact bodyPost_ret (v := .agg #[.string (toS (fmF f r)), .string (toS (fmR f r))]) (by simp [results, Try.results59, go_sem, k6, k7, fmF, fmR]) rfl ⟨rfl, ((B0.trans (B2.mono (by omega))).setCell (p := ⟨w.heap.size + 1, 0, none⟩) (by simp) _).setCell (p := ⟨w.heap.size + 1, 1, none⟩) (by simp) _⟩
set_option maxRecDepth 100000 in
set_option maxHeartbeats 1000000 in
theorem fitting_any (f r : ByteArray) (w : World) (hf : f.size ≤ 1000000) (hr : r.size ≤ 1000000) :
    Calls Try.prog 71 #[.agg #[.string f, .string r]] w fun e w' => e = .returned (if f.size ≤ 60 ∧ r.size ≤ 60 then .tuple #[.agg #[.string f, .string r], .int .i64 0] else .tuple #[.agg #[.string ByteArray.empty, .string ByteArray.empty], .int .i64 8]) ∧ Below w.heap.size w w' := by
  by_cases h : f.size ≤ 60 ∧ r.size ≤ 60
  · rw [if_pos h]
    obtain ⟨h1, h2⟩ := h
    go_enter Try.func71, Try.ntmps71
    go_wp2_with fail
    exact bodyPost_ret (v := .tuple #[.agg #[.string f, .string r], .int .i64 0]) (by simp [results, Try.results71, go_sem]) rfl ⟨rfl, ((Below.refl _ _).alloc (Nat.le_refl _) _).alloc (by simp) _⟩
  · rw [if_neg h]
    by_cases h1 : f.size ≤ 60
    · have h2 : ¬ r.size ≤ 60 := fun h2 => h ⟨h1, h2⟩
      clear h
      go_enter Try.func71, Try.ntmps71
      go_wp2_with fail
      exact bodyPost_ret (v := .tuple #[.agg #[.string ByteArray.empty, .string ByteArray.empty], .int .i64 8]) (by simp [results, Try.results71, go_sem]; rfl) rfl ⟨rfl, ((Below.refl _ _).alloc (Nat.le_refl _) _).alloc (by simp) _⟩
    · clear h
      go_enter Try.func71, Try.ntmps71
      go_wp2_with fail
      exact bodyPost_ret (v := .tuple #[.agg #[.string ByteArray.empty, .string ByteArray.empty], .int .i64 8]) (by simp [results, Try.results71, go_sem]; rfl) rfl ⟨rfl, ((Below.refl _ _).alloc (Nat.le_refl _) _).alloc (by simp) _⟩

set_option maxRecDepth 100000 in
set_option maxHeartbeats 400000 in
theorem Check_any (f r : ByteArray) (w : World) (hf : f.size ≤ 9223372036854775807) (hr : r.size ≤ 9223372036854775807) :
    Calls Try.prog 20 #[.agg #[.string f, .string r]] w fun e w' => e = .returned (.int .i64 (checkE f r)) ∧ Below w.heap.size w w' := by
  go_enter Try.func20, Try.ntmps20
  go_wp2_with fail
  refine (check_one (w.heap.size + 1) _ f r _ (by simp) (by simp) hf hr).mono ?_
  rintro e w1 ⟨rfl, hb1⟩
  have B1 : Hid (Below w.heap.size w w1) := Lib.hid ((((Below.refl _ _).alloc (Nat.le_refl _) _).alloc (by simp) _).trans (hb1.mono (by simp; omega)))
  clear hb1
  go_wp2_with fail
  go_ret
  exact ⟨rfl, B1.out⟩

theorem tideB_size {f r : ByteArray} (h : tideB (f, r) = true) : f.size ≤ 60 ∧ r.size ≤ 60 ∧ 1 ≤ r.size := by
  unfold tideB marksB at h; simp at h
  have h3 : ¬ r.size = 0 := by intro h0; apply h.1.1; exact ByteArray.ext (Array.eq_empty_of_size_eq_zero h0)
  omega

set_option maxRecDepth 100000 in
set_option maxHeartbeats 1000000 in
theorem Form_any (f r : ByteArray) (w : World) (hf : f.size ≤ 9223372036854775807) (hr : r.size ≤ 9223372036854775807) :
    Calls Try.prog 23 #[.agg #[.string f, .string r]] w fun e w' => e = .returned (if tideB (f, r) then .tuple #[.agg #[.string (toS (fmF f r)), .string (toS (fmR f r))], .int .i64 0] else .tuple #[.agg #[.string ByteArray.empty, .string ByteArray.empty], .int .i64 10]) ∧ Below w.heap.size w w' := by
  cases ht : tideB (f, r)
  · have E := checkE_no ht
    rw [if_neg (by simp)]
    clear ht
    go_enter Try.func23, Try.ntmps23
    go_wp2_with fail
    refine (check_one (w.heap.size + 1 + 1) _ f r _ (by simp [cell_al]) (by simp [cell_al]) hf hr).mono ?_
    rintro e w1 ⟨rfl, hb1⟩
    have B1 : Hid (Below w.heap.size w w1) := Lib.hid (((((Below.refl _ _).alloc (Nat.le_refl _) _).alloc (by simp) _).alloc (by simp; omega) _).trans (hb1.mono (by simp; omega)))
    have c0 := below_at hb1 (b := w.heap.size + 1) (o := 0) (v := .string { data := #[] }) (by rw [size_al, size_al, size_al]; omega) (by simp [cell_al])
    have c1 := below_at hb1 (b := w.heap.size + 1) (o := 1) (v := .string { data := #[] }) (by rw [size_al, size_al, size_al]; omega) (by simp [cell_al])
    have f0 : w1.frozen? ⟨w.heap.size + 1, 0, none⟩ = false := (hb1.frozen (p := ⟨w.heap.size + 1, 0, none⟩) (by show _ + 1 < _; rw [size_al, size_al, size_al]; omega)).trans (by simp [frozen_al])
    have f1 : w1.frozen? ⟨w.heap.size + 1, 1, none⟩ = false := (hb1.frozen (p := ⟨w.heap.size + 1, 1, none⟩) (by show _ + 1 < _; rw [size_al, size_al, size_al]; omega)).trans (by simp [frozen_al])
    clear hb1
    go_wp2_with fail
    exact bodyPost_ret (v := .tuple #[.agg #[.string ByteArray.empty, .string ByteArray.empty], .int .i64 10]) (by simp [results, Try.results23, go_sem, c0, c1]; rfl) rfl ⟨rfl, (B1.out.setCell (p := ⟨w.heap.size + 1, 0, none⟩) (by simp) _).setCell (p := ⟨w.heap.size + 1, 1, none⟩) (by simp) _⟩
  · have E := checkE_ok ht
    obtain ⟨z1, z2, z3⟩ := tideB_size ht
    rw [if_pos rfl]
    clear ht
    go_enter Try.func23, Try.ntmps23
    go_wp2_with fail
    refine (check_one (w.heap.size + 1 + 1) _ f r _ (by simp [cell_al]) (by simp [cell_al]) hf hr).mono ?_
    rintro e w1 ⟨rfl, hb1⟩
    have B1 : Hid (Below w.heap.size w w1) := Lib.hid (((((Below.refl _ _).alloc (Nat.le_refl _) _).alloc (by simp) _).alloc (by simp; omega) _).trans (hb1.mono (by simp; omega)))
    have b0 := below_at hb1 (b := w.heap.size) (o := 0) (v := .string f) (by rw [size_al, size_al, size_al]; omega) (by simp [cell_al])
    have b1 := below_at hb1 (b := w.heap.size) (o := 1) (v := .string r) (by rw [size_al, size_al, size_al]; omega) (by simp [cell_al])
    have C0 := Lib.hid (below_at hb1 (b := w.heap.size + 1) (o := 0) (v := .string { data := #[] }) (by rw [size_al, size_al, size_al]; omega) (by simp [cell_al]))
    have C1 := Lib.hid (below_at hb1 (b := w.heap.size + 1) (o := 1) (v := .string { data := #[] }) (by rw [size_al, size_al, size_al]; omega) (by simp [cell_al]))
    have F0 : Hid (w1.frozen? ⟨w.heap.size + 1, 0, none⟩ = false) := Lib.hid ((hb1.frozen (p := ⟨w.heap.size + 1, 0, none⟩) (by show _ + 1 < _; rw [size_al, size_al, size_al]; omega)).trans (by simp [frozen_al]))
    have F1 : Hid (w1.frozen? ⟨w.heap.size + 1, 1, none⟩ = false) := Lib.hid ((hb1.frozen (p := ⟨w.heap.size + 1, 1, none⟩) (by show _ + 1 < _; rw [size_al, size_al, size_al]; omega)).trans (by simp [frozen_al]))
    have S1 : Hid (w.heap.size + 1 < w1.heap.size) := Lib.hid (by have := hb1.size; simp at this; omega)
    clear hb1
    go_wp2_with fail
    refine (form_any f r _ z1 z2 z3).mono ?_
    rintro e w2 ⟨rfl, hb2⟩
    have c0 := below_at hb2 S1.out C0.out
    have c1 := below_at hb2 S1.out C1.out
    have f0 := (hb2.frozen (p := ⟨w.heap.size + 1, 0, none⟩) S1.out).trans F0.out
    have f1 := (hb2.frozen (p := ⟨w.heap.size + 1, 1, none⟩) S1.out).trans F1.out
    have B2 : Hid (Below w.heap.size w w2) := Lib.hid (B1.out.trans (hb2.mono B1.out.size))
    clear hb2 b0 b1
    go_wp2_with fail
    exact bodyPost_ret (v := .tuple #[.agg #[.string (toS (fmF f r)), .string (toS (fmR f r))], .int .i64 0]) (by simp [results, Try.results23, go_sem, c0, c1]) rfl ⟨rfl, (B2.out.setCell (p := ⟨w.heap.size + 1, 0, none⟩) (by simp) _).setCell (p := ⟨w.heap.size + 1, 1, none⟩) (by simp) _⟩
end Go.Proofs.Ytbhlddfjfcmncaa
