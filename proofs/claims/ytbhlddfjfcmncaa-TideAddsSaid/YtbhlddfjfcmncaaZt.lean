import Derived.Test.YtbhlddfjfcmncaaZq
import Derived.Test.YtbhlddfjfcmncaaYl
import Derived.Test.YtbhlddfjfcmncaaYm
import Derived.Maps.OwnIn
import Derived.Maps.OwnSet
import Derived.RangeFuncNested
import Derived.RangeFuncBound
import Derived.RangeFuncCalls
import Derived.RangeFuncLeaves
import Derived.Shelf.Abstract
import Derived.Shelf.RegionOpen
import Derived.WalkKit
import Derived.OwnWalkIn
import Derived.TacticsInMore
import Derived.LoopNIn
import Derived.LoopIn
import Derived.WalkSpells
import Derived.WalkLawsBesides
import Derived.BigQuiet
import Derived.Deep.QuietTactic
import Derived.Lib.Hide
import Derived.Deep.RegionHeld3
import Derived.StillTailTactics
import Derived.Lib.MakeNoZero
import Derived.Laws.CopyOwn
import Derived.Deep.RegionLaw
import Derived.Deep.LoopGhost
import Derived.Deep.CutBlock
import Derived.Deep.DeepCutAuto
import Derived.Lib.IndexAny
namespace Go.Proofs.Ytbhlddfjfcmncaa
open Go.RowKit Go.Shelf
attribute [local go_sem] Oper.semAt_some
/-- the first N hours of a tide, in a row of their own -/
structure OwnH (N : Nat) (W : World) (B : Nat) (f r : ByteArray) (b cap : Nat) : Prop where
  cap : N ≤ cap
  at' : AtBo W b 0 (hoursL (hasB f r) N)
  new : B < b
  lt : b < W.heap.size
theorem OwnH.below {N B : Nat} {W W' : World} {f r : ByteArray} {b cap : Nat} (h : OwnH N W B f r b cap) (hb : Below W.heap.size W W') : OwnH N W' B f r b cap :=
  ⟨h.cap, h.at'.below hb h.lt, h.new, Nat.lt_of_lt_of_le h.lt hb.size⟩
theorem OwnH.get {N B : Nat} {W W' : World} {f r : ByteArray} {b cap : Nat} (h : OwnH N W B f r b cap) (k : Nat) (hk : k < N) (hb : Below W.heap.size W W') : W'.cell? ⟨b, k, none⟩ = some (.bool (hasB f r k)) := by
  have := (h.below hb).at' k (by rw [hoursL_length]; exact hk)
  rw [Nat.zero_add] at this; rw [this]; unfold hoursL; simp
theorem atBo_fill {W : World} {g N : Nat} {Y : Nat → Bool} (h : Row W g 4 (fillTo N N (.bool false) fun i => .bool (Y i))) : AtBo W g 0 (hoursL Y N) := fun i hi => by
  have hi' := hi
  rw [hoursL_length] at hi'
  rw [Nat.zero_add, h.cell, fillTo_full, List.getElem?_map, List.getElem?_range hi']
  simp [hoursL]
theorem make_boolsA (n : Nat) (hn : n ≤ 1000000) (w : World) :
    (Instr.makeSlice 78 (.int .i64 (n : Int)) (.int .i64 (n : Int))).run Try.prog w = .ok (.slice (some ⟨w.heap.size, 0, none⟩) n n) (w.alloc (.cells (Array.replicate n (.bool false)) 4)) := by
  have := make_bools n hn w; simpa using this
set_option maxRecDepth 100000 in
set_option maxHeartbeats 2000000 in
theorem refBoth_any (f r g s : ByteArray) (w : World) (ht : tideB (f, r) = true) (hu : tideB (g, s) = true) (a b : ByteArray) (c : Bool) (hv : formedV (hoursL ((joinY f r g s (fun a b => a && b))) (enoughN f r g s)) = .tuple #[.agg #[.string a, .string b], .bool c]) :
    Calls Try.prog 46 #[.agg #[.string f, .string r], .agg #[.string g, .string s], .int .i64 0] w fun e w' => e = .returned (.tuple #[.agg #[.string a, .string b], .bool c]) ∧ Below w.heap.size w w' := by
  obtain ⟨z1, z2, z3⟩ := tideB_size ht
  obtain ⟨y1, y2, y3⟩ := tideB_size hu
  have n3 := enough_le z1 z3 z2 y1 y3 y2
  have n2 : 100 ≤ enoughN f r g s := by unfold enoughN; omega
  have C1 : Hid (∀ W, Calls Try.prog 86 #[.agg #[.string f, .string r], .agg #[.string g, .string s]] W fun e w' => e = .returned (.int .i64 (enoughN f r g s)) ∧ Below W.heap.size W w') := Lib.hid (fun W => refEnough_any f r g s W z1 z3 z2 y1 y3 y2)
  have C2 : Hid (∀ (f' r' : ByteArray) W, 1 ≤ r'.size → Calls Try.prog 85 #[.agg #[.string f', .string r'], .int .i64 (enoughN f r g s)] W fun e w' => ∃ b cap : Nat, e = .returned (.slice (some ⟨b, 0, none⟩) (enoughN f r g s) cap) ∧ OwnH (enoughN f r g s) w' W.heap.size f' r' b cap ∧ Below W.heap.size W w') := Lib.hid (fun f' r' W h => by
    refine (refHours_any f' r' _ W h (by omega) (by omega)).mono ?_
    rintro e w' ⟨b, cap, rfl, h1, h2, h3, h4, h5, h6⟩
    exact ⟨b, cap, rfl, ⟨h1, h2, h3, h4⟩, h6⟩)
  have C3 : Hid (∀ W bb cap, AtBo W bb 0 (hoursL ((joinY f r g s (fun a b => a && b))) (enoughN f r g s)) → bb < W.heap.size → enoughN f r g s ≤ cap → Calls Try.prog 84 #[.slice (some ⟨bb, 0, none⟩) (enoughN f r g s) cap] W fun e w' => e = .returned (.tuple #[.agg #[.string a, .string b], .bool c]) ∧ Below W.heap.size W w') := Lib.hid (fun W g' cap h1 h2 h3 => by
    have := refFormed_any g' _ cap _ W (hoursL_length _ _) n2 (by omega) h3 h1 h2
    rw [hv] at this; exact this)
  clear hv ht hu
  generalize enoughN f r g s = N at *
  have hmk := fun w => make_boolsA N (by omega) w
  go_enter Try.func46, Try.ntmps46
  go_wp2_with fail
  obtain ⟨W0, hW0⟩ : ∃ W0, W0 = ((w.alloc (.cells #[.string f, .string r] 24)).alloc (.cells #[.string g, .string s] 24)).alloc (.cells #[.string { data := #[] }, .string { data := #[] }] 24) := ⟨_, rfl⟩
  have B0 : Hid (Below w.heap.size w W0) := Lib.hid (by rw [hW0]; exact (((Below.refl _ _).alloc (Nat.le_refl _) _).alloc (by simp) _).alloc (by simp; omega) _)
  have s0 : W0.heap.size = w.heap.size + 3 := by rw [hW0, size_al, size_al, size_al]
  have P : Hid (∀ W, Below W0.heap.size W0 W → W.cell? ⟨w.heap.size, 0, none⟩ = some (.string f) ∧ W.cell? ⟨w.heap.size, 1, none⟩ = some (.string r) ∧ W.cell? ⟨w.heap.size + 1, 0, none⟩ = some (.string g) ∧ W.cell? ⟨w.heap.size + 1, 1, none⟩ = some (.string s)) := Lib.hid (fun W h => by
    refine ⟨below_at h (by omega) ?_, below_at h (by omega) ?_, below_at h (by omega) ?_, below_at h (by omega) ?_⟩ <;> (rw [hW0]; simp [cell_al] <;> (intro h; omega)))
  have KEEP : Hid (∀ W, Below W0.heap.size W0 W → w.heap.size + 2 < W.heap.size ∧ W.cell? ⟨w.heap.size + 1 + 1, 0, none⟩ = some (.string { data := #[] }) ∧ W.cell? ⟨w.heap.size + 1 + 1, 1, none⟩ = some (.string { data := #[] }) ∧ W.frozen? ⟨w.heap.size + 1 + 1, 0, none⟩ = false ∧ W.frozen? ⟨w.heap.size + 1 + 1, 1, none⟩ = false) := Lib.hid (fun W h =>
    ⟨Nat.lt_of_lt_of_le (by omega) h.size, below_at h (by omega) (by rw [hW0]; simp [cell_al]), below_at h (by omega) (by rw [hW0]; simp [cell_al]), (h.frozen (p := ⟨w.heap.size + 1 + 1, 0, none⟩) (by show _ + 1 + 1 < _; omega)).trans (by rw [hW0]; simp [frozen_al]), (h.frozen (p := ⟨w.heap.size + 1 + 1, 1, none⟩) (by show _ + 1 + 1 < _; omega)).trans (by rw [hW0]; simp [frozen_al])⟩)
  refine (C1.out _).mono ?_
  rintro e w1 ⟨rfl, hb1⟩
  have BB : Below W0.heap.size W0 w1 := by rw [← hW0] at hb1; exact hb1
  have S0 := Lib.hid s0
  clear hb1 hW0 s0 C1 hmk
  obtain ⟨c0, c1, c2, c3⟩ := P.out w1 BB
  go_wp2_with fail
  have BB2 : Below W0.heap.size W0 w1.drew := BB.drew
  go_region_held3 (fun W => W.cell? ⟨w.heap.size, 0, none⟩ = some (.string f) ∧ W.cell? ⟨w.heap.size, 1, none⟩ = some (.string r) ∧ W.cell? ⟨w.heap.size + 1, 0, none⟩ = some (.string g) ∧ W.cell? ⟨w.heap.size + 1, 1, none⟩ = some (.string s))
    (exact P.out _ BB2)
    (first | (go_at_call 85; refine (C2.out _ _ _ (by first | exact z3 | exact y3)).mono ?_; rintro e wa ⟨bx, cx, rfl, hk, hb⟩; (first | (have A1 : OwnH N wa _ f r bx cx := hk) | (have A2 : OwnH N wa _ g s bx cx := hk)); (try (replace A1 := A1.below hb)); (try (replace A2 := A2.below hb)); clear hk; replace BB2 := Below.andThen BB2 hb (Nat.le_refl _)))
  rename_i wA bA cA hbA hH
  have AX := Lib.hid A1
  have AY := Lib.hid A2
  have T := Lib.hid BB2
  have lO : Hid (w.heap.size + 3 ≤ wa.heap.size) := Lib.hid (by have := BB2.size; have := S0.out; omega)
  clear A1 A2 hH BB BB2 c0 c1 c2 c3 C2 P hb hbA
  have hmk := fun w => make_boolsA N (by omega) w
  go_wp2_with fail
  clear hmk
  go_loopw [12, 13] (fun i _ wr => ∃ k : Nat, k ≤ N ∧ i = .int .i64 k ∧ Hid (Row wr wa.heap.size 4 (fillTo N k (.bool false) fun i => .bool ((joinY f r g s (fun a b => a && b)) i))) ∧ Hid (Below wa.heap.size wa wr)) (fun i _ _ => N - (intOf i).toNat)
  case atStart =>
    refine ⟨0, Nat.zero_le _, rfl, Lib.hid ?_, Lib.hid ((Below.refl _ _).alloc (Nat.le_refl _) _)⟩
    have := Row.new wa 4 (List.replicate N (.bool false))
    rw [fillTo_zero]
    simpa using this
  case round =>
    obtain ⟨k, hk, rfl, hR, hB⟩ := hrel
    by_cases hlt : k < N
    · have x1 := (AX.out.get k hlt hB.out)
      have x2 := (AY.out.get k hlt hB.out)
      obtain ⟨v0, hv0⟩ := fillTo_get N k k (.bool false) (fun i => .bool ((joinY f r g s (fun a b => a && b)) i)) hlt
      have x3 : wr.cell? ⟨wa.heap.size, k, none⟩ = some v0 := by rw [hR.out.cell, hv0]
      have x4 := hR.out.frozen k
      have N1 : Row (wr.setCell ⟨wa.heap.size, k, none⟩ (.bool ((joinY f r g s (fun a b => a && b)) k))) wa.heap.size 4 (fillTo N (k + 1) (.bool false) fun i => .bool ((joinY f r g s (fun a b => a && b)) i)) := by
        have h := hR.out.set k (.bool ((joinY f r g s (fun a b => a && b)) k))
        rw [fillTo_set N k (.bool false) (fun i => .bool ((joinY f r g s (fun a b => a && b)) i))] at h; exact h
      have N2 := Lib.hid (hB.out.setCell (p := ⟨wa.heap.size, k, none⟩) (Nat.le_refl _) (.bool ((joinY f r g s (fun a b => a && b)) k)))
      have eY : (joinY f r g s (fun a b => a && b)) k = (hasB f r k && hasB g s k) := rfl
      rw [eY] at N1 N2
      clear hv0 eY
      cases hX : hasB f r k
      all_goals
        cases hY : hasB g s k
        all_goals
          rw [hX, hY] at N1 N2
          rw [hX] at x1
          rw [hY] at x2
          have N3 := Lib.hid N1
          clear N1 hX hY
          go_wp2_with fail
          go_roundw
          case rel => exact ⟨k + 1, by omega, by go_num, N3, N2⟩
          case measure => simp [intOf]; omega
    · obtain rfl : k = N := by omega
      have hat : AtBo wr wa.heap.size 0 (hoursL ((joinY f r g s (fun a b => a && b))) k) := atBo_fill hR.out
      have hc := C3.out wr wa.heap.size k hat hR.out.lt (Nat.le_refl _)
      have HC := Lib.hid hc
      clear hc hat C3
      go_wp2_with fail
      refine HC.out.mono ?_
      rintro e w3 ⟨rfl, hb⟩
      have B3 : Below W0.heap.size W0 w3 := (T.out.trans (hB.out.mono (by have := T.out.size; omega))).trans (hb.mono (by have := hB.out.size; have := T.out.size; omega))
      have kk := KEEP.out _ B3
      obtain ⟨kl, l0, l1, l2, l3⟩ := kk
      have T3 := Lib.hid (B0.out.trans (B3.mono (by have := S0.out; omega)))
      clear hb B3 KEEP B0 hB hR HC AX AY T
      go_wp2_with fail
      exact bodyPost_ret (v := .tuple #[.agg #[.string a, .string b], .bool c]) (by simp [results, Try.results46, go_sem, *]) rfl ⟨rfl, (T3.out.setCell (p := ⟨w.heap.size + 1 + 1, 0, none⟩) (by dsimp only; omega) _).setCell (p := ⟨w.heap.size + 1 + 1, 1, none⟩) (by dsimp only; omega) _⟩
set_option maxRecDepth 100000 in
set_option maxHeartbeats 2000000 in
theorem refEither_any (f r g s : ByteArray) (w : World) (ht : tideB (f, r) = true) (hu : tideB (g, s) = true) (a b : ByteArray) (c : Bool) (hv : formedV (hoursL ((joinY f r g s (fun a b => a || b))) (enoughN f r g s)) = .tuple #[.agg #[.string a, .string b], .bool c]) :
    Calls Try.prog 46 #[.agg #[.string f, .string r], .agg #[.string g, .string s], .int .i64 1] w fun e w' => e = .returned (.tuple #[.agg #[.string a, .string b], .bool c]) ∧ Below w.heap.size w w' := by
  obtain ⟨z1, z2, z3⟩ := tideB_size ht
  obtain ⟨y1, y2, y3⟩ := tideB_size hu
  have n3 := enough_le z1 z3 z2 y1 y3 y2
  have n2 : 100 ≤ enoughN f r g s := by unfold enoughN; omega
  have C1 : Hid (∀ W, Calls Try.prog 86 #[.agg #[.string f, .string r], .agg #[.string g, .string s]] W fun e w' => e = .returned (.int .i64 (enoughN f r g s)) ∧ Below W.heap.size W w') := Lib.hid (fun W => refEnough_any f r g s W z1 z3 z2 y1 y3 y2)
  have C2 : Hid (∀ (f' r' : ByteArray) W, 1 ≤ r'.size → Calls Try.prog 85 #[.agg #[.string f', .string r'], .int .i64 (enoughN f r g s)] W fun e w' => ∃ b cap : Nat, e = .returned (.slice (some ⟨b, 0, none⟩) (enoughN f r g s) cap) ∧ OwnH (enoughN f r g s) w' W.heap.size f' r' b cap ∧ Below W.heap.size W w') := Lib.hid (fun f' r' W h => by
    refine (refHours_any f' r' _ W h (by omega) (by omega)).mono ?_
    rintro e w' ⟨b, cap, rfl, h1, h2, h3, h4, h5, h6⟩
    exact ⟨b, cap, rfl, ⟨h1, h2, h3, h4⟩, h6⟩)
  have C3 : Hid (∀ W bb cap, AtBo W bb 0 (hoursL ((joinY f r g s (fun a b => a || b))) (enoughN f r g s)) → bb < W.heap.size → enoughN f r g s ≤ cap → Calls Try.prog 84 #[.slice (some ⟨bb, 0, none⟩) (enoughN f r g s) cap] W fun e w' => e = .returned (.tuple #[.agg #[.string a, .string b], .bool c]) ∧ Below W.heap.size W w') := Lib.hid (fun W g' cap h1 h2 h3 => by
    have := refFormed_any g' _ cap _ W (hoursL_length _ _) n2 (by omega) h3 h1 h2
    rw [hv] at this; exact this)
  clear hv ht hu
  generalize enoughN f r g s = N at *
  have hmk := fun w => make_boolsA N (by omega) w
  go_enter Try.func46, Try.ntmps46
  go_wp2_with fail
  obtain ⟨W0, hW0⟩ : ∃ W0, W0 = ((w.alloc (.cells #[.string f, .string r] 24)).alloc (.cells #[.string g, .string s] 24)).alloc (.cells #[.string { data := #[] }, .string { data := #[] }] 24) := ⟨_, rfl⟩
  have B0 : Hid (Below w.heap.size w W0) := Lib.hid (by rw [hW0]; exact (((Below.refl _ _).alloc (Nat.le_refl _) _).alloc (by simp) _).alloc (by simp; omega) _)
  have s0 : W0.heap.size = w.heap.size + 3 := by rw [hW0, size_al, size_al, size_al]
  have P : Hid (∀ W, Below W0.heap.size W0 W → W.cell? ⟨w.heap.size, 0, none⟩ = some (.string f) ∧ W.cell? ⟨w.heap.size, 1, none⟩ = some (.string r) ∧ W.cell? ⟨w.heap.size + 1, 0, none⟩ = some (.string g) ∧ W.cell? ⟨w.heap.size + 1, 1, none⟩ = some (.string s)) := Lib.hid (fun W h => by
    refine ⟨below_at h (by omega) ?_, below_at h (by omega) ?_, below_at h (by omega) ?_, below_at h (by omega) ?_⟩ <;> (rw [hW0]; simp [cell_al] <;> (intro h; omega)))
  have KEEP : Hid (∀ W, Below W0.heap.size W0 W → w.heap.size + 2 < W.heap.size ∧ W.cell? ⟨w.heap.size + 1 + 1, 0, none⟩ = some (.string { data := #[] }) ∧ W.cell? ⟨w.heap.size + 1 + 1, 1, none⟩ = some (.string { data := #[] }) ∧ W.frozen? ⟨w.heap.size + 1 + 1, 0, none⟩ = false ∧ W.frozen? ⟨w.heap.size + 1 + 1, 1, none⟩ = false) := Lib.hid (fun W h =>
    ⟨Nat.lt_of_lt_of_le (by omega) h.size, below_at h (by omega) (by rw [hW0]; simp [cell_al]), below_at h (by omega) (by rw [hW0]; simp [cell_al]), (h.frozen (p := ⟨w.heap.size + 1 + 1, 0, none⟩) (by show _ + 1 + 1 < _; omega)).trans (by rw [hW0]; simp [frozen_al]), (h.frozen (p := ⟨w.heap.size + 1 + 1, 1, none⟩) (by show _ + 1 + 1 < _; omega)).trans (by rw [hW0]; simp [frozen_al])⟩)
  refine (C1.out _).mono ?_
  rintro e w1 ⟨rfl, hb1⟩
  have BB : Below W0.heap.size W0 w1 := by rw [← hW0] at hb1; exact hb1
  have S0 := Lib.hid s0
  clear hb1 hW0 s0 C1 hmk
  obtain ⟨c0, c1, c2, c3⟩ := P.out w1 BB
  go_wp2_with fail
  have BB2 : Below W0.heap.size W0 w1.drew := BB.drew
  go_region_held3 (fun W => W.cell? ⟨w.heap.size, 0, none⟩ = some (.string f) ∧ W.cell? ⟨w.heap.size, 1, none⟩ = some (.string r) ∧ W.cell? ⟨w.heap.size + 1, 0, none⟩ = some (.string g) ∧ W.cell? ⟨w.heap.size + 1, 1, none⟩ = some (.string s))
    (exact P.out _ BB2)
    (first | (go_at_call 85; refine (C2.out _ _ _ (by first | exact z3 | exact y3)).mono ?_; rintro e wa ⟨bx, cx, rfl, hk, hb⟩; (first | (have A1 : OwnH N wa _ f r bx cx := hk) | (have A2 : OwnH N wa _ g s bx cx := hk)); (try (replace A1 := A1.below hb)); (try (replace A2 := A2.below hb)); clear hk; replace BB2 := Below.andThen BB2 hb (Nat.le_refl _)))
  rename_i wA bA cA hbA hH
  have AX := Lib.hid A1
  have AY := Lib.hid A2
  have T := Lib.hid BB2
  have lO : Hid (w.heap.size + 3 ≤ wa.heap.size) := Lib.hid (by have := BB2.size; have := S0.out; omega)
  clear A1 A2 hH BB BB2 c0 c1 c2 c3 C2 P hb hbA
  have hmk := fun w => make_boolsA N (by omega) w
  go_wp2_with fail
  clear hmk
  go_loopw [12, 13] (fun i _ wr => ∃ k : Nat, k ≤ N ∧ i = .int .i64 k ∧ Hid (Row wr wa.heap.size 4 (fillTo N k (.bool false) fun i => .bool ((joinY f r g s (fun a b => a || b)) i))) ∧ Hid (Below wa.heap.size wa wr)) (fun i _ _ => N - (intOf i).toNat)
  case atStart =>
    refine ⟨0, Nat.zero_le _, rfl, Lib.hid ?_, Lib.hid ((Below.refl _ _).alloc (Nat.le_refl _) _)⟩
    have := Row.new wa 4 (List.replicate N (.bool false))
    rw [fillTo_zero]
    simpa using this
  case round =>
    obtain ⟨k, hk, rfl, hR, hB⟩ := hrel
    by_cases hlt : k < N
    · have x1 := (AX.out.get k hlt hB.out)
      have x2 := (AY.out.get k hlt hB.out)
      obtain ⟨v0, hv0⟩ := fillTo_get N k k (.bool false) (fun i => .bool ((joinY f r g s (fun a b => a || b)) i)) hlt
      have x3 : wr.cell? ⟨wa.heap.size, k, none⟩ = some v0 := by rw [hR.out.cell, hv0]
      have x4 := hR.out.frozen k
      have N1 : Row (wr.setCell ⟨wa.heap.size, k, none⟩ (.bool ((joinY f r g s (fun a b => a || b)) k))) wa.heap.size 4 (fillTo N (k + 1) (.bool false) fun i => .bool ((joinY f r g s (fun a b => a || b)) i)) := by
        have h := hR.out.set k (.bool ((joinY f r g s (fun a b => a || b)) k))
        rw [fillTo_set N k (.bool false) (fun i => .bool ((joinY f r g s (fun a b => a || b)) i))] at h; exact h
      have N2 := Lib.hid (hB.out.setCell (p := ⟨wa.heap.size, k, none⟩) (Nat.le_refl _) (.bool ((joinY f r g s (fun a b => a || b)) k)))
      have eY : (joinY f r g s (fun a b => a || b)) k = (hasB f r k || hasB g s k) := rfl
      rw [eY] at N1 N2
      clear hv0 eY
      cases hX : hasB f r k
      all_goals
        cases hY : hasB g s k
        all_goals
          rw [hX, hY] at N1 N2
          rw [hX] at x1
          rw [hY] at x2
          have N3 := Lib.hid N1
          clear N1 hX hY
          go_wp2_with fail
          go_roundw
          case rel => exact ⟨k + 1, by omega, by go_num, N3, N2⟩
          case measure => simp [intOf]; omega
    · obtain rfl : k = N := by omega
      have hat : AtBo wr wa.heap.size 0 (hoursL ((joinY f r g s (fun a b => a || b))) k) := atBo_fill hR.out
      have hc := C3.out wr wa.heap.size k hat hR.out.lt (Nat.le_refl _)
      have HC := Lib.hid hc
      clear hc hat C3
      go_wp2_with fail
      refine HC.out.mono ?_
      rintro e w3 ⟨rfl, hb⟩
      have B3 : Below W0.heap.size W0 w3 := (T.out.trans (hB.out.mono (by have := T.out.size; omega))).trans (hb.mono (by have := hB.out.size; have := T.out.size; omega))
      have kk := KEEP.out _ B3
      obtain ⟨kl, l0, l1, l2, l3⟩ := kk
      have T3 := Lib.hid (B0.out.trans (B3.mono (by have := S0.out; omega)))
      clear hb B3 KEEP B0 hB hR HC AX AY T
      go_wp2_with fail
      exact bodyPost_ret (v := .tuple #[.agg #[.string a, .string b], .bool c]) (by simp [results, Try.results46, go_sem, *]) rfl ⟨rfl, (T3.out.setCell (p := ⟨w.heap.size + 1 + 1, 0, none⟩) (by dsimp only; omega) _).setCell (p := ⟨w.heap.size + 1 + 1, 1, none⟩) (by dsimp only; omega) _⟩
end Go.Proofs.Ytbhlddfjfcmncaa
