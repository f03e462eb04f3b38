import Derived.Test.YtbhlddfjfcmncaaX
import Derived.Maps.OwnIn
import Derived.Maps.OwnSet
import Derived.RangeFuncNested
import Derived.RangeFuncBound
import Derived.RangeFuncCalls
import Derived.RangeFuncLeaves
import Derived.Shelf.Abstract
import Derived.Shelf.RegionOpen
import Derived.WalkKit
import Derived.OwnWalkIn
import Derived.TacticsInMore
import Derived.LoopNIn
import Derived.LoopIn
import Derived.WalkSpells
import Derived.WalkLawsBesides
import Derived.BigQuiet
import Derived.Deep.QuietTactic
import Derived.Lib.Hide
import Derived.Deep.RegionHeld3
import Derived.StillTailTactics
import Derived.Lib.MakeNoZero
import Derived.Laws.CopyOwn
import Derived.Deep.RegionLaw
import Derived.Deep.LoopGhost
import Derived.Deep.CutBlock
import Derived.Deep.DeepCutAuto
import Derived.Lib.IndexAny
namespace Go.Proofs.Ytbhlddfjfcmncaa
open Go.RowKit Go.Shelf
attribute [local go_sem] Oper.semAt_some
theorem below_facts {w w' : World} (hb : Below w.heap.size w w') : (∀ b o, b < w.heap.size → w'.cell? ⟨b, o, none⟩ = w.cell? ⟨b, o, none⟩) ∧ (∀ b o, b < w.heap.size → w'.frozen? ⟨b, o, none⟩ = w.frozen? ⟨b, o, none⟩) ∧ w.heap.size ≤ w'.heap.size :=
  ⟨fun b o h => hb.cell (p := ⟨b, o, none⟩) h, fun b o h => hb.frozen (p := ⟨b, o, none⟩) h, hb.size⟩
theorem keep_old {W wa : World} {b : Nat} {x y : Value} (hb : Below W.heap.size W wa) (hlt : b < W.heap.size) (h0 : W.cell? ⟨b, 0, none⟩ = some x) (h1 : W.cell? ⟨b, 1, none⟩ = some y) (h2 : W.frozen? ⟨b, 0, none⟩ = false) (h3 : W.frozen? ⟨b, 1, none⟩ = false) :
    b < wa.heap.size ∧ wa.cell? ⟨b, 0, none⟩ = some x ∧ wa.cell? ⟨b, 1, none⟩ = some y ∧ wa.frozen? ⟨b, 0, none⟩ = false ∧ wa.frozen? ⟨b, 1, none⟩ = false :=
  ⟨Nat.lt_of_lt_of_le hlt hb.size, below_at hb hlt h0, below_at hb hlt h1, (hb.frozen (p := ⟨b, 0, none⟩) hlt).trans h2, (hb.frozen (p := ⟨b, 1, none⟩) hlt).trans h3⟩
theorem keep_new {W wa : World} {b : Nat} {x y : Value} {t : TypeId} (hb : Below (W.alloc (.cells #[x, y] t)).heap.size (W.alloc (.cells #[x, y] t)) wa) (e : W.heap.size = b) :
    b < wa.heap.size ∧ wa.cell? ⟨b, 0, none⟩ = some x ∧ wa.cell? ⟨b, 1, none⟩ = some y ∧ wa.frozen? ⟨b, 0, none⟩ = false ∧ wa.frozen? ⟨b, 1, none⟩ = false := by
  subst e
  exact keep_old hb (by rw [size_al]; omega) (by simp [cell_al]) (by simp [cell_al]) (by simp [frozen_al]) (by simp [frozen_al])
theorem keep_newd {W wa : World} {x y : Value} {t : TypeId} (hb : Below (W.alloc (.cells #[x, y] t)).drew.heap.size (W.alloc (.cells #[x, y] t)).drew wa) :
    W.heap.size < wa.heap.size ∧ wa.cell? ⟨W.heap.size, 0, none⟩ = some x ∧ wa.cell? ⟨W.heap.size, 1, none⟩ = some y ∧ wa.frozen? ⟨W.heap.size, 0, none⟩ = false ∧ wa.frozen? ⟨W.heap.size, 1, none⟩ = false :=
  keep_old hb (by show W.heap.size < (W.alloc (.cells #[x, y] t)).heap.size; rw [size_al]; omega) (by simp [cell_al]) (by simp [cell_al]) (by simp [frozen_al]) (by simp [frozen_al])
theorem two_set {W : World} {b : Nat} {x y x' y' : Value} (h0 : W.cell? ⟨b, 0, none⟩ = some x') (h1 : W.cell? ⟨b, 1, none⟩ = some y') :
    ((W.setCell ⟨b, 0, none⟩ x).setCell ⟨b, 1, none⟩ y).cell? ⟨b, 0, none⟩ = some x ∧ ((W.setCell ⟨b, 0, none⟩ x).setCell ⟨b, 1, none⟩ y).cell? ⟨b, 1, none⟩ = some y := by
  refine ⟨?_, ?_⟩
  · exact (World.cell?_setCell_other _ _ _ _ (by simp)).trans (World.cell?_setCell_same _ _ _ h0)
  · exact World.cell?_setCell_same _ _ _ (u := y') ((World.cell?_setCell_other _ _ _ _ (by simp)).trans h1)
def bitsV (s : ByteArray) (most : Nat) : ByteArray := toS (bitsL s (min s.size most))
def tameR (r : ByteArray) (most : Nat) : ByteArray := if (bitsV r most).size = 0 then toS [48] else bitsV r most
set_option maxRecDepth 100000 in
set_option maxHeartbeats 2000000 in
theorem tame_any (f r : ByteArray) (most : Nat) (w : World) (hf : f.size ≤ 9223372036854775807) (hr : r.size ≤ 9223372036854775807) (hm : most ≤ 1000) :
    Calls Try.prog 37 #[.agg #[.string f, .string r], .int .i64 most] w fun e w' => e = .returned (.agg #[.string (bitsV f most), .string (tameR r most)]) ∧ Below w.heap.size w w' := by
  have CC : Hid (∀ (t : ByteArray) W, t.size ≤ 9223372036854775807 → Calls Try.prog 82 #[.string t, .int .i64 most] W fun e w' => e = .returned (.string (bitsV t most)) ∧ Below W.heap.size W w') := Lib.hid (fun t W ht => bits_any t most W ht hm)
  go_enter Try.func37, Try.ntmps37
  go_wp2_with fail
  obtain ⟨W0, hW0⟩ : ∃ W0, W0 = (w.alloc (.cells #[.string f, .string r] 23)).alloc (.cells #[.string { data := #[] }, .string { data := #[] }] 24) := ⟨_, rfl⟩
  have B0 : Hid (Below w.heap.size w W0) := Lib.hid (by rw [hW0]; exact ((Below.refl _ _).alloc (Nat.le_refl _) _).alloc (by simp) _)
  have c0 : W0.cell? ⟨w.heap.size, 0, none⟩ = some (.string f) := by rw [hW0]; simp [cell_al]
  have c1 : W0.cell? ⟨w.heap.size, 1, none⟩ = some (.string r) := by rw [hW0]; simp [cell_al]
  have c3 : W0.cell? ⟨w.heap.size + 1, 0, none⟩ = some (.string { data := #[] }) := by rw [hW0]; simp [cell_al]
  have lt : w.heap.size + 1 < W0.heap.size := by rw [hW0]; simp
  have lt2 : w.heap.size < W0.heap.size := by omega
  rw [← hW0]
  have edr : W0.drew.heap.size = W0.heap.size := rfl
  have d2 : W0.frozen? ⟨w.heap.size + 1, 0, none⟩ = false := by rw [hW0]; simp [frozen_al]
  have d3 : W0.frozen? ⟨w.heap.size + 1, 1, none⟩ = false := by rw [hW0]; simp [frozen_al]
  have d1 : W0.cell? ⟨w.heap.size + 1, 1, none⟩ = some (.string { data := #[] }) := by rw [hW0]; simp [cell_al]
  clear hW0
  have KEEP : Hid (∀ W, Below W0.heap.size W0 W → w.heap.size + 1 < W.heap.size ∧ W.cell? ⟨w.heap.size + 1, 0, none⟩ = some (.string { data := #[] }) ∧ W.cell? ⟨w.heap.size + 1, 1, none⟩ = some (.string { data := #[] }) ∧ W.frozen? ⟨w.heap.size + 1, 0, none⟩ = false ∧ W.frozen? ⟨w.heap.size + 1, 1, none⟩ = false) :=
    Lib.hid (fun W h => ⟨Nat.lt_of_lt_of_le lt h.size, below_at h lt c3, below_at h lt d1, (h.frozen (p := ⟨w.heap.size + 1, 0, none⟩) lt).trans d2, (h.frozen (p := ⟨w.heap.size + 1, 1, none⟩) lt).trans d3⟩)
  clear d1 d2 d3 c3
  go_cut [5] (fun t5 wx => ∃ b, t5 = .pointer (some ⟨b, 0, none⟩) ∧ w.heap.size + 1 < b ∧ Below W0.heap.size W0 wx ∧ Hid (W0.heap.size ≤ b) ∧ wx.cell? ⟨b, 0, none⟩ = some (.string (bitsV f most)) ∧ wx.cell? ⟨b, 1, none⟩ = some (.string (bitsV r most)) ∧ wx.frozen? ⟨b, 0, none⟩ = false ∧ wx.frozen? ⟨b, 1, none⟩ = false)
  case first =>
    have BB : Below W0.heap.size W0 W0.drew := (Below.refl _ _).drew
    have SS : Hid (∀ W, Below W0.heap.size W0 W → Below W0.heap.size W0 W ∧ W.cell? ⟨w.heap.size, 0, none⟩ = some (.string f) ∧ W.cell? ⟨w.heap.size, 1, none⟩ = some (.string r)) :=
        Lib.hid (fun W h => ⟨h, below_at h lt2 c0, below_at h lt2 c1⟩)
    go_region_held3 (fun W => Below W0.heap.size W0 W ∧ W.cell? ⟨w.heap.size, 0, none⟩ = some (.string f) ∧ W.cell? ⟨w.heap.size, 1, none⟩ = some (.string r))
      (first
        | exact SS.out _ BB
        | exact SS.out _ (BB.alloc BB.size _)
        | exact SS.out _ ((BB.setCell (by first | exact Nat.le_refl _ | exact BB.size | (simp at * ; omega) | omega) _).setCell (by first | exact Nat.le_refl _ | exact BB.size | (simp at * ; omega) | omega) _))
      (first
        | (go_at_call 82; refine (CC.out _ _ (by first | exact hf | exact hr)).mono ?_; rintro e wa ⟨rfl, hb⟩; obtain ⟨hc, hfz, hsz⟩ := below_facts hb; (try simp only [size_al] at hsz); (first | (have kk := keep_new hb rfl; obtain ⟨klt, k0, k1, k2, k3⟩ := kk) | (have kk := keep_newd hb; obtain ⟨klt, k0, k1, k2, k3⟩ := kk) | (have kk := keep_old hb klt k0 k1 k2 k3; obtain ⟨klt, k0, k1, k2, k3⟩ := kk) | skip); replace BB := (by first | exact Below.andThen BB hb (Nat.le_refl _) | exact Below.andThen (BB.alloc BB.size _) hb (Nat.le_refl _))))

    all_goals
      have L1 := BB.size
      go_wp2_with fail
      go_meet
      clear SS CC
      refine ⟨_, rfl, ?_, ?_, ?_, ?_, ?_, ?_, ?_⟩
      · first | omega | (simp only [size_al] at *; omega)
      · first | exact BB.alloc BB.size _ | exact ((BB.setCell (by first | exact Nat.le_refl _ | exact BB.size | (dsimp only; omega)) _).setCell (by first | exact Nat.le_refl _ | exact BB.size | (dsimp only; omega)) _)
      · exact Lib.hid (by first | omega | (simp only [size_al] at *; omega))
      · first | exact (two_set k0 k1).1 | (simp [cell_al]; done)
      · first | exact (two_set k0 k1).2 | (simp [cell_al]; done)
      · first | (simp [*]; done) | (simp [frozen_al]; done)
      · first | (simp [*]; done) | (simp [frozen_al]; done)
  case rest =>
    obtain ⟨b, rfl, hlt, hB, hle, k0, k1, k2, k3⟩ := hcut
    obtain ⟨kl, l0, l1, l2, l3⟩ := KEEP.out _ hB
    have T := Lib.hid (B0.out.trans (hB.mono (by have := B0.out.size; omega)))
    have hne : ¬ (w.heap.size + 1 = b) := by omega
    have hne' : ¬ (b = w.heap.size + 1) := by omega
    clear KEEP CC B0 hB c0 c1
    by_cases hz : (bitsV r most).size = 0
    · have hz1 : bitsV r most = { data := #[] } := ByteArray.ext (Array.eq_empty_of_size_eq_zero hz)
      have E1 : Hid (tameR r most = toS [48]) := Lib.hid (by unfold tameR; rw [if_pos hz])
      go_wp2_with fail
      exact bodyPost_ret (v := .agg #[.string (bitsV f most), .string (toS [48])]) (by simp [results, Try.results37, go_sem, toS, *]) rfl ⟨by rw [E1.out], ((T.out.setCell (p := ⟨b, 1, none⟩) (by dsimp only; omega) _).setCell (p := ⟨w.heap.size + 1, 0, none⟩) (by dsimp only; omega) _).setCell (p := ⟨w.heap.size + 1, 1, none⟩) (by dsimp only; omega) _⟩
    · have hz1 : ((bitsV r most).toList == []) = false := by
        rw [beq_eq_false_iff_ne]; intro h
        rw [ByteArray.toList_eq] at h
        exact hz (by show (bitsV r most).data.size = 0; rw [← Array.length_toList, h]; rfl)
      have E1 : Hid (tameR r most = bitsV r most) := Lib.hid (by unfold tameR; rw [if_neg hz])
      go_wp2_with fail
      exact bodyPost_ret (v := .agg #[.string (bitsV f most), .string (bitsV r most)]) (by simp [results, Try.results37, go_sem, *]) rfl ⟨by rw [E1.out], (T.out.setCell (p := ⟨w.heap.size + 1, 0, none⟩) (by dsimp only; omega) _).setCell (p := ⟨w.heap.size + 1, 1, none⟩) (by dsimp only; omega) _⟩
end Go.Proofs.Ytbhlddfjfcmncaa
