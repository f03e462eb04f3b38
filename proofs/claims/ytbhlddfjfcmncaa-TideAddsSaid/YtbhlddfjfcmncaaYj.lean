import Derived.Test.YtbhlddfjfcmncaaYi
import Derived.Maps.OwnIn
import Derived.Maps.OwnSet
import Derived.RangeFuncNested
import Derived.RangeFuncBound
import Derived.RangeFuncCalls
import Derived.RangeFuncLeaves
import Derived.Shelf.Abstract
import Derived.Shelf.RegionOpen
import Derived.WalkKit
import Derived.OwnWalkIn
import Derived.TacticsInMore
import Derived.LoopNIn
import Derived.LoopIn
import Derived.WalkSpells
import Derived.WalkLawsBesides
import Derived.BigQuiet
import Derived.Deep.QuietTactic
import Derived.Lib.Hide
import Derived.Deep.RegionHeld3
import Derived.StillTailTactics
import Derived.Lib.MakeNoZero
import Derived.Laws.CopyOwn
import Derived.Deep.RegionLaw
import Derived.Deep.LoopGhost
import Derived.Deep.CutBlock
import Derived.Deep.DeepCutAuto
import Derived.Lib.IndexAny
namespace Go.Proofs.Ytbhlddfjfcmncaa
open Go.RowKit Go.Shelf
attribute [local go_sem] Oper.semAt_some
def encBo (b : Bool) : Value := .bool b
theorem hoursL_succ (X : Nat → Bool) (k : Nat) : hoursL X (k + 1) = hoursL X k ++ [X k] := by
  unfold hoursL; rw [List.range_succ, List.map_append]; rfl
theorem ownsRow_below {w w' : World} {base : Nat} {e : TypeId} {size : Nat} {v : Value} {n : Nat} {xs : List Value} (h : w.ownsRow base e size v n xs) (hb : Below w.heap.size w w') : w'.ownsRow base e size v n xs := by
  obtain ⟨h1, h2⟩ := h
  refine ⟨h1, ?_⟩
  rcases h2 with h2 | ⟨g, cap, cur, rfl, hg, hh, r⟩
  · exact .inl h2
  · have hlt : g < w.heap.size := (Array.getElem?_eq_some_iff.1 hh).1
    exact .inr ⟨g, cap, cur, rfl, hg, by rw [hb.block g hlt]; exact hh, r⟩
set_option maxRecDepth 100000 in
set_option maxHeartbeats 1000000 in
theorem refHours_own (f r : ByteArray) (n : Nat) (w : World) (hr1 : 1 ≤ r.size) (hn : n ≤ 1000000) :
    Calls Try.prog 85 #[.agg #[.string f, .string r], .int .i64 n] w fun e w' => ∃ v : Value, e = .returned v ∧ w'.ownsRow (w.heap.size + 1) 4 1 v n ((hoursL (hasB f r) n).map encBo) ∧ Below w.heap.size w w' := by
  obtain ⟨i0, hi, hz0, hz1, hz2⟩ := info_parts infoBool
  have HI := Lib.hid hi
  have H0 := Lib.hid hz0
  have H1 := Lib.hid hz1
  have H2 := Lib.hid hz2
  clear hi hz0 hz1 hz2
  go_enter Try.func85, Try.ntmps85
  go_wp2_with fail
  go_loopw [5, 6] (fun v i wr => ∃ k : Nat, k ≤ n ∧ i = .int .i64 k ∧ Hid (wr.ownsRow (w.heap.size + 1) 4 1 v k ((hoursL (hasB f r) k).map encBo)) ∧ Hid (Below (w.heap.size + 1) (w.alloc (.cells #[.string f, .string r] 24)) wr)) (fun _ i _ => n - (intOf i).toNat)
  case atStart => exact ⟨0, Nat.zero_le _, rfl, Lib.hid (World.ownsRow_nil _ _ _ _), Lib.hid (Below.refl _ _)⟩
  case round =>
    obtain ⟨k, hk, rfl, hown, hbel⟩ := hrel
    by_cases h1 : k < n
    · have c0 := below_at hbel.out (b := w.heap.size) (o := 0) (v := .string f) (by omega) (by simp)
      have c1 := below_at hbel.out (b := w.heap.size) (o := 1) (v := .string r) (by omega) (by simp)
      go_wp2_with fail
      refine (refHas_any f r k _ hr1 (by omega)).mono ?_
      rintro e w1 ⟨rfl, hb⟩
      have hsz : Hid (w.heap.size + 1 ≤ wr.heap.size) := Lib.hid (by have := hbel.out.size; rw [size_al] at this; exact this)
      have T1 := Lib.hid (hbel.out.trans (hb.mono hsz.out))
      have OWN := Lib.hid (ownsRow_below hown.out hb)
      have hs1 : Hid (w.heap.size + 1 ≤ w1.heap.size) := Lib.hid (Nat.le_trans hsz.out hb.size)
      have HL : Hid ((hoursL (hasB f r) k).map encBo ++ [.bool (hasB f r k)] = (hoursL (hasB f r) (k + 1)).map encBo) := Lib.hid (by rw [hoursL_succ, List.map_append]; rfl)
      have B0 := Lib.hid T1.out
      clear hown hbel hb c0 c1 hsz T1
      generalize hasB f r k = bk at *
      go_wp2_with (first
        | (at_builtin; refine wpList_append_own _ rfl _ _ 78 rfl (w.heap.size + 1) 4 i0 (.bool false) 1 1 Try.underlying78 HI.out H0.out H1.out H2.out rfl (by decide) _ _ _ rfl (OWN.out.alloc _) ⟨w1.heap.size, 0, none⟩ 1 1 [.bool bk] rfl rfl ?c1 ?c2 ?c3 ?c4 ?c5 ?_))
      case c1 =>
        intro j u hj
        match j, hj with
        | 0, hj => simp at hj; subst hj; simp [Addr.add]
      case c2 => intro u hu; simp at hu; subst hu; rfl
      case c3 => unfold maxLen; omega
      case c4 => omega
      case c5 => have := hs1.out; simp; omega
      · intro v' w2 hown' hgrow _
        have R1 : Hid (w2.ownsRow (w.heap.size + 1) 4 1 v' (k + 1) ((hoursL (hasB f r) (k + 1)).map encBo)) := Lib.hid (by
          rw [← HL.out]; exact hown')
        have R2 : Hid (Below (w.heap.size + 1) (w.alloc (.cells #[.string f, .string r] 24)) w2) := Lib.hid ((B0.out.alloc hs1.out _).grown hgrow (by have := hs1.out; simp; omega) (fun j hj => (OWN.out.lt j hj).1))
        clear hown' hgrow OWN B0 HL
        go_wp2_with fail
        go_roundw
        case rel => exact ⟨k + 1, by omega, rfl, R1, R2⟩
        case measure => simp [intOf]; omega
    · have hkn : k = n := by omega
      subst hkn
      have T1 := Lib.hid (((Below.refl w.heap.size w).alloc (Nat.le_refl _) (Obj.cells #[.string f, .string r] 24)).trans (hbel.out.mono (Nat.le_succ _)))
      go_wp2_with fail
      go_ret
      exact ⟨_, rfl, hown.out, T1.out⟩
set_option maxHeartbeats 400000 in
theorem refGcd_any (a b : Nat) (w : World) (ha : a ≤ 1000000) (hb : b ≤ 1000000) :
    Calls Try.prog 109 #[.int .i64 a, .int .i64 b] w fun e w' => e = .returned (.int .i64 (Nat.gcd a b)) ∧ ∃ n, w' = w.drewN n := by
  go_enter Try.func109, Try.ntmps109
  go_wp2
  go_loopw [0, 1] (fun x y wr => ∃ p q : Nat, p ≤ 1000000 ∧ q ≤ 1000000 ∧ Nat.gcd p q = Nat.gcd a b ∧ x = .int .i64 p ∧ y = .int .i64 q ∧ ∃ n, wr = w.drewN n) (fun _ y _ => (intOf y).toNat)
  case atStart => exact ⟨a, b, ha, hb, rfl, rfl, rfl, 0, rfl⟩
  case round =>
    obtain ⟨p, q, hp, hq, hg, rfl, rfl, n, rfl⟩ := hrel
    by_cases hz : q = 0
    · subst hz
      go_wp2
      go_ret
      exact ⟨ret_int (by rw [← hg]; simp), n, rfl⟩
    · have hb1 : decide (0 < q) = true := by simp; omega
      have e1 : ((p : Int)).tmod (q : Int) = ((p % q : Nat) : Int) := by rw [← Int.ofNat_tmod]
      have e2 : ¬ ((q : Int) = 0) := by omega
      have hm : p % q < q := Nat.mod_lt _ (by omega)
      have hg2 : Nat.gcd q (p % q) = Nat.gcd a b := by rw [← hg, Nat.gcd_comm p q, Nat.gcd_rec q p, Nat.gcd_comm]
      generalize p % q = m at *
      go_wp2
      go_quiet (fail)
      go_wp2
      go_roundw
      case rel => exact ⟨q, m, by omega, by omega, hg2, rfl, rfl, _, drewN_drewN _ _ _⟩
      case measure => simp [intOf]; omega
set_option maxHeartbeats 400000 in
theorem refLcm_any (a b : Nat) (w : World) (ha : a ≤ 1000) (hb1 : 1 ≤ b) (hb : b ≤ 1000) :
    Calls Try.prog 100 #[.int .i64 a, .int .i64 b] w fun e w' => e = .returned (.int .i64 ((a / Nat.gcd a b * b : Nat) : Int)) ∧ Below w.heap.size w w' := by
  have gp : 1 ≤ Nat.gcd a b := Nat.gcd_pos_of_pos_right _ (by omega)
  have gd : ((a : Int)).tdiv ((Nat.gcd a b : Nat) : Int) = ((a / Nat.gcd a b : Nat) : Int) := by rw [← Int.ofNat_tdiv]
  have gq : a / Nat.gcd a b ≤ 1000 := Nat.le_trans (Nat.div_le_self _ _) ha
  have gm : IntKind.i64.wrap (((a / Nat.gcd a b : Nat) : Int) * (b : Int)) = ((a / Nat.gcd a b * b : Nat) : Int) := by
    have h2 : a / Nat.gcd a b * b ≤ 1000 * 1000 := Nat.mul_le_mul gq hb
    rw [← Int.natCast_mul, i64_of _ (by omega) (by omega)]
  have HG : Hid (∀ W, Calls Try.prog 109 #[.int .i64 a, .int .i64 b] W fun e w' => e = .returned (.int .i64 (Nat.gcd a b)) ∧ ∃ n, w' = W.drewN n) := Lib.hid (fun W => refGcd_any a b W (by omega) (by omega))
  have gi : IntKind.i64.wrap ((a / Nat.gcd a b : Nat) : Int) = ((a / Nat.gcd a b : Nat) : Int) := i64_nat _ (by omega)
  have gz : ¬ (((Nat.gcd a b : Nat) : Int) = 0) := by omega
  have gz2 : ¬ (Nat.gcd a b = 0) := by omega
  generalize a / Nat.gcd a b * b = L at *
  generalize a / Nat.gcd a b = q at *
  generalize Nat.gcd a b = g at *
  go_enter Try.func100, Try.ntmps100
  go_wp2_with fail
  refine (HG.out _).mono ?_
  rintro e w1 ⟨rfl, n, rfl⟩
  go_wp2_with fail
  go_ret
  exact ⟨rfl, below_drewN (Below.refl _ _) n⟩
/-- the number of hours that the reference looks at -/
def enoughN (f r g s : ByteArray) : Nat := f.size + g.size + r.size * s.size + r.size + s.size + 2 * spanR r s + 120
set_option maxRecDepth 100000 in
set_option maxHeartbeats 1000000 in
theorem refEnough_any (f r g s : ByteArray) (w : World) (hf : f.size ≤ 60) (hr1 : 1 ≤ r.size) (hr : r.size ≤ 60) (hg : g.size ≤ 60) (hs1 : 1 ≤ s.size) (hs : s.size ≤ 60) :
    Calls Try.prog 86 #[.agg #[.string f, .string r], .agg #[.string g, .string s]] w fun e w' => e = .returned (.int .i64 (enoughN f r g s)) ∧ Below w.heap.size w w' := by
  have hL := (spanR_bd hr1 hr hs1 hs).2
  have hM : r.size * s.size ≤ 60 * 60 := Nat.mul_le_mul hr hs
  have EN : Hid (enoughN f r g s = f.size + g.size + r.size * s.size + r.size + s.size + 2 * spanR r s + 120) := Lib.hid rfl
  have HL : Hid (∀ W, Calls Try.prog 100 #[.int .i64 r.size, .int .i64 s.size] W fun e w' => e = .returned (.int .i64 (spanR r s)) ∧ Below W.heap.size W w') := Lib.hid (fun W => refLcm_any r.size s.size W (by omega) hs1 (by omega))
  have m1 : IntKind.i64.wrap ((r.size : Int) * (s.size : Int)) = ((r.size * s.size : Nat) : Int) := by rw [← Int.natCast_mul, i64_of _ (by omega) (by omega)]
  generalize spanR r s = L at *
  generalize r.size * s.size = M at *
  go_enter Try.func86, Try.ntmps86
  go_wp2_with fail
  obtain ⟨W0, hW0⟩ : ∃ W0, W0 = (w.alloc (.cells #[.string f, .string r] 24)).alloc (.cells #[.string g, .string s] 24) := ⟨_, rfl⟩
  have B0 : Hid (Below w.heap.size w W0) := Lib.hid (by rw [hW0]; exact ((Below.refl _ _).alloc (Nat.le_refl _) _).alloc (by simp) _)
  have c0 : W0.cell? ⟨w.heap.size, 0, none⟩ = some (.string f) := by rw [hW0]; simp [cell_al]
  have c1 : W0.cell? ⟨w.heap.size, 1, none⟩ = some (.string r) := by rw [hW0]; simp [cell_al]
  have c2 : W0.cell? ⟨w.heap.size + 1, 0, none⟩ = some (.string g) := by rw [hW0]; simp [cell_al]
  have c3 : W0.cell? ⟨w.heap.size + 1, 1, none⟩ = some (.string s) := by rw [hW0]; simp [cell_al]
  have lt : w.heap.size + 1 < W0.heap.size := by rw [hW0]; simp
  rw [← hW0]
  clear hW0
  go_quiet (fail)
  go_wp2_with fail
  obtain ⟨W1, hW1⟩ : ∃ W1, W1 = W0.drewN nq := ⟨_, rfl⟩
  rw [← hW1]
  have B1 : Hid (Below w.heap.size w W1) := Lib.hid (by rw [hW1]; exact below_drewN B0.out _)
  have lt1 : w.heap.size + 1 < W1.heap.size := by rw [hW1]; exact lt
  have e0 : W1.cell? ⟨w.heap.size, 0, none⟩ = some (.string f) := by rw [hW1]; exact c0
  have e2 : W1.cell? ⟨w.heap.size + 1, 0, none⟩ = some (.string g) := by rw [hW1]; exact c2
  clear hW1 c0 c1 c2 c3 B0 lt
  have k0 := Kl.cell (by omega) e0
  have k2 := Kl.cell (by omega) e2
  refine wp_region_below (by kernel_rfl) (by kernel_rfl) ?_
  repeat (go_big_quiet_step (exact Kl.call (HL.out _)))
  refine wpQuiet_nil ?_
  rintro _ ⟨wq, rfl⟩
  go_wp2_with fail
  go_ret
  exact ⟨ret_int (by rw [EN.out]; omega), B1.out.trans (wq.h.mono (by omega))⟩
end Go.Proofs.Ytbhlddfjfcmncaa
