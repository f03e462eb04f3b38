import Derived.Test.YtlehddifcjklgaaCf
import Derived.Maps.OwnIn
import Derived.Maps.OwnSet
import Derived.Maps.AppendAt
import Derived.RangeFuncNested
import Derived.RangeFuncBound
import Derived.RangeFuncCalls
import Derived.RangeFuncLeaves
import Derived.Shelf.Abstract
import Derived.Shelf.RegionOpen
import Derived.WalkKit
import Derived.OwnWalkIn
import Derived.TacticsInMore
import Derived.LoopNIn
import Derived.LoopIn
import Derived.WalkMore
import Derived.Sort.QuietThIn
import Derived.Sort.QuietTacIn
import Derived.Sort.BigQuietIn
import Derived.WalkSpells
import Derived.WalkLawsBesides
import Derived.BigQuiet
import Derived.Deep.QuietTactic
import Derived.Lib.Hide
import Derived.Deep.RegionHeld3
import Derived.StillTailTactics
import Derived.Deep.LoopGhost
import Derived.Lib.IndexAny
namespace Go.Proofs.Ytlehddifcjklgaa
open Go.RowKit Go.Shelf
attribute [local go_sem] Oper.semAt_some
def psum (f : Nat → Int) (k : Nat) : Int := ((List.range k).map f).sum
theorem psum_succ (f : Nat → Int) (k : Nat) : psum f (k + 1) = psum f k + f k := by
  unfold psum; rw [List.range_succ, List.map_append, List.sum_append]; simp
theorem psum_bd {f : Nat → Int} {n : Nat} {m : Int} (hm : 0 ≤ m) (h : ∀ i, i < n → Bd m (f i)) : ∀ k, k ≤ n → Bd (m * k) (psum f k)
  | 0, _ => by simp [psum, Bd]
  | k + 1, hk => by
    rw [psum_succ]
    have h1 := psum_bd hm h k (by omega)
    have h2 := h k (by omega)
    have := h1.add h2
    rw [Int.natCast_add, Int.mul_add]
    simpa using this
/-- two rows laid one behind the other, and a draw -/
theorem two_rows {W : World} (a b c d : Int) (t : TypeId) : ∃ V, V = ((W.alloc (.cells #[.int .i64 a, .int .i64 b] t)).alloc (.cells #[.int .i64 c, .int .i64 d] t)).drew ∧ (V.cell? ⟨W.heap.size, 0, none⟩ = some (.int .i64 a) ∧ V.cell? ⟨W.heap.size, 1, none⟩ = some (.int .i64 b) ∧ V.cell? ⟨W.heap.size + 1, 0, none⟩ = some (.int .i64 c) ∧ V.cell? ⟨W.heap.size + 1, 1, none⟩ = some (.int .i64 d)) ∧ Below W.heap.size W V := by
  refine ⟨_, rfl, ⟨?_, ?_, ?_, ?_⟩, (((Below.refl _ _).alloc (Nat.le_refl _) _).alloc (by simp) _).drew⟩
  · show ((W.alloc _).alloc _).cell? _ = _; simp [cell_al]
  · show ((W.alloc _).alloc _).cell? _ = _; simp [cell_al]
  · show ((W.alloc _).alloc _).cell? _ = _; simp [cell_al]
  · show ((W.alloc _).alloc _).cell? _ = _; simp [cell_al]
set_option maxRecDepth 100000 in
set_option maxHeartbeats 2000000 in
theorem rArea_any (ps : List Pt) (b c : Nat) (w : World) (hp : PtsAt w b 0 ps) (ha : areP ps = true) :
    Calls Try.prog 32 #[.slice (some ⟨b, 0, none⟩) ps.length c] w fun e w' => e = .returned (.int .i64 (area ps)) ∧ Below w.heap.size w w' := by
  obtain ⟨h3, h12⟩ := areP_len ha
  have HP := Lib.hid hp
  have HA := Lib.hid ha
  have HBS := Lib.hid (fun k (hk : k ≤ ps.length) => psum_bd (f := crsAt ps) (n := ps.length) (m := 1000) (by omega) (fun i hi => by
    have b1 := ptAt_bd ha hi
    have b2 := nx_bd ha hi
    exact ((b1.1.mul b2.2).add (b1.2.neg.mul b2.1)).mono (by omega)) k hk)
  clear hp ha
  go_enter Try.func32, Try.ntmps32
  go_wp2_with fail
  go_loopw [3, 4] (fun s i wr => ∃ k : Nat, k ≤ ps.length ∧ i = .int .i64 (k : Int) ∧ Hid (s = .int .i64 (psum (crsAt ps) k)) ∧ Hid (Below w.heap.size w wr)) (fun _ i _ => ps.length - (intOf i).toNat)
  case atStart => exact ⟨0, by omega, rfl, Lib.hid rfl, Lib.hid (Below.refl _ _)⟩
  case round =>
    obtain ⟨k, hk, rfl, HS, HB⟩ := hrel
    have hs := HS.out
    by_cases hlt : k < ps.length
    · have hd : decide ((k : Int) < (ps.length : Int)) = true := decide_eq_true (by omega)
      have hd' : decide (k < ps.length) = true := decide_eq_true hlt
      obtain ⟨j, hj⟩ : ∃ j, (k + 1) % ps.length = j := ⟨_, rfl⟩
      have hjl : j < ps.length := by rw [← hj]; exact Nat.mod_lt _ (by omega)
      have ej2 : ((k : Int) + 1) % (ps.length : Int) = (j : Int) := by rw [← hj, Int.natCast_emod]; rfl
      have ej1 : ((k : Int) + 1).tmod (ps.length : Int) = (j : Int) := by
        rw [Int.tmod_eq_emod_of_nonneg (by omega)]; exact ej2
      have z1 : ¬ ((ps.length : Int) = 0) := by omega
      have z2 : ¬ (ps.length = 0) := by omega
      have z3 : ¬ (ps = []) := fun h => by subst h; simp at hlt
      have i1 : (0 : Int) ≤ (k : Int) := by omega
      have i2 : (0 : Int) ≤ (j : Int) := by omega
      have i3 : (j : Int) < (ps.length : Int) := by omega
      have i4 : (k : Int) < (ps.length : Int) := by omega
      have w1 : IntKind.i64.wrap ((k : Int) + 1) = (k : Int) + 1 := i64_of _ (by omega) (by omega)
      have hb1 := ptAt_bd HA.out hlt
      have hb2 := ptAt_bd HA.out hjl
      have hbs := HBS.out k (by omega)
      have hxw := HP.out.x k hlt
      have hyw := HP.out.y k hlt
      have hx2w := HP.out.x j hjl
      have hy2w := HP.out.y j hjl
      rw [Nat.zero_add] at hxw hyw hx2w hy2w
      have hsn : psum (crsAt ps) (k + 1) = psum (crsAt ps) k + crs (ptAt ps k) (ptAt ps j) := by rw [psum_succ]; unfold crsAt nx; rw [hj]
      rw [← ptAt_lt hlt] at hxw hyw
      rw [← ptAt_lt hjl] at hx2w hy2w
      generalize ptAt ps k = p at *
      generalize ptAt ps j = q at *
      obtain ⟨p1, p2⟩ := p
      obtain ⟨q1, q2⟩ := q
      dsimp only at hxw hyw hx2w hy2w hb1 hb2
      generalize psum (crsAt ps) k = S at *
      subst hs
      have hk12 : k ≤ 12 := by omega
      have bS : Bd 12000 S := hbs.mono (by omega)
      have m1 := hb1.1.mul hb2.2
      have m2 := hb1.2.mul hb2.1
      have e1 : IntKind.i64.wrap (p1 * q2) = p1 * q2 := i64_bd m1 (by omega)
      have e2 : IntKind.i64.wrap (p2 * q1) = p2 * q1 := i64_bd m2 (by omega)
      have e3 : IntKind.i64.wrap (S + p1 * q2) = S + p1 * q2 := i64_bd (bS.add m1) (by omega)
      have e4 : IntKind.i64.wrap (S + p1 * q2 - p2 * q1) = S + p1 * q2 - p2 * q1 := i64_bd ((bS.add m1).sub m2) (by omega)
      have hfin : S + p1 * q2 - p2 * q1 = psum (crsAt ps) (k + 1) := by rw [hsn]; unfold crs; dsimp only; rw [Int.neg_mul]; omega
      have HFIN := Lib.hid hfin
      clear hb1 hb2 hbs hsn hj m1 m2 bS hfin HS
      have hlb : b < w.heap.size := HP.out.lt
      have SS := Lib.hid (show ∀ W, Below w.heap.size w W → W.cell? ⟨b, k * 2, none⟩ = some (.int .i64 p1) ∧ W.cell? ⟨b, k * 2 + 1, none⟩ = some (.int .i64 p2) ∧ W.cell? ⟨b, j * 2, none⟩ = some (.int .i64 q1) ∧ W.cell? ⟨b, j * 2 + 1, none⟩ = some (.int .i64 q2) from fun W h => ⟨below_at h hlb hxw, below_at h hlb hyw, below_at h hlb hx2w, below_at h hlb hy2w⟩)
      have BD := Lib.hid (show Below w.heap.size w wr.drew from HB.out.drew)
      have hle := Lib.hid (show w.heap.size ≤ wr.heap.size from HB.out.size)
      clear hxw hyw hx2w hy2w hd'
      go_wp2_with fail
      go_region_held3 (fun W => W.cell? ⟨b, k * 2, none⟩ = some (.int .i64 p1) ∧ W.cell? ⟨b, k * 2 + 1, none⟩ = some (.int .i64 p2) ∧ W.cell? ⟨b, j * 2, none⟩ = some (.int .i64 q1) ∧ W.cell? ⟨b, j * 2 + 1, none⟩ = some (.int .i64 q2))
        ((refine SS.out _ ?_; repeat (first | exact BD.out | exact HB.out | (refine Below.drew ?_) | (refine Below.al ?_ (Nat.le_refl _) _) | (refine Below.setCell ?_ (by have := hle.out; simp; omega) _))))
        (first | fail)
      · obtain ⟨V, hV, ⟨c0, c1, c2, c3⟩, hbv⟩ := two_rows (W := wr) p1 p2 q1 q2 58
        rw [← hV]
        have T2 := Lib.hid (Below.andThen HB.out hbv (Nat.le_refl _))
        clear hV hbv SS BD
        go_wp2_with fail
        refine ⟨⟨k + 1, by omega, by simp, Lib.hid (by rw [HFIN.out]), T2⟩, ?_⟩
        simp [intOf]; omega
      · obtain ⟨V, hV, ⟨c0, c1, c2, c3⟩, hbv⟩ := two_rows (W := wr) q1 q2 p1 p2 58
        rw [← hV]
        have T2 := Lib.hid (Below.andThen HB.out hbv (Nat.le_refl _))
        clear hV hbv SS BD
        go_wp2_with fail
        refine ⟨⟨k + 1, by omega, by simp, Lib.hid (by rw [HFIN.out]), T2⟩, ?_⟩
        simp [intOf]; omega
    · have hd : decide ((k : Int) < (ps.length : Int)) = false := decide_eq_false (by omega)
      have hd' : decide (k < ps.length) = false := decide_eq_false hlt
      obtain rfl : k = ps.length := by omega
      subst hs
      clear HS
      go_wp2_with fail
      go_ret
      exact ⟨rfl, HB.out⟩
end Go.Proofs.Ytlehddifcjklgaa
