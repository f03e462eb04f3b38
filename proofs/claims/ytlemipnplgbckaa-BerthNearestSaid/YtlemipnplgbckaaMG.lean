import Derived.Test.YtlemipnplgbckaaMF
import Derived.ProofKit
import Derived.OpenShut
import Derived.Deep.Slices
import Derived.WideKeyPair
import Derived.WideKeyArr2
import Derived.Lib.SmallJoins
import Derived.Laws.IdiomArrays
import Derived.JoinedOf
import Derived.JoinedAt
import Derived.Laws.AppendOwn
import Derived.ChangeKeysEq
import Derived.Maps.RangeWalk
import Derived.Maps.OwnIn
import Derived.Maps.AppendAt
import Derived.RangeFuncNested
import Derived.RangeFuncBound
import Derived.RangeFuncCalls
import Derived.RangeFuncLeaves
import Derived.Shelf.Abstract
import Derived.Shelf.RegionOpen
import Derived.WalkKit
import Derived.WalkMore
import Derived.OwnWalkIn
import Derived.TacticsInMore
import Derived.LoopNIn
import Derived.LoopIn
import Derived.WalkSpells
import Derived.WalkLawsBesides
import Derived.BigQuiet
import Derived.Deep.QuietTactic
import Derived.Lib.Hide
import Derived.Deep.RegionHeld3
import Derived.StillTailTactics
import Derived.Deep.LoopGhost
import Derived.Maps.OwnSet
import Derived.Lib.IndexAny
import Derived.Sort.QuietThIn
import Derived.Sort.QuietTacIn
import Derived.Sort.BigQuietIn
import Derived.Laws.OwnMore
import Derived.DeepKeys4
import Derived.Maps.Views
import Derived.Maps.OwnOps
import Derived.Deep.DeepCutAuto
import Derived.Test.YtlemipnplgbckaaME
namespace Go.Proofs.Ytlemipnplgbckaa
open Go.RowKit Go.Shelf
attribute [local go_sem] Oper.semAt_some
section
open Go.RowKit Go.Shelf Go.ChangeShapes Go.WideShapes Go.Deep Go.ChangeAt Go.Joins
def InI (x : Int) : Prop := -9223372036854775808 ≤ x ∧ x ≤ 9223372036854775807
theorem inI_wf {x : Int} (h : (Lit.int .i64 x).wf = true) : InI x := by
  simp only [Lit.wf, Bool.and_eq_true, decide_eq_true_eq] at h
  exact h
theorem cell_lt {W : World} {b o : Nat} {v : Value} (h : W.cell? ⟨b, o, none⟩ = some v) : b < W.heap.size := by
  rcases Nat.lt_or_ge b W.heap.size with h1 | h1
  · exact h1
  · simp [World.cell?, Array.getElem?_eq_none h1] at h
set_option maxRecDepth 100000 in
/-- an argument of numbers, opened -/
theorem open_sli {H : Type} {enc : TypeId × Value → H} {W : World} {base : Nat} {v : Value} {d : DataW H} {p : List MemPlace} (hval : Value.okWide Try.prog W .any base 35 v) (h : DataW.Trod enc Try.prog W 0 (fun _ => true) true 35 v d p) :
    ∃ zs, SlI W v zs ∧ zs.length ≤ maxLen ∧ ∀ z ∈ zs, InI z := by
  obtain ⟨a0, len0, cap0, rfl⟩ := okWide_slice Try.underlying35 hval
  obtain ⟨fuel, hf⟩ := h
  rcases open_ints Try.underlying35 Try.underlying3 cells3 hf with ⟨hcs, _⟩ | ⟨a, len, cap, zs, hcs, hb, hl, hm, hz, hx, hcell, hwf⟩
  · simp only [Value.cells, List.cons.injEq, Value.slice.injEq, and_true] at hcs
    obtain ⟨rfl, rfl, rfl⟩ := hcs
    exact ⟨[], ⟨none, 0, rfl, by simp, .inl rfl⟩, by simp, fun q h => by cases h⟩
  · simp only [Value.cells, List.cons.injEq, Value.slice.injEq, and_true] at hcs
    obtain ⟨rfl, rfl, rfl⟩ := hcs
    have hlz : len0 ≤ zs.length := by rw [hz]; simp; omega
    have hll : (zs.take len0).length = len0 := by rw [List.length_take]; omega
    refine ⟨zs.take len0, ⟨some a, cap0, by rw [hll], by omega, ?_⟩, by omega, fun z hz => inI_wf (hwf z (List.mem_of_mem_take hz))⟩
    by_cases h0 : len0 = 0
    · left; subst h0; rfl
    · right
      obtain ⟨b, off, rfl, hc⟩ := ints_at hcell (by omega)
      refine ⟨b, off, rfl, cell_lt (hc 0 (by omega)), ⟨.inr (cell_lt (hc 0 (by omega))), fun i h => ?_⟩⟩
      rw [hc i (by omega)]
      rw [List.getElem_take]
      simp [List.getD, List.getElem?_eq_getElem (show i < zs.length by omega)]
theorem cells28 : Try.prog.cellsOf 28 = 2 := by kernel_rfl
set_option maxRecDepth 100000 in
theorem open_slp {H : Type} {enc : TypeId × Value → H} {W : World} {base : Nat} {v : Value} {d : DataW H} {p : List MemPlace} (hval : Value.okWide Try.prog W .any base 22 v) (h : DataW.Trod enc Try.prog W 0 (fun _ => true) true 22 v d p) :
    ∃ ps, SlP W v ps ∧ ps.length ≤ maxLen ∧ (∀ q ∈ ps, InI q.1 ∧ InI q.2) ∧ (∀ a n c, v = .slice a n c → a = none → c = 0) := by
  obtain ⟨a0, len0, cap0, rfl⟩ := okWide_slice Try.underlying22 hval
  obtain ⟨fuel, hf⟩ := h
  rcases open_slice Try.underlying22 hf with ⟨hcs, _⟩ | ⟨a, len, cap, m, n, D, Pl, hcs, hb, hl, hm, hmm, hx, hi⟩
  · simp only [Value.cells, List.cons.injEq, Value.slice.injEq, and_true] at hcs
    obtain ⟨rfl, rfl, rfl⟩ := hcs
    exact ⟨[], ⟨none, 0, rfl, by simp, .inl rfl⟩, by simp, (fun q h => by cases h), fun a n c e _ => by cases e; rfl⟩
  · simp only [Value.cells, List.cons.injEq, Value.slice.injEq, and_true] at hcs
    obtain ⟨rfl, rfl, rfl⟩ := hcs
    have hlm : len0 ≤ m := by rw [hmm]; simp; omega
    have each : ∀ i, i < len0 → ∃ q : Int × Int, (W.cell? (a.add (i * 2)) = some (.int .i64 q.1) ∧ W.cell? (a.add (i * 2 + 1)) = some (.int .i64 q.2)) ∧ InI q.1 ∧ InI q.2 := fun i hil => by
      obtain ⟨cs', h1, h2⟩ := hi i (by omega)
      rw [cells28] at h1
      obtain ⟨_, hlen, hcell⟩ := World.cells?_some h1
      obtain ⟨xs, k, _, _, _, hxl, hel⟩ := DataW.trod_array Try.underlying28 h2
      have g0 := hel 0 (by omega)
      have g1 := hel 1 (by omega)
      rw [cells3] at g0 g1
      match xs, hxl, cs', hlen with
      | [y0, y1], _, [v0, v1], _ =>
        simp at g0 g1
        obtain ⟨z0, e0, _, w0⟩ := DataW.trod_int Try.underlying3 g0
        obtain ⟨z1, e1, _, w1⟩ := DataW.trod_int Try.underlying3 g1
        simp only [List.cons.injEq, and_true] at e0 e1
        subst e0
        subst e1
        have c0 := hcell 0 (by omega)
        have c1 := hcell 1 (by omega)
        rw [add_add] at c0 c1
        exact ⟨(z0, z1), ⟨by simpa using c0, by simpa using c1⟩, inI_wf w0, inI_wf w1⟩
    obtain ⟨f, hF⟩ := choose_lt each
    refine ⟨(List.range len0).map f, ⟨some a, cap0, by simp, by simp; omega, ?_⟩, by simp; omega, fun q hq => ?_, fun a n c e h => by cases e; cases h⟩
    · by_cases h0 : len0 = 0
      · left; subst h0; rfl
      · right
        obtain ⟨b, off, spot⟩ := a
        have hsp : spot = none := by
          have := (hF 0 (by omega)).1.1
          simpa [Addr.add] using World.cell?_spot this
        subst hsp
        refine ⟨b, off, rfl, ⟨?_, fun i h => ?_, fun i h => ?_⟩⟩
        · have := (hF 0 (by omega)).1.1
          rw [Go.WideShapes.add_plain] at this
          exact cell_lt this
        · have := (hF i (by simpa using h)).1.1
          rw [Go.WideShapes.add_plain] at this
          simpa using this
        · have := (hF i (by simpa using h)).1.2
          rw [Go.WideShapes.add_plain] at this
          simpa [Nat.add_assoc] using this
    · obtain ⟨i, hi, rfl⟩ := List.mem_map.1 hq
      exact (hF i (by simpa using hi)).2
set_option maxRecDepth 100000 in
theorem arr28 : Go.WideMaps.ArrKey Try.prog 28 3 2 := ⟨Try.underlying28, by kernel_rfl, cells3, cells28⟩
set_option maxRecDepth 100000 in
theorem open_pt {H : Type} {enc : TypeId × Value → H} {W : World} {base b1 : Nat} {sp : Nat → Bool} {held : Bool} {v : Value} {d : DataW H} {p : List MemPlace} (hv : Value.okWide Try.prog W .any base 28 v) (h : DataW.Trod enc Try.prog W b1 sp held 28 v d p) :
    ∃ a b : Int, v = .agg #[.int .i64 a, .int .i64 b] ∧ p = [] ∧ InI a ∧ InI b := by
  obtain ⟨a, b, rfl, _, rfl, wa, wb⟩ := Go.WideMaps.open_pair arr28 Try.underlying3 hv h
  exact ⟨a, b, rfl, rfl, inI_wf wa, inI_wf wb⟩
theorem cells30 : Try.prog.cellsOf 30 = 4 := by kernel_rfl
set_option maxRecDepth 100000 in
theorem open_cir {H : Type} {enc : TypeId × Value → H} {W : World} {base b1 : Nat} {sp : Nat → Bool} {held : Bool} {v : Value} {d : DataW H} {p : List MemPlace} (hv : Value.okWide Try.prog W .any base 30 v) (h : DataW.Trod enc Try.prog W b1 sp held 30 v d p) :
    ∃ a b c e : Int, v = .agg #[.int .i64 a, .int .i64 b, .int .i64 c, .int .i64 e] ∧ p = [] ∧ InI a ∧ InI b ∧ InI c ∧ InI e := by
  obtain ⟨c0, c1, c2, c3, y0, y1, y2, y3, m, rfl, rfl, rfl, h0, h1, h2, h3⟩ := open_agg4 Try.underlying30 (by kernel_rfl) cells30 hv h
  obtain ⟨a, e0, rfl, wa⟩ := DataW.trod_int Try.underlying3 h0
  obtain ⟨b, e1, rfl, wb⟩ := DataW.trod_int Try.underlying3 h1
  obtain ⟨c, e2, rfl, wc⟩ := DataW.trod_int Try.underlying3 h2
  obtain ⟨e, e3, rfl, we⟩ := DataW.trod_int Try.underlying3 h3
  simp at e0 e1 e2 e3
  subst e0 e1 e2 e3
  exact ⟨a, b, c, e, rfl, rfl, inI_wf wa, inI_wf wb, inI_wf wc, inI_wf we⟩
set_option maxRecDepth 100000 in
theorem arr71 : Go.WideMaps.ArrKey Try.prog 71 3 3 := ⟨Try.underlying71, by kernel_rfl, cells3, by kernel_rfl⟩
set_option maxRecDepth 100000 in
theorem open_trip {H : Type} {enc : TypeId × Value → H} {W : World} {base b1 : Nat} {sp : Nat → Bool} {held : Bool} {v : Value} {d : DataW H} {p : List MemPlace} (hv : Value.okWide Try.prog W .any base 71 v) (h : DataW.Trod enc Try.prog W b1 sp held 71 v d p) :
    ∃ a b c : Int, v = .agg #[.int .i64 a, .int .i64 b, .int .i64 c] ∧ p = [] ∧ InI a ∧ InI b ∧ InI c := by
  obtain ⟨xs, rfl, hx⟩ := Go.WideMaps.okWide_arr arr71 hv
  obtain ⟨l⟩ := xs
  match l, hx with
  | [c0, c1, c2], _ =>
    obtain ⟨fuel, hf⟩ := h
    obtain ⟨y0, y1, y2, m, e, h0, h1, h2⟩ := trod_array3 Try.underlying71 cells3 hf
    obtain ⟨a, e0, rfl, wa⟩ := DataW.trod_int Try.underlying3 h0
    obtain ⟨b, e1, rfl, wb⟩ := DataW.trod_int Try.underlying3 h1
    obtain ⟨c, e2, rfl, wc⟩ := DataW.trod_int Try.underlying3 h2
    simp at e0 e1 e2
    subst e0 e1 e2
    cases e
    exact ⟨a, b, c, rfl, rfl, inI_wf wa, inI_wf wb, inI_wf wc⟩
end
end Go.Proofs.Ytlemipnplgbckaa
namespace Go.Proofs.Ytlemipnplgbckaa
open Go.RowKit Go.Shelf
attribute [local go_sem] Oper.semAt_some
set_option maxRecDepth 100000 in
set_option maxHeartbeats 400000 in
theorem circle_any (X Y D R : Int) (w : World) : Calls Try.prog 28 #[.agg #[.int .i64 X, .int .i64 Y, .int .i64 D, .int .i64 R]] w fun e w' => e = .returned (.agg #[.int .i64 X, .int .i64 Y, .int .i64 D, .int .i64 R]) ∧ Below w.heap.size w w' := by
  go_enter Try.func28, Try.ntmps28
  go_wp2_with fail
  obtain ⟨V, hV, ra, rr, bV, hs⟩ := two_start w 30 46 [.int .i64 X, .int .i64 Y, .int .i64 D, .int .i64 R] [.int .i64 X, .int .i64 Y, .int .i64 D, .int .i64 R]
  rw [show (w.alloc (.cells #[.int .i64 X, .int .i64 Y, .int .i64 D, .int .i64 R] 30)).alloc (.cells #[.int .i64 X, .int .i64 Y, .int .i64 D, .int .i64 R] 46) = V from hV.symm]
  have v0 := rr.cell 0
  have v1 := rr.cell 1
  have v2 := rr.cell 2
  have v3 := rr.cell 3
  simp only [List.getElem?_cons_zero, List.getElem?_cons_succ] at v0 v1 v2 v3
  exact bodyPost_ret (v := .agg #[.int .i64 X, .int .i64 Y, .int .i64 D, .int .i64 R]) (by simp [results, Try.results28, go_sem, v0, v1, v2, v3]) rfl ⟨rfl, bV⟩
theorem abs_max (a : Int) : max a (-a) = (a.natAbs : Int) := by omega
set_option maxRecDepth 100000 in
set_option maxHeartbeats 1000000 in
theorem rgcd_any (a b : Int) (w : World) (ha : Bd 4000000000000000000 a) (hb : Bd 4000000000000000000 b) :
    Calls Try.prog 73 #[.int .i64 a, .int .i64 b] w fun e w' => e = .returned (.int .i64 (Nat.gcd a.natAbs b.natAbs : Nat)) ∧ Below w.heap.size w w' := by
  have e1 : IntKind.i64.wrap (-a) = -a := i64_bd ha.neg (by omega)
  have e2 : IntKind.i64.wrap (-b) = -b := i64_bd hb.neg (by omega)
  obtain ⟨G, hG⟩ : ∃ G, Nat.gcd a.natAbs b.natAbs = G := ⟨_, rfl⟩
  rw [hG]
  have key : ∀ (p q : Int), p = (a.natAbs : Int) → q = (b.natAbs : Int) → 0 ≤ p ∧ 0 ≤ q ∧ Bd 4000000000000000000 p ∧ Bd 4000000000000000000 q ∧ Nat.gcd p.natAbs q.natAbs = G := by
    rintro p q rfl rfl
    unfold Bd at *
    refine ⟨by omega, by omega, by omega, by omega, ?_⟩
    rw [Int.natAbs_natCast, Int.natAbs_natCast, hG]
  have HK := Lib.hid key
  have HAB := Lib.hid (And.intro ha hb)
  clear key hG
  clear ha hb
  go_enter Try.func73, Try.ntmps73
  go_wp2_with fail
  rw [abs_max a, abs_max b]
  go_loopw [0, 1] (fun av bv wx => ∃ (x y : Int), av = .int .i64 x ∧ bv = .int .i64 y ∧ 0 ≤ x ∧ 0 ≤ y ∧ Bd 4000000000000000000 x ∧ Bd 4000000000000000000 y ∧ Hid (Nat.gcd x.natAbs y.natAbs = G) ∧ ∃ n, wx = w.drewN n) (fun _ bv _ => (intOf bv).natAbs)
  case atStart =>
    obtain ⟨h1, h2, h3, h4, h5⟩ := HK.out _ _ rfl rfl
    exact ⟨_, _, rfl, rfl, h1, h2, h3, h4, Lib.hid h5, 0, rfl⟩
  case round =>
    obtain ⟨x, y, rfl, rfl, hx0, hy0, hx, hy, HGG, n, rfl⟩ := hrel
    by_cases hz : y = 0
    · subst hz
      have HN := Lib.hid (show x = (G : Int) by
        rw [← HGG.out, Int.natAbs_zero, Nat.gcd_zero_right]; omega)
      go_wp2_with fail
      go_ret
      exact ⟨ret_int HN.out, below_drewN (Below.refl _ _) n⟩
    · have hb1 : decide (0 < y) = true := decide_eq_true (by omega)
      have e3 : ¬ (y = 0) := hz
      have hm : (x.tmod y).natAbs < y.natAbs := by
        rw [Int.natAbs_tmod]; exact Nat.mod_lt _ (by omega)
      have hm0 : 0 ≤ x.tmod y := Int.tmod_nonneg y hx0
      have hg2 : Nat.gcd y.natAbs (x.tmod y).natAbs = G := by
        rw [← HGG.out, Int.natAbs_tmod, Nat.gcd_comm x.natAbs, Nat.gcd_rec y.natAbs x.natAbs, Nat.gcd_comm]
      have hbq : Bd 4000000000000000000 (x.tmod y) := by unfold Bd at *; omega
      have et : x.tmod y = x % y := Int.tmod_eq_emod_of_nonneg hx0
      rw [et] at hm hm0 hg2 hbq
      clear et
      have HG2 := Lib.hid hg2
      have HM := Lib.hid hm
      have HM0 := Lib.hid hm0
      clear hg2 hm hm0
      go_wp2_with fail
      go_quiet (fail)
      go_wp2_with fail
      exact ⟨⟨y, _, rfl, rfl, hy0, HM0.out, hy, hbq, HG2, _, drewN_drewN _ _ _⟩, by simp only [intOf]; exact HM.out⟩
theorem rnd_neg (x y d : Int) (hd : d < 0) : rX x y d = (-x).tdiv (gcdL 0 [x, y, d] : Nat) ∧ rY x y d = (-y).tdiv (gcdL 0 [x, y, d] : Nat) ∧ rD x y d = (-d).tdiv (gcdL 0 [x, y, d] : Nat) := by
  unfold rX rY rD gS
  rw [if_pos hd]
  refine ⟨?_, ?_, ?_⟩ <;> rw [Int.tdiv_neg, Int.neg_tdiv]
theorem rnd_pos (x y d : Int) (hd : ¬ d < 0) : rX x y d = x.tdiv (gcdL 0 [x, y, d] : Nat) ∧ rY x y d = y.tdiv (gcdL 0 [x, y, d] : Nat) ∧ rD x y d = d.tdiv (gcdL 0 [x, y, d] : Nat) := by
  unfold rX rY rD gS
  rw [if_neg hd]
  exact ⟨rfl, rfl, rfl⟩
theorem ap_alt (X Y D p q : Int) : (X - p * D) * (X - p * D) + (Y - q * D) * (Y - q * D) = apF X Y D (p, q) := by
  unfold apF
  dsimp only
  grind
end Go.Proofs.Ytlemipnplgbckaa
namespace Go.Proofs.Ytlemipnplgbckaa
open Go.RowKit Go.Shelf
attribute [local go_sem] Oper.semAt_some
theorem w64 {a b : Int} (h : IntKind.i64.wrap a = b) : wrap64 a = b := by rw [← IntWalk.i64_left]; exact h
set_option maxRecDepth 100000 in
set_option maxHeartbeats 1000000 in
theorem rround_any (x y d px py : Int) (w : World) (h1 : Bd 1000000 x) (h2 : Bd 1000000 y) (h3 : Bd 1000000 d) (h0 : d ≠ 0) (h4 : Bd 20 px) (h5 : Bd 20 py) :
    Calls Try.prog 77 #[.int .i64 x, .int .i64 y, .int .i64 d, .agg #[.int .i64 px, .int .i64 py]] w fun e w' => e = .returned (rndC x y d (px, py)).V ∧ Below w.heap.size w w' := by
  obtain ⟨hg0, hgn⟩ := gS_ne (x := x) (y := y) h0
  obtain ⟨V0, hV, rP, rR, bV, hs⟩ := two_start w 28 46 [.int .i64 px, .int .i64 py] [.int .i64 0, .int .i64 0, .int .i64 0, .int .i64 0]
  have RP := Lib.hid rP
  have RR := Lib.hid rR
  have BV := Lib.hid bV
  have HX : Bd 1000000 (rX x y d) := h1.tdiv
  have HY : Bd 1000000 (rY x y d) := h2.tdiv
  have HD : Bd 1000000 (rD x y d) := h3.tdiv
  have hgb : gcdL 0 [x, y, d] ≤ 1000000 := by
    rw [gcdL3]
    have h := Nat.gcd_le_right (m := Nat.gcd x.natAbs y.natAbs) (n := d.natAbs) (by omega)
    unfold Bd at h3
    omega
  have hG1 : Nat.gcd x.natAbs y.natAbs ≤ 1000000 := by
    unfold Bd at h1 h2
    by_cases hx : x = 0
    · subst hx; simp; omega
    · have h := Nat.gcd_le_left (m := x.natAbs) y.natAbs (by omega)
      omega
  have HS1 := Lib.hid (fun (W : World) (x' y' : Int) (hx : x'.natAbs = x.natAbs) (hy : y'.natAbs = y.natAbs) => (by
    have := rgcd_any x' y' W (by unfold Bd at *; omega) (by unfold Bd at *; omega)
    rwa [hx, hy] at this : Calls Try.prog 73 #[.int .i64 x', .int .i64 y'] W fun e w' => e = .returned (.int .i64 (Nat.gcd x.natAbs y.natAbs : Nat)) ∧ Below W.heap.size W w'))
  have HS2 := Lib.hid (fun (W : World) (d' : Int) (hd : d'.natAbs = d.natAbs) => (by
    have := rgcd_any (Nat.gcd x.natAbs y.natAbs : Nat) d' W (by unfold Bd; omega) (by unfold Bd at *; omega)
    rwa [Int.natAbs_natCast, hd, ← gcdL3] at this : Calls Try.prog 73 #[.int .i64 (Nat.gcd x.natAbs y.natAbs : Nat), .int .i64 d'] W fun e w' => e = .returned (.int .i64 (gcdL 0 [x, y, d] : Nat)) ∧ Below W.heap.size W w'))
  have HN := Lib.hid (rnd_neg x y d)
  have HP := Lib.hid (rnd_pos x y d)
  have HV : (rndC x y d (px, py)).V = cirV (rX x y d) (rY x y d) (rD x y d) (apF (rX x y d) (rY x y d) (rD x y d) (px, py)) := rfl
  have HA := ap_alt (rX x y d) (rY x y d) (rD x y d) px py
  rw [HV, ← HA]
  clear HV HA
  generalize rX x y d = X at *
  generalize rY x y d = Y at *
  generalize rD x y d = D at *
  generalize gcdL 0 [x, y, d] = g at *
  generalize Nat.gcd x.natAbs y.natAbs = g1 at *
  have kx := i64_bd HX (by omega)
  have ky := i64_bd HY (by omega)
  have kd := i64_bd HD (by omega)
  have n1 : IntKind.i64.wrap (-x) = -x := i64_bd h1.neg (by omega)
  have n2 : IntKind.i64.wrap (-y) = -y := i64_bd h2.neg (by omega)
  have n3 : IntKind.i64.wrap (-d) = -d := i64_bd h3.neg (by omega)
  obtain ⟨PD, hPD⟩ : ∃ t, px * D = t := ⟨_, rfl⟩
  obtain ⟨QD, hQD⟩ : ∃ t, py * D = t := ⟨_, rfl⟩
  have bPD := h4.mul HD
  have bQD := h5.mul HD
  have e1 : IntKind.i64.wrap (px * D) = PD := by rw [i64_bd bPD (by omega)]; exact hPD
  have e2 : IntKind.i64.wrap (py * D) = QD := by rw [i64_bd bQD (by omega)]; exact hQD
  rw [hPD] at bPD ⊢
  rw [hQD] at bQD ⊢
  obtain ⟨U, hU⟩ : ∃ t, X - PD = t := ⟨_, rfl⟩
  obtain ⟨Z, hZ⟩ : ∃ t, Y - QD = t := ⟨_, rfl⟩
  have bU := HX.sub bPD
  have bZ := HY.sub bQD
  have e3 : IntKind.i64.wrap (X - PD) = U := by rw [i64_bd bU (by omega)]; exact hU
  have e4 : IntKind.i64.wrap (Y - QD) = Z := by rw [i64_bd bZ (by omega)]; exact hZ
  rw [hU] at bU ⊢
  rw [hZ] at bZ ⊢
  obtain ⟨UU, hUU⟩ : ∃ t, U * U = t := ⟨_, rfl⟩
  obtain ⟨ZZ, hZZ⟩ : ∃ t, Z * Z = t := ⟨_, rfl⟩
  have bUU := bU.mul bU
  have bZZ := bZ.mul bZ
  have e5 : IntKind.i64.wrap (U * U) = UU := by rw [i64_bd bUU (by omega)]; exact hUU
  have e6 : IntKind.i64.wrap (Z * Z) = ZZ := by rw [i64_bd bZZ (by omega)]; exact hZZ
  rw [hUU] at bUU ⊢
  rw [hZZ] at bZZ ⊢
  obtain ⟨R, hR⟩ : ∃ t, UU + ZZ = t := ⟨_, rfl⟩
  have e7 : IntKind.i64.wrap (UU + ZZ) = R := by rw [i64_bd (bUU.add bZZ) (by omega)]; exact hR
  rw [hR]
  have HE := Lib.hid (And.intro e1 (And.intro e2 (And.intro e3 (And.intro e4 (And.intro e5 (And.intro e6 e7))))))
  have HK := Lib.hid (And.intro kx (And.intro ky kd))
  have HNE := Lib.hid (And.intro n1 (And.intro n2 n3))
  have HGN := Lib.hid (show ¬ ((g : Int) = 0) by omega)
  clear hPD hQD bPD bQD hU hZ bU bZ hUU hZZ bUU bZZ hR e1 e2 e3 e4 e5 e6 e7 kx ky kd n1 n2 n3 rP rR bV hs h1 h2 h3 h4 h5 hg0 hgn HX HY HD hgb hG1
  unfold cirV
  have hws : w.heap.size + 1 < V0.heap.size := RR.out.lt
  have HWS := Lib.hid hws
  clear hws
  by_cases hneg : d < 0
  · have hd : decide (d < 0) = true := decide_eq_true hneg
    obtain ⟨n1, n2, n3⟩ := HNE.out
    obtain ⟨r1, r2, r3⟩ := HN.out hneg
    have HQ := Lib.hid (show IntKind.i64.wrap ((-x).tdiv (g : Int)) = X ∧ IntKind.i64.wrap ((-y).tdiv (g : Int)) = Y ∧ IntKind.i64.wrap ((-d).tdiv (g : Int)) = D by
      rw [← r1, ← r2, ← r3]; exact HK.out)
    clear r1 r2 r3 HK
    go_enter Try.func77, Try.ntmps77
    go_wp2_with fail
    rw [show (w.alloc (.cells #[.int .i64 px, .int .i64 py] 28)).alloc (.cells #[.int .i64 0, .int .i64 0, .int .i64 0, .int .i64 0] 46) = V0 from hV.symm]
    refine (HS1.out V0 (-x) (-y) (Int.natAbs_neg _) (Int.natAbs_neg _)).mono ?_
    rintro e w1 ⟨rfl, hb1⟩
    have B1 := Lib.hid hb1
    clear hb1 HS1
    go_wp2_with fail
    refine (HS2.out w1 (-d) (Int.natAbs_neg _)).mono ?_
    rintro e w2 ⟨rfl, hb2⟩
    have B2 := Lib.hid (Below.andThen B1.out hb2 (Nat.le_refl _))
    have RP2 := Lib.hid (RP.out.below B2.out RP.out.lt)
    have RR2 := Lib.hid (RR.out.below B2.out RR.out.lt)
    clear hb2 HS2 B1
    go_wp2_with fail
    refine wp_region_box (by kernel_rfl) (by kernel_rfl) [26, 27, 28, 29, 30, 31, 32, 33, 34, 35, 10, 1000] [(fun v => v = .int .i64 (-x)), (fun v => v = .int .i64 (g : Int)), (fun v => v = .int .i64 X), (fun v => v = .int .i64 (-y)), (fun v => v = .int .i64 (g : Int)), (fun v => v = .int .i64 Y), (fun v => v = .int .i64 (-d)), (fun v => v = .int .i64 (g : Int)), (fun v => v = .int .i64 D), (fun v => v = .agg #[.int .i64 X, .int .i64 Y, .int .i64 D, .int .i64 0]), (fun _ => True), (fun _ => True)] [none, none, none, none, none, none, none, none, none, none, some (46, [.int .i64 0, .int .i64 0, .int .i64 0, .int .i64 0], [.int .i64 X, .int .i64 Y, .int .i64 D, .int .i64 0]), none] [none, none, none, none, none, none, none, none, none, none, none, some 10] 12 rfl (by kernel_rfl) ?tr ⟨[undef, undef, undef, undef, undef, undef, undef, undef, undef, undef, undef, undef], by simp only [putAll, Act.put, List.setIfInBounds_toArray, List.set_cons_succ, List.set_cons_zero, List.set_nil], rfl⟩ ?steps ?fin
    case tr =>
      rintro i v h
      rcases i with _ | _ | _ | _ | _ | _ | _ | _ | _ | _ | _ | _ | i
      all_goals first | trivial | (exfalso; rcases h with h | h <;> simp at h)
    case steps =>
      simp only [boxSteps, Nat.reduceAdd, Nat.zero_add, List.getD_cons_succ, List.getD_cons_zero]
      refine ⟨?_, ?_, ?_, ?_, ?_, ?_, ?_, ?_, ?_, ?_, ?_, ?_, trivial⟩
      · rintro vs W K hc hvl hw hK
        obtain ⟨x0, x1, x2, x3, x4, x5, x6, x7, x8, x9, x10, x11, rfl⟩ := len12 hvl
        have HK := Lib.hid hK
        have HC := Lib.hid hc
        have HW := Lib.hid hw
        clear hK hc hw hvl
        simp only [putAll, Act.put, List.setIfInBounds_toArray, List.set_cons_succ, List.set_cons_zero, List.set_nil]
        clear HW
        go_wp2_with fail
        have fin := HK.out (.int .i64 (-x)) W (Below.refl _ _) rfl
        simp only [putAll, Act.put, List.setIfInBounds_toArray, List.set_cons_succ, List.set_cons_zero, List.set_nil] at fin
        exact fin
      · rintro vs W K hc hvl hw hK
        obtain ⟨x0, x1, x2, x3, x4, x5, x6, x7, x8, x9, x10, x11, rfl⟩ := len12 hvl
        have HK := Lib.hid hK
        have HC := Lib.hid hc
        have HW := Lib.hid hw
        clear hK hc hw hvl
        simp only [putAll, Act.put, List.setIfInBounds_toArray, List.set_cons_succ, List.set_cons_zero, List.set_nil]
        clear HW
        go_wp2_with fail
        have fin := HK.out (.int .i64 (g : Int)) W (Below.refl _ _) rfl
        simp only [putAll, Act.put, List.setIfInBounds_toArray, List.set_cons_succ, List.set_cons_zero, List.set_nil] at fin
        exact fin
      · rintro vs W K hc hvl hw hK
        obtain ⟨x0, x1, x2, x3, x4, x5, x6, x7, x8, x9, x10, x11, rfl⟩ := len12 hvl
        have HK := Lib.hid hK
        have HC := Lib.hid hc
        have HW := Lib.hid hw
        clear hK hc hw hvl
        obtain rfl : x0 = .int .i64 (-x) := box_get (HW.out ⟨0, .data⟩ (by simp) rfl) rfl
        obtain rfl : x1 = .int .i64 (g : Int) := box_get (HW.out ⟨1, .data⟩ (by simp) rfl) rfl
        simp only [putAll, Act.put, List.setIfInBounds_toArray, List.set_cons_succ, List.set_cons_zero, List.set_nil]
        obtain ⟨k1, k2, k3⟩ := HQ.out
        have k1w := w64 k1
        have k2w := w64 k2
        have k3w := w64 k3
        have hgn := HGN.out
        rw [Int.neg_tdiv] at k1 k2 k3 k1w k2w k3w
        clear HW
        go_wp2_with fail
        have fin := HK.out (.int .i64 X) W (Below.refl _ _) rfl
        simp only [putAll, Act.put, List.setIfInBounds_toArray, List.set_cons_succ, List.set_cons_zero, List.set_nil] at fin
        exact fin
      · rintro vs W K hc hvl hw hK
        obtain ⟨x0, x1, x2, x3, x4, x5, x6, x7, x8, x9, x10, x11, rfl⟩ := len12 hvl
        have HK := Lib.hid hK
        have HC := Lib.hid hc
        have HW := Lib.hid hw
        clear hK hc hw hvl
        simp only [putAll, Act.put, List.setIfInBounds_toArray, List.set_cons_succ, List.set_cons_zero, List.set_nil]
        clear HW
        go_wp2_with fail
        have fin := HK.out (.int .i64 (-y)) W (Below.refl _ _) rfl
        simp only [putAll, Act.put, List.setIfInBounds_toArray, List.set_cons_succ, List.set_cons_zero, List.set_nil] at fin
        exact fin
      · rintro vs W K hc hvl hw hK
        obtain ⟨x0, x1, x2, x3, x4, x5, x6, x7, x8, x9, x10, x11, rfl⟩ := len12 hvl
        have HK := Lib.hid hK
        have HC := Lib.hid hc
        have HW := Lib.hid hw
        clear hK hc hw hvl
        simp only [putAll, Act.put, List.setIfInBounds_toArray, List.set_cons_succ, List.set_cons_zero, List.set_nil]
        clear HW
        go_wp2_with fail
        have fin := HK.out (.int .i64 (g : Int)) W (Below.refl _ _) rfl
        simp only [putAll, Act.put, List.setIfInBounds_toArray, List.set_cons_succ, List.set_cons_zero, List.set_nil] at fin
        exact fin
      · rintro vs W K hc hvl hw hK
        obtain ⟨x0, x1, x2, x3, x4, x5, x6, x7, x8, x9, x10, x11, rfl⟩ := len12 hvl
        have HK := Lib.hid hK
        have HC := Lib.hid hc
        have HW := Lib.hid hw
        clear hK hc hw hvl
        obtain rfl : x3 = .int .i64 (-y) := box_get (HW.out ⟨3, .data⟩ (by simp) rfl) rfl
        obtain rfl : x4 = .int .i64 (g : Int) := box_get (HW.out ⟨4, .data⟩ (by simp) rfl) rfl
        simp only [putAll, Act.put, List.setIfInBounds_toArray, List.set_cons_succ, List.set_cons_zero, List.set_nil]
        obtain ⟨k1, k2, k3⟩ := HQ.out
        have k1w := w64 k1
        have k2w := w64 k2
        have k3w := w64 k3
        have hgn := HGN.out
        rw [Int.neg_tdiv] at k1 k2 k3 k1w k2w k3w
        clear HW
        go_wp2_with fail
        have fin := HK.out (.int .i64 Y) W (Below.refl _ _) rfl
        simp only [putAll, Act.put, List.setIfInBounds_toArray, List.set_cons_succ, List.set_cons_zero, List.set_nil] at fin
        exact fin
      · rintro vs W K hc hvl hw hK
        obtain ⟨x0, x1, x2, x3, x4, x5, x6, x7, x8, x9, x10, x11, rfl⟩ := len12 hvl
        have HK := Lib.hid hK
        have HC := Lib.hid hc
        have HW := Lib.hid hw
        clear hK hc hw hvl
        simp only [putAll, Act.put, List.setIfInBounds_toArray, List.set_cons_succ, List.set_cons_zero, List.set_nil]
        clear HW
        go_wp2_with fail
        have fin := HK.out (.int .i64 (-d)) W (Below.refl _ _) rfl
        simp only [putAll, Act.put, List.setIfInBounds_toArray, List.set_cons_succ, List.set_cons_zero, List.set_nil] at fin
        exact fin
      · rintro vs W K hc hvl hw hK
        obtain ⟨x0, x1, x2, x3, x4, x5, x6, x7, x8, x9, x10, x11, rfl⟩ := len12 hvl
        have HK := Lib.hid hK
        have HC := Lib.hid hc
        have HW := Lib.hid hw
        clear hK hc hw hvl
        simp only [putAll, Act.put, List.setIfInBounds_toArray, List.set_cons_succ, List.set_cons_zero, List.set_nil]
        clear HW
        go_wp2_with fail
        have fin := HK.out (.int .i64 (g : Int)) W (Below.refl _ _) rfl
        simp only [putAll, Act.put, List.setIfInBounds_toArray, List.set_cons_succ, List.set_cons_zero, List.set_nil] at fin
        exact fin
      · rintro vs W K hc hvl hw hK
        obtain ⟨x0, x1, x2, x3, x4, x5, x6, x7, x8, x9, x10, x11, rfl⟩ := len12 hvl
        have HK := Lib.hid hK
        have HC := Lib.hid hc
        have HW := Lib.hid hw
        clear hK hc hw hvl
        obtain rfl : x6 = .int .i64 (-d) := box_get (HW.out ⟨6, .data⟩ (by simp) rfl) rfl
        obtain rfl : x7 = .int .i64 (g : Int) := box_get (HW.out ⟨7, .data⟩ (by simp) rfl) rfl
        simp only [putAll, Act.put, List.setIfInBounds_toArray, List.set_cons_succ, List.set_cons_zero, List.set_nil]
        obtain ⟨k1, k2, k3⟩ := HQ.out
        have k1w := w64 k1
        have k2w := w64 k2
        have k3w := w64 k3
        have hgn := HGN.out
        rw [Int.neg_tdiv] at k1 k2 k3 k1w k2w k3w
        clear HW
        go_wp2_with fail
        have fin := HK.out (.int .i64 D) W (Below.refl _ _) rfl
        simp only [putAll, Act.put, List.setIfInBounds_toArray, List.set_cons_succ, List.set_cons_zero, List.set_nil] at fin
        exact fin
      · rintro vs W K hc hvl hw hK
        obtain ⟨x0, x1, x2, x3, x4, x5, x6, x7, x8, x9, x10, x11, rfl⟩ := len12 hvl
        have HK := Lib.hid hK
        have HC := Lib.hid hc
        have HW := Lib.hid hw
        clear hK hc hw hvl
        obtain rfl : x2 = .int .i64 X := box_get (HW.out ⟨2, .data⟩ (by simp) rfl) rfl
        obtain rfl : x5 = .int .i64 Y := box_get (HW.out ⟨5, .data⟩ (by simp) rfl) rfl
        obtain rfl : x8 = .int .i64 D := box_get (HW.out ⟨8, .data⟩ (by simp) rfl) rfl
        simp only [putAll, Act.put, List.setIfInBounds_toArray, List.set_cons_succ, List.set_cons_zero, List.set_nil]
        clear HW
        go_wp2_with fail
        have fin := HK.out (.agg #[.int .i64 X, .int .i64 Y, .int .i64 D, .int .i64 0]) W (Below.refl _ _) rfl
        simp only [putAll, Act.put, List.setIfInBounds_toArray, List.set_cons_succ, List.set_cons_zero, List.set_nil] at fin
        exact fin
      · rintro vs W K hc hvl hw hK
        obtain ⟨x0, x1, x2, x3, x4, x5, x6, x7, x8, x9, x10, x11, rfl⟩ := len12 hvl
        have HK := Lib.hid hK
        have HC := Lib.hid hc
        have HW := Lib.hid hw
        clear hK hc hw hvl
        simp only [putAll, Act.put, List.setIfInBounds_toArray, List.set_cons_succ, List.set_cons_zero, List.set_nil]
        clear HW
        go_wp2_with fail
        have fin := HK.out
        simp only [putAll, Act.put, List.setIfInBounds_toArray, List.set_cons_succ, List.set_cons_zero, List.set_nil] at fin
        exact fin
      · rintro vs W K hc hvl hw b E z f hia hva hb0 hr hK
        cases hia
        obtain ⟨x0, x1, x2, x3, x4, x5, x6, x7, x8, x9, x10, x11, rfl⟩ := len12 hvl
        have HK := Lib.hid hK
        have HC := Lib.hid hc
        have HW := Lib.hid hw
        clear hK hc hw hvl
        obtain rfl : x9 = .agg #[.int .i64 X, .int .i64 Y, .int .i64 D, .int .i64 0] := box_get (HW.out ⟨9, .data⟩ (by simp) rfl) rfl
        obtain rfl : x10 = .pointer (some ⟨b, 0, none⟩) := Option.some.inj hva
        simp only [putAll, Act.put, List.setIfInBounds_toArray, List.set_cons_succ, List.set_cons_zero, List.set_nil]
        have kf0 := frozen_of_row W b 0 _ _ hr
        have kc0 : W.cell? ⟨b, 0, none⟩ = some (.int .i64 0) := hr.cell 0
        have kf1 := frozen_of_row W b 1 _ _ hr
        have kc1 : W.cell? ⟨b, 1, none⟩ = some (.int .i64 0) := hr.cell 1
        have kf2 := frozen_of_row W b 2 _ _ hr
        have kc2 : W.cell? ⟨b, 2, none⟩ = some (.int .i64 0) := hr.cell 2
        have kf3 := frozen_of_row W b 3 _ _ hr
        have kc3 : W.cell? ⟨b, 3, none⟩ = some (.int .i64 0) := hr.cell 3
        have HRW := Lib.hid hr
        clear HW hr hva
        go_wp2_with fail
        have fin := HK.out _ (show Row _ b 46 [.int .i64 X, .int .i64 Y, .int .i64 D, .int .i64 0] from by simpa using (show Row _ b 46 _ from ((((HRW.out.set 0 (.int .i64 X)).set 1 (.int .i64 Y)).set 2 (.int .i64 D)).set 3 (.int .i64 0)))) (grown_put (grown_put (grown_put (grown_put (grown_self W _)))))
        simp only [putAll, Act.put, List.setIfInBounds_toArray, List.set_cons_succ, List.set_cons_zero, List.set_nil] at fin
        exact fin
    case fin =>
      rintro vs W hJ
      obtain ⟨x0, x1, x2, x3, x4, x5, x6, x7, x8, x9, x10, x11, rfl⟩ := len12 hJ.ln
      obtain rfl : x0 = .int .i64 (-x) := box_get (hJ.val 0 rfl) rfl
      obtain rfl : x1 = .int .i64 (g : Int) := box_get (hJ.val 1 rfl) rfl
      obtain rfl : x2 = .int .i64 X := box_get (hJ.val 2 rfl) rfl
      obtain rfl : x3 = .int .i64 (-y) := box_get (hJ.val 3 rfl) rfl
      obtain rfl : x4 = .int .i64 (g : Int) := box_get (hJ.val 4 rfl) rfl
      obtain rfl : x5 = .int .i64 Y := box_get (hJ.val 5 rfl) rfl
      obtain rfl : x6 = .int .i64 (-d) := box_get (hJ.val 6 rfl) rfl
      obtain rfl : x7 = .int .i64 (g : Int) := box_get (hJ.val 7 rfl) rfl
      obtain rfl : x8 = .int .i64 D := box_get (hJ.val 8 rfl) rfl
      obtain rfl : x9 = .agg #[.int .i64 X, .int .i64 Y, .int .i64 D, .int .i64 0] := box_get (hJ.val 9 rfl) rfl
      obtain ⟨b10, e10, hb10, hr10⟩ := hJ.box 10 _ _ _ rfl rfl
      obtain rfl : x10 = .pointer (some ⟨b10, 0, none⟩) := Option.some.inj e10
      replace hr10 : Row W b10 46 [.int .i64 X, .int .i64 Y, .int .i64 D, .int .i64 0] := hr10
      have HR10 := Lib.hid hr10
      clear e10 hr10
      have HC := Lib.hid hJ.bl
      clear hJ
      simp only [putAll, Act.put, List.setIfInBounds_toArray, List.set_cons_succ, List.set_cons_zero, List.set_nil]
      have RP3 := Lib.hid (RP2.out.below HC.out RP2.out.lt)
      have RR3 := Lib.hid (RR2.out.below HC.out RR2.out.lt)
      have B3 := Lib.hid (Below.andThen B2.out HC.out (Nat.le_refl _))
      have HB10 := Lib.hid (show w.heap.size + 1 < b10 by have h1 := hb10; have h2 := B2.out.size; have h3 := HWS.out; omega)
      clear hb10
      clear HC RP2 RR2 B2 HQ
      go_wp2_with fail
      refine wp_region_box (by kernel_rfl) (by kernel_rfl) [36, 37, 38, 39, 40, 41, 42, 43, 44, 45, 46, 47, 48, 49, 50, 51, 11, 12] [(fun v => v = .pointer (some ⟨b10, 0, none⟩)), (fun v => v = .int .i64 X), (fun v => v = .pointer (some ⟨w.heap.size, 0, none⟩)), (fun v => v = .int .i64 px), (fun v => v = .pointer (some ⟨b10, 2, none⟩)), (fun v => v = .int .i64 D), (fun v => v = .int .i64 PD), (fun v => v = .int .i64 U), (fun v => v = .pointer (some ⟨b10, 1, none⟩)), (fun v => v = .int .i64 Y), (fun v => v = .pointer (some ⟨w.heap.size, 1, none⟩)), (fun v => v = .int .i64 py), (fun v => v = .pointer (some ⟨b10, 2, none⟩)), (fun v => v = .int .i64 D), (fun v => v = .int .i64 QD), (fun v => v = .int .i64 Z), (fun v => v = .int .i64 U), (fun v => v = .int .i64 Z)] [none, none, none, none, none, none, none, none, none, none, none, none, none, none, none, none, none, none] [none, none, none, none, none, none, none, none, none, none, none, none, none, none, none, none, none, none] 18 rfl (by kernel_rfl) ?tr ⟨[undef, undef, undef, undef, undef, undef, undef, undef, undef, undef, undef, undef, undef, undef, undef, undef, undef, undef], by simp only [putAll, Act.put, List.setIfInBounds_toArray, List.set_cons_succ, List.set_cons_zero], rfl⟩ ?steps ?fin
      case tr =>
        rintro i v h
        rcases i with _ | _ | _ | _ | _ | _ | _ | _ | _ | _ | _ | _ | _ | _ | _ | _ | _ | _ | i
        all_goals first | trivial | (exfalso; rcases h with h | h <;> simp at h)
      case steps =>
        simp only [boxSteps, Nat.reduceAdd, Nat.zero_add, List.getD_cons_succ, List.getD_cons_zero]
        refine ⟨?_, ?_, ?_, ?_, ?_, ?_, ?_, ?_, ?_, ?_, ?_, ?_, ?_, ?_, ?_, ?_, ?_, ?_, trivial⟩
        · rintro vs W K hc hvl hw hK
          obtain ⟨x0, x1, x2, x3, x4, x5, x6, x7, x8, x9, x10, x11, x12, x13, x14, x15, x16, x17, rfl⟩ := len18 hvl
          have HK := Lib.hid hK
          have HC := Lib.hid hc
          have HW := Lib.hid hw
          clear hK hc hw hvl
          simp only [putAll, Act.put, List.setIfInBounds_toArray, List.set_cons_succ, List.set_cons_zero]
          clear HW
          go_wp2_with fail
          have fin := HK.out (.pointer (some ⟨b10, 0, none⟩)) W (Below.refl _ _) rfl
          simp only [putAll, Act.put, List.setIfInBounds_toArray, List.set_cons_succ, List.set_cons_zero] at fin
          exact fin
        · rintro vs W K hc hvl hw hK
          obtain ⟨x0, x1, x2, x3, x4, x5, x6, x7, x8, x9, x10, x11, x12, x13, x14, x15, x16, x17, rfl⟩ := len18 hvl
          have HK := Lib.hid hK
          have HC := Lib.hid hc
          have HW := Lib.hid hw
          clear hK hc hw hvl
          obtain rfl : x0 = .pointer (some ⟨b10, 0, none⟩) := box_get (HW.out ⟨0, .data⟩ (by simp) rfl) rfl
          simp only [putAll, Act.put, List.setIfInBounds_toArray, List.set_cons_succ, List.set_cons_zero]
          have rr := HR10.out.below HC.out HR10.out.lt
          have d0 := rr.cell 0
          simp only [List.getElem?_cons_zero] at d0
          clear rr
          clear HW
          go_wp2_with fail
          have fin := HK.out (.int .i64 X) W (Below.refl _ _) rfl
          simp only [putAll, Act.put, List.setIfInBounds_toArray, List.set_cons_succ, List.set_cons_zero] at fin
          exact fin
        · rintro vs W K hc hvl hw hK
          obtain ⟨x0, x1, x2, x3, x4, x5, x6, x7, x8, x9, x10, x11, x12, x13, x14, x15, x16, x17, rfl⟩ := len18 hvl
          have HK := Lib.hid hK
          have HC := Lib.hid hc
          have HW := Lib.hid hw
          clear hK hc hw hvl
          simp only [putAll, Act.put, List.setIfInBounds_toArray, List.set_cons_succ, List.set_cons_zero]
          clear HW
          go_wp2_with fail
          have fin := HK.out (.pointer (some ⟨w.heap.size, 0, none⟩)) W (Below.refl _ _) rfl
          simp only [putAll, Act.put, List.setIfInBounds_toArray, List.set_cons_succ, List.set_cons_zero] at fin
          exact fin
        · rintro vs W K hc hvl hw hK
          obtain ⟨x0, x1, x2, x3, x4, x5, x6, x7, x8, x9, x10, x11, x12, x13, x14, x15, x16, x17, rfl⟩ := len18 hvl
          have HK := Lib.hid hK
          have HC := Lib.hid hc
          have HW := Lib.hid hw
          clear hK hc hw hvl
          obtain rfl : x2 = .pointer (some ⟨w.heap.size, 0, none⟩) := box_get (HW.out ⟨2, .data⟩ (by simp) rfl) rfl
          simp only [putAll, Act.put, List.setIfInBounds_toArray, List.set_cons_succ, List.set_cons_zero]
          have rr := RP3.out.below HC.out RP3.out.lt
          have d0 := rr.cell 0
          simp only [List.getElem?_cons_zero] at d0
          clear rr
          clear HW
          go_wp2_with fail
          have fin := HK.out (.int .i64 px) W (Below.refl _ _) rfl
          simp only [putAll, Act.put, List.setIfInBounds_toArray, List.set_cons_succ, List.set_cons_zero] at fin
          exact fin
        · rintro vs W K hc hvl hw hK
          obtain ⟨x0, x1, x2, x3, x4, x5, x6, x7, x8, x9, x10, x11, x12, x13, x14, x15, x16, x17, rfl⟩ := len18 hvl
          have HK := Lib.hid hK
          have HC := Lib.hid hc
          have HW := Lib.hid hw
          clear hK hc hw hvl
          simp only [putAll, Act.put, List.setIfInBounds_toArray, List.set_cons_succ, List.set_cons_zero]
          clear HW
          go_wp2_with fail
          have fin := HK.out (.pointer (some ⟨b10, 2, none⟩)) W (Below.refl _ _) rfl
          simp only [putAll, Act.put, List.setIfInBounds_toArray, List.set_cons_succ, List.set_cons_zero] at fin
          exact fin
        · rintro vs W K hc hvl hw hK
          obtain ⟨x0, x1, x2, x3, x4, x5, x6, x7, x8, x9, x10, x11, x12, x13, x14, x15, x16, x17, rfl⟩ := len18 hvl
          have HK := Lib.hid hK
          have HC := Lib.hid hc
          have HW := Lib.hid hw
          clear hK hc hw hvl
          obtain rfl : x4 = .pointer (some ⟨b10, 2, none⟩) := box_get (HW.out ⟨4, .data⟩ (by simp) rfl) rfl
          simp only [putAll, Act.put, List.setIfInBounds_toArray, List.set_cons_succ, List.set_cons_zero]
          have rr := HR10.out.below HC.out HR10.out.lt
          have d0 := rr.cell 2
          simp only [List.getElem?_cons_zero, List.getElem?_cons_succ] at d0
          clear rr
          clear HW
          go_wp2_with fail
          have fin := HK.out (.int .i64 D) W (Below.refl _ _) rfl
          simp only [putAll, Act.put, List.setIfInBounds_toArray, List.set_cons_succ, List.set_cons_zero] at fin
          exact fin
        · rintro vs W K hc hvl hw hK
          obtain ⟨x0, x1, x2, x3, x4, x5, x6, x7, x8, x9, x10, x11, x12, x13, x14, x15, x16, x17, rfl⟩ := len18 hvl
          have HK := Lib.hid hK
          have HC := Lib.hid hc
          have HW := Lib.hid hw
          clear hK hc hw hvl
          obtain rfl : x3 = .int .i64 px := box_get (HW.out ⟨3, .data⟩ (by simp) rfl) rfl
          obtain rfl : x5 = .int .i64 D := box_get (HW.out ⟨5, .data⟩ (by simp) rfl) rfl
          simp only [putAll, Act.put, List.setIfInBounds_toArray, List.set_cons_succ, List.set_cons_zero]
          have e1 := HE.out.1
          have e1w := w64 e1
          clear HW
          go_wp2_with fail
          have fin := HK.out (.int .i64 PD) W (Below.refl _ _) rfl
          simp only [putAll, Act.put, List.setIfInBounds_toArray, List.set_cons_succ, List.set_cons_zero] at fin
          exact fin
        · rintro vs W K hc hvl hw hK
          obtain ⟨x0, x1, x2, x3, x4, x5, x6, x7, x8, x9, x10, x11, x12, x13, x14, x15, x16, x17, rfl⟩ := len18 hvl
          have HK := Lib.hid hK
          have HC := Lib.hid hc
          have HW := Lib.hid hw
          clear hK hc hw hvl
          obtain rfl : x1 = .int .i64 X := box_get (HW.out ⟨1, .data⟩ (by simp) rfl) rfl
          obtain rfl : x6 = .int .i64 PD := box_get (HW.out ⟨6, .data⟩ (by simp) rfl) rfl
          simp only [putAll, Act.put, List.setIfInBounds_toArray, List.set_cons_succ, List.set_cons_zero]
          have e3 := HE.out.2.2.1
          have e3w := w64 e3
          clear HW
          go_wp2_with fail
          have fin := HK.out (.int .i64 U) W (Below.refl _ _) rfl
          simp only [putAll, Act.put, List.setIfInBounds_toArray, List.set_cons_succ, List.set_cons_zero] at fin
          exact fin
        · rintro vs W K hc hvl hw hK
          obtain ⟨x0, x1, x2, x3, x4, x5, x6, x7, x8, x9, x10, x11, x12, x13, x14, x15, x16, x17, rfl⟩ := len18 hvl
          have HK := Lib.hid hK
          have HC := Lib.hid hc
          have HW := Lib.hid hw
          clear hK hc hw hvl
          simp only [putAll, Act.put, List.setIfInBounds_toArray, List.set_cons_succ, List.set_cons_zero]
          clear HW
          go_wp2_with fail
          have fin := HK.out (.pointer (some ⟨b10, 1, none⟩)) W (Below.refl _ _) rfl
          simp only [putAll, Act.put, List.setIfInBounds_toArray, List.set_cons_succ, List.set_cons_zero] at fin
          exact fin
        · rintro vs W K hc hvl hw hK
          obtain ⟨x0, x1, x2, x3, x4, x5, x6, x7, x8, x9, x10, x11, x12, x13, x14, x15, x16, x17, rfl⟩ := len18 hvl
          have HK := Lib.hid hK
          have HC := Lib.hid hc
          have HW := Lib.hid hw
          clear hK hc hw hvl
          obtain rfl : x8 = .pointer (some ⟨b10, 1, none⟩) := box_get (HW.out ⟨8, .data⟩ (by simp) rfl) rfl
          simp only [putAll, Act.put, List.setIfInBounds_toArray, List.set_cons_succ, List.set_cons_zero]
          have rr := HR10.out.below HC.out HR10.out.lt
          have d0 := rr.cell 1
          simp only [List.getElem?_cons_zero, List.getElem?_cons_succ] at d0
          clear rr
          clear HW
          go_wp2_with fail
          have fin := HK.out (.int .i64 Y) W (Below.refl _ _) rfl
          simp only [putAll, Act.put, List.setIfInBounds_toArray, List.set_cons_succ, List.set_cons_zero] at fin
          exact fin
        · rintro vs W K hc hvl hw hK
          obtain ⟨x0, x1, x2, x3, x4, x5, x6, x7, x8, x9, x10, x11, x12, x13, x14, x15, x16, x17, rfl⟩ := len18 hvl
          have HK := Lib.hid hK
          have HC := Lib.hid hc
          have HW := Lib.hid hw
          clear hK hc hw hvl
          simp only [putAll, Act.put, List.setIfInBounds_toArray, List.set_cons_succ, List.set_cons_zero]
          clear HW
          go_wp2_with fail
          have fin := HK.out (.pointer (some ⟨w.heap.size, 1, none⟩)) W (Below.refl _ _) rfl
          simp only [putAll, Act.put, List.setIfInBounds_toArray, List.set_cons_succ, List.set_cons_zero] at fin
          exact fin
        · rintro vs W K hc hvl hw hK
          obtain ⟨x0, x1, x2, x3, x4, x5, x6, x7, x8, x9, x10, x11, x12, x13, x14, x15, x16, x17, rfl⟩ := len18 hvl
          have HK := Lib.hid hK
          have HC := Lib.hid hc
          have HW := Lib.hid hw
          clear hK hc hw hvl
          obtain rfl : x10 = .pointer (some ⟨w.heap.size, 1, none⟩) := box_get (HW.out ⟨10, .data⟩ (by simp) rfl) rfl
          simp only [putAll, Act.put, List.setIfInBounds_toArray, List.set_cons_succ, List.set_cons_zero]
          have rr := RP3.out.below HC.out RP3.out.lt
          have d0 := rr.cell 1
          simp only [List.getElem?_cons_zero, List.getElem?_cons_succ] at d0
          clear rr
          clear HW
          go_wp2_with fail
          have fin := HK.out (.int .i64 py) W (Below.refl _ _) rfl
          simp only [putAll, Act.put, List.setIfInBounds_toArray, List.set_cons_succ, List.set_cons_zero] at fin
          exact fin
        · rintro vs W K hc hvl hw hK
          obtain ⟨x0, x1, x2, x3, x4, x5, x6, x7, x8, x9, x10, x11, x12, x13, x14, x15, x16, x17, rfl⟩ := len18 hvl
          have HK := Lib.hid hK
          have HC := Lib.hid hc
          have HW := Lib.hid hw
          clear hK hc hw hvl
          simp only [putAll, Act.put, List.setIfInBounds_toArray, List.set_cons_succ, List.set_cons_zero]
          clear HW
          go_wp2_with fail
          have fin := HK.out (.pointer (some ⟨b10, 2, none⟩)) W (Below.refl _ _) rfl
          simp only [putAll, Act.put, List.setIfInBounds_toArray, List.set_cons_succ, List.set_cons_zero] at fin
          exact fin
        · rintro vs W K hc hvl hw hK
          obtain ⟨x0, x1, x2, x3, x4, x5, x6, x7, x8, x9, x10, x11, x12, x13, x14, x15, x16, x17, rfl⟩ := len18 hvl
          have HK := Lib.hid hK
          have HC := Lib.hid hc
          have HW := Lib.hid hw
          clear hK hc hw hvl
          obtain rfl : x12 = .pointer (some ⟨b10, 2, none⟩) := box_get (HW.out ⟨12, .data⟩ (by simp) rfl) rfl
          simp only [putAll, Act.put, List.setIfInBounds_toArray, List.set_cons_succ, List.set_cons_zero]
          have rr := HR10.out.below HC.out HR10.out.lt
          have d0 := rr.cell 2
          simp only [List.getElem?_cons_zero, List.getElem?_cons_succ] at d0
          clear rr
          clear HW
          go_wp2_with fail
          have fin := HK.out (.int .i64 D) W (Below.refl _ _) rfl
          simp only [putAll, Act.put, List.setIfInBounds_toArray, List.set_cons_succ, List.set_cons_zero] at fin
          exact fin
        · rintro vs W K hc hvl hw hK
          obtain ⟨x0, x1, x2, x3, x4, x5, x6, x7, x8, x9, x10, x11, x12, x13, x14, x15, x16, x17, rfl⟩ := len18 hvl
          have HK := Lib.hid hK
          have HC := Lib.hid hc
          have HW := Lib.hid hw
          clear hK hc hw hvl
          obtain rfl : x11 = .int .i64 py := box_get (HW.out ⟨11, .data⟩ (by simp) rfl) rfl
          obtain rfl : x13 = .int .i64 D := box_get (HW.out ⟨13, .data⟩ (by simp) rfl) rfl
          simp only [putAll, Act.put, List.setIfInBounds_toArray, List.set_cons_succ, List.set_cons_zero]
          have e2 := HE.out.2.1
          have e2w := w64 e2
          clear HW
          go_wp2_with fail
          have fin := HK.out (.int .i64 QD) W (Below.refl _ _) rfl
          simp only [putAll, Act.put, List.setIfInBounds_toArray, List.set_cons_succ, List.set_cons_zero] at fin
          exact fin
        · rintro vs W K hc hvl hw hK
          obtain ⟨x0, x1, x2, x3, x4, x5, x6, x7, x8, x9, x10, x11, x12, x13, x14, x15, x16, x17, rfl⟩ := len18 hvl
          have HK := Lib.hid hK
          have HC := Lib.hid hc
          have HW := Lib.hid hw
          clear hK hc hw hvl
          obtain rfl : x9 = .int .i64 Y := box_get (HW.out ⟨9, .data⟩ (by simp) rfl) rfl
          obtain rfl : x14 = .int .i64 QD := box_get (HW.out ⟨14, .data⟩ (by simp) rfl) rfl
          simp only [putAll, Act.put, List.setIfInBounds_toArray, List.set_cons_succ, List.set_cons_zero]
          have e4 := HE.out.2.2.2.1
          have e4w := w64 e4
          clear HW
          go_wp2_with fail
          have fin := HK.out (.int .i64 Z) W (Below.refl _ _) rfl
          simp only [putAll, Act.put, List.setIfInBounds_toArray, List.set_cons_succ, List.set_cons_zero] at fin
          exact fin
        · rintro vs W K hc hvl hw hK
          obtain ⟨x0, x1, x2, x3, x4, x5, x6, x7, x8, x9, x10, x11, x12, x13, x14, x15, x16, x17, rfl⟩ := len18 hvl
          have HK := Lib.hid hK
          have HC := Lib.hid hc
          have HW := Lib.hid hw
          clear hK hc hw hvl
          obtain rfl : x7 = .int .i64 U := box_get (HW.out ⟨7, .data⟩ (by simp) rfl) rfl
          simp only [putAll, Act.put, List.setIfInBounds_toArray, List.set_cons_succ, List.set_cons_zero]
          clear HW
          go_wp2_with fail
          have fin := HK.out (.int .i64 U) W (Below.refl _ _) rfl
          simp only [putAll, Act.put, List.setIfInBounds_toArray, List.set_cons_succ, List.set_cons_zero] at fin
          exact fin
        · rintro vs W K hc hvl hw hK
          obtain ⟨x0, x1, x2, x3, x4, x5, x6, x7, x8, x9, x10, x11, x12, x13, x14, x15, x16, x17, rfl⟩ := len18 hvl
          have HK := Lib.hid hK
          have HC := Lib.hid hc
          have HW := Lib.hid hw
          clear hK hc hw hvl
          obtain rfl : x15 = .int .i64 Z := box_get (HW.out ⟨15, .data⟩ (by simp) rfl) rfl
          simp only [putAll, Act.put, List.setIfInBounds_toArray, List.set_cons_succ, List.set_cons_zero]
          clear HW
          go_wp2_with fail
          have fin := HK.out (.int .i64 Z) W (Below.refl _ _) rfl
          simp only [putAll, Act.put, List.setIfInBounds_toArray, List.set_cons_succ, List.set_cons_zero] at fin
          exact fin
      case fin =>
        rintro vs W hJ
        obtain ⟨x0, x1, x2, x3, x4, x5, x6, x7, x8, x9, x10, x11, x12, x13, x14, x15, x16, x17, rfl⟩ := len18 hJ.ln
        obtain rfl : x16 = .int .i64 U := box_get (hJ.val 16 rfl) rfl
        obtain rfl : x17 = .int .i64 Z := box_get (hJ.val 17 rfl) rfl
        have HC := Lib.hid hJ.bl
        clear hJ
        simp only [putAll, Act.put, List.setIfInBounds_toArray, List.set_cons_succ, List.set_cons_zero]
        have RC := Lib.hid (HR10.out.below HC.out HR10.out.lt)
        have RRC := Lib.hid (RR3.out.below HC.out RR3.out.lt)
        have BC := Lib.hid (Below.andThen B3.out HC.out (Nat.le_refl _))
        clear HC HR10 RP3 RR3 B3
        obtain ⟨e1, e2, e3, e4, e5, e6, e7⟩ := HE.out
        have hcR := RC.out.set 3 (.int .i64 R)
        have hrR := RRC.out.other 3 (.int .i64 R) (show w.heap.size + 1 ≠ b10 by have := HB10.out; omega)
        simp only [List.set_cons_succ, List.set_cons_zero] at hcR
        have a0 := RC.out.cell 3
        have a1 := frozen_of_row _ b10 3 _ _ RC.out
        have c0 := hcR.cell 0
        have c1 := hcR.cell 1
        have c2 := hcR.cell 2
        have c3 := hcR.cell 3
        have t0 := hrR.cell 0
        have t1 := hrR.cell 1
        have t2 := hrR.cell 2
        have t3 := hrR.cell 3
        have g0 := frozen_of_row _ (w.heap.size + 1) 0 _ _ hrR
        have g1 := frozen_of_row _ (w.heap.size + 1) 1 _ _ hrR
        have g2 := frozen_of_row _ (w.heap.size + 1) 2 _ _ hrR
        have g3 := frozen_of_row _ (w.heap.size + 1) 3 _ _ hrR
        simp only [List.getElem?_cons_zero, List.getElem?_cons_succ] at a0 c0 c1 c2 c3 t0 t1 t2 t3
        have HRR := Lib.hid hrR
        have BS := Lib.hid (show Below w.heap.size w (W.setCell ⟨b10, 3, none⟩ (.int .i64 R)) from (Below.andThen BV.out BC.out (Nat.le_refl _)).setCell (p := ⟨b10, 3, none⟩) (by have := HB10.out; dsimp only; omega) _)
        clear e1 e2 e3 e4 hcR hrR
        have e5w := w64 e5
        have e6w := w64 e6
        have e7w := w64 e7
        go_wp2_with fail
        have hr := (((HRR.out.set 0 (.int .i64 X)).set 1 (.int .i64 Y)).set 2 (.int .i64 D)).set 3 (.int .i64 R)
        have v0 := hr.cell 0
        have v1 := hr.cell 1
        have v2 := hr.cell 2
        have v3 := hr.cell 3
        simp only [List.set_cons_zero, List.set_cons_succ, List.getElem?_cons_zero, List.getElem?_cons_succ] at v0 v1 v2 v3
        refine bodyPost_ret (v := .agg #[.int .i64 X, .int .i64 Y, .int .i64 D, .int .i64 R]) (by simp [results, Try.results77, go_sem, v0, v1, v2, v3]) rfl ⟨rfl, ?_⟩
        exact (((BS.out.setCell (p := ⟨w.heap.size + 1, 0, none⟩) (by dsimp only; omega) _).setCell (p := ⟨w.heap.size + 1, 1, none⟩) (by dsimp only; omega) _).setCell (p := ⟨w.heap.size + 1, 2, none⟩) (by dsimp only; omega) _).setCell (p := ⟨w.heap.size + 1, 3, none⟩) (by dsimp only; omega) _
  · have hd : decide (d < 0) = false := decide_eq_false hneg
    obtain ⟨r1, r2, r3⟩ := HP.out hneg
    have HQ := Lib.hid (show IntKind.i64.wrap (x.tdiv (g : Int)) = X ∧ IntKind.i64.wrap (y.tdiv (g : Int)) = Y ∧ IntKind.i64.wrap (d.tdiv (g : Int)) = D by
      rw [← r1, ← r2, ← r3]; exact HK.out)
    clear r1 r2 r3 HK
    go_enter Try.func77, Try.ntmps77
    go_wp2_with fail
    rw [show (w.alloc (.cells #[.int .i64 px, .int .i64 py] 28)).alloc (.cells #[.int .i64 0, .int .i64 0, .int .i64 0, .int .i64 0] 46) = V0 from hV.symm]
    refine (HS1.out V0 x y rfl rfl).mono ?_
    rintro e w1 ⟨rfl, hb1⟩
    have B1 := Lib.hid hb1
    clear hb1 HS1
    go_wp2_with fail
    refine (HS2.out w1 d rfl).mono ?_
    rintro e w2 ⟨rfl, hb2⟩
    have B2 := Lib.hid (Below.andThen B1.out hb2 (Nat.le_refl _))
    have RP2 := Lib.hid (RP.out.below B2.out RP.out.lt)
    have RR2 := Lib.hid (RR.out.below B2.out RR.out.lt)
    clear hb2 HS2 B1
    go_wp2_with fail
    refine wp_region_box (by kernel_rfl) (by kernel_rfl) [26, 27, 28, 29, 30, 31, 32, 33, 34, 35, 10, 1000] [(fun v => v = .int .i64 x), (fun v => v = .int .i64 (g : Int)), (fun v => v = .int .i64 X), (fun v => v = .int .i64 y), (fun v => v = .int .i64 (g : Int)), (fun v => v = .int .i64 Y), (fun v => v = .int .i64 d), (fun v => v = .int .i64 (g : Int)), (fun v => v = .int .i64 D), (fun v => v = .agg #[.int .i64 X, .int .i64 Y, .int .i64 D, .int .i64 0]), (fun _ => True), (fun _ => True)] [none, none, none, none, none, none, none, none, none, none, some (46, [.int .i64 0, .int .i64 0, .int .i64 0, .int .i64 0], [.int .i64 X, .int .i64 Y, .int .i64 D, .int .i64 0]), none] [none, none, none, none, none, none, none, none, none, none, none, some 10] 12 rfl (by kernel_rfl) ?tr ⟨[undef, undef, undef, undef, undef, undef, undef, undef, undef, undef, undef, undef], by simp only [putAll, Act.put, List.setIfInBounds_toArray, List.set_cons_succ, List.set_cons_zero, List.set_nil], rfl⟩ ?steps ?fin
    case tr =>
      rintro i v h
      rcases i with _ | _ | _ | _ | _ | _ | _ | _ | _ | _ | _ | _ | i
      all_goals first | trivial | (exfalso; rcases h with h | h <;> simp at h)
    case steps =>
      simp only [boxSteps, Nat.reduceAdd, Nat.zero_add, List.getD_cons_succ, List.getD_cons_zero]
      refine ⟨?_, ?_, ?_, ?_, ?_, ?_, ?_, ?_, ?_, ?_, ?_, ?_, trivial⟩
      · rintro vs W K hc hvl hw hK
        obtain ⟨x0, x1, x2, x3, x4, x5, x6, x7, x8, x9, x10, x11, rfl⟩ := len12 hvl
        have HK := Lib.hid hK
        have HC := Lib.hid hc
        have HW := Lib.hid hw
        clear hK hc hw hvl
        simp only [putAll, Act.put, List.setIfInBounds_toArray, List.set_cons_succ, List.set_cons_zero, List.set_nil]
        clear HW
        go_wp2_with fail
        have fin := HK.out (.int .i64 x) W (Below.refl _ _) rfl
        simp only [putAll, Act.put, List.setIfInBounds_toArray, List.set_cons_succ, List.set_cons_zero, List.set_nil] at fin
        exact fin
      · rintro vs W K hc hvl hw hK
        obtain ⟨x0, x1, x2, x3, x4, x5, x6, x7, x8, x9, x10, x11, rfl⟩ := len12 hvl
        have HK := Lib.hid hK
        have HC := Lib.hid hc
        have HW := Lib.hid hw
        clear hK hc hw hvl
        simp only [putAll, Act.put, List.setIfInBounds_toArray, List.set_cons_succ, List.set_cons_zero, List.set_nil]
        clear HW
        go_wp2_with fail
        have fin := HK.out (.int .i64 (g : Int)) W (Below.refl _ _) rfl
        simp only [putAll, Act.put, List.setIfInBounds_toArray, List.set_cons_succ, List.set_cons_zero, List.set_nil] at fin
        exact fin
      · rintro vs W K hc hvl hw hK
        obtain ⟨x0, x1, x2, x3, x4, x5, x6, x7, x8, x9, x10, x11, rfl⟩ := len12 hvl
        have HK := Lib.hid hK
        have HC := Lib.hid hc
        have HW := Lib.hid hw
        clear hK hc hw hvl
        obtain rfl : x0 = .int .i64 x := box_get (HW.out ⟨0, .data⟩ (by simp) rfl) rfl
        obtain rfl : x1 = .int .i64 (g : Int) := box_get (HW.out ⟨1, .data⟩ (by simp) rfl) rfl
        simp only [putAll, Act.put, List.setIfInBounds_toArray, List.set_cons_succ, List.set_cons_zero, List.set_nil]
        obtain ⟨k1, k2, k3⟩ := HQ.out
        have k1w := w64 k1
        have k2w := w64 k2
        have k3w := w64 k3
        have hgn := HGN.out
        clear HW
        go_wp2_with fail
        have fin := HK.out (.int .i64 X) W (Below.refl _ _) rfl
        simp only [putAll, Act.put, List.setIfInBounds_toArray, List.set_cons_succ, List.set_cons_zero, List.set_nil] at fin
        exact fin
      · rintro vs W K hc hvl hw hK
        obtain ⟨x0, x1, x2, x3, x4, x5, x6, x7, x8, x9, x10, x11, rfl⟩ := len12 hvl
        have HK := Lib.hid hK
        have HC := Lib.hid hc
        have HW := Lib.hid hw
        clear hK hc hw hvl
        simp only [putAll, Act.put, List.setIfInBounds_toArray, List.set_cons_succ, List.set_cons_zero, List.set_nil]
        clear HW
        go_wp2_with fail
        have fin := HK.out (.int .i64 y) W (Below.refl _ _) rfl
        simp only [putAll, Act.put, List.setIfInBounds_toArray, List.set_cons_succ, List.set_cons_zero, List.set_nil] at fin
        exact fin
      · rintro vs W K hc hvl hw hK
        obtain ⟨x0, x1, x2, x3, x4, x5, x6, x7, x8, x9, x10, x11, rfl⟩ := len12 hvl
        have HK := Lib.hid hK
        have HC := Lib.hid hc
        have HW := Lib.hid hw
        clear hK hc hw hvl
        simp only [putAll, Act.put, List.setIfInBounds_toArray, List.set_cons_succ, List.set_cons_zero, List.set_nil]
        clear HW
        go_wp2_with fail
        have fin := HK.out (.int .i64 (g : Int)) W (Below.refl _ _) rfl
        simp only [putAll, Act.put, List.setIfInBounds_toArray, List.set_cons_succ, List.set_cons_zero, List.set_nil] at fin
        exact fin
      · rintro vs W K hc hvl hw hK
        obtain ⟨x0, x1, x2, x3, x4, x5, x6, x7, x8, x9, x10, x11, rfl⟩ := len12 hvl
        have HK := Lib.hid hK
        have HC := Lib.hid hc
        have HW := Lib.hid hw
        clear hK hc hw hvl
        obtain rfl : x3 = .int .i64 y := box_get (HW.out ⟨3, .data⟩ (by simp) rfl) rfl
        obtain rfl : x4 = .int .i64 (g : Int) := box_get (HW.out ⟨4, .data⟩ (by simp) rfl) rfl
        simp only [putAll, Act.put, List.setIfInBounds_toArray, List.set_cons_succ, List.set_cons_zero, List.set_nil]
        obtain ⟨k1, k2, k3⟩ := HQ.out
        have k1w := w64 k1
        have k2w := w64 k2
        have k3w := w64 k3
        have hgn := HGN.out
        clear HW
        go_wp2_with fail
        have fin := HK.out (.int .i64 Y) W (Below.refl _ _) rfl
        simp only [putAll, Act.put, List.setIfInBounds_toArray, List.set_cons_succ, List.set_cons_zero, List.set_nil] at fin
        exact fin
      · rintro vs W K hc hvl hw hK
        obtain ⟨x0, x1, x2, x3, x4, x5, x6, x7, x8, x9, x10, x11, rfl⟩ := len12 hvl
        have HK := Lib.hid hK
        have HC := Lib.hid hc
        have HW := Lib.hid hw
        clear hK hc hw hvl
        simp only [putAll, Act.put, List.setIfInBounds_toArray, List.set_cons_succ, List.set_cons_zero, List.set_nil]
        clear HW
        go_wp2_with fail
        have fin := HK.out (.int .i64 d) W (Below.refl _ _) rfl
        simp only [putAll, Act.put, List.setIfInBounds_toArray, List.set_cons_succ, List.set_cons_zero, List.set_nil] at fin
        exact fin
      · rintro vs W K hc hvl hw hK
        obtain ⟨x0, x1, x2, x3, x4, x5, x6, x7, x8, x9, x10, x11, rfl⟩ := len12 hvl
        have HK := Lib.hid hK
        have HC := Lib.hid hc
        have HW := Lib.hid hw
        clear hK hc hw hvl
        simp only [putAll, Act.put, List.setIfInBounds_toArray, List.set_cons_succ, List.set_cons_zero, List.set_nil]
        clear HW
        go_wp2_with fail
        have fin := HK.out (.int .i64 (g : Int)) W (Below.refl _ _) rfl
        simp only [putAll, Act.put, List.setIfInBounds_toArray, List.set_cons_succ, List.set_cons_zero, List.set_nil] at fin
        exact fin
      · rintro vs W K hc hvl hw hK
        obtain ⟨x0, x1, x2, x3, x4, x5, x6, x7, x8, x9, x10, x11, rfl⟩ := len12 hvl
        have HK := Lib.hid hK
        have HC := Lib.hid hc
        have HW := Lib.hid hw
        clear hK hc hw hvl
        obtain rfl : x6 = .int .i64 d := box_get (HW.out ⟨6, .data⟩ (by simp) rfl) rfl
        obtain rfl : x7 = .int .i64 (g : Int) := box_get (HW.out ⟨7, .data⟩ (by simp) rfl) rfl
        simp only [putAll, Act.put, List.setIfInBounds_toArray, List.set_cons_succ, List.set_cons_zero, List.set_nil]
        obtain ⟨k1, k2, k3⟩ := HQ.out
        have k1w := w64 k1
        have k2w := w64 k2
        have k3w := w64 k3
        have hgn := HGN.out
        clear HW
        go_wp2_with fail
        have fin := HK.out (.int .i64 D) W (Below.refl _ _) rfl
        simp only [putAll, Act.put, List.setIfInBounds_toArray, List.set_cons_succ, List.set_cons_zero, List.set_nil] at fin
        exact fin
      · rintro vs W K hc hvl hw hK
        obtain ⟨x0, x1, x2, x3, x4, x5, x6, x7, x8, x9, x10, x11, rfl⟩ := len12 hvl
        have HK := Lib.hid hK
        have HC := Lib.hid hc
        have HW := Lib.hid hw
        clear hK hc hw hvl
        obtain rfl : x2 = .int .i64 X := box_get (HW.out ⟨2, .data⟩ (by simp) rfl) rfl
        obtain rfl : x5 = .int .i64 Y := box_get (HW.out ⟨5, .data⟩ (by simp) rfl) rfl
        obtain rfl : x8 = .int .i64 D := box_get (HW.out ⟨8, .data⟩ (by simp) rfl) rfl
        simp only [putAll, Act.put, List.setIfInBounds_toArray, List.set_cons_succ, List.set_cons_zero, List.set_nil]
        clear HW
        go_wp2_with fail
        have fin := HK.out (.agg #[.int .i64 X, .int .i64 Y, .int .i64 D, .int .i64 0]) W (Below.refl _ _) rfl
        simp only [putAll, Act.put, List.setIfInBounds_toArray, List.set_cons_succ, List.set_cons_zero, List.set_nil] at fin
        exact fin
      · rintro vs W K hc hvl hw hK
        obtain ⟨x0, x1, x2, x3, x4, x5, x6, x7, x8, x9, x10, x11, rfl⟩ := len12 hvl
        have HK := Lib.hid hK
        have HC := Lib.hid hc
        have HW := Lib.hid hw
        clear hK hc hw hvl
        simp only [putAll, Act.put, List.setIfInBounds_toArray, List.set_cons_succ, List.set_cons_zero, List.set_nil]
        clear HW
        go_wp2_with fail
        have fin := HK.out
        simp only [putAll, Act.put, List.setIfInBounds_toArray, List.set_cons_succ, List.set_cons_zero, List.set_nil] at fin
        exact fin
      · rintro vs W K hc hvl hw b E z f hia hva hb0 hr hK
        cases hia
        obtain ⟨x0, x1, x2, x3, x4, x5, x6, x7, x8, x9, x10, x11, rfl⟩ := len12 hvl
        have HK := Lib.hid hK
        have HC := Lib.hid hc
        have HW := Lib.hid hw
        clear hK hc hw hvl
        obtain rfl : x9 = .agg #[.int .i64 X, .int .i64 Y, .int .i64 D, .int .i64 0] := box_get (HW.out ⟨9, .data⟩ (by simp) rfl) rfl
        obtain rfl : x10 = .pointer (some ⟨b, 0, none⟩) := Option.some.inj hva
        simp only [putAll, Act.put, List.setIfInBounds_toArray, List.set_cons_succ, List.set_cons_zero, List.set_nil]
        have kf0 := frozen_of_row W b 0 _ _ hr
        have kc0 : W.cell? ⟨b, 0, none⟩ = some (.int .i64 0) := hr.cell 0
        have kf1 := frozen_of_row W b 1 _ _ hr
        have kc1 : W.cell? ⟨b, 1, none⟩ = some (.int .i64 0) := hr.cell 1
        have kf2 := frozen_of_row W b 2 _ _ hr
        have kc2 : W.cell? ⟨b, 2, none⟩ = some (.int .i64 0) := hr.cell 2
        have kf3 := frozen_of_row W b 3 _ _ hr
        have kc3 : W.cell? ⟨b, 3, none⟩ = some (.int .i64 0) := hr.cell 3
        have HRW := Lib.hid hr
        clear HW hr hva
        go_wp2_with fail
        have fin := HK.out _ (show Row _ b 46 [.int .i64 X, .int .i64 Y, .int .i64 D, .int .i64 0] from by simpa using (show Row _ b 46 _ from ((((HRW.out.set 0 (.int .i64 X)).set 1 (.int .i64 Y)).set 2 (.int .i64 D)).set 3 (.int .i64 0)))) (grown_put (grown_put (grown_put (grown_put (grown_self W _)))))
        simp only [putAll, Act.put, List.setIfInBounds_toArray, List.set_cons_succ, List.set_cons_zero, List.set_nil] at fin
        exact fin
    case fin =>
      rintro vs W hJ
      obtain ⟨x0, x1, x2, x3, x4, x5, x6, x7, x8, x9, x10, x11, rfl⟩ := len12 hJ.ln
      obtain rfl : x0 = .int .i64 x := box_get (hJ.val 0 rfl) rfl
      obtain rfl : x1 = .int .i64 (g : Int) := box_get (hJ.val 1 rfl) rfl
      obtain rfl : x2 = .int .i64 X := box_get (hJ.val 2 rfl) rfl
      obtain rfl : x3 = .int .i64 y := box_get (hJ.val 3 rfl) rfl
      obtain rfl : x4 = .int .i64 (g : Int) := box_get (hJ.val 4 rfl) rfl
      obtain rfl : x5 = .int .i64 Y := box_get (hJ.val 5 rfl) rfl
      obtain rfl : x6 = .int .i64 d := box_get (hJ.val 6 rfl) rfl
      obtain rfl : x7 = .int .i64 (g : Int) := box_get (hJ.val 7 rfl) rfl
      obtain rfl : x8 = .int .i64 D := box_get (hJ.val 8 rfl) rfl
      obtain rfl : x9 = .agg #[.int .i64 X, .int .i64 Y, .int .i64 D, .int .i64 0] := box_get (hJ.val 9 rfl) rfl
      obtain ⟨b10, e10, hb10, hr10⟩ := hJ.box 10 _ _ _ rfl rfl
      obtain rfl : x10 = .pointer (some ⟨b10, 0, none⟩) := Option.some.inj e10
      replace hr10 : Row W b10 46 [.int .i64 X, .int .i64 Y, .int .i64 D, .int .i64 0] := hr10
      have HR10 := Lib.hid hr10
      clear e10 hr10
      have HC := Lib.hid hJ.bl
      clear hJ
      simp only [putAll, Act.put, List.setIfInBounds_toArray, List.set_cons_succ, List.set_cons_zero, List.set_nil]
      have RP3 := Lib.hid (RP2.out.below HC.out RP2.out.lt)
      have RR3 := Lib.hid (RR2.out.below HC.out RR2.out.lt)
      have B3 := Lib.hid (Below.andThen B2.out HC.out (Nat.le_refl _))
      have HB10 := Lib.hid (show w.heap.size + 1 < b10 by have h1 := hb10; have h2 := B2.out.size; have h3 := HWS.out; omega)
      clear hb10
      clear HC RP2 RR2 B2 HQ
      go_wp2_with fail
      refine wp_region_box (by kernel_rfl) (by kernel_rfl) [36, 37, 38, 39, 40, 41, 42, 43, 44, 45, 46, 47, 48, 49, 50, 51, 11, 12] [(fun v => v = .pointer (some ⟨b10, 0, none⟩)), (fun v => v = .int .i64 X), (fun v => v = .pointer (some ⟨w.heap.size, 0, none⟩)), (fun v => v = .int .i64 px), (fun v => v = .pointer (some ⟨b10, 2, none⟩)), (fun v => v = .int .i64 D), (fun v => v = .int .i64 PD), (fun v => v = .int .i64 U), (fun v => v = .pointer (some ⟨b10, 1, none⟩)), (fun v => v = .int .i64 Y), (fun v => v = .pointer (some ⟨w.heap.size, 1, none⟩)), (fun v => v = .int .i64 py), (fun v => v = .pointer (some ⟨b10, 2, none⟩)), (fun v => v = .int .i64 D), (fun v => v = .int .i64 QD), (fun v => v = .int .i64 Z), (fun v => v = .int .i64 U), (fun v => v = .int .i64 Z)] [none, none, none, none, none, none, none, none, none, none, none, none, none, none, none, none, none, none] [none, none, none, none, none, none, none, none, none, none, none, none, none, none, none, none, none, none] 18 rfl (by kernel_rfl) ?tr ⟨[undef, undef, undef, undef, undef, undef, undef, undef, undef, undef, undef, undef, undef, undef, undef, undef, undef, undef], by simp only [putAll, Act.put, List.setIfInBounds_toArray, List.set_cons_succ, List.set_cons_zero], rfl⟩ ?steps ?fin
      case tr =>
        rintro i v h
        rcases i with _ | _ | _ | _ | _ | _ | _ | _ | _ | _ | _ | _ | _ | _ | _ | _ | _ | _ | i
        all_goals first | trivial | (exfalso; rcases h with h | h <;> simp at h)
      case steps =>
        simp only [boxSteps, Nat.reduceAdd, Nat.zero_add, List.getD_cons_succ, List.getD_cons_zero]
        refine ⟨?_, ?_, ?_, ?_, ?_, ?_, ?_, ?_, ?_, ?_, ?_, ?_, ?_, ?_, ?_, ?_, ?_, ?_, trivial⟩
        · rintro vs W K hc hvl hw hK
          obtain ⟨x0, x1, x2, x3, x4, x5, x6, x7, x8, x9, x10, x11, x12, x13, x14, x15, x16, x17, rfl⟩ := len18 hvl
          have HK := Lib.hid hK
          have HC := Lib.hid hc
          have HW := Lib.hid hw
          clear hK hc hw hvl
          simp only [putAll, Act.put, List.setIfInBounds_toArray, List.set_cons_succ, List.set_cons_zero]
          clear HW
          go_wp2_with fail
          have fin := HK.out (.pointer (some ⟨b10, 0, none⟩)) W (Below.refl _ _) rfl
          simp only [putAll, Act.put, List.setIfInBounds_toArray, List.set_cons_succ, List.set_cons_zero] at fin
          exact fin
        · rintro vs W K hc hvl hw hK
          obtain ⟨x0, x1, x2, x3, x4, x5, x6, x7, x8, x9, x10, x11, x12, x13, x14, x15, x16, x17, rfl⟩ := len18 hvl
          have HK := Lib.hid hK
          have HC := Lib.hid hc
          have HW := Lib.hid hw
          clear hK hc hw hvl
          obtain rfl : x0 = .pointer (some ⟨b10, 0, none⟩) := box_get (HW.out ⟨0, .data⟩ (by simp) rfl) rfl
          simp only [putAll, Act.put, List.setIfInBounds_toArray, List.set_cons_succ, List.set_cons_zero]
          have rr := HR10.out.below HC.out HR10.out.lt
          have d0 := rr.cell 0
          simp only [List.getElem?_cons_zero] at d0
          clear rr
          clear HW
          go_wp2_with fail
          have fin := HK.out (.int .i64 X) W (Below.refl _ _) rfl
          simp only [putAll, Act.put, List.setIfInBounds_toArray, List.set_cons_succ, List.set_cons_zero] at fin
          exact fin
        · rintro vs W K hc hvl hw hK
          obtain ⟨x0, x1, x2, x3, x4, x5, x6, x7, x8, x9, x10, x11, x12, x13, x14, x15, x16, x17, rfl⟩ := len18 hvl
          have HK := Lib.hid hK
          have HC := Lib.hid hc
          have HW := Lib.hid hw
          clear hK hc hw hvl
          simp only [putAll, Act.put, List.setIfInBounds_toArray, List.set_cons_succ, List.set_cons_zero]
          clear HW
          go_wp2_with fail
          have fin := HK.out (.pointer (some ⟨w.heap.size, 0, none⟩)) W (Below.refl _ _) rfl
          simp only [putAll, Act.put, List.setIfInBounds_toArray, List.set_cons_succ, List.set_cons_zero] at fin
          exact fin
        · rintro vs W K hc hvl hw hK
          obtain ⟨x0, x1, x2, x3, x4, x5, x6, x7, x8, x9, x10, x11, x12, x13, x14, x15, x16, x17, rfl⟩ := len18 hvl
          have HK := Lib.hid hK
          have HC := Lib.hid hc
          have HW := Lib.hid hw
          clear hK hc hw hvl
          obtain rfl : x2 = .pointer (some ⟨w.heap.size, 0, none⟩) := box_get (HW.out ⟨2, .data⟩ (by simp) rfl) rfl
          simp only [putAll, Act.put, List.setIfInBounds_toArray, List.set_cons_succ, List.set_cons_zero]
          have rr := RP3.out.below HC.out RP3.out.lt
          have d0 := rr.cell 0
          simp only [List.getElem?_cons_zero] at d0
          clear rr
          clear HW
          go_wp2_with fail
          have fin := HK.out (.int .i64 px) W (Below.refl _ _) rfl
          simp only [putAll, Act.put, List.setIfInBounds_toArray, List.set_cons_succ, List.set_cons_zero] at fin
          exact fin
        · rintro vs W K hc hvl hw hK
          obtain ⟨x0, x1, x2, x3, x4, x5, x6, x7, x8, x9, x10, x11, x12, x13, x14, x15, x16, x17, rfl⟩ := len18 hvl
          have HK := Lib.hid hK
          have HC := Lib.hid hc
          have HW := Lib.hid hw
          clear hK hc hw hvl
          simp only [putAll, Act.put, List.setIfInBounds_toArray, List.set_cons_succ, List.set_cons_zero]
          clear HW
          go_wp2_with fail
          have fin := HK.out (.pointer (some ⟨b10, 2, none⟩)) W (Below.refl _ _) rfl
          simp only [putAll, Act.put, List.setIfInBounds_toArray, List.set_cons_succ, List.set_cons_zero] at fin
          exact fin
        · rintro vs W K hc hvl hw hK
          obtain ⟨x0, x1, x2, x3, x4, x5, x6, x7, x8, x9, x10, x11, x12, x13, x14, x15, x16, x17, rfl⟩ := len18 hvl
          have HK := Lib.hid hK
          have HC := Lib.hid hc
          have HW := Lib.hid hw
          clear hK hc hw hvl
          obtain rfl : x4 = .pointer (some ⟨b10, 2, none⟩) := box_get (HW.out ⟨4, .data⟩ (by simp) rfl) rfl
          simp only [putAll, Act.put, List.setIfInBounds_toArray, List.set_cons_succ, List.set_cons_zero]
          have rr := HR10.out.below HC.out HR10.out.lt
          have d0 := rr.cell 2
          simp only [List.getElem?_cons_zero, List.getElem?_cons_succ] at d0
          clear rr
          clear HW
          go_wp2_with fail
          have fin := HK.out (.int .i64 D) W (Below.refl _ _) rfl
          simp only [putAll, Act.put, List.setIfInBounds_toArray, List.set_cons_succ, List.set_cons_zero] at fin
          exact fin
        · rintro vs W K hc hvl hw hK
          obtain ⟨x0, x1, x2, x3, x4, x5, x6, x7, x8, x9, x10, x11, x12, x13, x14, x15, x16, x17, rfl⟩ := len18 hvl
          have HK := Lib.hid hK
          have HC := Lib.hid hc
          have HW := Lib.hid hw
          clear hK hc hw hvl
          obtain rfl : x3 = .int .i64 px := box_get (HW.out ⟨3, .data⟩ (by simp) rfl) rfl
          obtain rfl : x5 = .int .i64 D := box_get (HW.out ⟨5, .data⟩ (by simp) rfl) rfl
          simp only [putAll, Act.put, List.setIfInBounds_toArray, List.set_cons_succ, List.set_cons_zero]
          have e1 := HE.out.1
          have e1w := w64 e1
          clear HW
          go_wp2_with fail
          have fin := HK.out (.int .i64 PD) W (Below.refl _ _) rfl
          simp only [putAll, Act.put, List.setIfInBounds_toArray, List.set_cons_succ, List.set_cons_zero] at fin
          exact fin
        · rintro vs W K hc hvl hw hK
          obtain ⟨x0, x1, x2, x3, x4, x5, x6, x7, x8, x9, x10, x11, x12, x13, x14, x15, x16, x17, rfl⟩ := len18 hvl
          have HK := Lib.hid hK
          have HC := Lib.hid hc
          have HW := Lib.hid hw
          clear hK hc hw hvl
          obtain rfl : x1 = .int .i64 X := box_get (HW.out ⟨1, .data⟩ (by simp) rfl) rfl
          obtain rfl : x6 = .int .i64 PD := box_get (HW.out ⟨6, .data⟩ (by simp) rfl) rfl
          simp only [putAll, Act.put, List.setIfInBounds_toArray, List.set_cons_succ, List.set_cons_zero]
          have e3 := HE.out.2.2.1
          have e3w := w64 e3
          clear HW
          go_wp2_with fail
          have fin := HK.out (.int .i64 U) W (Below.refl _ _) rfl
          simp only [putAll, Act.put, List.setIfInBounds_toArray, List.set_cons_succ, List.set_cons_zero] at fin
          exact fin
        · rintro vs W K hc hvl hw hK
          obtain ⟨x0, x1, x2, x3, x4, x5, x6, x7, x8, x9, x10, x11, x12, x13, x14, x15, x16, x17, rfl⟩ := len18 hvl
          have HK := Lib.hid hK
          have HC := Lib.hid hc
          have HW := Lib.hid hw
          clear hK hc hw hvl
          simp only [putAll, Act.put, List.setIfInBounds_toArray, List.set_cons_succ, List.set_cons_zero]
          clear HW
          go_wp2_with fail
          have fin := HK.out (.pointer (some ⟨b10, 1, none⟩)) W (Below.refl _ _) rfl
          simp only [putAll, Act.put, List.setIfInBounds_toArray, List.set_cons_succ, List.set_cons_zero] at fin
          exact fin
        · rintro vs W K hc hvl hw hK
          obtain ⟨x0, x1, x2, x3, x4, x5, x6, x7, x8, x9, x10, x11, x12, x13, x14, x15, x16, x17, rfl⟩ := len18 hvl
          have HK := Lib.hid hK
          have HC := Lib.hid hc
          have HW := Lib.hid hw
          clear hK hc hw hvl
          obtain rfl : x8 = .pointer (some ⟨b10, 1, none⟩) := box_get (HW.out ⟨8, .data⟩ (by simp) rfl) rfl
          simp only [putAll, Act.put, List.setIfInBounds_toArray, List.set_cons_succ, List.set_cons_zero]
          have rr := HR10.out.below HC.out HR10.out.lt
          have d0 := rr.cell 1
          simp only [List.getElem?_cons_zero, List.getElem?_cons_succ] at d0
          clear rr
          clear HW
          go_wp2_with fail
          have fin := HK.out (.int .i64 Y) W (Below.refl _ _) rfl
          simp only [putAll, Act.put, List.setIfInBounds_toArray, List.set_cons_succ, List.set_cons_zero] at fin
          exact fin
        · rintro vs W K hc hvl hw hK
          obtain ⟨x0, x1, x2, x3, x4, x5, x6, x7, x8, x9, x10, x11, x12, x13, x14, x15, x16, x17, rfl⟩ := len18 hvl
          have HK := Lib.hid hK
          have HC := Lib.hid hc
          have HW := Lib.hid hw
          clear hK hc hw hvl
          simp only [putAll, Act.put, List.setIfInBounds_toArray, List.set_cons_succ, List.set_cons_zero]
          clear HW
          go_wp2_with fail
          have fin := HK.out (.pointer (some ⟨w.heap.size, 1, none⟩)) W (Below.refl _ _) rfl
          simp only [putAll, Act.put, List.setIfInBounds_toArray, List.set_cons_succ, List.set_cons_zero] at fin
          exact fin
        · rintro vs W K hc hvl hw hK
          obtain ⟨x0, x1, x2, x3, x4, x5, x6, x7, x8, x9, x10, x11, x12, x13, x14, x15, x16, x17, rfl⟩ := len18 hvl
          have HK := Lib.hid hK
          have HC := Lib.hid hc
          have HW := Lib.hid hw
          clear hK hc hw hvl
          obtain rfl : x10 = .pointer (some ⟨w.heap.size, 1, none⟩) := box_get (HW.out ⟨10, .data⟩ (by simp) rfl) rfl
          simp only [putAll, Act.put, List.setIfInBounds_toArray, List.set_cons_succ, List.set_cons_zero]
          have rr := RP3.out.below HC.out RP3.out.lt
          have d0 := rr.cell 1
          simp only [List.getElem?_cons_zero, List.getElem?_cons_succ] at d0
          clear rr
          clear HW
          go_wp2_with fail
          have fin := HK.out (.int .i64 py) W (Below.refl _ _) rfl
          simp only [putAll, Act.put, List.setIfInBounds_toArray, List.set_cons_succ, List.set_cons_zero] at fin
          exact fin
        · rintro vs W K hc hvl hw hK
          obtain ⟨x0, x1, x2, x3, x4, x5, x6, x7, x8, x9, x10, x11, x12, x13, x14, x15, x16, x17, rfl⟩ := len18 hvl
          have HK := Lib.hid hK
          have HC := Lib.hid hc
          have HW := Lib.hid hw
          clear hK hc hw hvl
          simp only [putAll, Act.put, List.setIfInBounds_toArray, List.set_cons_succ, List.set_cons_zero]
          clear HW
          go_wp2_with fail
          have fin := HK.out (.pointer (some ⟨b10, 2, none⟩)) W (Below.refl _ _) rfl
          simp only [putAll, Act.put, List.setIfInBounds_toArray, List.set_cons_succ, List.set_cons_zero] at fin
          exact fin
        · rintro vs W K hc hvl hw hK
          obtain ⟨x0, x1, x2, x3, x4, x5, x6, x7, x8, x9, x10, x11, x12, x13, x14, x15, x16, x17, rfl⟩ := len18 hvl
          have HK := Lib.hid hK
          have HC := Lib.hid hc
          have HW := Lib.hid hw
          clear hK hc hw hvl
          obtain rfl : x12 = .pointer (some ⟨b10, 2, none⟩) := box_get (HW.out ⟨12, .data⟩ (by simp) rfl) rfl
          simp only [putAll, Act.put, List.setIfInBounds_toArray, List.set_cons_succ, List.set_cons_zero]
          have rr := HR10.out.below HC.out HR10.out.lt
          have d0 := rr.cell 2
          simp only [List.getElem?_cons_zero, List.getElem?_cons_succ] at d0
          clear rr
          clear HW
          go_wp2_with fail
          have fin := HK.out (.int .i64 D) W (Below.refl _ _) rfl
          simp only [putAll, Act.put, List.setIfInBounds_toArray, List.set_cons_succ, List.set_cons_zero] at fin
          exact fin
        · rintro vs W K hc hvl hw hK
          obtain ⟨x0, x1, x2, x3, x4, x5, x6, x7, x8, x9, x10, x11, x12, x13, x14, x15, x16, x17, rfl⟩ := len18 hvl
          have HK := Lib.hid hK
          have HC := Lib.hid hc
          have HW := Lib.hid hw
          clear hK hc hw hvl
          obtain rfl : x11 = .int .i64 py := box_get (HW.out ⟨11, .data⟩ (by simp) rfl) rfl
          obtain rfl : x13 = .int .i64 D := box_get (HW.out ⟨13, .data⟩ (by simp) rfl) rfl
          simp only [putAll, Act.put, List.setIfInBounds_toArray, List.set_cons_succ, List.set_cons_zero]
          have e2 := HE.out.2.1
          have e2w := w64 e2
          clear HW
          go_wp2_with fail
          have fin := HK.out (.int .i64 QD) W (Below.refl _ _) rfl
          simp only [putAll, Act.put, List.setIfInBounds_toArray, List.set_cons_succ, List.set_cons_zero] at fin
          exact fin
        · rintro vs W K hc hvl hw hK
          obtain ⟨x0, x1, x2, x3, x4, x5, x6, x7, x8, x9, x10, x11, x12, x13, x14, x15, x16, x17, rfl⟩ := len18 hvl
          have HK := Lib.hid hK
          have HC := Lib.hid hc
          have HW := Lib.hid hw
          clear hK hc hw hvl
          obtain rfl : x9 = .int .i64 Y := box_get (HW.out ⟨9, .data⟩ (by simp) rfl) rfl
          obtain rfl : x14 = .int .i64 QD := box_get (HW.out ⟨14, .data⟩ (by simp) rfl) rfl
          simp only [putAll, Act.put, List.setIfInBounds_toArray, List.set_cons_succ, List.set_cons_zero]
          have e4 := HE.out.2.2.2.1
          have e4w := w64 e4
          clear HW
          go_wp2_with fail
          have fin := HK.out (.int .i64 Z) W (Below.refl _ _) rfl
          simp only [putAll, Act.put, List.setIfInBounds_toArray, List.set_cons_succ, List.set_cons_zero] at fin
          exact fin
        · rintro vs W K hc hvl hw hK
          obtain ⟨x0, x1, x2, x3, x4, x5, x6, x7, x8, x9, x10, x11, x12, x13, x14, x15, x16, x17, rfl⟩ := len18 hvl
          have HK := Lib.hid hK
          have HC := Lib.hid hc
          have HW := Lib.hid hw
          clear hK hc hw hvl
          obtain rfl : x7 = .int .i64 U := box_get (HW.out ⟨7, .data⟩ (by simp) rfl) rfl
          simp only [putAll, Act.put, List.setIfInBounds_toArray, List.set_cons_succ, List.set_cons_zero]
          clear HW
          go_wp2_with fail
          have fin := HK.out (.int .i64 U) W (Below.refl _ _) rfl
          simp only [putAll, Act.put, List.setIfInBounds_toArray, List.set_cons_succ, List.set_cons_zero] at fin
          exact fin
        · rintro vs W K hc hvl hw hK
          obtain ⟨x0, x1, x2, x3, x4, x5, x6, x7, x8, x9, x10, x11, x12, x13, x14, x15, x16, x17, rfl⟩ := len18 hvl
          have HK := Lib.hid hK
          have HC := Lib.hid hc
          have HW := Lib.hid hw
          clear hK hc hw hvl
          obtain rfl : x15 = .int .i64 Z := box_get (HW.out ⟨15, .data⟩ (by simp) rfl) rfl
          simp only [putAll, Act.put, List.setIfInBounds_toArray, List.set_cons_succ, List.set_cons_zero]
          clear HW
          go_wp2_with fail
          have fin := HK.out (.int .i64 Z) W (Below.refl _ _) rfl
          simp only [putAll, Act.put, List.setIfInBounds_toArray, List.set_cons_succ, List.set_cons_zero] at fin
          exact fin
      case fin =>
        rintro vs W hJ
        obtain ⟨x0, x1, x2, x3, x4, x5, x6, x7, x8, x9, x10, x11, x12, x13, x14, x15, x16, x17, rfl⟩ := len18 hJ.ln
        obtain rfl : x16 = .int .i64 U := box_get (hJ.val 16 rfl) rfl
        obtain rfl : x17 = .int .i64 Z := box_get (hJ.val 17 rfl) rfl
        have HC := Lib.hid hJ.bl
        clear hJ
        simp only [putAll, Act.put, List.setIfInBounds_toArray, List.set_cons_succ, List.set_cons_zero]
        have RC := Lib.hid (HR10.out.below HC.out HR10.out.lt)
        have RRC := Lib.hid (RR3.out.below HC.out RR3.out.lt)
        have BC := Lib.hid (Below.andThen B3.out HC.out (Nat.le_refl _))
        clear HC HR10 RP3 RR3 B3
        obtain ⟨e1, e2, e3, e4, e5, e6, e7⟩ := HE.out
        have hcR := RC.out.set 3 (.int .i64 R)
        have hrR := RRC.out.other 3 (.int .i64 R) (show w.heap.size + 1 ≠ b10 by have := HB10.out; omega)
        simp only [List.set_cons_succ, List.set_cons_zero] at hcR
        have a0 := RC.out.cell 3
        have a1 := frozen_of_row _ b10 3 _ _ RC.out
        have c0 := hcR.cell 0
        have c1 := hcR.cell 1
        have c2 := hcR.cell 2
        have c3 := hcR.cell 3
        have t0 := hrR.cell 0
        have t1 := hrR.cell 1
        have t2 := hrR.cell 2
        have t3 := hrR.cell 3
        have g0 := frozen_of_row _ (w.heap.size + 1) 0 _ _ hrR
        have g1 := frozen_of_row _ (w.heap.size + 1) 1 _ _ hrR
        have g2 := frozen_of_row _ (w.heap.size + 1) 2 _ _ hrR
        have g3 := frozen_of_row _ (w.heap.size + 1) 3 _ _ hrR
        simp only [List.getElem?_cons_zero, List.getElem?_cons_succ] at a0 c0 c1 c2 c3 t0 t1 t2 t3
        have HRR := Lib.hid hrR
        have BS := Lib.hid (show Below w.heap.size w (W.setCell ⟨b10, 3, none⟩ (.int .i64 R)) from (Below.andThen BV.out BC.out (Nat.le_refl _)).setCell (p := ⟨b10, 3, none⟩) (by have := HB10.out; dsimp only; omega) _)
        clear e1 e2 e3 e4 hcR hrR
        have e5w := w64 e5
        have e6w := w64 e6
        have e7w := w64 e7
        go_wp2_with fail
        have hr := (((HRR.out.set 0 (.int .i64 X)).set 1 (.int .i64 Y)).set 2 (.int .i64 D)).set 3 (.int .i64 R)
        have v0 := hr.cell 0
        have v1 := hr.cell 1
        have v2 := hr.cell 2
        have v3 := hr.cell 3
        simp only [List.set_cons_zero, List.set_cons_succ, List.getElem?_cons_zero, List.getElem?_cons_succ] at v0 v1 v2 v3
        refine bodyPost_ret (v := .agg #[.int .i64 X, .int .i64 Y, .int .i64 D, .int .i64 R]) (by simp [results, Try.results77, go_sem, v0, v1, v2, v3]) rfl ⟨rfl, ?_⟩
        exact (((BS.out.setCell (p := ⟨w.heap.size + 1, 0, none⟩) (by dsimp only; omega) _).setCell (p := ⟨w.heap.size + 1, 1, none⟩) (by dsimp only; omega) _).setCell (p := ⟨w.heap.size + 1, 2, none⟩) (by dsimp only; omega) _).setCell (p := ⟨w.heap.size + 1, 3, none⟩) (by dsimp only; omega) _
end Go.Proofs.Ytlemipnplgbckaa
namespace Go.Proofs.Ytlemipnplgbckaa
open Go.RowKit Go.Shelf
attribute [local go_sem] Oper.semAt_some
theorem turn_crs (a b c : Pt) : (b.1 - a.1) * (c.2 - b.2) - (b.2 - a.2) * (c.1 - b.1) = crs (b.1 - a.1, b.2 - a.2) (c.1 - a.1, c.2 - a.2) := by
  unfold crs; dsimp only; grind
set_option maxRecDepth 100000 in
set_option maxHeartbeats 400000 in
theorem Turn_any (a1 a2 b1 b2 c1 c2 : Int) (w : World) (h1 : Bd 20 a1) (h2 : Bd 20 a2) (h3 : Bd 20 b1) (h4 : Bd 20 b2) (h5 : Bd 20 c1) (h6 : Bd 20 c2) :
    Calls Try.prog 52 #[.agg #[.int .i64 a1, .int .i64 a2], .agg #[.int .i64 b1, .int .i64 b2], .agg #[.int .i64 c1, .int .i64 c2]] w fun e w' => e = .returned (.int .i64 (crs (b1 - a1, b2 - a2) (c1 - a1, c2 - a2))) ∧ Below w.heap.size w w' := by
  have hz := turn_crs (a1, a2) (b1, b2) (c1, c2)
  dsimp only at hz
  rw [← hz]
  have m1 := (h3.sub h1).mul (h6.sub h4)
  have m2 := (h4.sub h2).mul (h5.sub h3)
  have e1 := i64_bd (h3.sub h1) (by omega)
  have e2 := i64_bd (h6.sub h4) (by omega)
  have e3 := i64_bd (h4.sub h2) (by omega)
  have e4 := i64_bd (h5.sub h3) (by omega)
  have e5 := i64_bd m1 (by omega)
  have e6 := i64_bd m2 (by omega)
  have e7 := i64_bd (m1.sub m2) (by omega)
  have BA := Lib.hid ((((Below.refl w.heap.size w).alloc (Nat.le_refl _) (.cells #[.int .i64 a1, .int .i64 a2] 28)).alloc (by simp) (.cells #[.int .i64 b1, .int .i64 b2] 28)).alloc (by simp; omega) (.cells #[.int .i64 c1, .int .i64 c2] 28))
  clear m1 m2 hz h1 h2 h3 h4 h5 h6
  go_enter Try.func52, Try.ntmps52
  go_wp2_with fail
  go_ret
  exact ⟨rfl, BA.out⟩
/-- boxes for three pairs and a circle of the reference that is returned -/
theorem thr_start46 (w : World) (a1 a2 b1 b2 c1 c2 : Int) : ∃ V, V = (((w.alloc (.cells #[.int .i64 a1, .int .i64 a2] 28)).alloc (.cells #[.int .i64 b1, .int .i64 b2] 28)).alloc (.cells #[.int .i64 c1, .int .i64 c2] 28)).alloc (.cells #[.int .i64 0, .int .i64 0, .int .i64 0, .int .i64 0] 46) ∧
    Row V w.heap.size 28 [.int .i64 a1, .int .i64 a2] ∧ Row V (w.heap.size + 1) 28 [.int .i64 b1, .int .i64 b2] ∧ Row V (w.heap.size + 1 + 1) 28 [.int .i64 c1, .int .i64 c2] ∧ Row V (w.heap.size + 1 + 1 + 1) 46 [.int .i64 0, .int .i64 0, .int .i64 0, .int .i64 0] ∧ Below w.heap.size w V := by
  obtain ⟨V1, hV, r1, r2, b1', hs⟩ := two_start w 28 28 [.int .i64 a1, .int .i64 a2] [.int .i64 b1, .int .i64 b2]
  obtain ⟨V2, hV2, r3, r4, b2', hs2⟩ := two_start V1 28 46 [.int .i64 c1, .int .i64 c2] [.int .i64 0, .int .i64 0, .int .i64 0, .int .i64 0]
  refine ⟨V2, by rw [hV2, hV], r1.below b2' r1.lt, r2.below b2' r2.lt, by rw [← hs]; exact r3, by rw [← hs]; exact r4, Below.andThen b1' b2' (Nat.le_refl _)⟩
set_option maxRecDepth 100000 in
set_option maxHeartbeats 1000000 in
theorem rThrough_any (a1 a2 b1 b2 c1 c2 : Int) (w : World) (h1 : Bd 20 a1) (h2 : Bd 20 a2) (h3 : Bd 20 b1) (h4 : Bd 20 b2) (h5 : Bd 20 c1) (h6 : Bd 20 c2) :
    Calls Try.prog 40 #[.agg #[.int .i64 a1, .int .i64 a2], .agg #[.int .i64 b1, .int .i64 b2], .agg #[.int .i64 c1, .int .i64 c2]] w fun e w' => e = .returned (.tuple #[thrV (a1, a2) (b1, b2) (c1, c2), .bool (!decide (thD (a1, a2) (b1, b2) (c1, c2) = 0))]) ∧ Below w.heap.size w w' := by
  obtain ⟨V, hV, ra, rb, rc, rR, bV⟩ := thr_start46 w a1 a2 b1 b2 c1 c2
  have HTN := Lib.hid (fun (W : World) => Turn_any a1 a2 b1 b2 c1 c2 W h1 h2 h3 h4 h5 h6)
  have bP1 := h3.sub h1
  have bP2 := h4.sub h2
  have bQ1 := h5.sub h1
  have bQ2 := h6.sub h2
  have hTV := thrV_eq (a1, a2) (b1, b2) (c1, c2)
  have hthC : thC (a1, a2) (b1, b2) (c1, c2) = rndC (thD (a1, a2) (b1, b2) (c1, c2) * a1 + thX (a1, a2) (b1, b2) (c1, c2)) (thD (a1, a2) (b1, b2) (c1, c2) * a2 + thY (a1, a2) (b1, b2) (c1, c2)) (thD (a1, a2) (b1, b2) (c1, c2)) (a1, a2) := rfl
  have hthD : thD (a1, a2) (b1, b2) (c1, c2) = 2 * crs (b1 - a1, b2 - a2) (c1 - a1, c2 - a2) := rfl
  have hX : thX (a1, a2) (b1, b2) (c1, c2) = (c2 - a2) * ((b1 - a1) * (b1 - a1) + (b2 - a2) * (b2 - a2)) - (b2 - a2) * ((c1 - a1) * (c1 - a1) + (c2 - a2) * (c2 - a2)) := rfl
  have hY : thY (a1, a2) (b1, b2) (c1, c2) = (b1 - a1) * ((c1 - a1) * (c1 - a1) + (c2 - a2) * (c2 - a2)) - (c1 - a1) * ((b1 - a1) * (b1 - a1) + (b2 - a2) * (b2 - a2)) := rfl
  have bC : Bd 3200 (crs (b1 - a1, b2 - a2) (c1 - a1, c2 - a2)) := ((bP1.mul bQ2).sub (bP2.mul bQ1)).mono (by omega)
  have f1 := i64_bd bP1 (by omega)
  have f2 := i64_bd bP2 (by omega)
  have f3 := i64_bd bQ1 (by omega)
  have f4 := i64_bd bQ2 (by omega)
  generalize crs (b1 - a1, b2 - a2) (c1 - a1, c2 - a2) = CR at *
  obtain ⟨P1, hP1⟩ : ∃ t, b1 - a1 = t := ⟨_, rfl⟩
  obtain ⟨P2, hP2⟩ : ∃ t, b2 - a2 = t := ⟨_, rfl⟩
  obtain ⟨Q1, hQ1⟩ : ∃ t, c1 - a1 = t := ⟨_, rfl⟩
  obtain ⟨Q2, hQ2⟩ : ∃ t, c2 - a2 = t := ⟨_, rfl⟩
  have f1' : IntKind.i64.wrap (b1 - a1) = P1 := f1.trans hP1
  have f2' : IntKind.i64.wrap (b2 - a2) = P2 := f2.trans hP2
  have f3' : IntKind.i64.wrap (c1 - a1) = Q1 := f3.trans hQ1
  have f4' : IntKind.i64.wrap (c2 - a2) = Q2 := f4.trans hQ2
  rw [hP1, hP2, hQ1, hQ2] at hX hY
  rw [hP1] at bP1
  rw [hP2] at bP2
  rw [hQ1] at bQ1
  rw [hQ2] at bQ2
  clear f1 f2 f3 f4 hP1 hP2 hQ1 hQ2
  have u1 := i64_bd (bP1.mul bP1) (by omega)
  have u2 := i64_bd (bP2.mul bP2) (by omega)
  have u3 := i64_bd ((bP1.mul bP1).add (bP2.mul bP2)) (by omega)
  have u4 := i64_bd (bQ1.mul bQ1) (by omega)
  have u5 := i64_bd (bQ2.mul bQ2) (by omega)
  have u6 := i64_bd ((bQ1.mul bQ1).add (bQ2.mul bQ2)) (by omega)
  have bS := (bP1.mul bP1).add (bP2.mul bP2)
  have bT := (bQ1.mul bQ1).add (bQ2.mul bQ2)
  have HU := Lib.hid (And.intro u1 (And.intro u2 (And.intro u3 (And.intro u4 (And.intro u5 u6)))))
  obtain ⟨S, hS⟩ : ∃ t, P1 * P1 + P2 * P2 = t := ⟨_, rfl⟩
  obtain ⟨T, hT⟩ : ∃ t, Q1 * Q1 + Q2 * Q2 = t := ⟨_, rfl⟩
  have HST := Lib.hid (And.intro hS hT)
  rw [hS] at bS hX hY
  rw [hT] at bT hX hY
  have v1 := i64_bd (bQ2.mul bS) (by omega)
  have v2 := i64_bd (bP2.mul bT) (by omega)
  have v3 := i64_bd ((bQ2.mul bS).sub (bP2.mul bT)) (by omega)
  have v4 := i64_bd (bP1.mul bT) (by omega)
  have v5 := i64_bd (bQ1.mul bS) (by omega)
  have v6 := i64_bd ((bP1.mul bT).sub (bQ1.mul bS)) (by omega)
  have bX := (bQ2.mul bS).sub (bP2.mul bT)
  have bY := (bP1.mul bT).sub (bQ1.mul bS)
  rw [← hX] at bX v3
  rw [← hY] at bY v6
  have HVV := Lib.hid (And.intro v1 (And.intro v2 (And.intro v3 (And.intro v4 (And.intro v5 v6)))))
  have HXY := Lib.hid (And.intro hX hY)
  have bD : Bd 6400 (2 * CR) := by unfold Bd at *; omega
  have dd := i64_bd bD (by omega)
  rw [← hthD] at bD dd
  have dd2 : IntKind.i64.wrap (2 * CR) = thD (a1, a2) (b1, b2) (c1, c2) := by rw [hthD]; exact i64_bd (show Bd 6400 (2 * CR) by unfold Bd at *; omega) (by omega)
  have HDD := Lib.hid dd2
  have r1 := i64_bd (h1.mul bD) (by omega)
  have r2 := i64_bd (h2.mul bD) (by omega)
  have r3 := i64_bd (bX.add (h1.mul bD)) (by omega)
  have r4 := i64_bd (bY.add (h2.mul bD)) (by omega)
  have HR := Lib.hid (And.intro r1 (And.intro r2 (And.intro r3 r4)))
  have HRN := Lib.hid (fun (hd : thD (a1, a2) (b1, b2) (c1, c2) ≠ 0) (W : World) => (by
    have := rround_any (thX (a1, a2) (b1, b2) (c1, c2) + a1 * thD (a1, a2) (b1, b2) (c1, c2)) (thY (a1, a2) (b1, b2) (c1, c2) + a2 * thD (a1, a2) (b1, b2) (c1, c2)) (thD (a1, a2) (b1, b2) (c1, c2)) a1 a2 W ((bX.add (h1.mul bD)).mono (by omega)) ((bY.add (h2.mul bD)).mono (by omega)) (bD.mono (by omega)) hd h1 h2
    have e1 : thX (a1, a2) (b1, b2) (c1, c2) + a1 * thD (a1, a2) (b1, b2) (c1, c2) = thD (a1, a2) (b1, b2) (c1, c2) * a1 + thX (a1, a2) (b1, b2) (c1, c2) := by rw [Int.add_comm, Int.mul_comm]
    have e2 : thY (a1, a2) (b1, b2) (c1, c2) + a2 * thD (a1, a2) (b1, b2) (c1, c2) = thD (a1, a2) (b1, b2) (c1, c2) * a2 + thY (a1, a2) (b1, b2) (c1, c2) := by rw [Int.add_comm, Int.mul_comm]
    have e3 := hthC
    rw [← e1, ← e2] at e3
    rw [← e3] at this
    exact this : Calls Try.prog 77 #[.int .i64 (thX (a1, a2) (b1, b2) (c1, c2) + a1 * thD (a1, a2) (b1, b2) (c1, c2)), .int .i64 (thY (a1, a2) (b1, b2) (c1, c2) + a2 * thD (a1, a2) (b1, b2) (c1, c2)), .int .i64 (thD (a1, a2) (b1, b2) (c1, c2)), .agg #[.int .i64 a1, .int .i64 a2]] W fun e w' => e = .returned (thC (a1, a2) (b1, b2) (c1, c2)).V ∧ Below W.heap.size W w'))
  have HTV := Lib.hid hTV
  have HF := Lib.hid (And.intro f1' (And.intro f2' (And.intro f3' f4')))
  clear hthC hthD hX hY hTV bX bY bS bT bC bD dd dd2 r1 r2 r3 r4 v1 v2 v3 v4 v5 v6 u1 u2 u3 u4 u5 u6 hS hT f1' f2' f3' f4' bP1 bP2 bQ1 bQ2 h1 h2 h3 h4 h5 h6
  generalize thX (a1, a2) (b1, b2) (c1, c2) = TX at *
  generalize thY (a1, a2) (b1, b2) (c1, c2) = TY at *
  generalize thD (a1, a2) (b1, b2) (c1, c2) = D at *
  generalize thC (a1, a2) (b1, b2) (c1, c2) = M at *
  generalize thrV (a1, a2) (b1, b2) (c1, c2) = TV at *
  obtain ⟨M1, M2, M3, M4⟩ := M
  unfold Cir.V cirV at HRN HTV
  dsimp only at HRN HTV
  have RA := Lib.hid ra
  have RB := Lib.hid rb
  have RC := Lib.hid rc
  have RR := Lib.hid rR
  have BV := Lib.hid bV
  have ka0 := ra.cell 0
  have ka1 := ra.cell 1
  have kb0 := rb.cell 0
  have kb1 := rb.cell 1
  have kc0 := rc.cell 0
  have kc1 := rc.cell 1
  simp only [List.getElem?_cons_zero, List.getElem?_cons_succ] at ka0 ka1 kb0 kb1 kc0 kc1
  clear ra rb rc rR bV
  go_enter Try.func40, Try.ntmps40
  go_wp2_with fail
  rw [← hV]
  refine (HTN.out V).mono ?_
  rintro e w1 ⟨rfl, hb1⟩
  have B1 := Lib.hid (Below.andThen BV.out hb1 (Nat.le_refl _))
  have RA1 := Lib.hid (RA.out.below hb1 RA.out.lt)
  have RB1 := Lib.hid (RB.out.below hb1 RB.out.lt)
  have RC1 := Lib.hid (RC.out.below hb1 RC.out.lt)
  have RR1 := Lib.hid (RR.out.below hb1 RR.out.lt)
  have dd := HDD.out
  have ddw := w64 dd
  clear hb1 HTN RA RB RC RR BV ka0 ka1 kb0 kb1 kc0 kc1 hV
  by_cases hD : D = 0
  · have d1 : (D == 0) = true := by simp; exact hD
    have HZ := Lib.hid (show TV = .agg #[.int .i64 0, .int .i64 0, .int .i64 0, .int .i64 0] by rw [HTV.out, if_pos hD])
    have HD0 := Lib.hid hD
    clear hD
    have rT := RR1.out
    have t0 := rT.cell 0
    have t1 := rT.cell 1
    have t2 := rT.cell 2
    have t3 := rT.cell 3
    have g0 := frozen_of_row _ (w.heap.size + 1 + 1 + 1) 0 _ _ rT
    have g1 := frozen_of_row _ (w.heap.size + 1 + 1 + 1) 1 _ _ rT
    have g2 := frozen_of_row _ (w.heap.size + 1 + 1 + 1) 2 _ _ rT
    have g3 := frozen_of_row _ (w.heap.size + 1 + 1 + 1) 3 _ _ rT
    simp only [List.getElem?_cons_zero, List.getElem?_cons_succ] at t0 t1 t2 t3
    clear rT
    go_wp2_with fail
    have hr := ((((RR1.out.set 0 (.int .i64 0)).set 1 (.int .i64 0)).set 2 (.int .i64 0)).set 3 (.int .i64 0))
    have v0 := hr.cell 0
    have v1 := hr.cell 1
    have v2 := hr.cell 2
    have v3 := hr.cell 3
    simp only [List.set_cons_zero, List.set_cons_succ, List.getElem?_cons_zero, List.getElem?_cons_succ] at v0 v1 v2 v3
    refine bodyPost_ret (v := .tuple #[.agg #[.int .i64 0, .int .i64 0, .int .i64 0, .int .i64 0], .bool false]) (by simp [results, Try.results40, go_sem, v0, v1, v2, v3]) rfl ⟨by rw [HZ.out, decide_eq_true HD0.out]; rfl, ?_⟩
    exact ((((B1.out.setCell (p := ⟨w.heap.size + 1 + 1 + 1, 0, none⟩) (by dsimp only; omega) _).setCell (p := ⟨w.heap.size + 1 + 1 + 1, 1, none⟩) (by dsimp only; omega) _).setCell (p := ⟨w.heap.size + 1 + 1 + 1, 2, none⟩) (by dsimp only; omega) _).setCell (p := ⟨w.heap.size + 1 + 1 + 1, 3, none⟩) (by dsimp only; omega) _)
  · have d1 : (D == 0) = false := by simp; exact hD
    have HZ := Lib.hid (show TV = .agg #[.int .i64 M1, .int .i64 M2, .int .i64 M3, .int .i64 M4] by rw [HTV.out, if_neg hD])
    have HRN2 := Lib.hid (HRN.out hD)
    have HD0 := Lib.hid hD
    clear hD HRN
    go_wp2_with fail
    refine wp_region_box (by kernel_rfl) (by kernel_rfl) [23, 24, 25, 26, 27, 28, 29, 30, 31, 32, 33, 34, 35, 36, 37, 38, 39, 40, 41, 42, 43, 44, 9, 10, 1000, 1001] [(fun v => v = .pointer (some ⟨w.heap.size + 1, 0, none⟩)), (fun v => v = .int .i64 b1), (fun v => v = .pointer (some ⟨w.heap.size, 0, none⟩)), (fun v => v = .int .i64 a1), (fun v => v = .int .i64 P1), (fun v => v = .pointer (some ⟨w.heap.size + 1, 1, none⟩)), (fun v => v = .int .i64 b2), (fun v => v = .pointer (some ⟨w.heap.size, 1, none⟩)), (fun v => v = .int .i64 a2), (fun v => v = .int .i64 P2), (fun v => v = .agg #[.int .i64 P1, .int .i64 P2]), (fun v => v = .pointer (some ⟨w.heap.size + 1 + 1, 0, none⟩)), (fun v => v = .int .i64 c1), (fun v => v = .pointer (some ⟨w.heap.size, 0, none⟩)), (fun v => v = .int .i64 a1), (fun v => v = .int .i64 Q1), (fun v => v = .pointer (some ⟨w.heap.size + 1 + 1, 1, none⟩)), (fun v => v = .int .i64 c2), (fun v => v = .pointer (some ⟨w.heap.size, 1, none⟩)), (fun v => v = .int .i64 a2), (fun v => v = .int .i64 Q2), (fun v => v = .agg #[.int .i64 Q1, .int .i64 Q2]), (fun _ => True), (fun _ => True), (fun _ => True), (fun _ => True)] [none, none, none, none, none, none, none, none, none, none, none, none, none, none, none, none, none, none, none, none, none, none, some (28, [.int .i64 0, .int .i64 0], [.int .i64 P1, .int .i64 P2]), some (28, [.int .i64 0, .int .i64 0], [.int .i64 Q1, .int .i64 Q2]), none, none] [none, none, none, none, none, none, none, none, none, none, none, none, none, none, none, none, none, none, none, none, none, none, none, none, some 22, some 23] 26 rfl (by kernel_rfl) ?tr ⟨[undef, undef, undef, undef, undef, undef, undef, undef, undef, undef, undef, undef, undef, undef, undef, undef, undef, undef, undef, undef, undef, undef, undef, undef, undef, undef], by simp only [putAll, Act.put, List.setIfInBounds_toArray, List.set_cons_succ, List.set_cons_zero, List.set_nil], rfl⟩ ?steps ?fin
    case tr =>
      rintro i v h
      rcases i with _ | _ | _ | _ | _ | _ | _ | _ | _ | _ | _ | _ | _ | _ | _ | _ | _ | _ | _ | _ | _ | _ | _ | _ | _ | _ | i
      all_goals first | trivial | (exfalso; rcases h with h | h <;> simp at h)
    case steps =>
      simp only [boxSteps, Nat.reduceAdd, Nat.zero_add, List.getD_cons_succ, List.getD_cons_zero]
      refine ⟨?_, ?_, ?_, ?_, ?_, ?_, ?_, ?_, ?_, ?_, ?_, ?_, ?_, ?_, ?_, ?_, ?_, ?_, ?_, ?_, ?_, ?_, ?_, ?_, ?_, ?_, trivial⟩
      · rintro vs W K hc hvl hw hK
        obtain ⟨x0, x1, x2, x3, x4, x5, x6, x7, x8, x9, x10, x11, x12, x13, x14, x15, x16, x17, x18, x19, x20, x21, x22, x23, x24, x25, rfl⟩ := len26 hvl
        have HK := Lib.hid hK
        have HC := Lib.hid hc
        have HW := Lib.hid hw
        clear hK hc hw hvl
        simp only [putAll, Act.put, List.setIfInBounds_toArray, List.set_cons_succ, List.set_cons_zero, List.set_nil]
        clear HW
        go_wp2_with fail
        have fin := HK.out (.pointer (some ⟨w.heap.size + 1, 0, none⟩)) W (Below.refl _ _) rfl
        simp only [putAll, Act.put, List.setIfInBounds_toArray, List.set_cons_succ, List.set_cons_zero, List.set_nil] at fin
        exact fin
      · rintro vs W K hc hvl hw hK
        obtain ⟨x0, x1, x2, x3, x4, x5, x6, x7, x8, x9, x10, x11, x12, x13, x14, x15, x16, x17, x18, x19, x20, x21, x22, x23, x24, x25, rfl⟩ := len26 hvl
        have HK := Lib.hid hK
        have HC := Lib.hid hc
        have HW := Lib.hid hw
        clear hK hc hw hvl
        obtain rfl : x0 = .pointer (some ⟨w.heap.size + 1, 0, none⟩) := box_get (HW.out ⟨0, .data⟩ (by simp) rfl) rfl
        simp only [putAll, Act.put, List.setIfInBounds_toArray, List.set_cons_succ, List.set_cons_zero, List.set_nil]
        have rr := RB1.out.below HC.out RB1.out.lt
        have d0 := rr.cell 0
        simp only [List.getElem?_cons_zero] at d0
        clear rr
        clear HW
        go_wp2_with fail
        have fin := HK.out (.int .i64 b1) W (Below.refl _ _) rfl
        simp only [putAll, Act.put, List.setIfInBounds_toArray, List.set_cons_succ, List.set_cons_zero, List.set_nil] at fin
        exact fin
      · rintro vs W K hc hvl hw hK
        obtain ⟨x0, x1, x2, x3, x4, x5, x6, x7, x8, x9, x10, x11, x12, x13, x14, x15, x16, x17, x18, x19, x20, x21, x22, x23, x24, x25, rfl⟩ := len26 hvl
        have HK := Lib.hid hK
        have HC := Lib.hid hc
        have HW := Lib.hid hw
        clear hK hc hw hvl
        simp only [putAll, Act.put, List.setIfInBounds_toArray, List.set_cons_succ, List.set_cons_zero, List.set_nil]
        clear HW
        go_wp2_with fail
        have fin := HK.out (.pointer (some ⟨w.heap.size, 0, none⟩)) W (Below.refl _ _) rfl
        simp only [putAll, Act.put, List.setIfInBounds_toArray, List.set_cons_succ, List.set_cons_zero, List.set_nil] at fin
        exact fin
      · rintro vs W K hc hvl hw hK
        obtain ⟨x0, x1, x2, x3, x4, x5, x6, x7, x8, x9, x10, x11, x12, x13, x14, x15, x16, x17, x18, x19, x20, x21, x22, x23, x24, x25, rfl⟩ := len26 hvl
        have HK := Lib.hid hK
        have HC := Lib.hid hc
        have HW := Lib.hid hw
        clear hK hc hw hvl
        obtain rfl : x2 = .pointer (some ⟨w.heap.size, 0, none⟩) := box_get (HW.out ⟨2, .data⟩ (by simp) rfl) rfl
        simp only [putAll, Act.put, List.setIfInBounds_toArray, List.set_cons_succ, List.set_cons_zero, List.set_nil]
        have rr := RA1.out.below HC.out RA1.out.lt
        have d0 := rr.cell 0
        simp only [List.getElem?_cons_zero] at d0
        clear rr
        clear HW
        go_wp2_with fail
        have fin := HK.out (.int .i64 a1) W (Below.refl _ _) rfl
        simp only [putAll, Act.put, List.setIfInBounds_toArray, List.set_cons_succ, List.set_cons_zero, List.set_nil] at fin
        exact fin
      · rintro vs W K hc hvl hw hK
        obtain ⟨x0, x1, x2, x3, x4, x5, x6, x7, x8, x9, x10, x11, x12, x13, x14, x15, x16, x17, x18, x19, x20, x21, x22, x23, x24, x25, rfl⟩ := len26 hvl
        have HK := Lib.hid hK
        have HC := Lib.hid hc
        have HW := Lib.hid hw
        clear hK hc hw hvl
        obtain rfl : x1 = .int .i64 b1 := box_get (HW.out ⟨1, .data⟩ (by simp) rfl) rfl
        obtain rfl : x3 = .int .i64 a1 := box_get (HW.out ⟨3, .data⟩ (by simp) rfl) rfl
        simp only [putAll, Act.put, List.setIfInBounds_toArray, List.set_cons_succ, List.set_cons_zero, List.set_nil]
        have f := HF.out.1
        have fw := w64 f
        clear HW
        go_wp2_with fail
        have fin := HK.out (.int .i64 P1) W (Below.refl _ _) rfl
        simp only [putAll, Act.put, List.setIfInBounds_toArray, List.set_cons_succ, List.set_cons_zero, List.set_nil] at fin
        exact fin
      · rintro vs W K hc hvl hw hK
        obtain ⟨x0, x1, x2, x3, x4, x5, x6, x7, x8, x9, x10, x11, x12, x13, x14, x15, x16, x17, x18, x19, x20, x21, x22, x23, x24, x25, rfl⟩ := len26 hvl
        have HK := Lib.hid hK
        have HC := Lib.hid hc
        have HW := Lib.hid hw
        clear hK hc hw hvl
        simp only [putAll, Act.put, List.setIfInBounds_toArray, List.set_cons_succ, List.set_cons_zero, List.set_nil]
        clear HW
        go_wp2_with fail
        have fin := HK.out (.pointer (some ⟨w.heap.size + 1, 1, none⟩)) W (Below.refl _ _) rfl
        simp only [putAll, Act.put, List.setIfInBounds_toArray, List.set_cons_succ, List.set_cons_zero, List.set_nil] at fin
        exact fin
      · rintro vs W K hc hvl hw hK
        obtain ⟨x0, x1, x2, x3, x4, x5, x6, x7, x8, x9, x10, x11, x12, x13, x14, x15, x16, x17, x18, x19, x20, x21, x22, x23, x24, x25, rfl⟩ := len26 hvl
        have HK := Lib.hid hK
        have HC := Lib.hid hc
        have HW := Lib.hid hw
        clear hK hc hw hvl
        obtain rfl : x5 = .pointer (some ⟨w.heap.size + 1, 1, none⟩) := box_get (HW.out ⟨5, .data⟩ (by simp) rfl) rfl
        simp only [putAll, Act.put, List.setIfInBounds_toArray, List.set_cons_succ, List.set_cons_zero, List.set_nil]
        have rr := RB1.out.below HC.out RB1.out.lt
        have d0 := rr.cell 1
        simp only [List.getElem?_cons_zero, List.getElem?_cons_succ] at d0
        clear rr
        clear HW
        go_wp2_with fail
        have fin := HK.out (.int .i64 b2) W (Below.refl _ _) rfl
        simp only [putAll, Act.put, List.setIfInBounds_toArray, List.set_cons_succ, List.set_cons_zero, List.set_nil] at fin
        exact fin
      · rintro vs W K hc hvl hw hK
        obtain ⟨x0, x1, x2, x3, x4, x5, x6, x7, x8, x9, x10, x11, x12, x13, x14, x15, x16, x17, x18, x19, x20, x21, x22, x23, x24, x25, rfl⟩ := len26 hvl
        have HK := Lib.hid hK
        have HC := Lib.hid hc
        have HW := Lib.hid hw
        clear hK hc hw hvl
        simp only [putAll, Act.put, List.setIfInBounds_toArray, List.set_cons_succ, List.set_cons_zero, List.set_nil]
        clear HW
        go_wp2_with fail
        have fin := HK.out (.pointer (some ⟨w.heap.size, 1, none⟩)) W (Below.refl _ _) rfl
        simp only [putAll, Act.put, List.setIfInBounds_toArray, List.set_cons_succ, List.set_cons_zero, List.set_nil] at fin
        exact fin
      · rintro vs W K hc hvl hw hK
        obtain ⟨x0, x1, x2, x3, x4, x5, x6, x7, x8, x9, x10, x11, x12, x13, x14, x15, x16, x17, x18, x19, x20, x21, x22, x23, x24, x25, rfl⟩ := len26 hvl
        have HK := Lib.hid hK
        have HC := Lib.hid hc
        have HW := Lib.hid hw
        clear hK hc hw hvl
        obtain rfl : x7 = .pointer (some ⟨w.heap.size, 1, none⟩) := box_get (HW.out ⟨7, .data⟩ (by simp) rfl) rfl
        simp only [putAll, Act.put, List.setIfInBounds_toArray, List.set_cons_succ, List.set_cons_zero, List.set_nil]
        have rr := RA1.out.below HC.out RA1.out.lt
        have d0 := rr.cell 1
        simp only [List.getElem?_cons_zero, List.getElem?_cons_succ] at d0
        clear rr
        clear HW
        go_wp2_with fail
        have fin := HK.out (.int .i64 a2) W (Below.refl _ _) rfl
        simp only [putAll, Act.put, List.setIfInBounds_toArray, List.set_cons_succ, List.set_cons_zero, List.set_nil] at fin
        exact fin
      · rintro vs W K hc hvl hw hK
        obtain ⟨x0, x1, x2, x3, x4, x5, x6, x7, x8, x9, x10, x11, x12, x13, x14, x15, x16, x17, x18, x19, x20, x21, x22, x23, x24, x25, rfl⟩ := len26 hvl
        have HK := Lib.hid hK
        have HC := Lib.hid hc
        have HW := Lib.hid hw
        clear hK hc hw hvl
        obtain rfl : x6 = .int .i64 b2 := box_get (HW.out ⟨6, .data⟩ (by simp) rfl) rfl
        obtain rfl : x8 = .int .i64 a2 := box_get (HW.out ⟨8, .data⟩ (by simp) rfl) rfl
        simp only [putAll, Act.put, List.setIfInBounds_toArray, List.set_cons_succ, List.set_cons_zero, List.set_nil]
        have f := HF.out.2.1
        have fw := w64 f
        clear HW
        go_wp2_with fail
        have fin := HK.out (.int .i64 P2) W (Below.refl _ _) rfl
        simp only [putAll, Act.put, List.setIfInBounds_toArray, List.set_cons_succ, List.set_cons_zero, List.set_nil] at fin
        exact fin
      · rintro vs W K hc hvl hw hK
        obtain ⟨x0, x1, x2, x3, x4, x5, x6, x7, x8, x9, x10, x11, x12, x13, x14, x15, x16, x17, x18, x19, x20, x21, x22, x23, x24, x25, rfl⟩ := len26 hvl
        have HK := Lib.hid hK
        have HC := Lib.hid hc
        have HW := Lib.hid hw
        clear hK hc hw hvl
        obtain rfl : x4 = .int .i64 P1 := box_get (HW.out ⟨4, .data⟩ (by simp) rfl) rfl
        obtain rfl : x9 = .int .i64 P2 := box_get (HW.out ⟨9, .data⟩ (by simp) rfl) rfl
        simp only [putAll, Act.put, List.setIfInBounds_toArray, List.set_cons_succ, List.set_cons_zero, List.set_nil]
        clear HW
        go_wp2_with fail
        have fin := HK.out (.agg #[.int .i64 P1, .int .i64 P2]) W (Below.refl _ _) rfl
        simp only [putAll, Act.put, List.setIfInBounds_toArray, List.set_cons_succ, List.set_cons_zero, List.set_nil] at fin
        exact fin
      · rintro vs W K hc hvl hw hK
        obtain ⟨x0, x1, x2, x3, x4, x5, x6, x7, x8, x9, x10, x11, x12, x13, x14, x15, x16, x17, x18, x19, x20, x21, x22, x23, x24, x25, rfl⟩ := len26 hvl
        have HK := Lib.hid hK
        have HC := Lib.hid hc
        have HW := Lib.hid hw
        clear hK hc hw hvl
        simp only [putAll, Act.put, List.setIfInBounds_toArray, List.set_cons_succ, List.set_cons_zero, List.set_nil]
        clear HW
        go_wp2_with fail
        have fin := HK.out (.pointer (some ⟨w.heap.size + 1 + 1, 0, none⟩)) W (Below.refl _ _) rfl
        simp only [putAll, Act.put, List.setIfInBounds_toArray, List.set_cons_succ, List.set_cons_zero, List.set_nil] at fin
        exact fin
      · rintro vs W K hc hvl hw hK
        obtain ⟨x0, x1, x2, x3, x4, x5, x6, x7, x8, x9, x10, x11, x12, x13, x14, x15, x16, x17, x18, x19, x20, x21, x22, x23, x24, x25, rfl⟩ := len26 hvl
        have HK := Lib.hid hK
        have HC := Lib.hid hc
        have HW := Lib.hid hw
        clear hK hc hw hvl
        obtain rfl : x11 = .pointer (some ⟨w.heap.size + 1 + 1, 0, none⟩) := box_get (HW.out ⟨11, .data⟩ (by simp) rfl) rfl
        simp only [putAll, Act.put, List.setIfInBounds_toArray, List.set_cons_succ, List.set_cons_zero, List.set_nil]
        have rr := RC1.out.below HC.out RC1.out.lt
        have d0 := rr.cell 0
        simp only [List.getElem?_cons_zero] at d0
        clear rr
        clear HW
        go_wp2_with fail
        have fin := HK.out (.int .i64 c1) W (Below.refl _ _) rfl
        simp only [putAll, Act.put, List.setIfInBounds_toArray, List.set_cons_succ, List.set_cons_zero, List.set_nil] at fin
        exact fin
      · rintro vs W K hc hvl hw hK
        obtain ⟨x0, x1, x2, x3, x4, x5, x6, x7, x8, x9, x10, x11, x12, x13, x14, x15, x16, x17, x18, x19, x20, x21, x22, x23, x24, x25, rfl⟩ := len26 hvl
        have HK := Lib.hid hK
        have HC := Lib.hid hc
        have HW := Lib.hid hw
        clear hK hc hw hvl
        simp only [putAll, Act.put, List.setIfInBounds_toArray, List.set_cons_succ, List.set_cons_zero, List.set_nil]
        clear HW
        go_wp2_with fail
        have fin := HK.out (.pointer (some ⟨w.heap.size, 0, none⟩)) W (Below.refl _ _) rfl
        simp only [putAll, Act.put, List.setIfInBounds_toArray, List.set_cons_succ, List.set_cons_zero, List.set_nil] at fin
        exact fin
      · rintro vs W K hc hvl hw hK
        obtain ⟨x0, x1, x2, x3, x4, x5, x6, x7, x8, x9, x10, x11, x12, x13, x14, x15, x16, x17, x18, x19, x20, x21, x22, x23, x24, x25, rfl⟩ := len26 hvl
        have HK := Lib.hid hK
        have HC := Lib.hid hc
        have HW := Lib.hid hw
        clear hK hc hw hvl
        obtain rfl : x13 = .pointer (some ⟨w.heap.size, 0, none⟩) := box_get (HW.out ⟨13, .data⟩ (by simp) rfl) rfl
        simp only [putAll, Act.put, List.setIfInBounds_toArray, List.set_cons_succ, List.set_cons_zero, List.set_nil]
        have rr := RA1.out.below HC.out RA1.out.lt
        have d0 := rr.cell 0
        simp only [List.getElem?_cons_zero] at d0
        clear rr
        clear HW
        go_wp2_with fail
        have fin := HK.out (.int .i64 a1) W (Below.refl _ _) rfl
        simp only [putAll, Act.put, List.setIfInBounds_toArray, List.set_cons_succ, List.set_cons_zero, List.set_nil] at fin
        exact fin
      · rintro vs W K hc hvl hw hK
        obtain ⟨x0, x1, x2, x3, x4, x5, x6, x7, x8, x9, x10, x11, x12, x13, x14, x15, x16, x17, x18, x19, x20, x21, x22, x23, x24, x25, rfl⟩ := len26 hvl
        have HK := Lib.hid hK
        have HC := Lib.hid hc
        have HW := Lib.hid hw
        clear hK hc hw hvl
        obtain rfl : x12 = .int .i64 c1 := box_get (HW.out ⟨12, .data⟩ (by simp) rfl) rfl
        obtain rfl : x14 = .int .i64 a1 := box_get (HW.out ⟨14, .data⟩ (by simp) rfl) rfl
        simp only [putAll, Act.put, List.setIfInBounds_toArray, List.set_cons_succ, List.set_cons_zero, List.set_nil]
        have f := HF.out.2.2.1
        have fw := w64 f
        clear HW
        go_wp2_with fail
        have fin := HK.out (.int .i64 Q1) W (Below.refl _ _) rfl
        simp only [putAll, Act.put, List.setIfInBounds_toArray, List.set_cons_succ, List.set_cons_zero, List.set_nil] at fin
        exact fin
      · rintro vs W K hc hvl hw hK
        obtain ⟨x0, x1, x2, x3, x4, x5, x6, x7, x8, x9, x10, x11, x12, x13, x14, x15, x16, x17, x18, x19, x20, x21, x22, x23, x24, x25, rfl⟩ := len26 hvl
        have HK := Lib.hid hK
        have HC := Lib.hid hc
        have HW := Lib.hid hw
        clear hK hc hw hvl
        simp only [putAll, Act.put, List.setIfInBounds_toArray, List.set_cons_succ, List.set_cons_zero, List.set_nil]
        clear HW
        go_wp2_with fail
        have fin := HK.out (.pointer (some ⟨w.heap.size + 1 + 1, 1, none⟩)) W (Below.refl _ _) rfl
        simp only [putAll, Act.put, List.setIfInBounds_toArray, List.set_cons_succ, List.set_cons_zero, List.set_nil] at fin
        exact fin
      · rintro vs W K hc hvl hw hK
        obtain ⟨x0, x1, x2, x3, x4, x5, x6, x7, x8, x9, x10, x11, x12, x13, x14, x15, x16, x17, x18, x19, x20, x21, x22, x23, x24, x25, rfl⟩ := len26 hvl
        have HK := Lib.hid hK
        have HC := Lib.hid hc
        have HW := Lib.hid hw
        clear hK hc hw hvl
        obtain rfl : x16 = .pointer (some ⟨w.heap.size + 1 + 1, 1, none⟩) := box_get (HW.out ⟨16, .data⟩ (by simp) rfl) rfl
        simp only [putAll, Act.put, List.setIfInBounds_toArray, List.set_cons_succ, List.set_cons_zero, List.set_nil]
        have rr := RC1.out.below HC.out RC1.out.lt
        have d0 := rr.cell 1
        simp only [List.getElem?_cons_zero, List.getElem?_cons_succ] at d0
        clear rr
        clear HW
        go_wp2_with fail
        have fin := HK.out (.int .i64 c2) W (Below.refl _ _) rfl
        simp only [putAll, Act.put, List.setIfInBounds_toArray, List.set_cons_succ, List.set_cons_zero, List.set_nil] at fin
        exact fin
      · rintro vs W K hc hvl hw hK
        obtain ⟨x0, x1, x2, x3, x4, x5, x6, x7, x8, x9, x10, x11, x12, x13, x14, x15, x16, x17, x18, x19, x20, x21, x22, x23, x24, x25, rfl⟩ := len26 hvl
        have HK := Lib.hid hK
        have HC := Lib.hid hc
        have HW := Lib.hid hw
        clear hK hc hw hvl
        simp only [putAll, Act.put, List.setIfInBounds_toArray, List.set_cons_succ, List.set_cons_zero, List.set_nil]
        clear HW
        go_wp2_with fail
        have fin := HK.out (.pointer (some ⟨w.heap.size, 1, none⟩)) W (Below.refl _ _) rfl
        simp only [putAll, Act.put, List.setIfInBounds_toArray, List.set_cons_succ, List.set_cons_zero, List.set_nil] at fin
        exact fin
      · rintro vs W K hc hvl hw hK
        obtain ⟨x0, x1, x2, x3, x4, x5, x6, x7, x8, x9, x10, x11, x12, x13, x14, x15, x16, x17, x18, x19, x20, x21, x22, x23, x24, x25, rfl⟩ := len26 hvl
        have HK := Lib.hid hK
        have HC := Lib.hid hc
        have HW := Lib.hid hw
        clear hK hc hw hvl
        obtain rfl : x18 = .pointer (some ⟨w.heap.size, 1, none⟩) := box_get (HW.out ⟨18, .data⟩ (by simp) rfl) rfl
        simp only [putAll, Act.put, List.setIfInBounds_toArray, List.set_cons_succ, List.set_cons_zero, List.set_nil]
        have rr := RA1.out.below HC.out RA1.out.lt
        have d0 := rr.cell 1
        simp only [List.getElem?_cons_zero, List.getElem?_cons_succ] at d0
        clear rr
        clear HW
        go_wp2_with fail
        have fin := HK.out (.int .i64 a2) W (Below.refl _ _) rfl
        simp only [putAll, Act.put, List.setIfInBounds_toArray, List.set_cons_succ, List.set_cons_zero, List.set_nil] at fin
        exact fin
      · rintro vs W K hc hvl hw hK
        obtain ⟨x0, x1, x2, x3, x4, x5, x6, x7, x8, x9, x10, x11, x12, x13, x14, x15, x16, x17, x18, x19, x20, x21, x22, x23, x24, x25, rfl⟩ := len26 hvl
        have HK := Lib.hid hK
        have HC := Lib.hid hc
        have HW := Lib.hid hw
        clear hK hc hw hvl
        obtain rfl : x17 = .int .i64 c2 := box_get (HW.out ⟨17, .data⟩ (by simp) rfl) rfl
        obtain rfl : x19 = .int .i64 a2 := box_get (HW.out ⟨19, .data⟩ (by simp) rfl) rfl
        simp only [putAll, Act.put, List.setIfInBounds_toArray, List.set_cons_succ, List.set_cons_zero, List.set_nil]
        have f := HF.out.2.2.2
        have fw := w64 f
        clear HW
        go_wp2_with fail
        have fin := HK.out (.int .i64 Q2) W (Below.refl _ _) rfl
        simp only [putAll, Act.put, List.setIfInBounds_toArray, List.set_cons_succ, List.set_cons_zero, List.set_nil] at fin
        exact fin
      · rintro vs W K hc hvl hw hK
        obtain ⟨x0, x1, x2, x3, x4, x5, x6, x7, x8, x9, x10, x11, x12, x13, x14, x15, x16, x17, x18, x19, x20, x21, x22, x23, x24, x25, rfl⟩ := len26 hvl
        have HK := Lib.hid hK
        have HC := Lib.hid hc
        have HW := Lib.hid hw
        clear hK hc hw hvl
        obtain rfl : x15 = .int .i64 Q1 := box_get (HW.out ⟨15, .data⟩ (by simp) rfl) rfl
        obtain rfl : x20 = .int .i64 Q2 := box_get (HW.out ⟨20, .data⟩ (by simp) rfl) rfl
        simp only [putAll, Act.put, List.setIfInBounds_toArray, List.set_cons_succ, List.set_cons_zero, List.set_nil]
        clear HW
        go_wp2_with fail
        have fin := HK.out (.agg #[.int .i64 Q1, .int .i64 Q2]) W (Below.refl _ _) rfl
        simp only [putAll, Act.put, List.setIfInBounds_toArray, List.set_cons_succ, List.set_cons_zero, List.set_nil] at fin
        exact fin
      · rintro vs W K hc hvl hw hK
        obtain ⟨x0, x1, x2, x3, x4, x5, x6, x7, x8, x9, x10, x11, x12, x13, x14, x15, x16, x17, x18, x19, x20, x21, x22, x23, x24, x25, rfl⟩ := len26 hvl
        have HK := Lib.hid hK
        have HC := Lib.hid hc
        have HW := Lib.hid hw
        clear hK hc hw hvl
        simp only [putAll, Act.put, List.setIfInBounds_toArray, List.set_cons_succ, List.set_cons_zero, List.set_nil]
        clear HW
        go_wp2_with fail
        have fin := HK.out
        simp only [putAll, Act.put, List.setIfInBounds_toArray, List.set_cons_succ, List.set_cons_zero, List.set_nil] at fin
        exact fin
      · rintro vs W K hc hvl hw hK
        obtain ⟨x0, x1, x2, x3, x4, x5, x6, x7, x8, x9, x10, x11, x12, x13, x14, x15, x16, x17, x18, x19, x20, x21, x22, x23, x24, x25, rfl⟩ := len26 hvl
        have HK := Lib.hid hK
        have HC := Lib.hid hc
        have HW := Lib.hid hw
        clear hK hc hw hvl
        simp only [putAll, Act.put, List.setIfInBounds_toArray, List.set_cons_succ, List.set_cons_zero, List.set_nil]
        clear HW
        go_wp2_with fail
        have fin := HK.out
        simp only [putAll, Act.put, List.setIfInBounds_toArray, List.set_cons_succ, List.set_cons_zero, List.set_nil] at fin
        exact fin
      · rintro vs W K hc hvl hw b E z f hia hva hb0 hr hK
        cases hia
        obtain ⟨x0, x1, x2, x3, x4, x5, x6, x7, x8, x9, x10, x11, x12, x13, x14, x15, x16, x17, x18, x19, x20, x21, x22, x23, x24, x25, rfl⟩ := len26 hvl
        have HK := Lib.hid hK
        have HC := Lib.hid hc
        have HW := Lib.hid hw
        clear hK hc hw hvl
        obtain rfl : x10 = .agg #[.int .i64 P1, .int .i64 P2] := box_get (HW.out ⟨10, .data⟩ (by simp) rfl) rfl
        obtain rfl : x22 = .pointer (some ⟨b, 0, none⟩) := Option.some.inj hva
        simp only [putAll, Act.put, List.setIfInBounds_toArray, List.set_cons_succ, List.set_cons_zero, List.set_nil]
        have kf0 := frozen_of_row W b 0 _ _ hr
        have kc0 : W.cell? ⟨b, 0, none⟩ = some (.int .i64 0) := hr.cell 0
        have kf1 := frozen_of_row W b 1 _ _ hr
        have kc1 : W.cell? ⟨b, 1, none⟩ = some (.int .i64 0) := hr.cell 1
        have HRW := Lib.hid hr
        clear HW hr hva
        go_wp2_with fail
        have fin := HK.out _ (show Row _ b 28 [.int .i64 P1, .int .i64 P2] from by simpa using (show Row _ b 28 _ from ((HRW.out.set 0 (.int .i64 P1)).set 1 (.int .i64 P2)))) (grown_put (grown_put (grown_self W _)))
        simp only [putAll, Act.put, List.setIfInBounds_toArray, List.set_cons_succ, List.set_cons_zero, List.set_nil] at fin
        exact fin
      · rintro vs W K hc hvl hw b E z f hia hva hb0 hr hK
        cases hia
        obtain ⟨x0, x1, x2, x3, x4, x5, x6, x7, x8, x9, x10, x11, x12, x13, x14, x15, x16, x17, x18, x19, x20, x21, x22, x23, x24, x25, rfl⟩ := len26 hvl
        have HK := Lib.hid hK
        have HC := Lib.hid hc
        have HW := Lib.hid hw
        clear hK hc hw hvl
        obtain rfl : x21 = .agg #[.int .i64 Q1, .int .i64 Q2] := box_get (HW.out ⟨21, .data⟩ (by simp) rfl) rfl
        obtain rfl : x23 = .pointer (some ⟨b, 0, none⟩) := Option.some.inj hva
        simp only [putAll, Act.put, List.setIfInBounds_toArray, List.set_cons_succ, List.set_cons_zero, List.set_nil]
        have kf0 := frozen_of_row W b 0 _ _ hr
        have kc0 : W.cell? ⟨b, 0, none⟩ = some (.int .i64 0) := hr.cell 0
        have kf1 := frozen_of_row W b 1 _ _ hr
        have kc1 : W.cell? ⟨b, 1, none⟩ = some (.int .i64 0) := hr.cell 1
        have HRW := Lib.hid hr
        clear HW hr hva
        go_wp2_with fail
        have fin := HK.out _ (show Row _ b 28 [.int .i64 Q1, .int .i64 Q2] from by simpa using (show Row _ b 28 _ from ((HRW.out.set 0 (.int .i64 Q1)).set 1 (.int .i64 Q2)))) (grown_put (grown_put (grown_self W _)))
        simp only [putAll, Act.put, List.setIfInBounds_toArray, List.set_cons_succ, List.set_cons_zero, List.set_nil] at fin
        exact fin
    case fin =>
      rintro vs W hJ
      obtain ⟨x0, x1, x2, x3, x4, x5, x6, x7, x8, x9, x10, x11, x12, x13, x14, x15, x16, x17, x18, x19, x20, x21, x22, x23, x24, x25, rfl⟩ := len26 hJ.ln
      obtain rfl : x10 = .agg #[.int .i64 P1, .int .i64 P2] := box_get (hJ.val 10 rfl) rfl
      obtain rfl : x21 = .agg #[.int .i64 Q1, .int .i64 Q2] := box_get (hJ.val 21 rfl) rfl
      obtain ⟨b22, e22, hb22, hr22⟩ := hJ.box 22 _ _ _ rfl rfl
      obtain rfl : x22 = .pointer (some ⟨b22, 0, none⟩) := Option.some.inj e22
      replace hr22 : Row W b22 28 [.int .i64 P1, .int .i64 P2] := hr22
      have HR22 := Lib.hid hr22
      clear e22 hr22
      obtain ⟨b23, e23, hb23, hr23⟩ := hJ.box 23 _ _ _ rfl rfl
      obtain rfl : x23 = .pointer (some ⟨b23, 0, none⟩) := Option.some.inj e23
      replace hr23 : Row W b23 28 [.int .i64 Q1, .int .i64 Q2] := hr23
      have HR23 := Lib.hid hr23
      clear e23 hr23
      have HC := Lib.hid hJ.bl
      clear hJ
      simp only [putAll, Act.put, List.setIfInBounds_toArray, List.set_cons_succ, List.set_cons_zero, List.set_nil]
      have RA2 := Lib.hid (RA1.out.below HC.out RA1.out.lt)
      have RR2 := Lib.hid (RR1.out.below HC.out RR1.out.lt)
      have B2 := Lib.hid (Below.andThen B1.out HC.out (Nat.le_refl _))
      have rp := HR22.out
      have rq := HR23.out
      have ra := RA2.out
      have p0 := rp.cell 0
      have p1 := rp.cell 1
      have q0 := rq.cell 0
      have q1 := rq.cell 1
      have a0 := ra.cell 0
      have a1c := ra.cell 1
      simp only [List.getElem?_cons_zero, List.getElem?_cons_succ] at p0 p1 q0 q1 a0 a1c
      obtain ⟨u1, u2, u3, u4, u5, u6⟩ := HU.out
      obtain ⟨v1, v2, v3, v4, v5, v6⟩ := HVV.out
      obtain ⟨r1, r2, r3, r4⟩ := HR.out
      obtain ⟨hS, hT⟩ := HST.out
      obtain ⟨hX, hY⟩ := HXY.out
      have sS : wrap64 S = S := by rw [← hS]; exact w64 u3
      have sT : wrap64 T = T := by rw [← hT]; exact w64 u6
      have z1 := w64 v1
      have z2 := w64 v2
      have z3 : wrap64 (Q2 * S - P2 * T) = TX := by rw [← hX]; exact w64 v3
      have z4 := w64 v4
      have z5 := w64 v5
      have z6 : wrap64 (P1 * T - Q1 * S) = TY := by rw [← hY]; exact w64 v6
      clear HC rp rq ra RA1 RB1 RC1 RR1 B1 hb22 hb23
      go_wp2_with fail
      go_quiet (fail)
      try simp only [hS, hT]
      clear u1 u2 u3 u4 u5 u6 hS hT
      go_wp2_with fail
      go_quiet (fail)
      simp only [sS, sT, z3, z6]
      clear v1 v2 v3 v4 v5 v6 z1 z2 z3 z4 z5 z6 sS sT hX hY p0 p1 q0 q1
      go_wp2_with fail
      refine (HRN2.out _).mono ?_
      rintro e w9 ⟨rfl, h9⟩
      have B3 := Lib.hid (Below.andThen (below_drewN B2.out _) h9 (Nat.le_refl _))
      have RR3 := Lib.hid (Row.below (show Row (W.drewN _) (w.heap.size + 1 + 1 + 1) 46 [.int .i64 0, .int .i64 0, .int .i64 0, .int .i64 0] from RR2.out) h9 RR2.out.lt)
      clear h9 HRN2 a0 a1c
      have rT := RR3.out
      have t0 := rT.cell 0
      have t1 := rT.cell 1
      have t2 := rT.cell 2
      have t3 := rT.cell 3
      have g0 := frozen_of_row _ (w.heap.size + 1 + 1 + 1) 0 _ _ rT
      have g1 := frozen_of_row _ (w.heap.size + 1 + 1 + 1) 1 _ _ rT
      have g2 := frozen_of_row _ (w.heap.size + 1 + 1 + 1) 2 _ _ rT
      have g3 := frozen_of_row _ (w.heap.size + 1 + 1 + 1) 3 _ _ rT
      simp only [List.getElem?_cons_zero, List.getElem?_cons_succ] at t0 t1 t2 t3
      clear rT
      go_wp2_with fail
      have hr := ((((RR3.out.set 0 (.int .i64 M1)).set 1 (.int .i64 M2)).set 2 (.int .i64 M3)).set 3 (.int .i64 M4))
      have v0 := hr.cell 0
      have v1 := hr.cell 1
      have v2 := hr.cell 2
      have v3 := hr.cell 3
      simp only [List.set_cons_zero, List.set_cons_succ, List.getElem?_cons_zero, List.getElem?_cons_succ] at v0 v1 v2 v3
      refine bodyPost_ret (v := .tuple #[.agg #[.int .i64 M1, .int .i64 M2, .int .i64 M3, .int .i64 M4], .bool true]) (by simp [results, Try.results40, go_sem, v0, v1, v2, v3]) rfl ⟨by rw [HZ.out, decide_eq_false HD0.out]; rfl, ?_⟩
      exact ((((B3.out.setCell (p := ⟨w.heap.size + 1 + 1 + 1, 0, none⟩) (by dsimp only; omega) _).setCell (p := ⟨w.heap.size + 1 + 1 + 1, 1, none⟩) (by dsimp only; omega) _).setCell (p := ⟨w.heap.size + 1 + 1 + 1, 2, none⟩) (by dsimp only; omega) _).setCell (p := ⟨w.heap.size + 1 + 1 + 1, 3, none⟩) (by dsimp only; omega) _)
end Go.Proofs.Ytlemipnplgbckaa
namespace Go.Proofs.Ytlemipnplgbckaa
open Go.RowKit Go.Shelf
attribute [local go_sem] Oper.semAt_some
set_option maxRecDepth 100000 in
set_option maxHeartbeats 1000000 in
theorem rWhere_any (c : Cir) (p q : Int) (w : World) (hc : CirB c) (h4 : Bd 20 p) (h5 : Bd 20 q) :
    Calls Try.prog 35 #[.agg #[.int .i64 c.X, .int .i64 c.Y, .int .i64 c.D, .int .i64 c.R], .agg #[.int .i64 p, .int .i64 q]] w fun e w' => e = .returned (.int .i64 (whF c (p, q))) ∧ Below w.heap.size w w' := by
  have h1 := hc.1
  have h2 := hc.2.1
  have h3 := hc.d
  have HA := Lib.hid (ap_alt c.X c.Y c.D p q)
  have HW := Lib.hid (show whF c (p, q) = cmpI (apF c.X c.Y c.D (p, q)) c.R from rfl)
  obtain ⟨V, hV, rc, rp, bV, hs⟩ := two_start w 46 28 [.int .i64 c.X, .int .i64 c.Y, .int .i64 c.D, .int .i64 c.R] [.int .i64 p, .int .i64 q]
  have bPD := h4.mul h3
  have bQD := h5.mul h3
  have bU := h1.sub bPD
  have bZ := h2.sub bQD
  have e1 := i64_bd bPD (by omega)
  have e2 := i64_bd bQD (by omega)
  have e3 := i64_bd bU (by omega)
  have e4 := i64_bd bZ (by omega)
  have e5 := i64_bd (bU.mul bU) (by omega)
  have e6 := i64_bd (bZ.mul bZ) (by omega)
  have e7 := i64_bd ((bU.mul bU).add (bZ.mul bZ)) (by omega)
  rw [HA.out] at e7
  have HE7 := Lib.hid e7
  have e7w := w64 e7
  rw [← HA.out] at e7w
  have HE8 := Lib.hid e7w
  generalize apF c.X c.Y c.D (p, q) = A at *
  generalize whF c (p, q) = Q at *
  obtain ⟨X, Y, D, R⟩ := c
  dsimp only at *
  have BV := Lib.hid bV
  have c0 := rc.cell 0
  have c1 := rc.cell 1
  have c2 := rc.cell 2
  have c3 := rc.cell 3
  have p0 := rp.cell 0
  have p1 := rp.cell 1
  simp only [List.getElem?_cons_zero, List.getElem?_cons_succ] at c0 c1 c2 c3 p0 p1
  have RC := Lib.hid rc
  clear rc rp bV hs h1 h2 h3 h4 h5 hc bPD bQD bU bZ e7 e7w
  go_enter Try.func35, Try.ntmps35
  go_wp2_with fail
  rw [show (w.alloc (.cells #[.int .i64 X, .int .i64 Y, .int .i64 D, .int .i64 R] 46)).alloc (.cells #[.int .i64 p, .int .i64 q] 28) = V from hV.symm]
  clear hV
  go_quiet (fail)
  go_wp2_with fail
  all_goals
    go_ret
    refine ⟨ret_int ?_, below_drewN BV.out _⟩
    have f8 := HE8.out
    have fa := HA.out
    have hw := HW.out
    clear HE7 HE8 HA HW BV
    rw [hw]
    try simp only [beq_iff_eq, beq_eq_false_iff_ne, ne_eq] at *
    unfold cmpI
    split <;> (try split) <;> omega
set_option maxRecDepth 100000 in
set_option maxHeartbeats 600000 in
theorem rOver_any (a1 a2 b1 b2 : Int) (w : World) (h1 : Bd 20 a1) (h2 : Bd 20 a2) (h3 : Bd 20 b1) (h4 : Bd 20 b2) :
    Calls Try.prog 39 #[.agg #[.int .i64 a1, .int .i64 a2], .agg #[.int .i64 b1, .int .i64 b2]] w fun e w' => e = .returned (ovC (a1, a2) (b1, b2)).V ∧ Below w.heap.size w w' := by
  have e1 := i64_bd (h1.add h3) (by omega)
  have e2 := i64_bd (h2.add h4) (by omega)
  have HR := Lib.hid (fun (W : World) => show Calls Try.prog 77 #[.int .i64 (a1 + b1), .int .i64 (a2 + b2), .int .i64 2, .agg #[.int .i64 a1, .int .i64 a2]] W fun e w' => e = .returned (ovC (a1, a2) (b1, b2)).V ∧ Below W.heap.size W w' from rround_any (a1 + b1) (a2 + b2) 2 a1 a2 W ((h1.add h3).mono (by omega)) ((h2.add h4).mono (by omega)) (by unfold Bd; omega) (by omega) h1 h2)
  generalize ovC (a1, a2) (b1, b2) = M at *
  obtain ⟨X, Y, D, R⟩ := M
  unfold Cir.V cirV at HR ⊢
  dsimp only at HR ⊢
  clear h1 h2 h3 h4
  obtain ⟨V1, hV1, r1, r2, b1', hs1⟩ := two_start w 28 28 [.int .i64 a1, .int .i64 a2] [.int .i64 b1, .int .i64 b2]
  obtain ⟨b2', r3⟩ := box_start V1 46 [.int .i64 0, .int .i64 0, .int .i64 0, .int .i64 0]
  rw [hs1] at r3
  have RR := Lib.hid r3
  have BV := Lib.hid (Below.andThen b1' b2' (Nat.le_refl _))
  have HV := Lib.hid (show ((w.alloc (.cells #[.int .i64 a1, .int .i64 a2] 28)).alloc (.cells #[.int .i64 b1, .int .i64 b2] 28)).alloc (.cells #[.int .i64 0, .int .i64 0, .int .i64 0, .int .i64 0] 46) = V1.alloc (.cells [.int .i64 0, .int .i64 0, .int .i64 0, .int .i64 0].toArray 46) by rw [hV1])
  clear hV1 r1 r2 b1' hs1 b2' r3
  go_enter Try.func39, Try.ntmps39
  go_wp2_with fail
  rw [HV.out]
  refine (HR.out _).mono ?_
  rintro e w9 ⟨rfl, h9⟩
  have B3 := Lib.hid (Below.andThen BV.out h9 (Nat.le_refl _))
  have RR3 := Lib.hid (RR.out.below h9 RR.out.lt)
  clear h9 HR
  have rT := RR3.out
  have t0 := rT.cell 0
  have t1 := rT.cell 1
  have t2 := rT.cell 2
  have t3 := rT.cell 3
  have g0 := frozen_of_row _ (w.heap.size + 1 + 1) 0 _ _ rT
  have g1 := frozen_of_row _ (w.heap.size + 1 + 1) 1 _ _ rT
  have g2 := frozen_of_row _ (w.heap.size + 1 + 1) 2 _ _ rT
  have g3 := frozen_of_row _ (w.heap.size + 1 + 1) 3 _ _ rT
  simp only [List.getElem?_cons_zero, List.getElem?_cons_succ] at t0 t1 t2 t3
  clear rT
  go_wp2_with fail
  have hr := (((RR3.out.set 0 (.int .i64 X)).set 1 (.int .i64 Y)).set 2 (.int .i64 D)).set 3 (.int .i64 R)
  have v0 := hr.cell 0
  have v1 := hr.cell 1
  have v2 := hr.cell 2
  have v3 := hr.cell 3
  simp only [List.set_cons_zero, List.set_cons_succ, List.getElem?_cons_zero, List.getElem?_cons_succ] at v0 v1 v2 v3
  refine bodyPost_ret (v := .agg #[.int .i64 X, .int .i64 Y, .int .i64 D, .int .i64 R]) (by simp [results, Try.results39, go_sem, v0, v1, v2, v3]) rfl ⟨rfl, ?_⟩
  exact (((B3.out.setCell (p := ⟨w.heap.size + 1 + 1, 0, none⟩) (by dsimp only; omega) _).setCell (p := ⟨w.heap.size + 1 + 1, 1, none⟩) (by dsimp only; omega) _).setCell (p := ⟨w.heap.size + 1 + 1, 2, none⟩) (by dsimp only; omega) _).setCell (p := ⟨w.heap.size + 1 + 1, 3, none⟩) (by dsimp only; omega) _
end Go.Proofs.Ytlemipnplgbckaa
namespace Go.Proofs.Ytlemipnplgbckaa
open Go.RowKit Go.Shelf
attribute [local go_sem] Oper.semAt_some
/-- what Over answers -/
def ovE (a b : Pt) : Int := if [a, b].all okP = true then 0 else 1
def ovR' (a b : Pt) : Cir := if [a, b].all okP = true then ovC a b else ⟨0, 0, 0, 0⟩
theorem ov_start (w : World) (a1 a2 b1 b2 : Int) : ∃ V, V = ((w.alloc (.cells #[.int .i64 a1, .int .i64 a2] 28)).alloc (.cells #[.int .i64 b1, .int .i64 b2] 28)).alloc (.cells #[.int .i64 0, .int .i64 0, .int .i64 0, .int .i64 0] 30) ∧
    Row V w.heap.size 28 [.int .i64 a1, .int .i64 a2] ∧ Row V (w.heap.size + 1) 28 [.int .i64 b1, .int .i64 b2] ∧ Row V (w.heap.size + 1 + 1) 30 [.int .i64 0, .int .i64 0, .int .i64 0, .int .i64 0] ∧ Below w.heap.size w V ∧ V.heap.size = w.heap.size + 1 + 1 + 1 := by
  obtain ⟨V1, hV, r1, r2, b1', hs⟩ := two_start w 28 28 [.int .i64 a1, .int .i64 a2] [.int .i64 b1, .int .i64 b2]
  obtain ⟨b2', r3⟩ := box_start V1 30 [.int .i64 0, .int .i64 0, .int .i64 0, .int .i64 0]
  refine ⟨V1.alloc (.cells [.int .i64 0, .int .i64 0, .int .i64 0, .int .i64 0].toArray 30), by rw [hV], r1.below b2' r1.lt, r2.below b2' r2.lt, by rw [← hs]; exact r3, Below.andThen b1' b2' (Nat.le_refl _), by rw [size_al, hs]⟩
set_option maxRecDepth 100000 in
set_option maxHeartbeats 1000000 in
theorem Over_any (a1 a2 b1 b2 : Int) (w : World) :
    Calls Try.prog 37 #[.agg #[.int .i64 a1, .int .i64 a2], .agg #[.int .i64 b1, .int .i64 b2]] w fun e w' => e = .returned (.tuple #[(ovR' (a1, a2) (b1, b2)).V, .int .i64 (ovE (a1, a2) (b1, b2))]) ∧ Below w.heap.size w w' := by
  obtain ⟨V, hV, ra, rb, rR, bV, hsz⟩ := ov_start w a1 a2 b1 b2
  have HCK := Lib.hid (fun (W : World) => checkPairs_any [(a1, a2), (b1, b2)] _ _ (slp_two W a1 a2 b1 b2) (by simp))
  have RA := Lib.hid ra
  have RB := Lib.hid rb
  have RR := Lib.hid rR
  have BV := Lib.hid bV
  have HOV := Lib.hid (fun (h : [(a1, a2), (b1, b2)].all okP = true) (W : World) => by
    simp only [List.all_cons, List.all_nil, Bool.and_true, Bool.and_eq_true, okP_iff] at h
    exact (show Calls Try.prog 76 #[.agg #[.int .i64 a1, .int .i64 a2], .agg #[.int .i64 b1, .int .i64 b2]] W fun e w' => e = .returned (ovC (a1, a2) (b1, b2)).V ∧ Below W.heap.size W w' from over_any a1 a2 b1 b2 W h.1.1 h.1.2 h.2.1 h.2.2))
  have HE := Lib.hid (show ovE (a1, a2) (b1, b2) = if [(a1, a2), (b1, b2)].all okP = true then 0 else 1 by unfold ovE; rfl)
  have HT := Lib.hid (show ovR' (a1, a2) (b1, b2) = if [(a1, a2), (b1, b2)].all okP = true then ovC (a1, a2) (b1, b2) else ⟨0, 0, 0, 0⟩ by unfold ovR'; rfl)
  have ka0 := ra.cell 0
  have ka1 := ra.cell 1
  have kb0 := rb.cell 0
  have kb1 := rb.cell 1
  simp only [List.getElem?_cons_zero, List.getElem?_cons_succ] at ka0 ka1 kb0 kb1
  clear ra rb rR bV
  generalize [(a1, a2), (b1, b2)].all okP = ok at *
  generalize ovE (a1, a2) (b1, b2) = E at *
  generalize ovR' (a1, a2) (b1, b2) = T at *
  generalize ovC (a1, a2) (b1, b2) = M at *
  obtain ⟨T1, T2, T3, T4⟩ := T
  obtain ⟨M1, M2, M3, M4⟩ := M
  unfold Cir.V cirV at HOV ⊢
  dsimp only at HOV ⊢
  go_enter Try.func37, Try.ntmps37
  go_wp2_with fail
  rw [← hV]
  have hck := HCK.out V
  rw [hsz] at hck
  refine hck.mono ?_
  rintro e w1 ⟨rfl, hb⟩
  have b1' := Below.andThen (Below.al (Below.refl V.heap.size V) (Nat.le_refl _) (.cells #[.int .i64 a1, .int .i64 a2, .int .i64 b1, .int .i64 b2] 28)) hb (Nat.le_refl _)
  have BW := Lib.hid (Below.andThen BV.out b1' (Nat.le_refl _))
  have RT := Lib.hid (RR.out.below b1' RR.out.lt)
  have RA2 := Lib.hid (RA.out.below b1' RA.out.lt)
  have RB2 := Lib.hid (RB.out.below b1' RB.out.lt)
  clear hck hsz hb b1' ka0 ka1 kb0 kb1 HCK RA RB RR BV hV
  cases ok with
  | false =>
    have rT := RT.out
    have t0 := rT.cell 0
    have t1 := rT.cell 1
    have t2 := rT.cell 2
    have t3 := rT.cell 3
    have g0 := frozen_of_row _ (w.heap.size + 1 + 1) 0 _ _ rT
    have g1 := frozen_of_row _ (w.heap.size + 1 + 1) 1 _ _ rT
    have g2 := frozen_of_row _ (w.heap.size + 1 + 1) 2 _ _ rT
    have g3 := frozen_of_row _ (w.heap.size + 1 + 1) 3 _ _ rT
    simp only [List.getElem?_cons_zero, List.getElem?_cons_succ] at t0 t1 t2 t3
    clear rT
    have e0 : E = 1 := HE.out
    have e1 : (⟨T1, T2, T3, T4⟩ : Cir) = ⟨0, 0, 0, 0⟩ := HT.out
    injection e1 with f1 f2 f3 f4
    subst e0 f1 f2 f3 f4
    go_wp2_with fail
    have hr := ((((RT.out.set 0 (.int .i64 0)).set 1 (.int .i64 0)).set 2 (.int .i64 0)).set 3 (.int .i64 0))
    have v0 := hr.cell 0
    have v1 := hr.cell 1
    have v2 := hr.cell 2
    have v3 := hr.cell 3
    simp only [List.set_cons_zero, List.set_cons_succ, List.getElem?_cons_zero, List.getElem?_cons_succ] at v0 v1 v2 v3
    refine bodyPost_ret (v := .tuple #[.agg #[.int .i64 0, .int .i64 0, .int .i64 0, .int .i64 0], .int .i64 1]) (by simp [results, Try.results37, go_sem, v0, v1, v2, v3]) rfl ⟨rfl, ?_⟩
    exact ((((BW.out.setCell (p := ⟨w.heap.size + 1 + 1, 0, none⟩) (by dsimp only; omega) _).setCell (p := ⟨w.heap.size + 1 + 1, 1, none⟩) (by dsimp only; omega) _).setCell (p := ⟨w.heap.size + 1 + 1, 2, none⟩) (by dsimp only; omega) _).setCell (p := ⟨w.heap.size + 1 + 1, 3, none⟩) (by dsimp only; omega) _)
  | true =>
    have e0 : E = 0 := HE.out
    have e1 : (⟨T1, T2, T3, T4⟩ : Cir) = ⟨M1, M2, M3, M4⟩ := HT.out
    injection e1 with f1 f2 f3 f4
    subst e0 f1 f2 f3 f4
    have a2' := RA2.out
    have b2' := RB2.out
    have ka0 := a2'.cell 0
    have ka1 := a2'.cell 1
    have kb0 := b2'.cell 0
    have kb1 := b2'.cell 1
    simp only [List.getElem?_cons_zero, List.getElem?_cons_succ] at ka0 ka1 kb0 kb1
    clear a2' b2' HE HT
    have HO := Lib.hid (HOV.out (by trivial))
    clear HOV
    go_wp2_with fail
    refine (HO.out _).mono ?_
    rintro e w2 ⟨rfl, hb⟩
    have BX := Lib.hid (Below.andThen BW.out hb (Nat.le_refl _))
    have RU := Lib.hid (RT.out.below hb RT.out.lt)
    clear hb HO ka0 ka1 kb0 kb1 RA2 RB2
    have rT := RU.out
    have t0 := rT.cell 0
    have t1 := rT.cell 1
    have t2 := rT.cell 2
    have t3 := rT.cell 3
    have g0 := frozen_of_row _ (w.heap.size + 1 + 1) 0 _ _ rT
    have g1 := frozen_of_row _ (w.heap.size + 1 + 1) 1 _ _ rT
    have g2 := frozen_of_row _ (w.heap.size + 1 + 1) 2 _ _ rT
    have g3 := frozen_of_row _ (w.heap.size + 1 + 1) 3 _ _ rT
    simp only [List.getElem?_cons_zero, List.getElem?_cons_succ] at t0 t1 t2 t3
    clear rT
    go_wp2_with fail
    have hr := ((((RU.out.set 0 (.int .i64 T1)).set 1 (.int .i64 T2)).set 2 (.int .i64 T3)).set 3 (.int .i64 T4))
    have v0 := hr.cell 0
    have v1 := hr.cell 1
    have v2 := hr.cell 2
    have v3 := hr.cell 3
    simp only [List.set_cons_zero, List.set_cons_succ, List.getElem?_cons_zero, List.getElem?_cons_succ] at v0 v1 v2 v3
    refine bodyPost_ret (v := .tuple #[.agg #[.int .i64 T1, .int .i64 T2, .int .i64 T3, .int .i64 T4], .int .i64 0]) (by simp [results, Try.results37, go_sem, v0, v1, v2, v3]) rfl ⟨rfl, ?_⟩
    exact ((((BX.out.setCell (p := ⟨w.heap.size + 1 + 1, 0, none⟩) (by dsimp only; omega) _).setCell (p := ⟨w.heap.size + 1 + 1, 1, none⟩) (by dsimp only; omega) _).setCell (p := ⟨w.heap.size + 1 + 1, 2, none⟩) (by dsimp only; omega) _).setCell (p := ⟨w.heap.size + 1 + 1, 3, none⟩) (by dsimp only; omega) _)
end Go.Proofs.Ytlemipnplgbckaa
