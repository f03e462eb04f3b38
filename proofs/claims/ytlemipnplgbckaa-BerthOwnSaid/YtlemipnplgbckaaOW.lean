import Derived.Test.YtlemipnplgbckaaEN
import Derived.Test.YtlemipnplgbckaaEM
import Derived.Test.YtlemipnplgbckaaEL
import Derived.Laws.AppendOwn
import Derived.ChangeKeysEq
import Derived.Maps.RangeWalk
import Derived.Maps.OwnIn
import Derived.Maps.AppendAt
import Derived.RangeFuncNested
import Derived.RangeFuncBound
import Derived.RangeFuncCalls
import Derived.RangeFuncLeaves
import Derived.Shelf.Abstract
import Derived.Shelf.RegionOpen
import Derived.WalkKit
import Derived.WalkMore
import Derived.OwnWalkIn
import Derived.TacticsInMore
import Derived.LoopNIn
import Derived.LoopIn
import Derived.WalkSpells
import Derived.WalkLawsBesides
import Derived.BigQuiet
import Derived.Deep.QuietTactic
import Derived.Lib.Hide
import Derived.Deep.RegionHeld3
import Derived.StillTailTactics
import Derived.Deep.LoopGhost
import Derived.Maps.OwnSet
import Derived.Lib.IndexAny
import Derived.Sort.QuietThIn
import Derived.Sort.QuietTacIn
import Derived.Sort.BigQuietIn
import Derived.Laws.OwnMore
import Derived.DeepKeys4
import Derived.Maps.Views
import Derived.Maps.OwnOps
import Derived.Deep.DeepCutAuto
import Derived.Shelf.Bits.Mul64
import Derived.Shelf.LaysM
namespace Go.Proofs.Ytlemipnplgbckaa
open Go.RowKit Go.Shelf
attribute [local go_sem] Oper.semAt_some
theorem own_at {W : World} {n₀ k e s : Nat} {v : Value} {xs : List Value} (h : W.ownsRow n₀ e s v k xs) (hk : 0 < k) : ∃ g c, v = .slice (some ⟨g, 0, none⟩) k c ∧ k ≤ c := by
  rcases h.2 with ⟨_, h0⟩ | ⟨g, cap, cur, e, _, _, hc, _⟩
  · omega
  · exact ⟨_, _, e, hc⟩
theorem own_old {W : World} {n₀ k e s g c : Nat} {xs : List Value} (h : W.ownsRow n₀ e s (.slice (some ⟨g, 0, none⟩) k c) k xs) (j : Nat) (hj : j < k * s) : ∃ u, W.cell? ⟨g, j, none⟩ = some u := by
  have hl := h.1
  have hlt : j < xs.length := by omega
  exact ⟨xs[j], (h.cellAt j (by omega)).trans (List.getElem?_eq_getElem hlt)⟩
/-- three lists that may be written to, each in memory of its own -/
structure PW (w3 : World) (b4 b5 : Nat) (nv tv kv : Value) (N T K : Nat) (wr : World) : Prop where
  bl : Below w3.heap.size w3 wr
  n : ∃ xs, wr.ownsRow w3.heap.size 3 1 nv N xs
  t : ∃ xs, wr.ownsRow b4 71 3 tv T xs
  k : ∃ xs, wr.ownsRow b5 3 1 kv K xs
  h4 : w3.heap.size ≤ b4
  h5 : w3.heap.size ≤ b5
  ne : nv.ownBlock = none ∨ kv.ownBlock = none ∨ nv.ownBlock ≠ kv.ownBlock
theorem PW.putN {w3 wr : World} {b4 b5 : Nat} {tv kv : Value} {N T K g c : Nat} (h : PW w3 b4 b5 (.slice (some ⟨g, 0, none⟩) N c) tv kv N T K wr) (i : Nat) (x : Value) : PW w3 b4 b5 (.slice (some ⟨g, 0, none⟩) N c) tv kv N T K (wr.setCell ⟨g, i, none⟩ x) := by
  obtain ⟨xs, hn⟩ := h.n
  obtain ⟨ys, ht⟩ := h.t
  obtain ⟨zs, hk⟩ := h.k
  have kg := grown_set wr ⟨g, i, none⟩ x
  have hl : w3.heap.size ≤ g := (World.ownsRow.lt hn g rfl).1
  refine ⟨h.bl.setCell (p := ⟨g, i, none⟩) hl _, ⟨_, (hn.stored i x).1⟩, ⟨ys, ht.kept kg (own_differ ht hn (by decide))⟩, ⟨zs, hk.kept kg ?_⟩, h.h4, h.h5, h.ne⟩
  rcases h.ne with e | e | e
  · cases e
  · exact .inl e
  · exact .inr (fun h => e h.symm)
theorem PW.putK {w3 wr : World} {b4 b5 : Nat} {nv tv : Value} {N T K g c : Nat} (h : PW w3 b4 b5 nv tv (.slice (some ⟨g, 0, none⟩) K c) N T K wr) (i : Nat) (x : Value) : PW w3 b4 b5 nv tv (.slice (some ⟨g, 0, none⟩) K c) N T K (wr.setCell ⟨g, i, none⟩ x) := by
  obtain ⟨xs, hn⟩ := h.n
  obtain ⟨ys, ht⟩ := h.t
  obtain ⟨zs, hk⟩ := h.k
  have kg := grown_set wr ⟨g, i, none⟩ x
  have hl : w3.heap.size ≤ g := Nat.le_trans h.h5 (World.ownsRow.lt hk g rfl).1
  refine ⟨h.bl.setCell (p := ⟨g, i, none⟩) hl _, ⟨xs, hn.kept kg ?_⟩, ⟨ys, ht.kept kg (own_differ ht hk (by decide))⟩, ⟨_, (hk.stored i x).1⟩, h.h4, h.h5, h.ne⟩
  rcases h.ne with e | e | e
  · exact .inl e
  · cases e
  · exact .inr e
theorem PW.putT {w3 wr : World} {b4 b5 : Nat} {nv kv : Value} {N T K g c : Nat} (h : PW w3 b4 b5 nv (.slice (some ⟨g, 0, none⟩) T c) kv N T K wr) (i : Nat) (x : Value) : PW w3 b4 b5 nv (.slice (some ⟨g, 0, none⟩) T c) kv N T K (wr.setCell ⟨g, i, none⟩ x) := by
  obtain ⟨xs, hn⟩ := h.n
  obtain ⟨ys, ht⟩ := h.t
  obtain ⟨zs, hk⟩ := h.k
  have kg := grown_set wr ⟨g, i, none⟩ x
  have hl : w3.heap.size ≤ g := Nat.le_trans h.h4 (World.ownsRow.lt ht g rfl).1
  exact ⟨h.bl.setCell (p := ⟨g, i, none⟩) hl _, ⟨xs, hn.kept kg (own_differ hn ht (by decide))⟩, ⟨_, (ht.stored i x).1⟩, ⟨zs, hk.kept kg (own_differ hk ht (by decide))⟩, h.h4, h.h5, h.ne⟩
theorem ne_blocks {w4 w6 : World} {n₀ b5 N K : Nat} {nv kv : Value} {xs ys : List Value} (hn : w4.ownsRow n₀ 3 1 nv N xs) (hk : w6.ownsRow b5 3 1 kv K ys) (h : w4.heap.size ≤ b5) : nv.ownBlock = none ∨ kv.ownBlock = none ∨ nv.ownBlock ≠ kv.ownBlock := by
  rcases e1 : nv.ownBlock with _ | a
  · exact .inl rfl
  · rcases e2 : kv.ownBlock with _ | b
    · exact .inr (.inl rfl)
    · refine .inr (.inr ?_)
      intro e
      have h1 := (World.ownsRow.lt hn a e1).2
      have h2 := (World.ownsRow.lt hk b e2).1
      have h3 : a = b := by simpa using e
      omega
theorem sli_nat {W : World} {n₀ k : Nat} {L : List Nat} {v : Value} (h : W.ownsRow n₀ 3 1 v k (L.map (fun n : Nat => encI (n : Int)))) : SlI W v (L.map natI) :=
  sli_own (zs := L.map natI) (by rw [List.map_map]; exact h)
theorem cmp3_pos (i j k : Nat) : 0 < (cmp3 i j k).length := by
  unfold cmp3; split <;> split <;> simp
set_option maxRecDepth 100000 in
set_option maxHeartbeats 2000000 in
theorem BerthOwn_any (zs : List Pt) (p q : Int) (v : Value) (w : World) (hv : SlP w v zs) (hl : zs.length ≤ 9223372036854775807) :
    Calls Try.prog 14 #[v, .agg #[.int .i64 p, .int .i64 q]] w fun e w' => e = .returned (.bool true) ∧ Below w.heap.size w w' := by
  obtain ⟨b0, r0⟩ := box_start w 28 [.int .i64 p, .int .i64 q]
  have HT := Lib.hid (tame_any zs v (w.alloc (.cells [.int .i64 p, .int .i64 q].toArray 28)) (hv.grow b0) hl)
  have hok := tameF_ok zs
  have HOK := Lib.hid hok
  obtain ⟨⟨h1, h12⟩, hb, _⟩ := chkP_iff.1 hok
  have HX := Lib.hid (And.intro h12 (And.intro hb h1))
  have R0 := Lib.hid r0
  have B0 := Lib.hid b0
  clear hok h1 h12 hb hv hl b0 r0
  generalize tameF zs = X at *
  go_enter Try.func14, Try.ntmps14
  go_wp2_with fail
  refine HT.out.mono ?_
  rintro e w1 ⟨s, rfl, ho, h1⟩
  have HO1 := Lib.hid ho
  obtain ⟨a1, c1, rfl, hac⟩ := OwnP.open ho
  have HN0 : a1 = none → c1 = 0 := fun e => by
    rcases hac with ⟨_, h, _⟩ | ⟨g, _, h, _⟩
    · exact h
    · rw [h] at e; cases e
  have HOW := Lib.hid (own_any X a1 c1 w1 (slp_own HO1.out) HN0 (by have := HX.out.1; unfold maxLen; omega))
  have hbase : w.heap.size < (w.alloc (.cells [.int .i64 p, .int .i64 q].toArray 28)).heap.size := R0.out.lt
  have HBASE := Lib.hid hbase
  have R1 := Lib.hid (R0.out.below h1 R0.out.lt)
  have B1 := Lib.hid (Below.andThen B0.out h1 (Nat.le_refl _))
  clear ho hac h1 HN0 R0 B0 HT hbase
  go_wp2_with fail
  refine HOW.out.mono ?_
  rintro e w2 ⟨s2, rfl, ho, h2⟩
  have h13 : X.take 13 = X := List.take_of_length_le (by have := HX.out.1; omega)
  rw [h13] at ho
  have HOC := Lib.hid ho
  obtain ⟨a2, c2, rfl, _⟩ := OwnP.open ho
  have HO2 := Lib.hid (own_grow HO1.out h2)
  have HLT1 := Lib.hid R1.out.lt
  have R2 := Lib.hid (R1.out.below h2 R1.out.lt)
  have B2 := Lib.hid (Below.andThen B1.out h2 (Nat.le_refl _))
  have rr := R2.out
  have k0 := rr.cell 0
  have k1 := rr.cell 1
  simp only [List.getElem?_cons_zero, List.getElem?_cons_succ] at k0 k1
  obtain ⟨n, hn⟩ : ∃ n, X.length = n := ⟨_, rfl⟩
  have HNN := Lib.hid hn
  rw [hn] at HO2 HOC ⊢
  clear ho h2 rr h13 R1 B1 HO1 HOW
  go_wp2_with fail
  refine (place_any p q w2).mono ?_
  rintro e w2' ⟨rfl, h3⟩
  have HO3 := Lib.hid (own_grow HO2.out h3)
  have HOC3 := Lib.hid (own_grow HOC.out h3)
  have R3 := Lib.hid (R2.out.below h3 R2.out.lt)
  have B3 := Lib.hid (Below.andThen B2.out h3 (Nat.le_refl _))
  have hxy := placeF_bd (p, q)
  have HXY := Lib.hid (show Bd 20 (plN p) ∧ Bd 20 (plN q) from hxy)
  have HPOK := Lib.hid (show okP (plN p, plN q) = true from okP_iff.2 hxy)
  clear h3 hxy k0 k1 HO2 HOC R2 B2
  generalize plN p = x at *
  generalize plN q = y at *
  have qq := R3.out
  have s0 := qq.cell 0
  have s1 := qq.cell 1
  have z0 := frozen_of_row _ w.heap.size 0 _ _ qq
  have z1 := frozen_of_row _ w.heap.size 1 _ _ qq
  simp only [List.getElem?_cons_zero, List.getElem?_cons_succ] at s0 s1
  have hs := (qq.set 0 (.int .i64 x)).set 1 (.int .i64 y)
  simp only [List.set_cons_zero, List.set_cons_succ] at hs
  have hb4 := (B3.out.setCell (p := ⟨w.heap.size, 0, none⟩) (Nat.le_refl _) (.int .i64 x)).setCell (p := ⟨w.heap.size, 1, none⟩) (Nat.le_refl _) (.int .i64 y)
  have hsx := own_set (own_set HO3.out HBASE.out 0 (.int .i64 x)) HBASE.out 1 (.int .i64 y)
  have hsc := own_set (own_set HOC3.out HLT1.out 0 (.int .i64 x)) HLT1.out 1 (.int .i64 y)
  obtain ⟨w3, hw3⟩ : ∃ W, (w2'.setCell ⟨w.heap.size, 0, none⟩ (.int .i64 x)).setCell ⟨w.heap.size, 1, none⟩ (.int .i64 y) = W := ⟨_, rfl⟩
  have HW3 := Lib.hid hw3
  rw [hw3] at hs hb4 hsx hsc
  have HS := Lib.hid (show SlP w3 (.slice a1 n c1) X from slp_own (ps := X) (by first | exact hsx | (unfold OwnP; rw [hn]; exact hsx)))
  have HC := Lib.hid (show SlP w3 (.slice a2 n c2) X from slp_own (ps := X) (by first | exact hsc | (unfold OwnP; rw [hn]; exact hsc)))
  have R4 := Lib.hid hs
  have B4 := Lib.hid hb4
  have q0 := R4.out.cell 0
  have q1 := R4.out.cell 1
  simp only [List.getElem?_cons_zero, List.getElem?_cons_succ] at q0 q1
  rw [← HW3.out] at q0 q1
  clear qq hs hb4 hsx hsc hw3 HO3 HOC3 R3 B3 hn
  go_wp2_with fail
  rw [HW3.out]
  clear q0 q1 HW3 s0 s1 z0 z1
  refine (Nearest_ok X _ x y w3 HS.out HOK.out HPOK.out).mono ?_
  rintro e w4 ⟨s4, rfl, hn4, h4⟩
  obtain ⟨a4, c4, rfl⟩ := own_sl hn4
  have HNB := Lib.hid (show (NearestL X (x, y)).length ≤ 12 from by unfold NearestL whL; exact Nat.le_trans (whK_len _ _ _) HX.out.1)
  have HN4 := Lib.hid hn4
  have HB4 := Lib.hid h4
  have HS4 := Lib.hid (HS.out.grow h4)
  obtain ⟨N, hN⟩ : ∃ N, (NearestL X (x, y)).length = N := ⟨_, rfl⟩
  have HN := Lib.hid hN
  rw [hN] at HN4 HNB ⊢
  clear hn4 h4 hN
  go_wp2_with fail
  refine (Empty_ok X _ w4 HS4.out HOK.out).mono ?_
  rintro e w5 ⟨s5, rfl, ht5, h5⟩
  obtain ⟨a5, c5, rfl⟩ := own_sl ht5
  have HTB := Lib.hid (show (emptyL X).length ≤ 1728 from Nat.le_trans (List.length_filter_le _ _) (trL_len X.length HX.out.1))
  have HT5 := Lib.hid ht5
  have HB5 := Lib.hid h5
  have HS5 := Lib.hid (HS4.out.grow h5)
  obtain ⟨T, hT⟩ : ∃ T, (emptyL X).length = T := ⟨_, rfl⟩
  have HTT := Lib.hid hT
  rw [hT] at HT5 HTB ⊢
  clear ht5 h5 hT HS4
  go_wp2_with fail
  refine (Force_ok X _ w5 HS5.out HOK.out).mono ?_
  rintro e w6 ⟨f1, f2, f3, s6, rfl, _, _, hk6, h6⟩
  obtain ⟨a6, c6, rfl⟩ := own_sl hk6
  have HKB := Lib.hid (cmp3_len f1 f2 f3)
  obtain ⟨K, hK⟩ : ∃ K, (cmp3 f1 f2 f3).length = K := ⟨_, rfl⟩
  have HPW := Lib.hid (show PW w3 w4.heap.size w5.heap.size (.slice a4 N c4) (.slice a5 T c5) (.slice a6 K c6) N T K w6 from
    ⟨Below.andThen HB4.out (Below.andThen HB5.out h6 (Nat.le_refl _)) (Nat.le_refl _), ⟨_, own_grow (own_grow HN4.out HB5.out) h6⟩, ⟨_, own_grow HT5.out h6⟩, ⟨_, by rw [hK] at hk6; exact hk6⟩, HB4.out.size, Nat.le_trans HB4.out.size HB5.out.size, ne_blocks HN4.out (by rw [hK] at hk6; exact hk6) HB5.out.size⟩)
  rw [hK] at HKB ⊢
  clear hk6 h6 hK HS5 HN4 HT5 HB4 HB5
  go_wp2_with fail
  go_loopw [13] (fun iv wr => ∃ i : Nat, i ≤ N ∧ iv = .int .i64 (i : Int) ∧ Hid (PW w3 w4.heap.size w5.heap.size (.slice a4 N c4) (.slice a5 T c5) (.slice a6 K c6) N T K wr)) (fun iv _ => (N - intOf iv).toNat)
  case atStart => exact ⟨0, by omega, by simp, HPW⟩
  case round =>
    clear HPW
    obtain ⟨i, hi, rfl, HPW⟩ := hrel
    have hbd := HNB.out
    have iw : IntKind.i64.wrap ((i : Int) + 1) = ((i + 1 : Nat) : Int) := by rw [i64_of _ (by omega) (by omega)]; omega
    clear hbd
    by_cases hlt : i < N
    · have hd : decide ((i : Int) < (N : Int)) = true := decide_eq_true (by omega)
      have hdn : decide (i < N) = true := decide_eq_true hlt
      obtain ⟨xs, hx⟩ := HPW.out.n
      obtain ⟨g, cg, eg, _⟩ := own_at hx (by omega)
      cases eg
      obtain ⟨u, hu⟩ := own_old hx i (by omega)
      have hz := hx.frozenAt i
      have hP := Lib.hid (HPW.out.putN i (.int .i64 (-7)))
      clear hx
      go_wp2_with fail
      exact ⟨⟨i + 1, by omega, by simp, hP⟩, by simp [intOf]; omega⟩
    · have hd : decide ((i : Int) < (N : Int)) = false := decide_eq_false (by omega)
      have hdn : decide (i < N) = false := decide_eq_false hlt
      clear hi iw
      go_wp2_with fail
      go_loopw [14] (fun iv wr => ∃ i : Nat, i ≤ T ∧ iv = .int .i64 (i : Int) ∧ Hid (PW w3 w4.heap.size w5.heap.size (.slice a4 N c4) (.slice a5 T c5) (.slice a6 K c6) N T K wr)) (fun iv _ => (T - intOf iv).toNat)
      case atStart => exact ⟨0, by omega, by simp, HPW⟩
      case round =>
        clear HPW
        obtain ⟨i, hi, rfl, HPW⟩ := hrel
        have hbd := HTB.out
        have iw : IntKind.i64.wrap ((i : Int) + 1) = ((i + 1 : Nat) : Int) := by rw [i64_of _ (by omega) (by omega)]; omega
        clear hbd
        by_cases hlt : i < T
        · have hd : decide ((i : Int) < (T : Int)) = true := decide_eq_true (by omega)
          have hdn : decide (i < T) = true := decide_eq_true hlt
          obtain ⟨xs, hx⟩ := HPW.out.t
          obtain ⟨g, cg, eg, _⟩ := own_at hx (by omega)
          cases eg
          obtain ⟨u0, hu0⟩ := own_old hx (i * 3) (by omega)
          obtain ⟨u1, hu1⟩ := own_old hx (i * 3 + 1) (by omega)
          obtain ⟨u2, hu2⟩ := own_old hx (i * 3 + 2) (by omega)
          have hz0 := hx.frozenAt (i * 3)
          have hz1 := hx.frozenAt (i * 3 + 1)
          have hz2 := hx.frozenAt (i * 3 + 2)
          have hP := Lib.hid (((HPW.out.putT (i * 3) (.int .i64 (-7))).putT (i * 3 + 1) (.int .i64 (-7))).putT (i * 3 + 2) (.int .i64 (-7)))
          clear hx
          go_wp2_with fail
          exact ⟨⟨i + 1, by omega, by simp, hP⟩, by simp [intOf]; omega⟩
        · have hd : decide ((i : Int) < (T : Int)) = false := decide_eq_false (by omega)
          have hdn : decide (i < T) = false := decide_eq_false hlt
          clear hi iw
          go_wp2_with fail
          go_loopw [15] (fun iv wr => ∃ i : Nat, i ≤ K ∧ iv = .int .i64 (i : Int) ∧ Hid (PW w3 w4.heap.size w5.heap.size (.slice a4 N c4) (.slice a5 T c5) (.slice a6 K c6) N T K wr)) (fun iv _ => (K - intOf iv).toNat)
          case atStart => exact ⟨0, by omega, by simp, HPW⟩
          case round =>
            clear HPW
            obtain ⟨i, hi, rfl, HPW⟩ := hrel
            have hbd := HKB.out
            have iw : IntKind.i64.wrap ((i : Int) + 1) = ((i + 1 : Nat) : Int) := by rw [i64_of _ (by omega) (by omega)]; omega
            clear hbd
            by_cases hlt : i < K
            · have hd : decide ((i : Int) < (K : Int)) = true := decide_eq_true (by omega)
              have hdn : decide (i < K) = true := decide_eq_true hlt
              obtain ⟨xs, hx⟩ := HPW.out.k
              obtain ⟨g, cg, eg, _⟩ := own_at hx (by omega)
              cases eg
              obtain ⟨u, hu⟩ := own_old hx i (by omega)
              have hz := hx.frozenAt i
              have hP := Lib.hid (HPW.out.putK i (.int .i64 (-7)))
              clear hx
              go_wp2_with fail
              exact ⟨⟨i + 1, by omega, by simp, hP⟩, by simp [intOf]; omega⟩
            · have hd : decide ((i : Int) < (K : Int)) = false := decide_eq_false (by omega)
              have hdn : decide (i < K) = false := decide_eq_false hlt
              clear hi iw
              have qz := R4.out.below HPW.out.bl R4.out.lt
              have q0 := qz.cell 0
              have q1 := qz.cell 1
              simp only [List.getElem?_cons_zero, List.getElem?_cons_succ] at q0 q1
              clear qz
              go_wp2_with fail
              have BL := Lib.hid HPW.out.bl
              rename World => wz
              have HSz := Lib.hid (HS.out.grow BL.out)
              have HCz := Lib.hid (HC.out.grow BL.out)
              have Rz := Lib.hid (R4.out.below BL.out R4.out.lt)
              have Bz := Lib.hid (Below.andThen B4.out BL.out (Nat.le_refl _))
              clear HPW BL HS HC R4 B4
              refine (Nearest_ok X _ x y wz HSz.out HOK.out HPOK.out).mono ?_
              rintro e v1 ⟨s7, rfl, hn7, g1⟩
              obtain ⟨a7, c7, rfl⟩ := own_sl hn7
              have HM := Lib.hid (sli_nat hn7)
              have HS1 := Lib.hid (HSz.out.grow g1)
              have HC1 := Lib.hid (HCz.out.grow g1)
              have R1 := Lib.hid (Rz.out.below g1 Rz.out.lt)
              have B1 := Lib.hid (Below.andThen Bz.out g1 (Nat.le_refl _))
              rw [HN.out] at HM ⊢
              clear hn7 g1 HSz HCz Rz Bz q0 q1
              go_wp2_with fail
              refine (Empty_ok X _ v1 HS1.out HOK.out).mono ?_
              rintro e v2 ⟨s8, rfl, ht8, g2⟩
              obtain ⟨a8, c8, rfl⟩ := own_sl ht8
              have HM2 := Lib.hid (HM.out.grow g2)
              have HS2 := Lib.hid (HS1.out.grow g2)
              have HC2 := Lib.hid (HC1.out.grow g2)
              have R2 := Lib.hid (R1.out.below g2 R1.out.lt)
              have B2 := Lib.hid (Below.andThen B1.out g2 (Nat.le_refl _))
              have q0 := R2.out.cell 0
              have q1 := R2.out.cell 1
              simp only [List.getElem?_cons_zero, List.getElem?_cons_succ] at q0 q1
              rw [HTT.out]
              clear ht8 g2 HM HS1 HC1 R1 B1
              go_wp2_with fail
              refine (rNearest_any X _ x y v2 HC2.out HX.out.2.2 HX.out.1 HX.out.2.1 HXY.out.1 HXY.out.2).mono ?_
              rintro e v3 ⟨s9, rfl, hn9, g3⟩
              obtain ⟨a9, c9, rfl⟩ := own_sl hn9
              have HI := Lib.hid (ints_sli ((NearestL X (x, y)).map natI) ((NearestL X (x, y)).map natI) _ _ v3 (HM2.out.grow g3) (sli_nat hn9) (by rw [List.length_map, HN.out]; have := HNB.out; omega) (by rw [List.length_map, HN.out]; have := HNB.out; omega))
              rw [decide_eq_true (rfl : (NearestL X (x, y)).map natI = (NearestL X (x, y)).map natI)] at HI
              have HS3 := Lib.hid (HS2.out.grow g3)
              have HC3 := Lib.hid (HC2.out.grow g3)
              have B3 := Lib.hid (Below.andThen B2.out g3 (Nat.le_refl _))
              rw [HN.out] at HI ⊢
              clear hn9 g3 HM2 HS2 HC2 R2 B2 q0 q1
              go_wp2_with fail
              refine HI.out.mono ?_
              rintro e v4 ⟨rfl, g4⟩
              have HS4 := Lib.hid (HS3.out.grow g4)
              have HC4 := Lib.hid (HC3.out.grow g4)
              have B4 := Lib.hid (Below.andThen B3.out g4 (Nat.le_refl _))
              clear g4 HI HS3 HC3 B3
              go_wp2_with fail
              refine (rEmpty_any X _ v4 HC4.out HX.out.1 HX.out.2.1).mono ?_
              rintro e v5 ⟨s10, rfl, ht10, g5⟩
              obtain ⟨a10, c10, rfl⟩ := own_sl ht10
              have HS5 := Lib.hid (HS4.out.grow g5)
              have HC5 := Lib.hid (HC4.out.grow g5)
              have B5 := Lib.hid (Below.andThen B4.out g5 (Nat.le_refl _))
              have hn12 : n ≤ 12 := by have := HX.out.1; rw [HNN.out] at this; exact this
              rw [HTT.out]
              clear ht10 g5 HS4 HC4 B4
              go_wp2_with fail
              go_loopw [20] (fun iv wr => ∃ i : Nat, i ≤ n ∧ iv = .int .i64 (i : Int) ∧ Hid (Below v5.heap.size v5 wr)) (fun iv _ => (n - intOf iv).toNat)
              case atStart => exact ⟨0, by omega, by simp, Lib.hid (Below.refl _ _)⟩
              case round =>
                obtain ⟨k, hk, rfl, HB⟩ := hrel
                rename World => wr
                have kw : IntKind.i64.wrap ((k : Int) + 1) = ((k + 1 : Nat) : Int) := by rw [i64_of _ (by omega) (by omega)]; omega
                by_cases hlt : k < n
                · have hd : decide ((k : Int) < (n : Int)) = true := decide_eq_true (by omega)
                  have hdn : decide (k < n) = true := decide_eq_true hlt
                  have hki : (k : Int) < (n : Int) := by omega
                  have HKI := Lib.hid hki
                  obtain ⟨au, cu, es, _, hs⟩ := HS5.out
                  rw [HNN.out] at es
                  cases es
                  obtain ⟨g, o, rfl, hps⟩ : ∃ g o, a1 = some ⟨g, o, none⟩ ∧ PtsAt v5 g o X := hs.resolve_left (fun e => by have := HNN.out; rw [e] at this; simp at this; omega)
                  obtain ⟨ac, cc, ec, _, hc⟩ := HC5.out
                  rw [HNN.out] at ec
                  cases ec
                  obtain ⟨h, oh, rfl, hpc⟩ : ∃ g o, a2 = some ⟨g, o, none⟩ ∧ PtsAt v5 g o X := hc.resolve_left (fun e => by have := HNN.out; rw [e] at this; simp at this; omega)
                  have HP1 := Lib.hid (fun W (hb : Below wr.heap.size wr W) => pt_cell hps (Below.andThen HB.out hb (Nat.le_refl _)) HNN.out hlt)
                  have HP2 := Lib.hid (fun W (hb : Below wr.heap.size wr W) => pt_cell hpc (Below.andThen HB.out hb (Nat.le_refl _)) HNN.out hlt)
                  generalize ptAt X k = pk at *
                  obtain ⟨ak, bk⟩ := pk
                  dsimp only at HP1 HP2
                  have HEQ := Lib.hid (fun W => (eq28 ak bk ak bk W).trans (by rw [decide_eq_true rfl]))
                  clear hs hps hc hpc hki
                  go_wp2_with fail
                  refine wp_region_box (by kernel_rfl) (by kernel_rfl) [129, 130, 131, 132, 133, 134, 135, 136, 137] [(fun v => v = .slice (some ⟨g, o, none⟩) n c1), (fun v => v = .int .i64 (k : Int)), (fun v => v = .pointer (some ⟨g, o + k * 2, none⟩)), (fun v => v = .agg #[.int .i64 ak, .int .i64 bk]), (fun v => v = .slice (some ⟨h, oh, none⟩) n c2), (fun v => v = .int .i64 (k : Int)), (fun v => v = .pointer (some ⟨h, oh + k * 2, none⟩)), (fun v => v = .agg #[.int .i64 ak, .int .i64 bk]), (fun v => v = .bool false)] [none, none, none, none, none, none, none, none, none] [none, none, none, none, none, none, none, none, none] 9 rfl (by kernel_rfl) ?tr ⟨_, (putAll_self _ _).symm, rfl⟩ ?steps ?fin
                  case tr =>
                    rintro i v h
                    rcases i with _ | _ | _ | _ | _ | _ | _ | _ | _ | i
                    all_goals first | trivial | (exfalso; rcases h with h | h <;> simp at h)
                  case steps =>
                    simp only [boxSteps, Nat.reduceAdd, Nat.zero_add, List.getD_cons_succ, List.getD_cons_zero]
                    refine ⟨?_, ?_, ?_, ?_, ?_, ?_, ?_, ?_, ?_, trivial⟩
                    · rintro vs W K hc hvl hw hK
                      obtain ⟨x0, x1, x2, x3, x4, x5, x6, x7, x8, rfl⟩ := len9 hvl
                      have HK := Lib.hid hK
                      have HC := Lib.hid hc
                      have HW := Lib.hid hw
                      clear hK hc hw hvl
                      simp only [putAll, Act.put, List.setIfInBounds_toArray, List.set_cons_succ, List.set_cons_zero, List.set_nil]
                      clear HW
                      go_wp2_with fail
                      have fin := HK.out (.slice (some ⟨g, o, none⟩) n c1) W (Below.refl _ _) rfl
                      simp only [putAll, Act.put, List.setIfInBounds_toArray, List.set_cons_succ, List.set_cons_zero, List.set_nil] at fin
                      exact fin
                    · rintro vs W K hc hvl hw hK
                      obtain ⟨x0, x1, x2, x3, x4, x5, x6, x7, x8, rfl⟩ := len9 hvl
                      have HK := Lib.hid hK
                      have HC := Lib.hid hc
                      have HW := Lib.hid hw
                      clear hK hc hw hvl
                      simp only [putAll, Act.put, List.setIfInBounds_toArray, List.set_cons_succ, List.set_cons_zero, List.set_nil]
                      clear HW
                      go_wp2_with fail
                      have fin := HK.out (.int .i64 (k : Int)) W (Below.refl _ _) rfl
                      simp only [putAll, Act.put, List.setIfInBounds_toArray, List.set_cons_succ, List.set_cons_zero, List.set_nil] at fin
                      exact fin
                    · rintro vs W K hc hvl hw hK
                      obtain ⟨x0, x1, x2, x3, x4, x5, x6, x7, x8, rfl⟩ := len9 hvl
                      have HK := Lib.hid hK
                      have HC := Lib.hid hc
                      have HW := Lib.hid hw
                      clear hK hc hw hvl
                      obtain rfl : x0 = .slice (some ⟨g, o, none⟩) n c1 := box_get (HW.out ⟨0, .data⟩ (by simp) rfl) rfl
                      obtain rfl : x1 = .int .i64 (k : Int) := box_get (HW.out ⟨1, .data⟩ (by simp) rfl) rfl
                      simp only [putAll, Act.put, List.setIfInBounds_toArray, List.set_cons_succ, List.set_cons_zero, List.set_nil]
                      have hi1 := HKI.out
                      clear HW
                      go_wp2_with fail
                      have fin := HK.out (.pointer (some ⟨g, o + k * 2, none⟩)) W (Below.refl _ _) rfl
                      simp only [putAll, Act.put, List.setIfInBounds_toArray, List.set_cons_succ, List.set_cons_zero, List.set_nil] at fin
                      exact fin
                    · rintro vs W K hc hvl hw hK
                      obtain ⟨x0, x1, x2, x3, x4, x5, x6, x7, x8, rfl⟩ := len9 hvl
                      have HK := Lib.hid hK
                      have HC := Lib.hid hc
                      have HW := Lib.hid hw
                      clear hK hc hw hvl
                      obtain rfl : x2 = .pointer (some ⟨g, o + k * 2, none⟩) := box_get (HW.out ⟨2, .data⟩ (by simp) rfl) rfl
                      simp only [putAll, Act.put, List.setIfInBounds_toArray, List.set_cons_succ, List.set_cons_zero, List.set_nil]
                      have d0 := (HP1.out W HC.out).1
                      have d1 := (HP1.out W HC.out).2
                      clear HW
                      go_wp2_with fail
                      have fin := HK.out (.agg #[.int .i64 ak, .int .i64 bk]) W (Below.refl _ _) rfl
                      simp only [putAll, Act.put, List.setIfInBounds_toArray, List.set_cons_succ, List.set_cons_zero, List.set_nil] at fin
                      exact fin
                    · rintro vs W K hc hvl hw hK
                      obtain ⟨x0, x1, x2, x3, x4, x5, x6, x7, x8, rfl⟩ := len9 hvl
                      have HK := Lib.hid hK
                      have HC := Lib.hid hc
                      have HW := Lib.hid hw
                      clear hK hc hw hvl
                      simp only [putAll, Act.put, List.setIfInBounds_toArray, List.set_cons_succ, List.set_cons_zero, List.set_nil]
                      clear HW
                      go_wp2_with fail
                      have fin := HK.out (.slice (some ⟨h, oh, none⟩) n c2) W (Below.refl _ _) rfl
                      simp only [putAll, Act.put, List.setIfInBounds_toArray, List.set_cons_succ, List.set_cons_zero, List.set_nil] at fin
                      exact fin
                    · rintro vs W K hc hvl hw hK
                      obtain ⟨x0, x1, x2, x3, x4, x5, x6, x7, x8, rfl⟩ := len9 hvl
                      have HK := Lib.hid hK
                      have HC := Lib.hid hc
                      have HW := Lib.hid hw
                      clear hK hc hw hvl
                      simp only [putAll, Act.put, List.setIfInBounds_toArray, List.set_cons_succ, List.set_cons_zero, List.set_nil]
                      clear HW
                      go_wp2_with fail
                      have fin := HK.out (.int .i64 (k : Int)) W (Below.refl _ _) rfl
                      simp only [putAll, Act.put, List.setIfInBounds_toArray, List.set_cons_succ, List.set_cons_zero, List.set_nil] at fin
                      exact fin
                    · rintro vs W K hc hvl hw hK
                      obtain ⟨x0, x1, x2, x3, x4, x5, x6, x7, x8, rfl⟩ := len9 hvl
                      have HK := Lib.hid hK
                      have HC := Lib.hid hc
                      have HW := Lib.hid hw
                      clear hK hc hw hvl
                      obtain rfl : x4 = .slice (some ⟨h, oh, none⟩) n c2 := box_get (HW.out ⟨4, .data⟩ (by simp) rfl) rfl
                      obtain rfl : x5 = .int .i64 (k : Int) := box_get (HW.out ⟨5, .data⟩ (by simp) rfl) rfl
                      simp only [putAll, Act.put, List.setIfInBounds_toArray, List.set_cons_succ, List.set_cons_zero, List.set_nil]
                      have hi1 := HKI.out
                      clear HW
                      go_wp2_with fail
                      have fin := HK.out (.pointer (some ⟨h, oh + k * 2, none⟩)) W (Below.refl _ _) rfl
                      simp only [putAll, Act.put, List.setIfInBounds_toArray, List.set_cons_succ, List.set_cons_zero, List.set_nil] at fin
                      exact fin
                    · rintro vs W K hc hvl hw hK
                      obtain ⟨x0, x1, x2, x3, x4, x5, x6, x7, x8, rfl⟩ := len9 hvl
                      have HK := Lib.hid hK
                      have HC := Lib.hid hc
                      have HW := Lib.hid hw
                      clear hK hc hw hvl
                      obtain rfl : x6 = .pointer (some ⟨h, oh + k * 2, none⟩) := box_get (HW.out ⟨6, .data⟩ (by simp) rfl) rfl
                      simp only [putAll, Act.put, List.setIfInBounds_toArray, List.set_cons_succ, List.set_cons_zero, List.set_nil]
                      have d0 := (HP2.out W HC.out).1
                      have d1 := (HP2.out W HC.out).2
                      clear HW
                      go_wp2_with fail
                      have fin := HK.out (.agg #[.int .i64 ak, .int .i64 bk]) W (Below.refl _ _) rfl
                      simp only [putAll, Act.put, List.setIfInBounds_toArray, List.set_cons_succ, List.set_cons_zero, List.set_nil] at fin
                      exact fin
                    · rintro vs W K hc hvl hw hK
                      obtain ⟨x0, x1, x2, x3, x4, x5, x6, x7, x8, rfl⟩ := len9 hvl
                      have HK := Lib.hid hK
                      have HC := Lib.hid hc
                      have HW := Lib.hid hw
                      clear hK hc hw hvl
                      obtain rfl : x3 = .agg #[.int .i64 ak, .int .i64 bk] := box_get (HW.out ⟨3, .data⟩ (by simp) rfl) rfl
                      obtain rfl : x7 = .agg #[.int .i64 ak, .int .i64 bk] := box_get (HW.out ⟨7, .data⟩ (by simp) rfl) rfl
                      simp only [putAll, Act.put, List.setIfInBounds_toArray, List.set_cons_succ, List.set_cons_zero, List.set_nil]
                      have heq := HEQ.out W
                      clear HW
                      go_wp2_with fail
                      have fin := HK.out (.bool false) W (Below.refl _ _) rfl
                      simp only [putAll, Act.put, List.setIfInBounds_toArray, List.set_cons_succ, List.set_cons_zero, List.set_nil] at fin
                      exact fin
                  case fin =>
                    rintro vs W hJ
                    obtain ⟨x0, x1, x2, x3, x4, x5, x6, x7, x8, rfl⟩ := len9 hJ.ln
                    obtain rfl : x8 = .bool false := box_get (hJ.val 8 rfl) rfl
                    have HC := Lib.hid hJ.bl
                    clear hJ
                    simp only [putAll, Act.put, List.setIfInBounds_toArray, List.set_cons_succ, List.set_cons_zero, List.set_nil]
                    go_wp2_with fail
                    exact ⟨⟨k + 1, by omega, by simp, Lib.hid (Below.andThen HB.out HC.out (Nat.le_refl _))⟩, by simp [intOf]; omega⟩
                · have hd : decide ((k : Int) < (n : Int)) = false := decide_eq_false (by omega)
                  have hdn : decide (k < n) = false := decide_eq_false hlt
                  go_wp2_with fail
                  refine (awake_any wr).mono ?_
                  rintro e w9 ⟨rfl, h9⟩
                  have B9 := Lib.hid (Below.andThen B5.out (Below.andThen HB.out h9 (Nat.le_refl _)) (Nat.le_refl _))
                  clear h9
                  go_wp2_with fail
                  go_ret
                  exact ⟨rfl, B9.out⟩
end Go.Proofs.Ytlemipnplgbckaa
