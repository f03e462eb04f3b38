import Derived.Test.YtlamppplnojpbaaJq
import Derived.Laws.AppendOwn
import Derived.Maps.OwnIn
import Derived.Maps.AppendAt
import Derived.RangeFuncNested
import Derived.RangeFuncBound
import Derived.RangeFuncCalls
import Derived.RangeFuncLeaves
import Derived.Shelf.Abstract
import Derived.Shelf.RegionOpen
import Derived.WalkKit
import Derived.WalkMore
import Derived.OwnWalkIn
import Derived.TacticsInMore
import Derived.LoopNIn
import Derived.LoopIn
import Derived.WalkSpells
import Derived.WalkLawsBesides
import Derived.BigQuiet
import Derived.Deep.QuietTactic
import Derived.Lib.Hide
import Derived.Deep.RegionHeld3
import Derived.StillTailTactics
import Derived.Deep.LoopGhost
import Derived.Maps.OwnSet
import Derived.Lib.IndexAny
import Derived.Sort.QuietThIn
import Derived.Sort.QuietTacIn
import Derived.Sort.BigQuietIn
namespace Go.Proofs.Ytlamppplnojpbaa
open Go.RowKit Go.Shelf
attribute [local go_sem] Oper.semAt_some
def flatP (ps : List (Int × Int)) : List Value := ps.flatMap (fun p => [encI p.1, encI p.2])
theorem flatP_snoc (ps : List (Int × Int)) (p : Int × Int) : flatP (ps ++ [p]) = flatP ps ++ [encI p.1, encI p.2] := by simp [flatP]
theorem info48 : (Try.prog.info? 48).map (fun i => (i.zero, i.size, i.bytes)) = some (some (.agg #[.int .i64 0, .int .i64 0]), 2, 16) := by kernel_rfl
theorem lasts_owns (B base e size : Nat) (v : Value) (n : Nat) (xs : List Value) : Lasts B (fun W => W.ownsRow base e size v n xs) := fun W W' row hi hg hr => by
  refine hi.kept hg ?_
  rcases hi.2 with ⟨rfl, _⟩ | ⟨g, cap, cur, rfl, _, hh, _⟩
  · exact .inl rfl
  · refine .inr (fun e => ?_)
    obtain ⟨_, o, ho, hc⟩ := hr g (by rw [← e]; rfl)
    rw [hh] at ho; cases ho; cases hc
theorem owns_mono {w : World} {base base' : Nat} {e : TypeId} {size : Nat} {v : Value} {n : Nat} {xs : List Value} (h : w.ownsRow base e size v n xs) (hb : base' ≤ base) : w.ownsRow base' e size v n xs := by
  refine ⟨h.1, ?_⟩
  rcases h.2 with h2 | ⟨g, cap, cur, h1, h2, h3⟩
  · exact .inl h2
  · exact .inr ⟨g, cap, cur, h1, Nat.le_trans hb h2, h3⟩
/-- what holds in a range that lays steps end to end -/
structure Asq (w : World) (pre : List (Int × Int)) (v : Value) (W : World) : Prop where
  row : Row W w.heap.size 27 [v]
  own : W.ownsRow (w.heap.size + 1) 48 2 v pre.length (flatP pre)
  bw : Below w.heap.size w W
theorem lasts_asq (B : Nat) (w : World) (pre : List (Int × Int)) (v : Value) (hB : w.heap.size ≤ B) : Lasts B (fun W => Asq w pre v W) := fun W W' row hi hg hr =>
  ⟨lasts_row B _ _ _ W W' row hi.row hg hr, lasts_owns B _ _ _ _ _ _ W W' row hi.own hg hr, lasts_below B _ w hB (Nat.le_refl _) W W' row hi.bw hg hr⟩
theorem asq_step {w W W2 : World} {pre : List (Int × Int)} {v v' : Value} {x : Int × Int} {r b : Nat} (h : Asq w pre v W) (ho : W2.ownsRow (w.heap.size + 1) 48 2 v' (pre.length + 1) (flatP pre ++ [encI x.1, encI x.2])) (hg : (W.alloc (.cells #[.int .i64 x.1, .int .i64 x.2] 48)).grownBy W2 v.ownBlock) (hr : r < w.heap.size) (hb : b < w.heap.size) :
    Asq w (pre ++ [x]) v' (W2.setCell ⟨w.heap.size, 0, none⟩ v') ∧ KeepsC r b W (W2.setCell ⟨w.heap.size, 0, none⟩ v') ∧ KeepsFrom w.heap.size W (W2.setCell ⟨w.heap.size, 0, none⟩ v') := by
  have ba := (Below.refl W.heap.size W).alloc (Nat.le_refl _) (.cells #[.int .i64 x.1, .int .i64 x.2] 48)
  have hN := h.row.lt
  have G := one_set W2 w.heap.size 0 v'
  have hvn : ∀ g, v.ownBlock = some g → w.heap.size + 1 ≤ g ∧ ∃ cur, W.heap[g]? = some (.cells cur 48 (0, 0)) := fun g e => by
    rcases h.own.2 with ⟨rfl, _⟩ | ⟨g', cap, cur, rfl, hb', hh, _⟩
    · cases e
    · cases e; exact ⟨hb', cur, hh⟩
  have r2 : Row W2 w.heap.size 27 [v] := (h.row.below ba hN).kept hg (fun e => by have := hvn _ e.symm; omega)
  have hv' := ho.lt
  have hsz : W.heap.size + 1 ≤ W2.heap.size := by have := hg.size; rw [size_al] at this; exact this
  have keep : ∀ g, g < W.heap.size → g ≠ w.heap.size → v.ownBlock ≠ some g → (W2.setCell ⟨w.heap.size, 0, none⟩ v').heap[g]? = W.heap[g]? := fun g hlt h1 h2 => by
    rw [G.block g (by omega) (fun e => by have := Option.some.inj e; omega), hg.block g (by rw [size_al]; omega) (fun e => h2 e.symm), ba.block g hlt]
  refine ⟨⟨r2.set 0 v', ?_, ?_⟩, ⟨?_, ?_⟩, ⟨?_, ?_⟩⟩
  · rw [flatP_snoc, List.length_append, List.length_singleton]
    exact ho.kept G (.inr (fun e => by have := hv' _ e; omega))
  · exact ((Below.andThen h.bw ba (Nat.le_refl _)).grown hg (by rw [size_al]; have := h.bw.size; omega) (fun k e => by have := hvn _ e; omega)).grown G (by have := h.bw.size; omega) (fun k e => by have := Option.some.inj e; omega)
  · have := G.size; omega
  · intro g hc
    have hlt : g < W.heap.size := by
      rcases hc with rfl | rfl | ⟨cs, hc⟩
      · omega
      · omega
      · exact (Array.getElem?_eq_some_iff.1 hc).1
    refine keep g hlt ?_ ?_
    · rcases hc with rfl | rfl | ⟨cs, hc⟩
      · omega
      · omega
      · intro e; subst e; rw [show W.heap[w.heap.size]? = _ from h.row] at hc; cases hc
    · intro e
      obtain ⟨h1, cur, h2⟩ := hvn _ e
      rcases hc with rfl | rfl | ⟨cs, hc⟩
      · omega
      · omega
      · rw [h2] at hc; cases hc
  · have := G.size; omega
  · intro g o _ hgo ho'
    have hlt := (Array.getElem?_eq_some_iff.1 hgo).1
    rw [keep g hlt (fun e => by subst e; rw [show W.heap[w.heap.size]? = _ from h.row] at hgo; cases hgo; cases ho') (fun e => by
      obtain ⟨h1, cur, h2⟩ := hvn _ e
      rw [h2] at hgo; cases hgo; cases ho')]
    exact hgo
set_option maxRecDepth 100000 in
set_option maxHeartbeats 1000000 in
theorem appseq_any (r b : Nat) (A : Sn) (g0 g1 g2 g3 : Int) (ok : Bool) (hgf : Fok [g0, g1, g2, g3]) (n : Nat) (hn : n ≤ 1000000) (hG : GoodT n A (cmOf A [g0, g1, g2, g3])) (w : World)
    (rr : Row w r 89 [.map (some b), .int .i64 g0, .int .i64 g1, .int .i64 g2, .int .i64 g3, .bool ok]) (hs : SeenAt w b A.length (seenV A)) :
    Calls Try.prog 75 #[.slice none 0 0, .func (.func 71) #[] #[.pointer (some ⟨r, 0, none⟩)]] w fun e w' => ∃ v, e = .returned v ∧ w'.ownsRow w.heap.size 48 2 v n (flatP (trc n A (cmOf A [g0, g1, g2, g3]))) ∧ Below w.heap.size w w' := by
  refine callsIn_wide.1 (callsIn_of_wp_marks (F := Fence.wide) (n := 4) Try.func75 rfl trivial ?_ rfl)
  simp only [Try.ntmps75, List.size_toArray, List.length_cons, List.length_nil, Nat.reduceAdd, Nat.reduceSub, Array.replicate_succ, Array.replicate_zero, List.push_toArray, List.append_toArray, List.nil_append, List.cons_append]
  have HG := Lib.hid hG
  have HRR := Lib.hid rr
  have HS := Lib.hid hs
  clear hG rr hs
  have b0 := (Below.refl w.heap.size w).alloc (Nat.le_refl _) (.cells #[.slice none 0 0] 27)
  have r0 := Row.new w 27 [.slice none 0 0]
  have h0 : Asq w [] (.slice none 0 0) (w.alloc (.cells #[.slice none 0 0] 27)) := ⟨r0, World.ownsRow_nil _ _ _ _, b0⟩
  have H0 := Lib.hid h0
  have B0 := Lib.hid b0
  have hz := size_al w (.cells #[.slice none 0 0] 27)
  have HZ := Lib.hid hz
  have hrl := Lib.hid HRR.out.lt
  have hbl := Lib.hid HS.out.lt
  clear b0 r0 h0 hz
  gi_wp2_with fail
  obtain ⟨i0, hi, hz0, hz1, hz2⟩ := info_parts info48
  refine wpIn_rangeFunc_ownH (F := Fence.wide) rfl (by omega) rfl trivial (enters_of Try.func71 (by kernel_rfl) rfl) (way1_stops (4 - 1) r b A g0 g1 g2 g3 ok hgf n hn HG.out w HRR.out HS.out)
    (fun h k => KeepsC.trans h k) (fun W l o o' hl h hc _ => KeepsC.put (by rw [HZ.out] at hl; have := hrl.out; omega) (by rw [HZ.out] at hl; have := hbl.out; omega) W o' h hc) B0.out (fun _ => rfl)
    (fun pre W => ∃ v, Asq w pre v W) (fun _ _ _ => False)
    (Lasts.own (fun s W W' row ⟨v, hv⟩ hg hr => ⟨v, lasts_asq _ w s v (by rw [HZ.out]; omega) W W' row hv hg hr⟩)) (fun c => Lasts.own (fun s => lasts_pure _ _)) ⟨_, H0.out⟩
    (fun x a' W => ∃ q, a' = { tmps := #[.slice none 0 0, .func (.func 71) #[] #[.pointer (some ⟨r, 0, none⟩)], .pointer (some ⟨w.heap.size, 0, none⟩), undef, .slice none 0 0, .pointer (some ⟨q, 0, none⟩), .func (.func 71) #[] #[.pointer (some ⟨r, 0, none⟩)], .agg #[.int .i64 x.1, .int .i64 x.2], undef, undef, undef, undef, undef], defers := [] } ∧ w.heap.size < q ∧ Row W q 48 [.int .i64 x.1, .int .i64 x.2])
    ?_ ?assign ?body ?done ?stop
  case assign =>
    rintro l pre x W1 K ⟨v, hv⟩ hK
    have ba := (Below.refl W1.heap.size W1).alloc (Nat.le_refl _) (.cells #[.int .i64 x.1, .int .i64 x.2] 48)
    have hs1 := hv.bw.size
    have hl1 := hv.row.lt
    have hk := hK _ _ (keeps_below ba) (KeepsC.of_below ba (by have := hrl.out; omega) (by have := hbl.out; omega)) ⟨v, lasts_asq W1.heap.size w pre v (by omega) W1 _ none hv ⟨ba.os, ba.tape, ba.output, ba.size, fun k hk _ => ba.block k hk⟩ (fun r e => by cases e)⟩ ⟨_, rfl, hl1, Row.new W1 48 [.int .i64 x.1, .int .i64 x.2]⟩
    have HKk := Lib.hid hk
    clear hk hK hs1 hl1 ba hv
    have e : (#[7].zip #[encS x]).foldl (fun t (p, v) => Array.setIfInBounds t p v) (#[.slice none 0 0, .func (.func 71) #[] #[.pointer (some ⟨r, 0, none⟩)], .pointer (some ⟨w.heap.size, 0, none⟩), undef, .slice none 0 0, undef, .func (.func 71) #[] #[.pointer (some ⟨r, 0, none⟩)], undef, undef, undef, undef, undef, undef] : Array Value)
       = #[.slice none 0 0, .func (.func 71) #[] #[.pointer (some ⟨r, 0, none⟩)], .pointer (some ⟨w.heap.size, 0, none⟩), undef, .slice none 0 0, undef, .func (.func 71) #[] #[.pointer (some ⟨r, 0, none⟩)], .agg #[.int .i64 x.1, .int .i64 x.2], undef, undef, undef, undef, undef] := by simp [encS]
    rw [e]
    clear e
    gi_wp2
    exact HKk.out
  case body =>
    rintro l pre x a' W1 hl hr ⟨v, hv⟩ ⟨q, rfl, hq, h48⟩ hlen
    have ba := (Below.refl W1.heap.size W1).alloc (Nat.le_refl _) (.cells #[.int .i64 x.1, .int .i64 x.2] 48)
    have rn := Row.new W1 48 [.int .i64 x.1, .int .i64 x.2]
    obtain ⟨v', W2, hap, ho2, hg2, _, hblk⟩ := run_append_own_at (P := Try.prog) (W1.alloc (.cells #[.int .i64 x.1, .int .i64 x.2] 48)) (w.heap.size + 1) 27 27 48 i0 (.agg #[.int .i64 0, .int .i64 0]) 2 16 Try.underlying27 hi hz0 hz1 hz2 rfl (by decide) v pre.length (flatP pre) (hv.own.alloc _)
      ⟨W1.heap.size, 0, none⟩ 1 1 [.int .i64 x.1, .int .i64 x.2] rfl (fun j u hj => by rw [Go.WideShapes.add_plain]; simp only [Nat.zero_add]; rw [Row.cell rn]; exact hj) (by simp [Value.oneCell']) (by unfold maxLen; omega) (by omega) (by rw [size_al]; have := hv.row.lt; omega)
    obtain ⟨g7, cap7, hv7⟩ : ∃ g7 cap7, v' = .slice (some ⟨g7, 0, none⟩) (pre.length + 1) cap7 := by
      rcases ho2.2 with ⟨_, h⟩ | ⟨g, cap, cur, h, _⟩
      · omega
      · exact ⟨g, cap, h⟩
    subst hv7
    have hst := asq_step hv ho2 hg2 hrl.out hbl.out
    have c0 : W1.cell? ⟨w.heap.size, 0, none⟩ = some v := hv.row.cell 0
    have s0 : W1.cell? ⟨q, 0, none⟩ = some (.int .i64 x.1) := h48.cell 0
    have s1 : W1.cell? ⟨q, 1, none⟩ = some (.int .i64 x.2) := h48.cell 1
    have r2 : Row W2 w.heap.size 27 [v] := (hv.row.below ba hv.row.lt).kept hg2 (fun e => by
      have := (hv.own.lt w.heap.size e.symm).1; omega)
    have c2 : W2.cell? ⟨w.heap.size, 0, none⟩ = some v := r2.cell 0
    have k2 := frozen_of_row W2 w.heap.size 0 _ _ r2
    have HST := Lib.hid hst
    have HAP := Lib.hid hap
    clear hst hap ho2 hg2 hblk hv h48 rn ba r2 hlen
    gi_wp2_with (gi_at_builtin; refine wpListIn_append_run rfl _ _ 27 rfl _ _ _ _ rfl rfl HAP.out ?_)
    exact ⟨⟨HST.out.2.2.size, fun k o hB => HST.out.2.2.same k o (by rw [HZ.out] at hB; omega)⟩, HST.out.2.1, _, HST.out.1⟩
  case done =>
    rintro D xs W1 hD rfl ⟨v, hv⟩ hK
    have c0 : W1.cell? ⟨w.heap.size, 0, none⟩ = some v := hv.row.cell 0
    have HV := Lib.hid hv
    have HK := Lib.hid hK
    clear hv hK
    have HD := Lib.hid hD
    clear hD
    dsimp only
    simp only [Exit.inBlock]
    gi_wp2_with fail
    refine leaves_marks (B := D) (fun X => X.ownsRow w.heap.size 48 2 v n (flatP (trc n A (cmOf A [g0, g1, g2, g3]))) ∧ Below w.heap.size w X)
      ((lasts_owns _ _ _ _ _ _ _).and (lasts_below _ _ _ (by have := HD.out; rw [HZ.out] at this; omega) (Nat.le_refl _))) ?_ [{ target := .collected D, args := #[] }] _ ⟨[D], rfl, by simp, fun E hE => by rw [List.mem_singleton.1 hE]; exact ⟨Nat.le_refl _, HK.out⟩⟩ ⟨?_, HV.out.bw⟩
    · rintro X ⟨ho, hb⟩
      refine ⟨v, ?_, v, rfl, ho, hb⟩
      simp [results, Try.results75, go_sem]
    · have h := HV.out.own
      rw [trc_len] at h
      exact owns_mono h (Nat.le_succ _)
  case stop =>
    rintro D c pre W1 hD _ hf
    exact hf.elim
  · rintro x a' s W1 W2 row ⟨q, rfl, hq, h⟩ hg hr
    exact ⟨q, rfl, hq, lasts_row _ _ _ _ W1 W2 row h hg hr⟩
end Go.Proofs.Ytlamppplnojpbaa
