import Derived.Test.YtlemipnplgbckaaBP
import Derived.Laws.AppendOwn
import Derived.ChangeKeysEq
import Derived.Maps.RangeWalk
import Derived.Maps.OwnIn
import Derived.Maps.AppendAt
import Derived.RangeFuncNested
import Derived.RangeFuncBound
import Derived.RangeFuncCalls
import Derived.RangeFuncLeaves
import Derived.Shelf.Abstract
import Derived.Shelf.RegionOpen
import Derived.WalkKit
import Derived.WalkMore
import Derived.OwnWalkIn
import Derived.TacticsInMore
import Derived.LoopNIn
import Derived.LoopIn
import Derived.WalkSpells
import Derived.WalkLawsBesides
import Derived.BigQuiet
import Derived.Deep.QuietTactic
import Derived.Lib.Hide
import Derived.Deep.RegionHeld3
import Derived.StillTailTactics
import Derived.Deep.LoopGhost
import Derived.Maps.OwnSet
import Derived.Lib.IndexAny
import Derived.Sort.QuietThIn
import Derived.Sort.QuietTacIn
import Derived.Sort.BigQuietIn
import Derived.Laws.OwnMore
import Derived.DeepKeys4
import Derived.Maps.Views
import Derived.Maps.OwnOps
import Derived.Laws.OwnMore
import Derived.Deep.DeepCutAuto
import Derived.ChangeKeysEq
namespace Go.Proofs.Ytlemipnplgbckaa
open Go.RowKit Go.Shelf
attribute [local go_sem] Oper.semAt_some
theorem pairs_seq (n b B : Nat) (hn : n ≤ 1000) (hB : B ≤ b) (w : World) (r : Row w b 3 [.int .i64 (n : Int)]) : SeqL 98 #[.pointer (some ⟨b, 0, none⟩)] encP B (prL n) w := fun l J Jx W hW _ _ hY h0 => by
  refine (pairs_in 1 l b n hn J Jx ?_ W (r.below hW r.lt) h0)
  intro i k A hik hr hA
  have h := hY (prB n i k) (i, i + 1 + k) A (by rw [← prB_step]; exact prB_pre n i (k + 1) (by omega) (by omega)) hA
  rw [← prB_step] at h
  refine yield_any (yield_mono h ?_)
  rintro e W' (⟨he, hj, hk, _⟩ | ⟨he, hj, _⟩)
  · exact .inl ⟨he, hj, hk.row hB rfl hr⟩
  · exact .inr ⟨he, hj⟩
theorem box_start (w : World) (E : TypeId) (L : List Value) : Below w.heap.size w (w.alloc (.cells L.toArray E)) ∧ Row (w.alloc (.cells L.toArray E)) w.heap.size E L :=
  ⟨Below.al (Below.refl _ _) (Nat.le_refl _) _, Row.new _ _ _⟩
set_option maxHeartbeats 400000 in
theorem pairs_any (n : Int) (w : World) :
    Calls Try.prog 69 #[.int .i64 n] w fun e w' =>
      e = .returned (.func (.func 98) #[] #[.pointer (some ⟨w.heap.size, 0, none⟩)]) ∧ Below w.heap.size w w' ∧ Row w' w.heap.size 3 [.int .i64 n] := by
  have H := Lib.hid (box_start w 3 [.int .i64 n])
  go_enter Try.func69, Try.ntmps69
  go_wp2_with fail
  go_ret
  exact ⟨rfl, H.out⟩
set_option maxHeartbeats 400000 in
theorem triples_any (n : Int) (w : World) :
    Calls Try.prog 60 #[.int .i64 n] w fun e w' =>
      e = .returned (.func (.func 89) #[] #[.pointer (some ⟨w.heap.size, 0, none⟩)]) ∧ Below w.heap.size w w' ∧ Row w' w.heap.size 3 [.int .i64 n] := by
  have H := Lib.hid (box_start w 3 [.int .i64 n])
  go_enter Try.func60, Try.ntmps60
  go_wp2_with fail
  go_ret
  exact ⟨rfl, H.out⟩
def Marks (B : Nat) (ds : List Deferred) (W : World) : Prop := ∃ Ds : List Nat, ds = Ds.map (fun D => { target := .collected D, args := #[] }) ∧ Ds.Nodup ∧ ∀ D ∈ Ds, B ≤ D ∧ W.heap[D]? = some (.deferred (some []))
theorem marks_nil (B : Nat) (W : World) : Marks B [] W := ⟨[], rfl, List.nodup_nil, fun D h => by cases h⟩
theorem Marks.cons {B D : Nat} {ds : List Deferred} {W W' : World} (h : Marks B ds W) (hs : W.heap.size ≤ D) (hB : B ≤ W.heap.size) (hk : ∀ D', B ≤ D' → W.heap[D']? = some (.deferred (some [])) → W'.heap[D']? = some (.deferred (some []))) (hD : W'.heap[D]? = some (.deferred (some []))) :
    Marks B ({ target := .collected D, args := #[] } :: ds) W' := by
  obtain ⟨Ds, rfl, hn, hm⟩ := h
  refine ⟨D :: Ds, rfl, List.nodup_cons.2 ⟨fun h => ?_, hn⟩, fun E hE => ?_⟩
  · have := (Array.getElem?_eq_some_iff.1 (hm D h).2).1
    omega
  · rcases List.mem_cons.1 hE with rfl | hE
    · exact ⟨Nat.le_trans hB hs, hD⟩
    · exact ⟨(hm E hE).1, hk E (hm E hE).1 (hm E hE).2⟩
theorem Marks.keeps {B : Nat} {ds : List Deferred} {W W' : World} (h : Marks B ds W) (hk : ∀ D', B ≤ D' → W.heap[D']? = some (.deferred (some [])) → W'.heap[D']? = some (.deferred (some []))) : Marks B ds W' := by
  obtain ⟨Ds, rfl, hn, hm⟩ := h
  exact ⟨Ds, rfl, hn, fun E hE => ⟨(hm E hE).1, hk E (hm E hE).1 (hm E hE).2⟩⟩
theorem Marks.below {B : Nat} {ds : List Deferred} {W W' : World} (h : Marks B ds W) (hb : Below W.heap.size W W') : Marks B ds W' :=
  h.keeps fun D _ hD => by rw [hb.block D (Array.getElem?_eq_some_iff.1 hD).1]; exact hD
/-- a function leaves by its marks -/
theorem leaves_marks {F : Fence} {n : Nat} {P : Program} {fn : Func} {tmps : Array Value} {R : Ending → World → Prop} {B : Nat} (I : World → Prop) (hI : Lasts B I)
    (hend : ∀ W, I W → LeavesIn F n P fn tmps R [] .returning W) : ∀ (ds : List Deferred) (W : World), Marks B ds W → I W → LeavesInM F n P fn tmps R ds .returning W := by
  rintro ds W ⟨Ds, rfl, hn, hm⟩ hi
  induction Ds generalizing W with
  | nil => exact hend W hi
  | cons D Ds ih =>
    obtain ⟨hnot, hn⟩ := List.nodup_cons.1 hn
    obtain ⟨hB, hD⟩ := hm D List.mem_cons_self
    refine ⟨by simp, .inl ⟨D, _, rfl, run_takeDeferred hD, ?_⟩⟩
    refine ih _ hn (fun E hE => ⟨(hm E (List.mem_cons_of_mem _ hE)).1, ?_⟩) (hI.put _ hi hB hD rfl)
    have hne : E ≠ D := fun e => hnot (by rw [← e]; exact hE)
    rw [World.putObj_heap_other (by first | exact hne | exact hne.symm)]
    exact (hm E (List.mem_cons_of_mem _ hE)).2
def encT (t : Nat × Nat × Nat) : Value := .agg #[.int .i64 (t.1 : Int), .int .i64 (t.2.1 : Int), .int .i64 (t.2.2 : Int)]
def rowT (p : Nat × Nat) (k : Nat) : List (Nat × Nat × Nat) := (List.range k).map (fun j : Nat => (p.1, p.2, p.2 + 1 + j))
/-- all triples over some pairs -/
def trF (n : Nat) (ps : List (Nat × Nat)) : List (Nat × Nat × Nat) := ps.flatMap (fun p => rowT p (n - (p.2 + 1)))
def trB (n : Nat) (ps : List (Nat × Nat)) (x : Nat × Nat) (k : Nat) : List (Nat × Nat × Nat) := trF n ps ++ rowT x k
/-- all triples i < j < k below n, rising -/
def trL (n : Nat) : List (Nat × Nat × Nat) := trF n (prL n)
theorem trB_0 (n : Nat) (ps : List (Nat × Nat)) (x : Nat × Nat) : trB n ps x 0 = trF n ps := by simp [trB, rowT]
theorem trB_end (n : Nat) (ps : List (Nat × Nat)) (x : Nat × Nat) (k : Nat) (hk : k = n - (x.2 + 1)) : trB n ps x k = trF n (ps ++ [x]) := by
  subst hk; simp [trB, trF]
theorem trB_step (n : Nat) (ps : List (Nat × Nat)) (x : Nat × Nat) (k : Nat) : trB n ps x (k + 1) = trB n ps x k ++ [(x.1, x.2, x.2 + 1 + k)] := by
  unfold trB rowT
  rw [List.range_succ, List.map_append, List.append_assoc]
  rfl
theorem trF_pre {n : Nat} {ps qs : List (Nat × Nat)} (h : ps <+: qs) : trF n ps <+: trF n qs := by
  obtain ⟨t, rfl⟩ := h
  unfold trF
  rw [List.flatMap_append]
  exact List.prefix_append _ _
theorem trB_pre (n : Nat) (ps : List (Nat × Nat)) (x : Nat × Nat) (k : Nat) (h : ps ++ [x] <+: prL n) (hk : k ≤ n - (x.2 + 1)) : trB n ps x k <+: trL n := by
  refine List.IsPrefix.trans ?_ (trF_pre h)
  obtain ⟨d, hd⟩ : ∃ d, n - (x.2 + 1) = k + d := ⟨n - (x.2 + 1) - k, by omega⟩
  unfold trB trF rowT
  rw [List.flatMap_append, List.flatMap_cons, List.flatMap_nil, List.append_nil, hd, List.range_add, List.map_append, ← List.append_assoc]
  exact List.prefix_append _ _
theorem mem_trL {n : Nat} {t : Nat × Nat × Nat} : t ∈ trL n ↔ t.1 < t.2.1 ∧ t.2.1 < t.2.2 ∧ t.2.2 < n := by
  unfold trL trF rowT
  simp only [List.mem_flatMap, List.mem_map, List.mem_range, mem_prL]
  constructor
  · rintro ⟨p, hp, j, hj, rfl⟩
    dsimp only; omega
  · rintro ⟨h1, h2, h3⟩
    exact ⟨(t.1, t.2.1), ⟨h1, by dsimp only; omega⟩, t.2.2 - t.2.1 - 1, by dsimp only; omega, Prod.ext rfl (Prod.ext rfl (by dsimp only; omega))⟩
theorem lasts_up {B B' : Nat} {X : World → Prop} (h : Lasts B X) (hB : B ≤ B') : Lasts B' X := fun W W' row hi hg hr => h W W' row hi hg (fun r e => ⟨by have := (hr r e).1; omega, (hr r e).2⟩)
theorem mark1 {B D : Nat} {W : World} (hD : W.heap[D]? = some (.deferred (some []))) (hB : B ≤ D) : Marks B [{ target := .collected D, args := #[] }] W :=
  ⟨[D], rfl, by simp, fun E hE => by rw [List.mem_singleton] at hE; subst hE; exact ⟨hB, hD⟩⟩
set_option maxRecDepth 100000 in
set_option maxHeartbeats 1000000 in
/-- **the triples come one after the other** -/
theorem triples_seq (n bt B : Nat) (hn : n ≤ 1000) (hB : B ≤ bt) (w : World) (r : Row w bt 3 [.int .i64 (n : Int)]) : SeqL 89 #[.pointer (some ⟨bt, 0, none⟩)] encT B (trL n) w := fun l J Jx W hW hJ hJx hY h0 => by
  have hbw := r.lt
  have rW := r.below hW hbw
  have hsW := hW.size
  have HY := Lib.hid hY
  have HJJ := Lib.hid (And.intro hJ hJx)
  clear hY hJ hJx
  refine callsIn_of_wp_marks (F := Fence.wide) (n := 1) Try.func89 rfl trivial ?_ rfl
  simp only [Try.ntmps89, List.size_toArray, List.length_cons, List.length_nil, Nat.reduceAdd, Nat.reduceSub, Array.replicate_succ, Array.replicate_zero, List.push_toArray, List.append_toArray, List.nil_append, List.cons_append]
  obtain ⟨ba, ry⟩ := box_start W 116 [.func (.yield l) #[] #[]]
  have HC := Lib.hid (pairs_any (n : Int) (W.alloc (.cells [.func (.yield l) #[] #[]].toArray 116)))
  have rb := rW.below ba rW.lt
  have c0 := rb.cell 0
  simp only [List.getElem?_cons_zero] at c0
  have hs1 := size_al W (.cells [.func (.yield l) #[] #[]].toArray 116)
  have FX := Lib.hid (And.intro ba (And.intro ry (And.intro rb hs1)))
  have H0 := Lib.hid h0
  have HB := Lib.hid (And.intro hbw hsW)
  clear ba ry rb hs1 h0 rW r hW hbw hsW
  gi_wp2_with fail
  refine ⟨trivial, (callsIn_wide.2 HC.out).mono ?_⟩
  rintro e w2 ⟨rfl, hb, rp⟩
  obtain ⟨ba, ry, rb, hs1⟩ := FX.out
  have ry2 := ry.below hb ry.lt
  have rb2 := rb.below hb rb.lt
  have hl2 := hb.size
  have bw2 : Below W.heap.size W w2 := Below.andThen ba hb (by omega)
  have h02 := (HJJ.out.1 []).grow H0.out bw2
  have rpl := rp.lt
  rw [hs1] at rp rpl
  have SL := Lib.hid (pairs_seq n (W.heap.size + 1) B hn (by have := HB.out; omega) w2 rp)
  have KK := Lib.hid (And.intro ry2 (And.intro rb2 (And.intro bw2 h02)))
  rw [hs1]
  clear ba ry rb hs1 ry2 rb2 hl2 bw2 h02 rpl rp hb HC FX c0 H0
  gi_wp2_with fail
  refine range_list SL.out rfl (enters_of Try.func98 (by kernel_rfl) rfl)
    (fun pre V => Row V W.heap.size 116 [.func (.yield l) #[] #[]] ∧ Row V bt 3 [.int .i64 (n : Int)] ∧ J (trF n pre) V)
    (fun c _ V => c = .ret ∧ ∃ t, t <+: trL n ∧ Jx t V) ?hI ?hIx ?h0
    (fun x a' V => ∃ b, a' = { tmps := #[.func (.yield l) #[] #[], .pointer (some ⟨bt, 0, none⟩), .pointer (some ⟨W.heap.size, 0, none⟩), .pointer (some ⟨b, 0, none⟩), undef, .int .i64 (n : Int), .func (.func 98) #[] #[.pointer (some ⟨W.heap.size + 1, 0, none⟩)], encP x, undef, undef, undef, undef, undef, undef, undef, undef, undef, undef, undef, undef, undef, undef, undef, undef, undef], defers := [] } ∧ W.heap.size ≤ b ∧ Row V b 28 [.int .i64 (x.1 : Int), .int .i64 (x.2 : Int)])
    ?hR ?assign ?body ?done ?stop
  case hI => exact fun s => (lasts_row _ _ _ _).and ((lasts_row _ _ _ _).and (lasts_up (HJJ.out.1 _) KK.out.2.2.1.size))
  case hIx =>
    rintro c s V V' row ⟨hc, t, ht, hx⟩ hg hr
    exact ⟨hc, t, ht, lasts_up (HJJ.out.2 _) KK.out.2.2.1.size V V' row hx hg hr⟩
  case h0 => exact ⟨KK.out.1, KK.out.2.1, KK.out.2.2.2⟩
  case hR =>
    rintro x a' V V' row ⟨b, h1, h2, h3⟩ hg hr
    exact ⟨b, h1, h2, lasts_row _ _ _ _ V V' row h3 hg hr⟩
  case assign =>
    intro l2 x V K hs hK
    have hk := hK _ _ ⟨_, rfl, by have := KK.out.2.2.1.size; omega, Row.new V 28 [.int .i64 (x.1 : Int), .int .i64 (x.2 : Int)]⟩ ((Below.refl V.heap.size V).alloc (Nat.le_refl _) _)
    have HKk := Lib.hid hk
    clear hk hK
    dsimp only [encP]
    simp only [List.setIfInBounds_toArray, List.set_cons_succ, List.set_cons_zero]
    gi_wp2
    exact HKk.out
  case done =>
    rintro D V hD ⟨h1, h2, h3⟩ hK
    have h3' := Lib.hid h3
    have hK' := Lib.hid (mark1 hK (show W.heap.size ≤ D from Nat.le_trans KK.out.2.2.1.size hD))
    clear h1 h2 h3 hK
    gi_wp2_with fail
    refine leaves_marks (B := W.heap.size) (fun X => J (trL n) X) (HJJ.out.1 _) ?_ _ _ hK'.out h3'.out
    intro X hX
    exact ⟨_, results_none rfl _ _ _, ⟨_, rfl⟩, .inl hX⟩
  case stop =>
    rintro D c pre V hD hpre ⟨rfl, t, ht, hx⟩ hK
    have h3' := Lib.hid hx
    have hK' := Lib.hid (mark1 hK (show W.heap.size ≤ D from Nat.le_trans KK.out.2.2.1.size hD))
    clear hx hK
    gi_wp2_with fail
    refine leaves_marks (B := W.heap.size) (fun X => Jx t X) (HJJ.out.2 _) ?_ _ _ hK'.out h3'.out
    intro X hX
    exact ⟨_, results_none rfl _ _ _, ⟨_, rfl⟩, .inr ⟨t, ht, hX⟩⟩
  case body =>
    rintro l2 x pre a' V hpre hs ⟨h1, h2, h3⟩ ⟨b, rfl, hb, hr⟩
    have hx := mem_prL.1 (hpre.subset (by simp : x ∈ pre ++ [x]))
    obtain ⟨x1, x2⟩ := x
    dsimp only at hx hr
    have hs0 := KK.out.2.2.1.size
    have c0 := hr.cell 1
    simp only [List.getElem?_cons_zero, List.getElem?_cons_succ] at c0
    have cw : IntKind.i64.wrap ((x2 : Int) + 1) = ((x2 + 1 : Nat) : Int) := by rw [i64_of _ (by omega) (by omega)]; omega
    have hV := hr.lt
    have HR := Lib.hid (And.intro h1 (And.intro h2 (And.intro h3 hr)))
    have HZ := Lib.hid (And.intro hs (And.intro hb (And.intro hs0 HB.out)))
    clear h1 h2 h3 hr hs hb hs0 SL KK
    gi_wp2_with fail
    clear c0
    gi_loopw [4] (fun tv wx => ∃ k : Nat, x2 + 1 + k ≤ n ∧ tv = .int .i64 ((x2 + 1 + k : Nat) : Int) ∧ Hid (J (trB n pre (x1, x2) k) wx) ∧ Hid (KeepsFrom W.heap.size V wx ∧ KeepsI B V wx)) (fun tv _ => ((n : Int) - intOf tv).toNat)
    case atStart => exact ⟨0, by omega, rfl, Lib.hid (by rw [trB_0]; exact HR.out.2.2.1), Lib.hid ⟨KeepsFrom.refl _ _, KeepsI.refl _ _⟩⟩
    case round =>
      obtain ⟨k, hk, rfl, HJ, HW⟩ := hrel
      have z := HZ.out
      have ry := HW.out.2.row (b := W.heap.size) (by omega) rfl HR.out.1
      have rb := HW.out.2.row hB rfl HR.out.2.1
      have rp := HW.out.2.row (b := b) (by omega) rfl HR.out.2.2.2
      clear z
      have yc := ry.cell 0
      have nc := rb.cell 0
      have p0 := rp.cell 0
      have p1 := rp.cell 1
      simp only [List.getElem?_cons_zero, List.getElem?_cons_succ] at yc nc p0 p1
      clear ry rb rp cw
      generalize hj : x2 + 1 + k = j at *
      have hj2 := Lib.hid hj
      clear hj
      have jw : IntKind.i64.wrap ((j : Int) + 1) = ((j + 1 : Nat) : Int) := by rw [i64_of _ (by omega) (by omega)]; omega
      by_cases hlt2 : j < n
      · have hd2 : decide ((j : Int) < (n : Int)) = true := decide_eq_true (by omega)
        obtain ⟨fn, tmps, assign, body, hyy, hR⟩ := yield_any (m' := 0) (HY.out (trB n pre (x1, x2) k) (x1, x2, j) wr (by
          have h := trB_pre n pre (x1, x2) (k + 1) hpre (by have := hj2.out; dsimp only; omega)
          rw [trB_step] at h
          dsimp only at h
          rwa [hj2.out] at h) HJ.out)
        simp only [encT] at hyy
        have hR2 := hR.mono (R' := fun e W' => ∃ bb, e = .returned (.bool bb) ∧ Hid ((bb = true ∧ J (trB n pre (x1, x2) (k + 1)) W' ∧ KeepsI B wr W' ∧ KeepsFrom W.heap.size wr W') ∨ (bb = false ∧ Jx (trB n pre (x1, x2) (k + 1)) W' ∧ KeepsFrom W.heap.size wr W'))) (by
          have e1 : trB n pre (x1, x2) (k + 1) = trB n pre (x1, x2) k ++ [(x1, x2, j)] := by rw [trB_step, ← hj2.out]
          rw [e1]
          rintro e W' (⟨rfl, h⟩ | ⟨rfl, h⟩)
          · exact ⟨true, rfl, Lib.hid (.inl ⟨rfl, h⟩)⟩
          · exact ⟨false, rfl, Lib.hid (.inr ⟨rfl, h⟩)⟩)
        have HRR := Lib.hid (show RoundIn (Fence.wide.inRound l2) 0 Try.prog l fn tmps assign body wr _ from hR2)
        clear hR hR2 HJ
        gi_wp2_with fail
        refine RoundIn.mono (F := Fence.wide.inRound l2) (n := 0) HRR.out ?_
        rintro e W3 ⟨bb, rfl, hp⟩
        cases bb
        · have HX := Lib.hid (show Jx (trB n pre (x1, x2) (k + 1)) W3 ∧ KeepsFrom W.heap.size wr W3 by
            rcases hp.out with ⟨h, _⟩ | ⟨_, h⟩
            · cases h
            · exact h)
          clear hp hyy HRR
          gi_wp2_with fail
          exact ⟨kf_less (HW.out.1.trans HX.out.2) HZ.out.2.2.1, rfl, _, trB_pre n pre (x1, x2) (k + 1) hpre (by have := hj2.out; dsimp only; omega), HX.out.1⟩
        · have HX := Lib.hid (show J (trB n pre (x1, x2) (k + 1)) W3 ∧ KeepsI B wr W3 ∧ KeepsFrom W.heap.size wr W3 by
            rcases hp.out with ⟨_, h⟩ | ⟨h, _⟩
            · exact h
            · cases h)
          clear hp hyy HRR
          gi_wp2_with fail
          go_roundw
          case rel => exact ⟨k + 1, by have := hj2.out; omega, by have := hj2.out; subst this; rfl, Lib.hid HX.out.1, Lib.hid ⟨HW.out.1.trans HX.out.2.2, HW.out.2.trans HX.out.2.1⟩⟩
          case measure => simp [intOf]; omega
      · have hd2 : decide ((j : Int) < (n : Int)) = false := decide_eq_false (by omega)
        have HJ2 := Lib.hid (show J (trF n (pre ++ [(x1, x2)])) wr by
          have h := HJ.out
          rwa [trB_end n pre (x1, x2) k (by have := hj2.out; dsimp only; omega)] at h)
        clear HJ
        gi_wp2_with fail
        have z := HZ.out
        exact ⟨kf_less HW.out.1 z.2.2.1, HW.out.2, HW.out.2.row (b := W.heap.size) (by omega) rfl HR.out.1, HW.out.2.row hB rfl HR.out.2.1, HJ2.out⟩
end Go.Proofs.Ytlemipnplgbckaa
