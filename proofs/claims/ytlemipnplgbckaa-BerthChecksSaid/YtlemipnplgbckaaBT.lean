import Derived.Test.YtlemipnplgbckaaBS
import Derived.Test.YtlemipnplgbckaaBU
import Derived.Test.YtlemipnplgbckaaBY
import Derived.Laws.AppendOwn
import Derived.ChangeKeysEq
import Derived.Maps.RangeWalk
import Derived.Maps.OwnIn
import Derived.Maps.AppendAt
import Derived.RangeFuncNested
import Derived.RangeFuncBound
import Derived.RangeFuncCalls
import Derived.RangeFuncLeaves
import Derived.Shelf.Abstract
import Derived.Shelf.RegionOpen
import Derived.WalkKit
import Derived.WalkMore
import Derived.OwnWalkIn
import Derived.TacticsInMore
import Derived.LoopNIn
import Derived.LoopIn
import Derived.WalkSpells
import Derived.WalkLawsBesides
import Derived.BigQuiet
import Derived.Deep.QuietTactic
import Derived.Lib.Hide
import Derived.Deep.RegionHeld3
import Derived.StillTailTactics
import Derived.Deep.LoopGhost
import Derived.Maps.OwnSet
import Derived.Lib.IndexAny
import Derived.Sort.QuietThIn
import Derived.Sort.QuietTacIn
import Derived.Sort.BigQuietIn
import Derived.Laws.OwnMore
import Derived.DeepKeys4
import Derived.Maps.Views
import Derived.Maps.OwnOps
import Derived.Laws.OwnMore
import Derived.Deep.DeepCutAuto
import Derived.ChangeKeysEq
namespace Go.Proofs.Ytlemipnplgbckaa
open Go.RowKit Go.Shelf
attribute [local go_sem] Oper.semAt_some
/-- a new slice of one circle -/
def OneC (c : Cir) : Value → World → Prop := fun v W => ∃ g, v = .slice (some ⟨g, 0, none⟩) 1 1 ∧ Row W g 30 [.int .i64 c.X, .int .i64 c.Y, .int .i64 c.D, .int .i64 c.R]
theorem OneC.stab (c : Cir) : ∀ (v : Value) (W W' : World), OneC c v W → Below W.heap.size W W' → OneC c v W' := fun _ _ _ ⟨g, h1, h2⟩ hb => ⟨g, h1, h2.below hb h2.lt⟩
theorem trF_len (n : Nat) : ∀ ps : List (Nat × Nat), (trF n ps).length ≤ ps.length * n
  | [] => by simp [trF]
  | p :: ps => by
    have ih := trF_len n ps
    simp only [trF, List.flatMap_cons, List.length_append, rowT, List.length_map, List.length_range, List.length_cons] at ih ⊢
    rw [Nat.add_mul, Nat.one_mul]; omega
theorem trL_len (n : Nat) (hn : n ≤ 12) : (trL n).length ≤ 1728 := by
  have h1 := trF_len n (prL n)
  have h2 := prL_len n
  have h3 : (prL n).length * n ≤ (n * n) * n := Nat.mul_le_mul_right n h2
  have h4 : (n * n) * n ≤ (12 * 12) * 12 := Nat.mul_le_mul (Nat.mul_le_mul hn hn) hn
  unfold trL
  omega
def rndC (x y d : Int) (p : Pt) : Cir := ⟨rX x y d, rY x y d, rD x y d, apF (rX x y d) (rY x y d) (rD x y d) p⟩
/-- the circle over two points -/
def ovC (a b : Pt) : Cir := rndC (a.1 + b.1) (a.2 + b.2) 2 a
/-- the circle through three points -/
def thC (a b c : Pt) : Cir := rndC (thD a b c * a.1 + thX a b c) (thD a b c * a.2 + thY a b c) (thD a b c) a
def ovR (ps : List Pt) (i k : Nat) : List Cir := (List.range k).map (fun j : Nat => ovC (ptAt ps i) (ptAt ps (i + j)))
def ovB (ps : List Pt) (i k : Nat) : List Cir := ((List.range i).flatMap (fun a : Nat => ovR ps a (ps.length - a))) ++ ovR ps i k
def thT (ps : List Pt) (t : Nat × Nat × Nat) : List Cir := if thD (ptAt ps t.1) (ptAt ps t.2.1) (ptAt ps t.2.2) = 0 then [] else [thC (ptAt ps t.1) (ptAt ps t.2.1) (ptAt ps t.2.2)]
/-- the circles over two points and through three -/
def circL (ps : List Pt) : List Cir := ovB ps ps.length 0 ++ (trL ps.length).flatMap (thT ps)
theorem ovB_0 (ps : List Pt) : ovB ps 0 0 = [] := by simp [ovB, ovR]
theorem ovB_step (ps : List Pt) (i k : Nat) : ovB ps i (k + 1) = ovB ps i k ++ [ovC (ptAt ps i) (ptAt ps (i + k))] := by
  unfold ovB ovR
  rw [List.range_succ, List.map_append, List.append_assoc]
  rfl
theorem ovB_next (ps : List Pt) (i : Nat) : ovB ps (i + 1) 0 = ovB ps i (ps.length - i) := by
  unfold ovB
  rw [List.range_succ, List.flatMap_append]
  simp [ovR]
theorem flatO_len (ps : List Pt) : ∀ i : Nat, ((List.range i).flatMap (fun a : Nat => ovR ps a (ps.length - a))).length ≤ i * ps.length
  | 0 => by simp
  | i + 1 => by
    have ih := flatO_len ps i
    rw [List.range_succ, List.flatMap_append, List.length_append]
    simp only [List.flatMap_cons, List.flatMap_nil, List.append_nil, ovR, List.length_map, List.length_range] at ih ⊢
    rw [Nat.add_mul, Nat.one_mul]; omega
theorem ovB_len (ps : List Pt) (i k : Nat) : (ovB ps i k).length ≤ i * ps.length + k := by
  unfold ovB
  have h := flatO_len ps i
  rw [List.length_append]
  simp only [ovR, List.length_map, List.length_range] at h ⊢
  omega
theorem thT_len (ps : List Pt) : ∀ ts : List (Nat × Nat × Nat), (ts.flatMap (thT ps)).length ≤ ts.length
  | [] => by simp
  | t :: ts => by
    have ih := thT_len ps ts
    have h1 : (thT ps t).length ≤ 1 := by unfold thT; split <;> simp
    rw [List.flatMap_cons, List.length_append, List.length_cons]; omega
theorem circ_start (w : World) (v : Value) : Below w.heap.size w ((w.alloc (.cells [v].toArray 22)).alloc (.cells [.slice none 0 0].toArray 78)) ∧ Row ((w.alloc (.cells [v].toArray 22)).alloc (.cells [.slice none 0 0].toArray 78)) w.heap.size 22 [v] ∧
    ListC w (w.heap.size + 1) [] (.slice none 0 0) ((w.alloc (.cells [v].toArray 22)).alloc (.cells [.slice none 0 0].toArray 78)) := by
  obtain ⟨b1, r1⟩ := box_start w 22 [v]
  have s1 := size_al w (.cells [v].toArray 22)
  generalize w.alloc (.cells [v].toArray 22) = w1 at *
  obtain ⟨b2, r2⟩ := box_start w1 78 [.slice none 0 0]
  have b := Below.andThen b1 b2 (Nat.le_refl _)
  refine ⟨b, r1.below b2 r1.lt, ⟨by rw [← s1]; exact r2, ⟨by simp [flatC], .inl ⟨rfl, rfl⟩⟩, b, by omega⟩⟩
set_option maxRecDepth 100000 in
set_option maxHeartbeats 1000000 in
theorem circles_any (ps : List Pt) (v : Value) (w : World) (hv : SlP w v ps) (hl : ps.length ≤ 12) (hps : ∀ p ∈ ps, Bd 20 p.1 ∧ Bd 20 p.2) :
    Calls Try.prog 87 #[v] w fun e w' => ∃ s, e = .returned s ∧ w'.ownsRow w.heap.size 30 4 s (circL ps).length (flatC (circL ps)) ∧ Below w.heap.size w w' := by
  have ST := Lib.hid (circ_start w v)
  obtain ⟨n, hn⟩ : ∃ n, ps.length = n := ⟨_, rfl⟩
  obtain ⟨a, c, rfl, hcap, hpt⟩ := hv
  rw [hn] at hcap hl
  rw [hn] at ST
  have HPT := Lib.hid hpt
  have HN := Lib.hid hn
  have r0 := ST.out.2.1
  have c0 := r0.cell 0
  simp only [List.getElem?_cons_zero] at c0
  clear r0 hpt hn
  rw [HN.out]
  refine callsIn_wide.1 (callsIn_of_wp_marks (F := Fence.wide) (n := 4) Try.func87 rfl trivial ?_ rfl)
  simp only [Try.ntmps87, List.size_toArray, List.length_cons, List.length_nil, Nat.reduceAdd, Nat.reduceSub, Array.replicate_succ, Array.replicate_zero, List.push_toArray, List.append_toArray, List.nil_append, List.cons_append]
  gi_wp2_with fail
  clear c0
  gi_loopw [13] (fun fv wr => ∃ i : Nat, i ≤ n ∧ fv = .int .i64 (i : Int) ∧ Hid (Row wr w.heap.size 22 [.slice a n c]) ∧ Hid (∃ lv, ListC w (w.heap.size + 1) (ovB ps i 0) lv wr)) (fun fv _ => ((n : Int) - intOf fv).toNat)
  case atStart => exact ⟨0, Nat.zero_le _, rfl, Lib.hid ST.out.2.1, Lib.hid ⟨_, by rw [ovB_0]; exact ST.out.2.2⟩⟩
  case round =>
    clear ST
    obtain ⟨i, hi, rfl, HR, HL⟩ := hrel
    obtain ⟨lv, hL⟩ := HL.out
    clear HL
    have HL := Lib.hid hL
    clear hL
    have iw : IntKind.i64.wrap ((i : Int) + 1) = ((i + 1 : Nat) : Int) := by rw [i64_of _ (by omega) (by omega)]; omega
    by_cases hlt : i < n
    · have hd : decide ((i : Int) < (n : Int)) = true := decide_eq_true (by omega)
      obtain ⟨g, o, rfl, hpa⟩ : ∃ g o, a = some ⟨g, o, none⟩ ∧ PtsAt w g o ps := by
        rcases HPT.out with h | h
        · have h2 := HN.out; subst h; simp at h2; omega
        · exact h
      have hin : i < ps.length := by rw [HN.out]; exact hlt
      have hpa2 := hpa.grow HL.out.bw
      have x0 := hpa2.x i hin
      have y0 := hpa2.y i hin
      have c0 := HR.out.cell 0
      simp only [List.getElem?_cons_zero] at c0
      have HPA := Lib.hid hpa
      have hbd := hps _ (List.getElem_mem hin)
      have HBD := Lib.hid hbd
      have HIP := Lib.hid (ptAt_lt hin)
      generalize ps[i] = p at *
      obtain ⟨p1, p2⟩ := p
      dsimp only at x0 y0
      obtain ⟨ba, rp⟩ := box_start wr 28 [.int .i64 p1, .int .i64 p2]
      have rb := HR.out.below ba HR.out.lt
      have lb := HL.out.below ba
      have c1 := rb.cell 0
      simp only [List.getElem?_cons_zero] at c1
      have FA := Lib.hid (And.intro rp (And.intro rb lb))
      have hic : (i : Int) ≤ (c : Int) := by omega
      have hin2 : (i : Int) ≤ (n : Int) := by omega
      clear hpa hpa2 hbd hin HPT rp rb lb ba
      gi_wp2_with fail
      clear c1 c0 x0 y0 hd hic hin2 iw
      obtain ⟨m, hm⟩ : ∃ m, n - i = m := ⟨_, rfl⟩
      rw [hm]
      have HM := Lib.hid (show m + i = n by omega)
      clear hm
      generalize wr.heap.size = bp at *
      gi_loopw [22] (fun tv wx => ∃ k : Nat, k ≤ m ∧ tv = .int .i64 (k : Int) ∧ Hid (Row wx bp 28 [.int .i64 p1, .int .i64 p2]) ∧ Hid (Row wx w.heap.size 22 [.slice (some ⟨g, o, none⟩) n c]) ∧ Hid (∃ lv, ListC w (w.heap.size + 1) (ovB ps i k) lv wx)) (fun tv _ => ((m : Int) - intOf tv).toNat)
      case atStart => exact ⟨0, Nat.zero_le _, rfl, Lib.hid FA.out.1, Lib.hid FA.out.2.1, Lib.hid ⟨_, FA.out.2.2⟩⟩
      case round =>
        clear FA HR HL
        obtain ⟨k, hk, rfl, HP, HR, HL⟩ := hrel
        obtain ⟨lv2, hL⟩ := HL.out
        clear HL
        have HL := Lib.hid hL
        clear hL
        by_cases hlt2 : k < m
        · have hd : decide ((k : Int) < (m : Int)) = true := decide_eq_true (by omega)
          have hin : i + k < ps.length := by rw [HN.out]; have := HM.out; omega
          have hpa2 := HPA.out.grow HL.out.bw
          have x0 := hpa2.x (i + k) hin
          have y0 := hpa2.y (i + k) hin
          rw [show o + (i + k) * 2 = o + i * 2 + k * 2 by omega] at x0 y0
          have HBQ := Lib.hid (hps _ (List.getElem_mem hin))
          have HIQ := Lib.hid (ptAt_lt hin)
          generalize ps[i + k] = q at *
          obtain ⟨q1, q2⟩ := q
          dsimp only at x0 y0
          obtain ⟨ba, rq⟩ := box_start wr 28 [.int .i64 q1, .int .i64 q2]
          have FA := Lib.hid (And.intro rq (And.intro (HP.out.below ba HP.out.lt) (And.intro (HR.out.below ba HR.out.lt) (HL.out.below ba))))
          clear hpa2 hin rq ba
          gi_wp2_with fail
          clear x0 y0 hd
          have hov := fun (W : World) => over_any p1 p2 q1 q2 W HBD.out.1 HBD.out.2 HBQ.out.1 HBQ.out.2
          have hcs : ovB ps i (k + 1) = ovB ps i k ++ [ovC (p1, p2) (q1, q2)] := by rw [ovB_step, HIP.out, HIQ.out]
          rw [show rndV (p1 + q1) (p2 + q2) 2 (p1, p2) = .agg #[.int .i64 (ovC (p1, p2) (q1, q2)).X, .int .i64 (ovC (p1, p2) (q1, q2)).Y, .int .i64 (ovC (p1, p2) (q1, q2)).D, .int .i64 (ovC (p1, p2) (q1, q2)).R] from rfl] at hov
          generalize ovC (p1, p2) (q1, q2) = C at *
          have HOV := Lib.hid hov
          have HCS := Lib.hid hcs
          clear hov hcs
          have hLs := wr.heap.size
          generalize wr.alloc (.cells #[.int .i64 q1, .int .i64 q2] 28) = W0 at *
          generalize wr.heap.size = bq at *
          refine wpIn_region_relcut 5 (by kernel_rfl) (by kernel_rfl) [26, 27, 28, 29, 30] [LitR lv2, LitR (.agg #[.int .i64 p1, .int .i64 p2]), LitR (.agg #[.int .i64 q1, .int .i64 q2]), LitR (.agg #[.int .i64 C.X, .int .i64 C.Y, .int .i64 C.D, .int .i64 C.R]), OneC C]
            (List.forall_mem_cons.2 ⟨LitR.stab _, List.forall_mem_cons.2 ⟨LitR.stab _, List.forall_mem_cons.2 ⟨LitR.stab _, List.forall_mem_cons.2 ⟨LitR.stab _, List.forall_mem_cons.2 ⟨OneC.stab _, (fun _ h => nomatch h)⟩⟩⟩⟩⟩)
            ⟨[u26, u27, u28, u29, u30], by simp only [putAll, Act.put, List.setIfInBounds_toArray, List.set_cons_succ, List.set_cons_zero], rfl⟩ ?steps ?fin
          case steps =>
            intro Q'
            simp only [relStepsIn, List.take_succ_cons, List.take_zero]
            refine ⟨?_, ?_, ?_, ?_, ?_, trivial⟩
            · rintro vs W K hc hvl hw hK
              obtain ⟨x0, x1, x2, x3, x4, rfl⟩ := len5 hvl
              have HK := Lib.hid hK
              have HC := Lib.hid hc
              have HW := Lib.hid hw
              clear hK hc hw hvl
              have rr := (FA.out.2.2.2.below HC.out).row
              have d0 := rr.cell 0
              simp only [List.getElem?_cons_zero] at d0
              clear rr
              clear HW
              simp only [putAll, Act.put, List.setIfInBounds_toArray, List.set_cons_succ, List.set_cons_zero]
              gi_wp2_with fail
              have fin := HK.out (lv2) W (Below.refl _ _) rfl
              simp only [putAll, Act.put, List.setIfInBounds_toArray, List.set_cons_succ, List.set_cons_zero] at fin
              exact fin
            · rintro vs W K hc hvl hw hK
              obtain ⟨x0, x1, x2, x3, x4, rfl⟩ := len5 hvl
              have HK := Lib.hid hK
              have HC := Lib.hid hc
              have HW := Lib.hid hw
              clear hK hc hw hvl
              have rr := FA.out.2.1.below HC.out FA.out.2.1.lt
              have d0 := rr.cell 0
              have d1 := rr.cell 1
              simp only [List.getElem?_cons_zero, List.getElem?_cons_succ] at d0 d1
              clear rr
              clear HW
              simp only [putAll, Act.put, List.setIfInBounds_toArray, List.set_cons_succ, List.set_cons_zero]
              gi_wp2_with fail
              have fin := HK.out (.agg #[.int .i64 p1, .int .i64 p2]) W (Below.refl _ _) rfl
              simp only [putAll, Act.put, List.setIfInBounds_toArray, List.set_cons_succ, List.set_cons_zero] at fin
              exact fin
            · rintro vs W K hc hvl hw hK
              obtain ⟨x0, x1, x2, x3, x4, rfl⟩ := len5 hvl
              have HK := Lib.hid hK
              have HC := Lib.hid hc
              have HW := Lib.hid hw
              clear hK hc hw hvl
              have rr := FA.out.1.below HC.out FA.out.1.lt
              have d0 := rr.cell 0
              have d1 := rr.cell 1
              simp only [List.getElem?_cons_zero, List.getElem?_cons_succ] at d0 d1
              clear rr
              clear HW
              simp only [putAll, Act.put, List.setIfInBounds_toArray, List.set_cons_succ, List.set_cons_zero]
              gi_wp2_with fail
              have fin := HK.out (.agg #[.int .i64 q1, .int .i64 q2]) W (Below.refl _ _) rfl
              simp only [putAll, Act.put, List.setIfInBounds_toArray, List.set_cons_succ, List.set_cons_zero] at fin
              exact fin
            · rintro vs W K hc hvl hw hK
              obtain ⟨x0, x1, x2, x3, x4, rfl⟩ := len5 hvl
              have HK := Lib.hid hK
              have HC := Lib.hid hc
              have HW := Lib.hid hw
              clear hK hc hw hvl
              obtain rfl : x1 = .agg #[.int .i64 p1, .int .i64 p2] := rel_get (HW.out ⟨1, .data⟩ (by simp) rfl) rfl
              obtain rfl : x2 = .agg #[.int .i64 q1, .int .i64 q2] := rel_get (HW.out ⟨2, .data⟩ (by simp) rfl) rfl
              clear HW
              simp only [putAll, Act.put, List.setIfInBounds_toArray, List.set_cons_succ, List.set_cons_zero]
              gi_wp2_with fail
              refine ⟨trivial, (callsIn_wide.2 (HOV.out W)).mono ?_⟩
              rintro e W' ⟨rfl, hb'⟩
              have HB' := Lib.hid hb'
              clear hb'
              gi_wp2_with fail
              have fin := HK.out (.agg #[.int .i64 C.X, .int .i64 C.Y, .int .i64 C.D, .int .i64 C.R]) W' HB'.out rfl
              simp only [putAll, Act.put, List.setIfInBounds_toArray, List.set_cons_succ, List.set_cons_zero] at fin
              exact fin
            · rintro vs W K hc hvl hw hK
              obtain ⟨x0, x1, x2, x3, x4, rfl⟩ := len5 hvl
              have HK := Lib.hid hK
              have HC := Lib.hid hc
              have HW := Lib.hid hw
              clear hK hc hw hvl
              obtain rfl : x3 = .agg #[.int .i64 C.X, .int .i64 C.Y, .int .i64 C.D, .int .i64 C.R] := rel_get (HW.out ⟨3, .data⟩ (by simp) rfl) rfl
              clear HW
              simp only [putAll, Act.put, List.setIfInBounds_toArray, List.set_cons_succ, List.set_cons_zero]
              gi_wp2_with fail
              have fin := HK.out (.slice (some ⟨W.heap.size, 0, none⟩) 1 1) (W.alloc (.cells #[.int .i64 C.X, .int .i64 C.Y, .int .i64 C.D, .int .i64 C.R] 30)) (Below.al (Below.refl _ _) (Nat.le_refl _) _) ⟨_, rfl, Row.new W 30 [.int .i64 C.X, .int .i64 C.Y, .int .i64 C.D, .int .i64 C.R]⟩
              simp only [putAll, Act.put, List.setIfInBounds_toArray, List.set_cons_succ, List.set_cons_zero] at fin
              exact fin
          case fin =>
            intro vs W hbw hvl hvs
            obtain ⟨x0, x1, x2, x3, x4, rfl⟩ := len5 hvl
            obtain rfl : x0 = _ := rel_get (hvs 0 (by omega)) rfl
            obtain rfl : x1 = _ := rel_get (hvs 1 (by omega)) rfl
            obtain rfl : x2 = _ := rel_get (hvs 2 (by omega)) rfl
            obtain rfl : x3 = _ := rel_get (hvs 3 (by omega)) rfl
            obtain ⟨gq, rfl, rg⟩ := rel_get (x := x4) (hvs 4 (by omega)) rfl
            have hlen := ovB_len ps i k
            rw [HN.out] at hlen
            have hin2 : i * n ≤ 12 * 12 := Nat.mul_le_mul (by omega) (by omega)
            obtain ⟨a2, n2, c2, W2, hap, r2, hL2, hX⟩ := (FA.out.2.2.2.below hbw).add rg (by have := HM.out; omega)
            rw [← HCS.out] at hL2
            have RP := Lib.hid (hX.row rfl (FA.out.2.1.below hbw FA.out.2.1.lt))
            have RR := Lib.hid (hX.row rfl (FA.out.2.2.1.below hbw FA.out.2.2.1.lt))
            have HL2 := Lib.hid hL2
            have HAP := Lib.hid hap
            have d0 := r2.cell 0
            simp only [List.getElem?_cons_zero] at d0
            have d1 : W2.frozen? ⟨w.heap.size + 1, 0, none⟩ = false := by simp [World.frozen?, show W2.heap[w.heap.size + 1]? = _ from r2]
            have jw : IntKind.i64.wrap ((k : Int) + 1) = ((k + 1 : Nat) : Int) := by have := HM.out; rw [i64_of _ (by omega) (by omega)]; omega
            clear hbw hvl hvs rg hlen hin2 r2 hL2 hX hap
            simp only [putAll, Act.put, List.setIfInBounds_toArray, List.set_cons_succ, List.set_cons_zero]
            simp only [List.drop_succ_cons, List.drop_zero]
            gi_wp2_with (gi_at_builtin; refine appendC_run rfl _ _ 78 rfl _ _ _ _ rfl rfl HAP.out ?_)
            exact ⟨⟨k + 1, by omega, by simp, RP, RR, Lib.hid ⟨_, HL2.out⟩⟩, by simp [intOf]; omega⟩
        · have hd : decide ((k : Int) < (m : Int)) = false := decide_eq_false (by omega)
          have iw : IntKind.i64.wrap ((i : Int) + 1) = ((i + 1 : Nat) : Int) := by rw [i64_of _ (by omega) (by omega)]; omega
          gi_wp2_with fail
          exact ⟨⟨i + 1, by omega, by simp, HR, Lib.hid ⟨lv2, by rw [ovB_next, HN.out, show n - i = k by have := HM.out; omega]; exact HL.out⟩⟩, by simp [intOf]; omega⟩
    · have hd : decide ((i : Int) < (n : Int)) = false := decide_eq_false (by omega)
      obtain rfl : n = i := by omega
      have c0 := HR.out.cell 0
      simp only [List.getElem?_cons_zero] at c0
      have HTR := Lib.hid (triples_any (n : Int) wr)
      clear hlt iw
      gi_wp2_with fail
      refine ⟨trivial, (callsIn_wide.2 HTR.out).mono ?_⟩
      rintro e w2 ⟨rfl, hb, rt⟩
      have rb2 := HR.out.below hb HR.out.lt
      have lc2 := HL.out.below hb
      have SL := Lib.hid (triples_seq n wr.heap.size wr.heap.size (by omega) (Nat.le_refl _) w2 rt)
      have KK := Lib.hid (And.intro rb2 (And.intro lc2 hb.size))
      clear rb2 lc2 hb rt HTR c0
      gi_wp2_with fail
      refine range_list SL.out rfl (enters_of Try.func89 (by kernel_rfl) rfl)
        (fun pre V => Row V w.heap.size 22 [.slice a n c] ∧ ∃ lv, ListC w (w.heap.size + 1) (ovB ps n 0 ++ pre.flatMap (thT ps)) lv V)
        (fun _ _ _ => False) ?hI ?hIx ?h0
        (fun x a' V => ∃ b, a' = { tmps := #[Value.slice a n c, .pointer (some ⟨w.heap.size, 0, none⟩), Value.slice none 0 0, .pointer (some ⟨w.heap.size + 1, 0, none⟩), u4, u5, undef, u7, .pointer (some ⟨b, 0, none⟩), undef, undef, Value.slice a n c, .int .i64 (n : Int), .int .i64 (n : Int), .bool false, u15, u16, u17, u18, u19, u20, u21, u22, u23, u24, u25, u26, u27, u28, u29, u30, u31, u32, u33, Value.slice a n c, .int .i64 (n : Int), .func (.func 89) #[] #[.pointer (some ⟨wr.heap.size, 0, none⟩)], encT x, undef, undef, undef, undef, undef, undef, undef, undef, undef, undef, undef, undef, undef, undef, undef, undef, undef, undef, undef, undef, undef, undef, undef, undef, undef], defers := [] } ∧ wr.heap.size ≤ b ∧ Row V b 71 [.int .i64 (x.1 : Int), .int .i64 (x.2.1 : Int), .int .i64 (x.2.2 : Int)])
        ?hR ?assign ?body ?done ?stop
      case hI =>
        rintro pre V V' row ⟨h1, lv', h2⟩ hg hr
        exact ⟨lasts_row _ _ _ _ V V' row h1 hg hr, lv', lasts_listC _ _ _ _ _ KK.out.2.1.bw.size V V' row h2 hg hr⟩
      case hIx => exact fun _ _ _ _ _ h _ _ => h
      case h0 => exact ⟨KK.out.1, _, by simpa using KK.out.2.1⟩
      case hR =>
        rintro x a' V V' row ⟨b, h1, h2, h3⟩ hg hr
        exact ⟨b, h1, h2, lasts_row _ _ _ _ V V' row h3 hg hr⟩
      case assign =>
        intro l2 x V K hs hK
        have hk := hK _ _ ⟨_, rfl, by have := KK.out.2.2; omega, Row.new V 71 [.int .i64 (x.1 : Int), .int .i64 (x.2.1 : Int), .int .i64 (x.2.2 : Int)]⟩ ((Below.refl V.heap.size V).alloc (Nat.le_refl _) _)
        have HKk := Lib.hid hk
        clear hk hK
        dsimp only [encT]
        simp only [List.setIfInBounds_toArray, List.set_cons_succ, List.set_cons_zero]
        gi_wp2
        exact HKk.out
      case stop =>
        rintro D c pre V hD hpre hf hK
        exact hf.elim
      case done =>
        rintro D V hD ⟨h1, lv', h2⟩ hK
        have c0 := h2.row.cell 0
        simp only [List.getElem?_cons_zero] at c0
        have HA := Lib.hid h2
        have hK' := Lib.hid (mark1 hK (show w.heap.size ≤ D from Nat.le_trans KK.out.2.1.bw.size hD))
        rw [show ovB ps n 0 ++ (trL n).flatMap (thT ps) = circL ps by unfold circL; rw [HN.out]] at HA
        clear h1 h2 hK
        dsimp only
        simp only [Exit.inBlock]
        gi_wp2_with fail
        refine leaves_marks (B := w.heap.size) (fun X => X.ownsRow w.heap.size 30 4 lv' (circL ps).length (flatC (circL ps)) ∧ Below w.heap.size w X)
          ((lasts_owns _ _ _ _ _ _ _).and (lasts_below _ _ _ (Nat.le_refl _) (Nat.le_refl _))) ?_ _ _ hK'.out ⟨owns_mono HA.out.own (by omega), HA.out.bw⟩
        rintro X ⟨ho, hb⟩
        refine ⟨lv', ?_, lv', rfl, ho, hb⟩
        simp [results, Try.results87, go_sem]
      case body =>
        rintro l2 x pre a' V hpre hs ⟨h1, lv', h2⟩ ⟨b, rfl, hb, hr⟩
        have hx := mem_trL.1 (hpre.subset (by simp : x ∈ pre ++ [x]))
        obtain ⟨t0, t1, t2⟩ := x
        dsimp only at hx hr
        obtain ⟨g, o, rfl, hpa⟩ : ∃ g o, a = some ⟨g, o, none⟩ ∧ PtsAt w g o ps := by
          rcases HPT.out with h | h
          · have h2 := HN.out; subst h; simp at h2; omega
          · exact h
        have hpa2 := hpa.grow h2.bw
        have i0 : t0 < ps.length := by rw [HN.out]; omega
        have i1 : t1 < ps.length := by rw [HN.out]; omega
        have i2 : t2 < ps.length := by rw [HN.out]; omega
        have HX0 := Lib.hid (And.intro (fun W (hb : Below V.heap.size V W) => (hpa2.grow hb).x t0 i0) (fun W (hb : Below V.heap.size V W) => (hpa2.grow hb).y t0 i0))
        have HX1 := Lib.hid (And.intro (fun W (hb : Below V.heap.size V W) => (hpa2.grow hb).x t1 i1) (fun W (hb : Below V.heap.size V W) => (hpa2.grow hb).y t1 i1))
        have HX2 := Lib.hid (And.intro (fun W (hb : Below V.heap.size V W) => (hpa2.grow hb).x t2 i2) (fun W (hb : Below V.heap.size V W) => (hpa2.grow hb).y t2 i2))
        have q0 := hps _ (List.getElem_mem i0)
        have q1 := hps _ (List.getElem_mem i1)
        have q2 := hps _ (List.getElem_mem i2)
        have ht : thT ps (t0, t1, t2) = if thD ps[t0] ps[t1] ps[t2] = 0 then [] else [thC ps[t0] ps[t1] ps[t2]] := by
          unfold thT
          dsimp only
          rw [ptAt_lt i0, ptAt_lt i1, ptAt_lt i2]
        generalize ps[t0] = p0 at *
        generalize ps[t1] = p1 at *
        generalize ps[t2] = p2 at *
        obtain ⟨a0, b0⟩ := p0
        obtain ⟨a1, b1⟩ := p1
        obtain ⟨a2, b2⟩ := p2
        dsimp only at HX0 HX1 HX2 q0 q1 q2
        have hth := fun (W : World) => through_any a0 b0 a1 b1 a2 b2 W q0.1 q0.2 q1.1 q1.2 q2.1 q2.2
        obtain ⟨X, Y, D, R, E, hV, hE, hC⟩ : ∃ X Y D R E, thrV (a0, b0) (a1, b1) (a2, b2) = .agg #[.int .i64 X, .int .i64 Y, .int .i64 D, .int .i64 R] ∧ (!decide (thD (a0, b0) (a1, b1) (a2, b2) = 0)) = E ∧ thT ps (t0, t1, t2) = if E = true then [⟨X, Y, D, R⟩] else [] := by
          rw [ht]
          by_cases hz : thD (a0, b0) (a1, b1) (a2, b2) = 0
          · exact ⟨0, 0, 0, 0, false, by unfold thrV; rw [if_pos hz]; rfl, by simp [hz], by rw [if_pos hz]; rfl⟩
          · exact ⟨_, _, _, _, true, by unfold thrV; rw [if_neg hz]; rfl, by simp [hz], by rw [if_neg hz, if_pos rfl]; rfl⟩
        rw [hV, hE] at hth
        have HTH := Lib.hid hth
        have HCE := Lib.hid hC
        have HB3 := Lib.hid hx
        have HF := Lib.hid (And.intro h1 (And.intro h2 (And.intro hr (And.intro hs hb))))
        have HPRE := Lib.hid hpre
        clear hth hV hE hC ht q0 q1 q2 i0 i1 i2 hpa2 hpa hx h1 h2 hr hs hb hpre
        dsimp only [encT]
        gi_wp2_with fail
        refine wpIn_region_box (by kernel_rfl) (by kernel_rfl) [39, 40, 41, 42, 43, 44, 45, 46, 47, 48, 49, 50, 51, 52, 53, 54, 38, 55, 56, 9, 1000, 10] [(fun v => v = .slice (some ⟨g, o, none⟩) n c), (fun v => v = .pointer (some ⟨b, 0, none⟩)), (fun v => v = .int .i64 (t0 : Int)), (fun v => v = .pointer (some ⟨g, o + t0 * 2, none⟩)), (fun v => v = .agg #[.int .i64 a0, .int .i64 b0]), (fun v => v = .slice (some ⟨g, o, none⟩) n c), (fun v => v = .pointer (some ⟨b, 1, none⟩)), (fun v => v = .int .i64 (t1 : Int)), (fun v => v = .pointer (some ⟨g, o + t1 * 2, none⟩)), (fun v => v = .agg #[.int .i64 a1, .int .i64 b1]), (fun v => v = .slice (some ⟨g, o, none⟩) n c), (fun v => v = .pointer (some ⟨b, 2, none⟩)), (fun v => v = .int .i64 (t2 : Int)), (fun v => v = .pointer (some ⟨g, o + t2 * 2, none⟩)), (fun v => v = .agg #[.int .i64 a2, .int .i64 b2]), (fun v => v = .tuple #[.agg #[.int .i64 X, .int .i64 Y, .int .i64 D, .int .i64 R], .bool E]), (fun v => v = .tuple #[.agg #[.int .i64 X, .int .i64 Y, .int .i64 D, .int .i64 R], .bool E]), (fun v => v = .agg #[.int .i64 X, .int .i64 Y, .int .i64 D, .int .i64 R]), (fun v => v = .bool E), (fun _ => True), (fun _ => True), (fun v => v = .bool E)] [none, none, none, none, none, none, none, none, none, none, none, none, none, none, none, none, none, none, none, some (30, [.int .i64 0, .int .i64 0, .int .i64 0, .int .i64 0], [.int .i64 X, .int .i64 Y, .int .i64 D, .int .i64 R]), none, none] [none, none, none, none, none, none, none, none, none, none, none, none, none, none, none, none, none, none, none, none, some 19, none] 22 rfl (by kernel_rfl) ?tr ⟨[undef, undef, undef, undef, undef, undef, undef, undef, undef, undef, undef, undef, undef, undef, undef, undef, undef, undef, undef, undef, undef, undef], by simp only [putAll, Act.put, List.setIfInBounds_toArray, List.set_cons_succ, List.set_cons_zero, List.set_nil], rfl⟩ ?steps ?fin
        case tr =>
          rintro i v h
          rcases i with _ | _ | _ | _ | _ | _ | _ | _ | _ | _ | _ | _ | _ | _ | _ | _ | _ | _ | _ | _ | _ | _ | i
          all_goals first | trivial | (exfalso; rcases h with h | h <;> simp at h)
        case steps =>
          simp only [boxStepsIn, Nat.reduceAdd, Nat.zero_add, List.getD_cons_succ, List.getD_cons_zero]
          refine ⟨?_, ?_, ?_, ?_, ?_, ?_, ?_, ?_, ?_, ?_, ?_, ?_, ?_, ?_, ?_, ?_, ?_, ?_, ?_, ?_, ?_, ?_, trivial⟩
          · rintro vs W K hc hvl hw hK
            obtain ⟨x0, x1, x2, x3, x4, x5, x6, x7, x8, x9, x10, x11, x12, x13, x14, x15, x16, x17, x18, x19, x20, x21, rfl⟩ := len22 hvl
            have HK := Lib.hid hK
            have HC := Lib.hid hc
            have HW := Lib.hid hw
            clear hK hc hw hvl
            simp only [putAll, Act.put, List.setIfInBounds_toArray, List.set_cons_succ, List.set_cons_zero, List.set_nil]
            have rr := HF.out.1.below HC.out HF.out.1.lt
            have d0 := rr.cell 0
            simp only [List.getElem?_cons_zero] at d0
            clear rr
            clear HW
            gi_wp2_with fail
            have fin := HK.out (.slice (some ⟨g, o, none⟩) n c) W (Below.refl _ _) rfl
            simp only [putAll, Act.put, List.setIfInBounds_toArray, List.set_cons_succ, List.set_cons_zero, List.set_nil] at fin
            exact fin
          · rintro vs W K hc hvl hw hK
            obtain ⟨x0, x1, x2, x3, x4, x5, x6, x7, x8, x9, x10, x11, x12, x13, x14, x15, x16, x17, x18, x19, x20, x21, rfl⟩ := len22 hvl
            have HK := Lib.hid hK
            have HC := Lib.hid hc
            have HW := Lib.hid hw
            clear hK hc hw hvl
            simp only [putAll, Act.put, List.setIfInBounds_toArray, List.set_cons_succ, List.set_cons_zero, List.set_nil]
            clear HW
            gi_wp2_with fail
            have fin := HK.out (.pointer (some ⟨b, 0, none⟩)) W (Below.refl _ _) rfl
            simp only [putAll, Act.put, List.setIfInBounds_toArray, List.set_cons_succ, List.set_cons_zero, List.set_nil] at fin
            exact fin
          · rintro vs W K hc hvl hw hK
            obtain ⟨x0, x1, x2, x3, x4, x5, x6, x7, x8, x9, x10, x11, x12, x13, x14, x15, x16, x17, x18, x19, x20, x21, rfl⟩ := len22 hvl
            have HK := Lib.hid hK
            have HC := Lib.hid hc
            have HW := Lib.hid hw
            clear hK hc hw hvl
            obtain rfl : x1 = .pointer (some ⟨b, 0, none⟩) := box_get (HW.out ⟨1, .data⟩ (by simp) rfl) rfl
            simp only [putAll, Act.put, List.setIfInBounds_toArray, List.set_cons_succ, List.set_cons_zero, List.set_nil]
            have rr := HF.out.2.2.1.below HC.out HF.out.2.2.1.lt
            have d0 := rr.cell 0
            simp only [List.getElem?_cons_zero] at d0
            clear rr
            clear HW
            gi_wp2_with fail
            have fin := HK.out (.int .i64 (t0 : Int)) W (Below.refl _ _) rfl
            simp only [putAll, Act.put, List.setIfInBounds_toArray, List.set_cons_succ, List.set_cons_zero, List.set_nil] at fin
            exact fin
          · rintro vs W K hc hvl hw hK
            obtain ⟨x0, x1, x2, x3, x4, x5, x6, x7, x8, x9, x10, x11, x12, x13, x14, x15, x16, x17, x18, x19, x20, x21, rfl⟩ := len22 hvl
            have HK := Lib.hid hK
            have HC := Lib.hid hc
            have HW := Lib.hid hw
            clear hK hc hw hvl
            obtain rfl : x0 = .slice (some ⟨g, o, none⟩) n c := box_get (HW.out ⟨0, .data⟩ (by simp) rfl) rfl
            obtain rfl : x2 = .int .i64 (t0 : Int) := box_get (HW.out ⟨2, .data⟩ (by simp) rfl) rfl
            simp only [putAll, Act.put, List.setIfInBounds_toArray, List.set_cons_succ, List.set_cons_zero, List.set_nil]
            have hi1 : (t0 : Int) < (n : Int) := by have := HB3.out; omega
            clear HW
            gi_wp2_with fail
            have fin := HK.out (.pointer (some ⟨g, o + t0 * 2, none⟩)) W (Below.refl _ _) rfl
            simp only [putAll, Act.put, List.setIfInBounds_toArray, List.set_cons_succ, List.set_cons_zero, List.set_nil] at fin
            exact fin
          · rintro vs W K hc hvl hw hK
            obtain ⟨x0, x1, x2, x3, x4, x5, x6, x7, x8, x9, x10, x11, x12, x13, x14, x15, x16, x17, x18, x19, x20, x21, rfl⟩ := len22 hvl
            have HK := Lib.hid hK
            have HC := Lib.hid hc
            have HW := Lib.hid hw
            clear hK hc hw hvl
            obtain rfl : x3 = .pointer (some ⟨g, o + t0 * 2, none⟩) := box_get (HW.out ⟨3, .data⟩ (by simp) rfl) rfl
            simp only [putAll, Act.put, List.setIfInBounds_toArray, List.set_cons_succ, List.set_cons_zero, List.set_nil]
            have d0 := HX0.out.1 W HC.out
            have d1 := HX0.out.2 W HC.out
            clear HW
            gi_wp2_with fail
            have fin := HK.out (.agg #[.int .i64 a0, .int .i64 b0]) W (Below.refl _ _) rfl
            simp only [putAll, Act.put, List.setIfInBounds_toArray, List.set_cons_succ, List.set_cons_zero, List.set_nil] at fin
            exact fin
          · rintro vs W K hc hvl hw hK
            obtain ⟨x0, x1, x2, x3, x4, x5, x6, x7, x8, x9, x10, x11, x12, x13, x14, x15, x16, x17, x18, x19, x20, x21, rfl⟩ := len22 hvl
            have HK := Lib.hid hK
            have HC := Lib.hid hc
            have HW := Lib.hid hw
            clear hK hc hw hvl
            simp only [putAll, Act.put, List.setIfInBounds_toArray, List.set_cons_succ, List.set_cons_zero, List.set_nil]
            have rr := HF.out.1.below HC.out HF.out.1.lt
            have d0 := rr.cell 0
            simp only [List.getElem?_cons_zero] at d0
            clear rr
            clear HW
            gi_wp2_with fail
            have fin := HK.out (.slice (some ⟨g, o, none⟩) n c) W (Below.refl _ _) rfl
            simp only [putAll, Act.put, List.setIfInBounds_toArray, List.set_cons_succ, List.set_cons_zero, List.set_nil] at fin
            exact fin
          · rintro vs W K hc hvl hw hK
            obtain ⟨x0, x1, x2, x3, x4, x5, x6, x7, x8, x9, x10, x11, x12, x13, x14, x15, x16, x17, x18, x19, x20, x21, rfl⟩ := len22 hvl
            have HK := Lib.hid hK
            have HC := Lib.hid hc
            have HW := Lib.hid hw
            clear hK hc hw hvl
            simp only [putAll, Act.put, List.setIfInBounds_toArray, List.set_cons_succ, List.set_cons_zero, List.set_nil]
            clear HW
            gi_wp2_with fail
            have fin := HK.out (.pointer (some ⟨b, 1, none⟩)) W (Below.refl _ _) rfl
            simp only [putAll, Act.put, List.setIfInBounds_toArray, List.set_cons_succ, List.set_cons_zero, List.set_nil] at fin
            exact fin
          · rintro vs W K hc hvl hw hK
            obtain ⟨x0, x1, x2, x3, x4, x5, x6, x7, x8, x9, x10, x11, x12, x13, x14, x15, x16, x17, x18, x19, x20, x21, rfl⟩ := len22 hvl
            have HK := Lib.hid hK
            have HC := Lib.hid hc
            have HW := Lib.hid hw
            clear hK hc hw hvl
            obtain rfl : x6 = .pointer (some ⟨b, 1, none⟩) := box_get (HW.out ⟨6, .data⟩ (by simp) rfl) rfl
            simp only [putAll, Act.put, List.setIfInBounds_toArray, List.set_cons_succ, List.set_cons_zero, List.set_nil]
            have rr := HF.out.2.2.1.below HC.out HF.out.2.2.1.lt
            have d0 := rr.cell 1
            simp only [List.getElem?_cons_zero, List.getElem?_cons_succ] at d0
            clear rr
            clear HW
            gi_wp2_with fail
            have fin := HK.out (.int .i64 (t1 : Int)) W (Below.refl _ _) rfl
            simp only [putAll, Act.put, List.setIfInBounds_toArray, List.set_cons_succ, List.set_cons_zero, List.set_nil] at fin
            exact fin
          · rintro vs W K hc hvl hw hK
            obtain ⟨x0, x1, x2, x3, x4, x5, x6, x7, x8, x9, x10, x11, x12, x13, x14, x15, x16, x17, x18, x19, x20, x21, rfl⟩ := len22 hvl
            have HK := Lib.hid hK
            have HC := Lib.hid hc
            have HW := Lib.hid hw
            clear hK hc hw hvl
            obtain rfl : x5 = .slice (some ⟨g, o, none⟩) n c := box_get (HW.out ⟨5, .data⟩ (by simp) rfl) rfl
            obtain rfl : x7 = .int .i64 (t1 : Int) := box_get (HW.out ⟨7, .data⟩ (by simp) rfl) rfl
            simp only [putAll, Act.put, List.setIfInBounds_toArray, List.set_cons_succ, List.set_cons_zero, List.set_nil]
            have hi1 : (t1 : Int) < (n : Int) := by have := HB3.out; omega
            clear HW
            gi_wp2_with fail
            have fin := HK.out (.pointer (some ⟨g, o + t1 * 2, none⟩)) W (Below.refl _ _) rfl
            simp only [putAll, Act.put, List.setIfInBounds_toArray, List.set_cons_succ, List.set_cons_zero, List.set_nil] at fin
            exact fin
          · rintro vs W K hc hvl hw hK
            obtain ⟨x0, x1, x2, x3, x4, x5, x6, x7, x8, x9, x10, x11, x12, x13, x14, x15, x16, x17, x18, x19, x20, x21, rfl⟩ := len22 hvl
            have HK := Lib.hid hK
            have HC := Lib.hid hc
            have HW := Lib.hid hw
            clear hK hc hw hvl
            obtain rfl : x8 = .pointer (some ⟨g, o + t1 * 2, none⟩) := box_get (HW.out ⟨8, .data⟩ (by simp) rfl) rfl
            simp only [putAll, Act.put, List.setIfInBounds_toArray, List.set_cons_succ, List.set_cons_zero, List.set_nil]
            have d0 := HX1.out.1 W HC.out
            have d1 := HX1.out.2 W HC.out
            clear HW
            gi_wp2_with fail
            have fin := HK.out (.agg #[.int .i64 a1, .int .i64 b1]) W (Below.refl _ _) rfl
            simp only [putAll, Act.put, List.setIfInBounds_toArray, List.set_cons_succ, List.set_cons_zero, List.set_nil] at fin
            exact fin
          · rintro vs W K hc hvl hw hK
            obtain ⟨x0, x1, x2, x3, x4, x5, x6, x7, x8, x9, x10, x11, x12, x13, x14, x15, x16, x17, x18, x19, x20, x21, rfl⟩ := len22 hvl
            have HK := Lib.hid hK
            have HC := Lib.hid hc
            have HW := Lib.hid hw
            clear hK hc hw hvl
            simp only [putAll, Act.put, List.setIfInBounds_toArray, List.set_cons_succ, List.set_cons_zero, List.set_nil]
            have rr := HF.out.1.below HC.out HF.out.1.lt
            have d0 := rr.cell 0
            simp only [List.getElem?_cons_zero] at d0
            clear rr
            clear HW
            gi_wp2_with fail
            have fin := HK.out (.slice (some ⟨g, o, none⟩) n c) W (Below.refl _ _) rfl
            simp only [putAll, Act.put, List.setIfInBounds_toArray, List.set_cons_succ, List.set_cons_zero, List.set_nil] at fin
            exact fin
          · rintro vs W K hc hvl hw hK
            obtain ⟨x0, x1, x2, x3, x4, x5, x6, x7, x8, x9, x10, x11, x12, x13, x14, x15, x16, x17, x18, x19, x20, x21, rfl⟩ := len22 hvl
            have HK := Lib.hid hK
            have HC := Lib.hid hc
            have HW := Lib.hid hw
            clear hK hc hw hvl
            simp only [putAll, Act.put, List.setIfInBounds_toArray, List.set_cons_succ, List.set_cons_zero, List.set_nil]
            clear HW
            gi_wp2_with fail
            have fin := HK.out (.pointer (some ⟨b, 2, none⟩)) W (Below.refl _ _) rfl
            simp only [putAll, Act.put, List.setIfInBounds_toArray, List.set_cons_succ, List.set_cons_zero, List.set_nil] at fin
            exact fin
          · rintro vs W K hc hvl hw hK
            obtain ⟨x0, x1, x2, x3, x4, x5, x6, x7, x8, x9, x10, x11, x12, x13, x14, x15, x16, x17, x18, x19, x20, x21, rfl⟩ := len22 hvl
            have HK := Lib.hid hK
            have HC := Lib.hid hc
            have HW := Lib.hid hw
            clear hK hc hw hvl
            obtain rfl : x11 = .pointer (some ⟨b, 2, none⟩) := box_get (HW.out ⟨11, .data⟩ (by simp) rfl) rfl
            simp only [putAll, Act.put, List.setIfInBounds_toArray, List.set_cons_succ, List.set_cons_zero, List.set_nil]
            have rr := HF.out.2.2.1.below HC.out HF.out.2.2.1.lt
            have d0 := rr.cell 2
            simp only [List.getElem?_cons_zero, List.getElem?_cons_succ] at d0
            clear rr
            clear HW
            gi_wp2_with fail
            have fin := HK.out (.int .i64 (t2 : Int)) W (Below.refl _ _) rfl
            simp only [putAll, Act.put, List.setIfInBounds_toArray, List.set_cons_succ, List.set_cons_zero, List.set_nil] at fin
            exact fin
          · rintro vs W K hc hvl hw hK
            obtain ⟨x0, x1, x2, x3, x4, x5, x6, x7, x8, x9, x10, x11, x12, x13, x14, x15, x16, x17, x18, x19, x20, x21, rfl⟩ := len22 hvl
            have HK := Lib.hid hK
            have HC := Lib.hid hc
            have HW := Lib.hid hw
            clear hK hc hw hvl
            obtain rfl : x10 = .slice (some ⟨g, o, none⟩) n c := box_get (HW.out ⟨10, .data⟩ (by simp) rfl) rfl
            obtain rfl : x12 = .int .i64 (t2 : Int) := box_get (HW.out ⟨12, .data⟩ (by simp) rfl) rfl
            simp only [putAll, Act.put, List.setIfInBounds_toArray, List.set_cons_succ, List.set_cons_zero, List.set_nil]
            have hi1 : (t2 : Int) < (n : Int) := by have := HB3.out; omega
            clear HW
            gi_wp2_with fail
            have fin := HK.out (.pointer (some ⟨g, o + t2 * 2, none⟩)) W (Below.refl _ _) rfl
            simp only [putAll, Act.put, List.setIfInBounds_toArray, List.set_cons_succ, List.set_cons_zero, List.set_nil] at fin
            exact fin
          · rintro vs W K hc hvl hw hK
            obtain ⟨x0, x1, x2, x3, x4, x5, x6, x7, x8, x9, x10, x11, x12, x13, x14, x15, x16, x17, x18, x19, x20, x21, rfl⟩ := len22 hvl
            have HK := Lib.hid hK
            have HC := Lib.hid hc
            have HW := Lib.hid hw
            clear hK hc hw hvl
            obtain rfl : x13 = .pointer (some ⟨g, o + t2 * 2, none⟩) := box_get (HW.out ⟨13, .data⟩ (by simp) rfl) rfl
            simp only [putAll, Act.put, List.setIfInBounds_toArray, List.set_cons_succ, List.set_cons_zero, List.set_nil]
            have d0 := HX2.out.1 W HC.out
            have d1 := HX2.out.2 W HC.out
            clear HW
            gi_wp2_with fail
            have fin := HK.out (.agg #[.int .i64 a2, .int .i64 b2]) W (Below.refl _ _) rfl
            simp only [putAll, Act.put, List.setIfInBounds_toArray, List.set_cons_succ, List.set_cons_zero, List.set_nil] at fin
            exact fin
          · rintro vs W K hc hvl hw hK
            obtain ⟨x0, x1, x2, x3, x4, x5, x6, x7, x8, x9, x10, x11, x12, x13, x14, x15, x16, x17, x18, x19, x20, x21, rfl⟩ := len22 hvl
            have HK := Lib.hid hK
            have HC := Lib.hid hc
            have HW := Lib.hid hw
            clear hK hc hw hvl
            obtain rfl : x4 = .agg #[.int .i64 a0, .int .i64 b0] := box_get (HW.out ⟨4, .data⟩ (by simp) rfl) rfl
            obtain rfl : x9 = .agg #[.int .i64 a1, .int .i64 b1] := box_get (HW.out ⟨9, .data⟩ (by simp) rfl) rfl
            obtain rfl : x14 = .agg #[.int .i64 a2, .int .i64 b2] := box_get (HW.out ⟨14, .data⟩ (by simp) rfl) rfl
            simp only [putAll, Act.put, List.setIfInBounds_toArray, List.set_cons_succ, List.set_cons_zero, List.set_nil]
            clear HW
            gi_wp2_with fail
            refine ⟨trivial, (CallsIn.inRound l2 (callsIn_wide.2 (HTH.out W))).mono ?_⟩
            rintro e W' ⟨rfl, hb'⟩
            have HB' := Lib.hid hb'
            clear hb'
            gi_wp2_with fail
            have fin := HK.out (.tuple #[.agg #[.int .i64 X, .int .i64 Y, .int .i64 D, .int .i64 R], .bool E]) W' HB'.out rfl
            simp only [putAll, Act.put, List.setIfInBounds_toArray, List.set_cons_succ, List.set_cons_zero, List.set_nil] at fin
            exact fin
          · rintro vs W K hc hvl hw hK
            obtain ⟨x0, x1, x2, x3, x4, x5, x6, x7, x8, x9, x10, x11, x12, x13, x14, x15, x16, x17, x18, x19, x20, x21, rfl⟩ := len22 hvl
            have HK := Lib.hid hK
            have HC := Lib.hid hc
            have HW := Lib.hid hw
            clear hK hc hw hvl
            obtain rfl : x15 = .tuple #[.agg #[.int .i64 X, .int .i64 Y, .int .i64 D, .int .i64 R], .bool E] := box_get (HW.out ⟨15, .data⟩ (by simp) rfl) rfl
            simp only [putAll, Act.put, List.setIfInBounds_toArray, List.set_cons_succ, List.set_cons_zero, List.set_nil]
            clear HW
            gi_wp2_with fail
            have fin := HK.out (.tuple #[.agg #[.int .i64 X, .int .i64 Y, .int .i64 D, .int .i64 R], .bool E]) W (Below.refl _ _) rfl
            simp only [putAll, Act.put, List.setIfInBounds_toArray, List.set_cons_succ, List.set_cons_zero, List.set_nil] at fin
            exact fin
          · rintro vs W K hc hvl hw hK
            obtain ⟨x0, x1, x2, x3, x4, x5, x6, x7, x8, x9, x10, x11, x12, x13, x14, x15, x16, x17, x18, x19, x20, x21, rfl⟩ := len22 hvl
            have HK := Lib.hid hK
            have HC := Lib.hid hc
            have HW := Lib.hid hw
            clear hK hc hw hvl
            obtain rfl : x16 = .tuple #[.agg #[.int .i64 X, .int .i64 Y, .int .i64 D, .int .i64 R], .bool E] := box_get (HW.out ⟨16, .data⟩ (by simp) rfl) rfl
            simp only [putAll, Act.put, List.setIfInBounds_toArray, List.set_cons_succ, List.set_cons_zero, List.set_nil]
            clear HW
            gi_wp2_with fail
            have fin := HK.out (.agg #[.int .i64 X, .int .i64 Y, .int .i64 D, .int .i64 R]) W (Below.refl _ _) rfl
            simp only [putAll, Act.put, List.setIfInBounds_toArray, List.set_cons_succ, List.set_cons_zero, List.set_nil] at fin
            exact fin
          · rintro vs W K hc hvl hw hK
            obtain ⟨x0, x1, x2, x3, x4, x5, x6, x7, x8, x9, x10, x11, x12, x13, x14, x15, x16, x17, x18, x19, x20, x21, rfl⟩ := len22 hvl
            have HK := Lib.hid hK
            have HC := Lib.hid hc
            have HW := Lib.hid hw
            clear hK hc hw hvl
            obtain rfl : x16 = .tuple #[.agg #[.int .i64 X, .int .i64 Y, .int .i64 D, .int .i64 R], .bool E] := box_get (HW.out ⟨16, .data⟩ (by simp) rfl) rfl
            simp only [putAll, Act.put, List.setIfInBounds_toArray, List.set_cons_succ, List.set_cons_zero, List.set_nil]
            clear HW
            gi_wp2_with fail
            have fin := HK.out (.bool E) W (Below.refl _ _) rfl
            simp only [putAll, Act.put, List.setIfInBounds_toArray, List.set_cons_succ, List.set_cons_zero, List.set_nil] at fin
            exact fin
          · rintro vs W K hc hvl hw hK
            obtain ⟨x0, x1, x2, x3, x4, x5, x6, x7, x8, x9, x10, x11, x12, x13, x14, x15, x16, x17, x18, x19, x20, x21, rfl⟩ := len22 hvl
            have HK := Lib.hid hK
            have HC := Lib.hid hc
            have HW := Lib.hid hw
            clear hK hc hw hvl
            simp only [putAll, Act.put, List.setIfInBounds_toArray, List.set_cons_succ, List.set_cons_zero, List.set_nil]
            clear HW
            gi_wp2_with fail
            have fin := HK.out
            simp only [putAll, Act.put, List.setIfInBounds_toArray, List.set_cons_succ, List.set_cons_zero, List.set_nil] at fin
            exact fin
          · rintro vs W K hc hvl hw b E z f hia hva hb0 hr hK
            cases hia
            obtain ⟨x0, x1, x2, x3, x4, x5, x6, x7, x8, x9, x10, x11, x12, x13, x14, x15, x16, x17, x18, x19, x20, x21, rfl⟩ := len22 hvl
            have HK := Lib.hid hK
            have HC := Lib.hid hc
            have HW := Lib.hid hw
            clear hK hc hw hvl
            obtain rfl : x17 = .agg #[.int .i64 X, .int .i64 Y, .int .i64 D, .int .i64 R] := box_get (HW.out ⟨17, .data⟩ (by simp) rfl) rfl
            obtain rfl : x19 = .pointer (some ⟨b, 0, none⟩) := Option.some.inj hva
            simp only [putAll, Act.put, List.setIfInBounds_toArray, List.set_cons_succ, List.set_cons_zero, List.set_nil]
            have kf0 := frozen_of_row W b 0 _ _ hr
            have kc0 : W.cell? ⟨b, 0, none⟩ = some (.int .i64 0) := hr.cell 0
            have kf1 := frozen_of_row W b 1 _ _ hr
            have kc1 : W.cell? ⟨b, 1, none⟩ = some (.int .i64 0) := hr.cell 1
            have kf2 := frozen_of_row W b 2 _ _ hr
            have kc2 : W.cell? ⟨b, 2, none⟩ = some (.int .i64 0) := hr.cell 2
            have kf3 := frozen_of_row W b 3 _ _ hr
            have kc3 : W.cell? ⟨b, 3, none⟩ = some (.int .i64 0) := hr.cell 3
            have HRW := Lib.hid hr
            clear HW hr hva
            gi_wp2_with fail
            have fin := HK.out _ (show Row _ b 30 [.int .i64 X, .int .i64 Y, .int .i64 D, .int .i64 R] from by simpa using (show Row _ b 30 _ from ((((HRW.out.set 0 (.int .i64 X)).set 1 (.int .i64 Y)).set 2 (.int .i64 D)).set 3 (.int .i64 R)))) (grown_put (grown_put (grown_put (grown_put (grown_self W _)))))
            simp only [putAll, Act.put, List.setIfInBounds_toArray, List.set_cons_succ, List.set_cons_zero, List.set_nil] at fin
            exact fin
          · rintro vs W K hc hvl hw hK
            obtain ⟨x0, x1, x2, x3, x4, x5, x6, x7, x8, x9, x10, x11, x12, x13, x14, x15, x16, x17, x18, x19, x20, x21, rfl⟩ := len22 hvl
            have HK := Lib.hid hK
            have HC := Lib.hid hc
            have HW := Lib.hid hw
            clear hK hc hw hvl
            obtain rfl : x18 = .bool E := box_get (HW.out ⟨18, .data⟩ (by simp) rfl) rfl
            simp only [putAll, Act.put, List.setIfInBounds_toArray, List.set_cons_succ, List.set_cons_zero, List.set_nil]
            clear HW
            gi_wp2_with fail
            have fin := HK.out (.bool E) W (Below.refl _ _) rfl
            simp only [putAll, Act.put, List.setIfInBounds_toArray, List.set_cons_succ, List.set_cons_zero, List.set_nil] at fin
            exact fin
        case fin =>
          rintro vs W hJ
          obtain ⟨x0, x1, x2, x3, x4, x5, x6, x7, x8, x9, x10, x11, x12, x13, x14, x15, x16, x17, x18, x19, x20, x21, rfl⟩ := len22 hJ.ln
          obtain rfl : x0 = .slice (some ⟨g, o, none⟩) n c := box_get (hJ.val 0 rfl) rfl
          obtain rfl : x1 = .pointer (some ⟨b, 0, none⟩) := box_get (hJ.val 1 rfl) rfl
          obtain rfl : x2 = .int .i64 (t0 : Int) := box_get (hJ.val 2 rfl) rfl
          obtain rfl : x3 = .pointer (some ⟨g, o + t0 * 2, none⟩) := box_get (hJ.val 3 rfl) rfl
          obtain rfl : x4 = .agg #[.int .i64 a0, .int .i64 b0] := box_get (hJ.val 4 rfl) rfl
          obtain rfl : x5 = .slice (some ⟨g, o, none⟩) n c := box_get (hJ.val 5 rfl) rfl
          obtain rfl : x6 = .pointer (some ⟨b, 1, none⟩) := box_get (hJ.val 6 rfl) rfl
          obtain rfl : x7 = .int .i64 (t1 : Int) := box_get (hJ.val 7 rfl) rfl
          obtain rfl : x8 = .pointer (some ⟨g, o + t1 * 2, none⟩) := box_get (hJ.val 8 rfl) rfl
          obtain rfl : x9 = .agg #[.int .i64 a1, .int .i64 b1] := box_get (hJ.val 9 rfl) rfl
          obtain rfl : x10 = .slice (some ⟨g, o, none⟩) n c := box_get (hJ.val 10 rfl) rfl
          obtain rfl : x11 = .pointer (some ⟨b, 2, none⟩) := box_get (hJ.val 11 rfl) rfl
          obtain rfl : x12 = .int .i64 (t2 : Int) := box_get (hJ.val 12 rfl) rfl
          obtain rfl : x13 = .pointer (some ⟨g, o + t2 * 2, none⟩) := box_get (hJ.val 13 rfl) rfl
          obtain rfl : x14 = .agg #[.int .i64 a2, .int .i64 b2] := box_get (hJ.val 14 rfl) rfl
          obtain rfl : x15 = .tuple #[.agg #[.int .i64 X, .int .i64 Y, .int .i64 D, .int .i64 R], .bool E] := box_get (hJ.val 15 rfl) rfl
          obtain rfl : x16 = .tuple #[.agg #[.int .i64 X, .int .i64 Y, .int .i64 D, .int .i64 R], .bool E] := box_get (hJ.val 16 rfl) rfl
          obtain rfl : x17 = .agg #[.int .i64 X, .int .i64 Y, .int .i64 D, .int .i64 R] := box_get (hJ.val 17 rfl) rfl
          obtain rfl : x18 = .bool E := box_get (hJ.val 18 rfl) rfl
          obtain rfl : x21 = .bool E := box_get (hJ.val 21 rfl) rfl
          obtain ⟨b19, e19, hb19, hr19⟩ := hJ.box 19 _ _ _ rfl rfl
          obtain rfl : x19 = .pointer (some ⟨b19, 0, none⟩) := Option.some.inj e19
          replace hr19 : Row W b19 30 [.int .i64 X, .int .i64 Y, .int .i64 D, .int .i64 R] := hr19
          have HR19 := Lib.hid hr19
          clear e19 hr19
          have HC := Lib.hid hJ.bl
          clear hJ
          simp only [putAll, Act.put, List.setIfInBounds_toArray, List.set_cons_succ, List.set_cons_zero, List.set_nil]
          clear HTH
          have RB1 := Lib.hid (HF.out.1.below HC.out HF.out.1.lt)
          have LL := Lib.hid (HF.out.2.1.below HC.out)
          cases E with
          | false =>
            gi_wp2_with fail
            refine ⟨kf_below _ HC.out, KeepsI.of_below HC.out, RB1.out, lv', ?_⟩
            rw [List.flatMap_append, List.flatMap_cons, List.flatMap_nil, List.append_nil, HCE.out, if_neg (by simp), List.append_nil]
            exact LL.out
          | true =>
            have hlen : (ovB ps n 0 ++ pre.flatMap (thT ps)).length + 1 ≤ 1000000 := by
              have h1 := ovB_len ps n 0
              have h2 := thT_len ps pre
              have h3 := HPRE.out.length_le
              have h4 := trL_len n hl
              have h5 : n * n ≤ 12 * 12 := Nat.mul_le_mul hl hl
              rw [HN.out] at h1
              rw [List.length_append, List.length_singleton] at h3
              rw [List.length_append]
              omega
            obtain ⟨ba, rn⟩ := box_start W 30 [.int .i64 X, .int .i64 Y, .int .i64 D, .int .i64 R]
            obtain ⟨a3, n3, c3, W2, hap, r2, hL2, hX⟩ := (LL.out.below ba).add (c := ⟨X, Y, D, R⟩) rn hlen
            have l0 := LL.out.row.cell 0
            simp only [List.getElem?_cons_zero] at l0
            have k0 := HR19.out.cell 0
            have k1 := HR19.out.cell 1
            have k2 := HR19.out.cell 2
            have k3 := HR19.out.cell 3
            simp only [List.getElem?_cons_zero, List.getElem?_cons_succ] at k0 k1 k2 k3
            have d0 := r2.cell 0
            simp only [List.getElem?_cons_zero] at d0
            have d1 : W2.frozen? ⟨w.heap.size + 1, 0, none⟩ = false := by simp [World.frozen?, show W2.heap[w.heap.size + 1]? = _ from r2]
            have HAP := Lib.hid hap
            have hXX := KeepsX.trans (KeepsX.of_below HC.out) (KeepsX.trans (KeepsX.of_below ba) hX)
            have HX := Lib.hid hXX
            have HLL := Lib.hid hL2
            have RB2 := Lib.hid (hXX.row rfl HF.out.1)
            clear ba rn hap r2 hL2 hX hXX hlen
            gi_wp2_with (gi_at_builtin; refine appendC_run rfl _ _ 78 rfl _ _ _ _ rfl rfl HAP.out ?_)
            refine ⟨HX.out.from_ _, HX.out.its _, RB2.out, .slice a3 n3 c3, ?_⟩
            rw [List.flatMap_append, List.flatMap_cons, List.flatMap_nil, List.append_nil, HCE.out, if_pos (by trivial), ← List.append_assoc]
            exact HLL.out
end Go.Proofs.Ytlemipnplgbckaa
