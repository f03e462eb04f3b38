import Derived.Test.YtlemipnplgbckaaPQ
import Derived.Laws.AppendOwn
import Derived.ChangeKeysEq
import Derived.Maps.RangeWalk
import Derived.Maps.OwnIn
import Derived.Maps.AppendAt
import Derived.RangeFuncNested
import Derived.RangeFuncBound
import Derived.RangeFuncCalls
import Derived.RangeFuncLeaves
import Derived.Shelf.Abstract
import Derived.Shelf.RegionOpen
import Derived.WalkKit
import Derived.WalkMore
import Derived.OwnWalkIn
import Derived.TacticsInMore
import Derived.LoopNIn
import Derived.LoopIn
import Derived.WalkSpells
import Derived.WalkLawsBesides
import Derived.BigQuiet
import Derived.Deep.QuietTactic
import Derived.Lib.Hide
import Derived.Deep.RegionHeld3
import Derived.StillTailTactics
import Derived.Deep.LoopGhost
import Derived.Maps.OwnSet
import Derived.Lib.IndexAny
import Derived.Sort.QuietThIn
import Derived.Sort.QuietTacIn
import Derived.Sort.BigQuietIn
import Derived.Laws.OwnMore
import Derived.DeepKeys4
import Derived.Maps.Views
import Derived.Maps.OwnOps
import Derived.Laws.OwnMore
import Derived.Deep.DeepCutAuto
import Derived.ChangeKeysEq
namespace Go.Proofs.Ytlemipnplgbckaa
open Go.RowKit Go.Shelf
attribute [local go_sem] Oper.semAt_some
/-- points made of any pairs -/
def tmStep (out : List Pt) (p : Pt) : List Pt := if chkP (out ++ [placeF p]) = true then out ++ [placeF p] else out
def tmK (ps : List Pt) (k : Nat) : List Pt := (ps.take k).foldl tmStep []
def tameF (ps : List Pt) : List Pt := if tmK ps ps.length = [] then [(0, 0)] else tmK ps ps.length
theorem tmK_step {ps : List Pt} {k : Nat} (h : k < ps.length) : tmK ps (k + 1) = tmStep (tmK ps k) ps[k] := by
  unfold tmK
  rw [List.take_succ_eq_append_getElem h, List.foldl_append]
  rfl
theorem tmK_ok (ps : List Pt) : ∀ k, k ≤ ps.length → tmK ps k = [] ∨ chkP (tmK ps k) = true
  | 0, _ => .inl (by simp [tmK])
  | k + 1, h => by
    rw [tmK_step (by omega)]
    unfold tmStep
    split
    · right; assumption
    · exact tmK_ok ps k (by omega)
theorem tmK_len (ps : List Pt) (k : Nat) (h : k ≤ ps.length) : (tmK ps k).length ≤ 12 := by
  rcases tmK_ok ps k h with h | h
  · rw [h]; simp
  · exact (chkP_iff.1 h).1.2
theorem tmK_full (ps : List Pt) (k : Nat) (hk : k ≤ ps.length) (h : ¬ (tmK ps k).length < 12) : tmK ps ps.length = tmK ps k := by
  have key : ∀ d, k + d ≤ ps.length → tmK ps (k + d) = tmK ps k := by
    intro d
    induction d with
    | zero => intro _; rfl
    | succ d ih =>
      intro hd
      rw [show k + (d + 1) = k + d + 1 by omega, tmK_step (by omega), ih (by omega)]
      unfold tmStep
      rw [if_neg]
      intro hc
      have := (chkP_iff.1 hc).1.2
      rw [List.length_append, List.length_singleton] at this
      omega
  have := key (ps.length - k) (by omega)
  rwa [show k + (ps.length - k) = ps.length by omega] at this
theorem tameF_ok (ps : List Pt) : chkP (tameF ps) = true := by
  unfold tameF
  split
  · decide +kernel
  · rename_i h
    exact (tmK_ok ps ps.length (Nat.le_refl _)).resolve_left h
theorem own_pt (W : World) (x y : Int) : OwnP (W.alloc (.cells #[.int .i64 x, .int .i64 y] 28)) W.heap.size (.slice (some ⟨W.heap.size, 0, none⟩) 1 1) [(x, y)] :=
  ⟨rfl, .inr ⟨W.heap.size, 1, #[.int .i64 x, .int .i64 y], rfl, Nat.le_refl _, heap_alloc_new W _, Nat.le_refl _, by decide, rfl, rfl⟩⟩
set_option maxRecDepth 100000 in
set_option maxHeartbeats 1000000 in
theorem tame_any (ps : List Pt) (v : Value) (w : World) (hv : SlP w v ps) (hl : ps.length ≤ 9223372036854775807) :
    Calls Try.prog 41 #[v] w fun e w' => ∃ s, e = .returned s ∧ OwnP w' w.heap.size s (tameF ps) ∧ Below w.heap.size w w' := by
  obtain ⟨a, c, rfl, hc, hs⟩ := hv
  have HS := Lib.hid hs
  obtain ⟨n, hn⟩ : ∃ n, ps.length = n := ⟨_, rfl⟩
  have HN := Lib.hid hn
  have HT := Lib.hid (show tameF ps = if tmK ps n = [] then [(0, 0)] else tmK ps n by rw [← hn]; rfl)
  rw [hn] at hl hc ⊢
  clear hs hn
  go_enter Try.func41, Try.ntmps41
  go_wp2_with fail
  go_loopw [4, 3] (fun iv lv wr => ∃ k : Nat, k ≤ n ∧ iv = .int .i64 (k : Int) ∧ Hid (OwnP wr w.heap.size lv (tmK ps k) ∧ Below w.heap.size w wr)) (fun iv _ _ => (n - intOf iv).toNat)
  case atStart => exact ⟨0, by omega, rfl, Lib.hid ⟨World.ownsRow_nil _ _ _ _, Below.refl _ _⟩⟩
  case round =>
    obtain ⟨i, hk, rfl, HB⟩ := hrel
    obtain ⟨ao, co, rfl, _⟩ := OwnP.open HB.out.1
    have HLE := Lib.hid (tmK_len ps i (by rw [HN.out]; exact hk))
    by_cases hlt : i < n ∧ (tmK ps i).length < 12
    · obtain ⟨hlt, hl12⟩ := hlt
      have iw : IntKind.i64.wrap ((i : Int) + 1) = ((i + 1 : Nat) : Int) := by rw [IntWalk.i64_in _ (by omega)]; omega
      have hd : decide ((i : Int) < (n : Int)) = true := decide_eq_true (by omega)
      have hdn : decide (i < n) = true := decide_eq_true hlt
      have hd2 : decide (((tmK ps i).length : Int) < 12) = true := decide_eq_true (by omega)
      have hdn2 : decide ((tmK ps i).length < 12) = true := decide_eq_true hl12
      have hlk : i < ps.length := by rw [HN.out]; exact hlt
      obtain ⟨g, o, rfl, hps⟩ : ∃ g o, a = some ⟨g, o, none⟩ ∧ PtsAt w g o ps := HS.out.resolve_left (fun e => by rw [e] at hlk; simp at hlk)
      have HPX := Lib.hid (And.intro (fun W (hb : Below w.heap.size w W) => (hps.grow hb).x i hlk) (fun W (hb : Below w.heap.size w W) => (hps.grow hb).y i hlk))
      have HST := Lib.hid (tmK_step hlk)
      clear hps
      generalize ps[i] = pk at *
      clear hlk
      obtain ⟨x, y⟩ := pk
      dsimp only at HPX
      obtain ⟨v1, W1, h1, h2, h3⟩ := app_copy wr w.heap.size _ (tmK ps i) HB.out.1 (by omega)
      obtain ⟨a1, c1, rfl, _⟩ := OwnP.open h2
      have A1 := Lib.hid h1
      have O1 := Lib.hid h2
      have B1 := Lib.hid h3
      have BW1 := Lib.hid (Below.andThen HB.out.2 h3 (Nat.le_refl _))
      have k0 := HPX.out.1 W1 BW1.out
      have k1 := HPX.out.2 W1 BW1.out
      clear h1 h2 h3
      go_wp2_with (at_builtin; refine wpList_append_run rfl _ _ 22 rfl _ _ _ _ rfl rfl A1.out ?_)
      refine (place_any x y W1).mono ?_
      rintro e W2 ⟨rfl, hb2⟩
      obtain ⟨b3, r3⟩ := box_start W2 28 [.int .i64 (plN x), .int .i64 (plN y)]
      have O3 := own_grow (own_grow O1.out hb2) b3
      have hsz : wr.heap.size ≤ (W2.alloc (.cells [.int .i64 (plN x), .int .i64 (plN y)].toArray 28)).heap.size := Nat.le_trans B1.out.size (Nat.le_trans hb2.size b3.size)
      obtain ⟨v4, W4, h1, h2, h3⟩ := app_one _ wr.heap.size _ (tmK ps i) (plN x) (plN y) W2.heap.size O3 hsz (by omega) r3
      obtain ⟨a4, c4, rfl, _⟩ := OwnP.open h2
      have A4 := Lib.hid h1
      have O4 := Lib.hid h2
      have B4 := Lib.hid ((Below.andThen (Below.andThen B1.out hb2 (Nat.le_refl _)) b3 (Nat.le_refl _)).trans h3)
      have HPT := Lib.hid (Points_any (tmK ps i ++ [(plN x, plN y)]) _ W4 (slp_own h2) (by rw [List.length_append, List.length_singleton]; omega))
      obtain ⟨E, hE⟩ : ∃ E, chkP (tmK ps i ++ [(plN x, plN y)]) = E := ⟨_, rfl⟩
      rw [hE] at HPT
      have HE := Lib.hid hE
      have HST2 := Lib.hid (show tmK ps (i + 1) = if E = true then tmK ps i ++ [(plN x, plN y)] else tmK ps i by rw [HST.out, ← hE]; rfl)
      have HSZ := Lib.hid HB.out.2.size
      obtain ⟨M, hM⟩ : ∃ M, (tmK ps i ++ [(plN x, plN y)]).length = M := ⟨_, rfl⟩
      rw [hM] at A4 HPT O4
      clear h1 h2 h3 hE hb2 b3 r3 O3 hsz k0 k1 hM
      go_wp2_with (at_builtin; refine wpList_append_run rfl _ _ 22 rfl _ _ _ _ rfl rfl A4.out ?_)
      refine HPT.out.mono ?_
      rintro e W5 ⟨rfl, hb5⟩
      have B5 := Lib.hid (Below.andThen B4.out hb5 (Nat.le_refl _))
      have O5 := Lib.hid (own_grow O4.out hb5)
      have BW5 := Lib.hid (Below.andThen HB.out.2 B5.out (Nat.le_refl _))
      clear hb5 HPT A4 A1
      cases E with
      | true =>
        go_wp2_with fail
        exact ⟨⟨i + 1, by omega, rfl, by rw [HST2.out, if_pos (by trivial)]; exact Lib.hid ⟨owns_mono O5.out HSZ.out, BW5.out⟩⟩, by simp [intOf]; omega⟩
      | false =>
        go_wp2_with fail
        exact ⟨⟨i + 1, by omega, rfl, by rw [HST2.out, if_neg (by simp)]; exact Lib.hid ⟨own_grow HB.out.1 B5.out, BW5.out⟩⟩, by simp [intOf]; omega⟩
    · have hfin : tmK ps n = tmK ps i := by
        by_cases h : i = n
        · rw [h]
        · rw [← HN.out]; exact tmK_full ps i (by rw [HN.out]; exact hk) (fun h2 => hlt ⟨by omega, h2⟩)
      have HOW := Lib.hid HB.out.1
      obtain ⟨T, hT⟩ : ∃ T, tmK ps i = T := ⟨_, rfl⟩
      have HF := Lib.hid (hfin.trans hT)
      rw [hT] at HOW HLE hlt ⊢
      clear hfin hT
      have d1 : (decide ((i : Int) < (n : Int)) && decide ((T.length : Int) < 12)) = false := by
        rw [Bool.and_eq_false_iff, decide_eq_false_iff_not, decide_eq_false_iff_not]
        omega
      have fin : ∀ (Q' : Prop), True := fun _ => trivial
      by_cases hT0 : T = []
      · subst hT0
        have hi2 : ¬ i < n := fun h => hlt ⟨h, by simp⟩
        have hd : decide ((i : Int) < (n : Int)) = false := decide_eq_false (by omega)
        have hdn : decide (i < n) = false := decide_eq_false hi2
        have HP := Lib.hid (own_pt wr 0 0)
        have HSZ := Lib.hid HB.out.2.size
        have HBA := Lib.hid (Below.andThen HB.out.2 (Below.al (Below.refl wr.heap.size wr) (Nat.le_refl _) (.cells #[.int .i64 0, .int .i64 0] 28)) (Nat.le_refl _))
        simp only [List.length_nil] at *
        clear fin d1
        go_wp2_with fail
        refine bodyPost_ret (v := .slice (some ⟨wr.heap.size, 0, none⟩) 1 1) (by simp [results, Try.results41, go_sem]) rfl ⟨_, rfl, ?_, HBA.out⟩
        rw [HT.out, HF.out, if_pos rfl]
        exact owns_mono HP.out HSZ.out
      · have hl0 : T.length ≠ 0 := fun h => hT0 (List.eq_nil_of_length_eq_zero h)
        have d0 : ((T.length : Int) == 0) = false := by simp; omega
        have HT0 := Lib.hid hT0
        clear hT0 hl0 fin d1
        by_cases hi2 : i < n
        · have hd : decide ((i : Int) < (n : Int)) = true := decide_eq_true (by omega)
          have hdn : decide (i < n) = true := decide_eq_true hi2
          have hd2 : decide ((T.length : Int) < 12) = false := decide_eq_false (by omega)
          have hdn2 : decide (T.length < 12) = false := decide_eq_false (by omega)
          go_wp2_with fail
          refine bodyPost_ret (v := .slice ao T.length co) (by simp [results, Try.results41, go_sem]) rfl ⟨_, rfl, ?_, HB.out.2⟩
          rw [HT.out, HF.out, if_neg HT0.out]
          exact HOW.out
        · have hd : decide ((i : Int) < (n : Int)) = false := decide_eq_false (by omega)
          have hdn : decide (i < n) = false := decide_eq_false hi2
          go_wp2_with fail
          refine bodyPost_ret (v := .slice ao T.length co) (by simp [results, Try.results41, go_sem]) rfl ⟨_, rfl, ?_, HB.out.2⟩
          rw [HT.out, HF.out, if_neg HT0.out]
          exact HOW.out
end Go.Proofs.Ytlemipnplgbckaa
