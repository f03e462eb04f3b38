import Derived.Test.YtlehddifcjklgaaEo
import Derived.Test.YtlehddifcjklgaaEd
import Derived.Maps.OwnIn
import Derived.Maps.OwnSet
import Derived.Maps.AppendAt
import Derived.RangeFuncNested
import Derived.RangeFuncBound
import Derived.RangeFuncCalls
import Derived.RangeFuncLeaves
import Derived.Shelf.Abstract
import Derived.Shelf.RegionOpen
import Derived.WalkKit
import Derived.OwnWalkIn
import Derived.TacticsInMore
import Derived.LoopNIn
import Derived.LoopIn
import Derived.WalkMore
import Derived.Sort.QuietThIn
import Derived.Sort.QuietTacIn
import Derived.Sort.BigQuietIn
import Derived.WalkSpells
import Derived.WalkLawsBesides
import Derived.BigQuiet
import Derived.Deep.QuietTactic
import Derived.Lib.Hide
import Derived.Deep.RegionHeld3
import Derived.StillTailTactics
import Derived.Deep.LoopGhost
import Derived.Lib.IndexAny
namespace Go.Proofs.Ytlehddifcjklgaa
open Go.RowKit Go.Shelf
attribute [local go_sem] Oper.semAt_some
theorem ownG_take {W : World} {n₀ g c : Nat} {L : List Pt} (h : OwnG W n₀ g c L) (k : Nat) (hk : k ≤ L.length) : OwnG W n₀ g c (L.take k) := by
  unfold OwnG OwnP at *
  have hl : (L.take k).length = k := by rw [List.length_take]; omega
  rw [hl]
  refine ⟨by rw [flat_length, hl], ?_⟩
  rcases h.2 with ⟨h1, _⟩ | ⟨g', cap, cur, he, h1, h2, h3, h4, h5, h6⟩
  · cases h1
  · cases he
    refine .inr ⟨g, c, cur, rfl, h1, h2, by omega, h4, h5, ?_⟩
    have e : flat L = flat (L.take k) ++ flat (L.drop k) := by rw [← flat_append, List.take_append_drop]
    have h7 := congrArg (List.take (k * 2)) h6
    rw [List.take_take, e, List.take_append_of_le_length (by rw [flat_length, hl]; omega), List.take_of_length_le (l := flat (L.take k)) (by rw [flat_length, hl]; omega), Nat.min_eq_left (by omega)] at h7
    exact h7
theorem OwnP.someOf {W : World} {n₀ : Nat} {v : Value} {ps : List Pt} (h : OwnP W n₀ v ps) (h1 : 1 ≤ ps.length) : ∃ g c, v = .slice (some ⟨g, 0, none⟩) ps.length c ∧ n₀ ≤ g ∧ OwnG W n₀ g c ps ∧ PtsAt W g 0 ps ∧ ps.length ≤ c := by
  have h0 := h
  obtain ⟨a2, c2, rfl, hh⟩ := h.open
  rcases hh with ⟨_, _, e⟩ | ⟨g, hg, rfl, hp, hc⟩
  · rw [e] at h1; simp at h1
  · exact ⟨g, c2, rfl, hg, h0, hp, hc⟩
theorem OwnP.lower {W : World} {n m : Nat} {v : Value} {ps : List Pt} (h : OwnP W n v ps) (hm : m ≤ n) : OwnP W m v ps := by
  unfold OwnP at *
  refine ⟨h.1, ?_⟩
  rcases h.2 with h2 | ⟨g, cap, cur, he, h1, h2⟩
  · exact .inl h2
  · exact .inr ⟨g, cap, cur, he, by omega, h2⟩
theorem PtsAt.cut {W : World} {b o : Nat} {ps : List Pt} (h : PtsAt W b o ps) : PtsAt W b o ps.dropLast where
  lt := h.lt
  x := fun i hi => by
    have hi' : i < ps.length := by rw [List.length_dropLast] at hi; omega
    rw [List.getElem_dropLast]; exact h.x i hi'
  y := fun i hi => by
    have hi' : i < ps.length := by rw [List.length_dropLast] at hi; omega
    rw [List.getElem_dropLast]; exact h.y i hi'
theorem PtsAt.kept {W W' : World} {b o : Nat} {ps : List Pt} {g : Nat} (h : PtsAt W b o ps) (hg : W.grownBy W' (some g)) (hne : b ≠ g) : PtsAt W' b o ps where
  lt := Nat.lt_of_lt_of_le h.lt hg.size
  x := fun i hi => by
    rw [World.cell?_of_block (hg.block b h.lt (fun e => hne (Option.some.inj e)))]; exact h.x i hi
  y := fun i hi => by
    rw [World.cell?_of_block (hg.block b h.lt (fun e => hne (Option.some.inj e)))]; exact h.y i hi
theorem fold_left_pos : ∀ (ps st : List Pt), ps ≠ [] → 1 ≤ (ps.foldl leftR st).length
  | [], _, h => absurd rfl h
  | [p], st, _ => by simp [leftR]
  | p :: q :: ps, st, _ => by
    rw [List.foldl_cons]; exact fold_left_pos (q :: ps) _ (by simp)
theorem dd_ne {L : List Pt} (h : L ≠ []) (hs : SrtU L L.length) : dd L ≠ [] := by
  intro e
  obtain ⟨_, hm⟩ := dd_sorted hs
  obtain ⟨f, r, rfl⟩ := List.exists_cons_of_ne_nil h
  have := (hm f).2 (by simp)
  rw [e] at this; simp at this
set_option maxRecDepth 100000 in
set_option maxHeartbeats 1000000 in
theorem Around_good (ps : List Pt) (b c : Nat) (w : World) (hp : PtsAt w b 0 ps) (ha : areP ps = true) (hc : ps.length ≤ c) :
    Calls Try.prog 40 #[.slice (some ⟨b, 0, none⟩) ps.length c] w fun e w' => ∃ L, L.Perm ps ∧ SrtU L L.length ∧ dd L ≠ [] ∧ Below w.heap.size w w' ∧ ((3 ≤ (arnd (dd L)).length ∧ ∃ v, e = .returned (.tuple #[v, .int .i64 0]) ∧ OwnP w' w.heap.size v (arnd (dd L))) ∨ ((arnd (dd L)).length < 3 ∧ e = .returned (.tuple #[.slice none 0 0, .int .i64 30]))) := by
  have hlt := hp.lt
  obtain ⟨h3, h12⟩ := areP_len ha
  have hin : ∀ q ∈ ps, inR q = true := by
    unfold areP at ha
    rw [Bool.and_eq_true, List.all_eq_true] at ha
    exact ha.2
  have A1 := arePoints_any ps b 0 c w hp (by omega)
  rw [ha] at A1
  go_enter Try.func40, Try.ntmps40
  go_wp2_with fail
  refine A1.mono ?_
  rintro e w1 ⟨rfl, hb1⟩
  have HP := Lib.hid (hp.below hb1 hlt)
  have M0 := Lib.hid hb1.size
  have B1 := Lib.hid hb1
  clear A1 hp hb1
  go_wp2_with fail
  refine (Clone_any ps b c w1 HP.out (by omega) hc).mono ?_
  rintro e w2 ⟨v, rfl, ho, hb2⟩
  obtain ⟨g, c1, rfl, hg1, ho, _, _⟩ := ho.someOf (by omega)
  have B2 := Lib.hid (Below.andThen B1.out hb2 (Nat.le_refl _))
  have S2 := Lib.hid hb2.size
  have O2 := Lib.hid ho
  have HS := Lib.hid (sort_any ps g c1 w1.heap.size w2 ho hb2.size (by omega) h12)
  clear ho hb2 B1 HP
  go_wp2_with fail
  refine HS.out.mono ?_
  rintro e w3 ⟨⟨v, rfl⟩, L, hL, hsrt, ho3, hb3⟩
  have hlen : L.length = ps.length := hL.length_eq
  have hsrt' : SrtU L L.length := by rw [hlen]; exact hsrt
  have hLne : L ≠ [] := fun e => by rw [e] at hlen; simp at hlen; omega
  have hDne := dd_ne hLne hsrt'
  have hDlen := dd_len L
  have hDin : ∀ q ∈ dd L, inR q = true := fun q hq => hin q (hL.mem_iff.1 ((dd_sorted hsrt').2 q |>.1 hq))
  have HL := Lib.hid (And.intro hL (And.intro hsrt' hDne))
  have M1 : Hid (w.heap.size ≤ w1.heap.size) := M0
  have M3 := Nat.le_trans S2.out hb3.size
  have B3 := Lib.hid (B2.out.trans (hb3.mono M1.out))
  have HC := Lib.hid (compact_any L g c1 w1.heap.size w3 ho3 M3 (by omega) (by omega))
  rw [hlen] at HC
  clear HS hb3 ho3 B2 S2 O2
  go_wp2_with fail
  refine HC.out.mono ?_
  rintro e w4 ⟨k, hk, rfl, ⟨L', ho4, ht⟩, hb4⟩
  have hkL : k ≤ L'.length := by
    have := congrArg List.length ht
    rw [List.length_take] at this; omega
  have O4 := ownG_take ho4 k hkL
  rw [ht] at O4
  obtain ⟨D, hD⟩ : ∃ D, dd L = D := ⟨_, rfl⟩
  rw [hD] at hk O4 hDne hDlen hDin
  have HD := Lib.hid hD
  subst hk
  have hD12 : D.length ≤ 12 := by omega
  have hD1 : 1 ≤ D.length := List.length_pos_iff.2 hDne
  obtain ⟨hpD, _, hgm⟩ := O4.pts hDne
  have M4 := Nat.le_trans M3 hb4.size
  have B4 := Lib.hid (B3.out.trans (hb4.mono M1.out))
  have HR1 := Lib.hid (leftwards_any D g c1 w4 hpD hD12 hDin)
  have hgl := hpD.lt
  have O4h := Lib.hid O4
  clear HC hb4 ho4 B3 O4 hpD hD ht
  go_wp2_with fail
  refine HR1.out.mono ?_
  rintro e w5 ⟨v2, rfl, ho5, hb5⟩
  obtain ⟨S1, hS1⟩ : ∃ S1, (D.foldl leftR []).reverse = S1 := ⟨_, rfl⟩
  have hS1l : 1 ≤ S1.length ∧ S1.length ≤ 12 := by
    rw [← hS1, List.length_reverse]
    exact ⟨fold_left_pos D [] hDne, by have := foldl_left_len D []; rw [List.length_nil] at this; omega⟩
  rw [hS1] at ho5
  have HS1 := Lib.hid hS1
  obtain ⟨g2, c2, rfl, hg2, _, hp2, hc2⟩ := ho5.someOf hS1l.1
  have O5 := own_grow O4h.out hb5
  have M5 := Nat.le_trans M4 hb5.size
  have HV := Lib.hid (reverse_any D g c1 w1.heap.size w5 O5 M5 hD1 hD12)
  have P5 := Lib.hid hp2
  have B5 := Lib.hid (Below.andThen B4.out hb5 (Nat.le_refl _))
  clear hS1 hb5 ho5 hp2 O4h HR1 B4 O5
  go_wp2_with fail
  refine HV.out.mono ?_
  rintro e w6 ⟨⟨v, rfl⟩, ho6, hb6, hg6⟩
  have hne : g2 ≠ g := by omega
  have hp6 : PtsAt w6 g2 0 S1 := P5.out.kept hg6 hne
  have hp2l := hp6.lt
  have P6 := Lib.hid hp6
  have M6 := Nat.le_trans M5 hb6.size
  have B6 := Lib.hid (B5.out.trans (hb6.mono M1.out))
  have hrne : D.reverse ≠ [] := fun e => hDne (List.reverse_eq_nil_iff.1 e)
  have HR2 := leftwards_any D.reverse g c1 w6 (ho6.pts hrne).1 (by rw [List.length_reverse]; exact hD12) (fun q hq => hDin q (List.mem_reverse.1 hq))
  rw [List.length_reverse] at HR2
  have HR2 := Lib.hid HR2
  clear HV ho6 hb6 hg6 hp6 P5 B5
  go_wp2_with fail
  refine HR2.out.mono ?_
  rintro e w7 ⟨v3, rfl, ho7, hb7⟩
  obtain ⟨S2, hS2⟩ : ∃ S2, (D.reverse.foldl leftR []).reverse = S2 := ⟨_, rfl⟩
  have hS2l : 1 ≤ S2.length ∧ S2.length ≤ 12 := by
    rw [← hS2, List.length_reverse]
    exact ⟨fold_left_pos _ [] hrne, by have := foldl_left_len D.reverse []; rw [List.length_nil, List.length_reverse] at this; omega⟩
  rw [hS2] at ho7
  have HS2 := Lib.hid hS2
  obtain ⟨g3, c3, rfl, hg3, _, hp3, hc3⟩ := ho7.someOf hS2l.1
  have P7 := Lib.hid (And.intro (P6.out.grow hb7) hp3)
  have B7 := Lib.hid (Below.andThen B6.out hb7 (Nat.le_refl _))
  have hAR : arnd (dd L) = S1.dropLast ++ S2.dropLast := by rw [HD.out]; unfold arnd; rw [HS1.out, HS2.out]
  have HAR := Lib.hid hAR
  have hg2l : g2 < w7.heap.size := Nat.lt_of_lt_of_le hp2l hb7.size
  have hg3l := hp3.lt
  clear HR2 ho7 hb7 P6 B6 hp3 hAR hS2 hDin
  have L1 : S1.dropLast.length ≤ c2 := by rw [List.length_dropLast]; omega
  have L2 : S2.dropLast.length ≤ c3 := by rw [List.length_dropLast]; omega
  have W1 : IntKind.i64.wrap ((S1.length : Int) - 1) = (S1.dropLast.length : Int) := by rw [i64_of _ (by omega) (by omega), List.length_dropLast]; omega
  have W2 : IntKind.i64.wrap ((S2.length : Int) - 1) = (S2.dropLast.length : Int) := by rw [i64_of _ (by omega) (by omega), List.length_dropLast]; omega
  have H24 := Lib.hid (show S1.dropLast.length + S2.dropLast.length ≤ 24 by rw [List.length_dropLast, List.length_dropLast]; omega)
  go_wp2_with fail
  refine wp_region_cut (C := fun w' => ∃ n : Kl w7, w' = n.W) 10 (by kernel_rfl) (by kernel_rfl) ⟨⟨w7.drew, (Below.refl _ _).drew⟩, rfl⟩ ?_
  simp only [List.take_succ_cons, List.take_zero, List.drop_succ_cons, List.drop_zero]
  repeat (go_big_quiet_step (fail))
  refine wpQuiet_nil ?_
  rintro _ ⟨wq, rfl⟩
  have PQ := Lib.hid (And.intro (P7.out.1.grow wq.h) (P7.out.2.grow wq.h))
  have BQ := Lib.hid (Below.andThen B7.out wq.h (Nat.le_refl _))
  generalize wq.W = w8 at *
  have l2 := PQ.out.1.lt
  have l3 := PQ.out.2.lt
  have HCO : ∀ V1 V2 : Value, V1 = .slice (some ⟨g2, 0, none⟩) (S1.length - 1) c2 → V2 = .slice (some ⟨g3, 0, none⟩) (S2.length - 1) c3 → Calls Try.prog 90 #[.slice (some ⟨w8.heap.size, 0, none⟩) 2 2] (w8.alloc (.cells #[V1, V2] 22)) fun e w' => ∃ v, e = .returned v ∧ OwnP w' w8.heap.size v (arnd (dd L)) ∧ Below w8.heap.size w8 w' := by
    rintro V1 V2 rfl rfl
    have hba := Below.alloc (Below.refl w8.heap.size w8) (Nat.le_refl _) (.cells #[.slice (some ⟨g2, 0, none⟩) (S1.length - 1) c2, .slice (some ⟨g3, 0, none⟩) (S2.length - 1) c3] 22)
    have z0 := cell_two_at w8 (.slice (some ⟨g2, 0, none⟩) (S1.length - 1) c2) (.slice (some ⟨g3, 0, none⟩) (S2.length - 1) c3) 22 w8.heap.size rfl 0 _ rfl
    have z1 := cell_two_at w8 (.slice (some ⟨g2, 0, none⟩) (S1.length - 1) c2) (.slice (some ⟨g3, 0, none⟩) (S2.length - 1) c3) 22 w8.heap.size rfl 1 _ rfl
    rw [Go.WideShapes.add_plain] at z0 z1
    rw [← List.length_dropLast, ← List.length_dropLast] at z0 z1 hba ⊢
    have hsz : w8.heap.size < (w8.alloc (.cells #[.slice (some ⟨g2, 0, none⟩) S1.dropLast.length c2, .slice (some ⟨g3, 0, none⟩) S2.dropLast.length c3] 22)).heap.size := by simp
    refine (concat_any S1.dropLast S2.dropLast g2 g3 c2 c3 w8.heap.size _ z0 z1 ((PQ.out.1.grow hba).cut) ((PQ.out.2.grow hba).cut) ⟨hsz, Nat.lt_trans l2 hsz, Nat.lt_trans l3 hsz⟩ H24.out).mono ?_
    rintro e w' ⟨v, rfl, ho, hb⟩
    refine ⟨v, rfl, ?_, Below.andThen hba hb (Nat.le_refl _)⟩
    rw [HAR.out]
    exact ho.lower (Nat.le_of_lt hsz)
  have HCO := Lib.hid HCO
  have M8 := BQ.out.size
  clear P7 B7
  go_wp2_with fail
  refine (HCO.out _ _ rfl rfl).mono ?_
  rintro e w9 ⟨v, rfl, ho, hb⟩
  obtain ⟨a9, c9, rfl, _⟩ := ho.open
  have HO := Lib.hid (ho.lower M8)
  have B9 := Lib.hid (Below.andThen BQ.out hb (Nat.le_refl _))
  clear ho hb HCO BQ
  by_cases h3r : 3 ≤ (arnd (dd L)).length
  · have hd : decide (((arnd (dd L)).length : Int) < 3) = false := decide_eq_false (by omega)
    have H3 := Lib.hid h3r
    go_wp2_with fail
    exact bodyPost_ret (v := .tuple #[.slice a9 (arnd (dd L)).length c9, .int .i64 0]) (by simp [results, Try.results40, go_sem]) rfl ⟨L, HL.out.1, HL.out.2.1, HL.out.2.2, B9.out, .inl ⟨H3.out, _, rfl, HO.out⟩⟩
  · have hd : decide (((arnd (dd L)).length : Int) < 3) = true := decide_eq_true (by omega)
    have H3 := Lib.hid (show (arnd (dd L)).length < 3 by omega)
    go_wp2_with fail
    exact bodyPost_ret (v := .tuple #[.slice none 0 0, .int .i64 30]) (by simp [results, Try.results40, go_sem]) rfl ⟨L, HL.out.1, HL.out.2.1, HL.out.2.2, B9.out, .inr ⟨H3.out, rfl⟩⟩
set_option maxHeartbeats 1000000 in
theorem Around_bad (ps : List Pt) (a : Option Addr) (c : Nat) (w : World) (hp : PtsA w a ps c) (ha : areP ps = false) (hl : ps.length ≤ 1000000) :
    Calls Try.prog 40 #[.slice a ps.length c] w fun e w' => e = .returned (.tuple #[.slice none 0 0, .int .i64 1]) ∧ Below w.heap.size w w' := by
  have A1 : Calls Try.prog 62 #[.slice a ps.length c] w fun e w' => e = .returned (.bool (areP ps)) ∧ Below w.heap.size w w' := by
    rcases hp with rfl | ⟨b, o, rfl, hp, _⟩
    · exact arePoints_short [] a c w (by simp) (.inl (by simp))
    · exact arePoints_any ps b o c w hp hl
  rw [ha] at A1
  clear hp
  go_enter Try.func40, Try.ntmps40
  go_wp2_with fail
  refine A1.mono ?_
  rintro e w1 ⟨rfl, hb1⟩
  have B1 := Lib.hid hb1
  clear A1 hb1
  go_wp2_with fail
  exact bodyPost_ret (v := .tuple #[.slice none 0 0, .int .i64 1]) (by simp [results, Try.results40, go_sem]) rfl ⟨rfl, B1.out⟩
end Go.Proofs.Ytlehddifcjklgaa
