import Derived.Test.YtlehddifcjklgaaEp
import Derived.Test.YtlehddifcjklgaaEj
import Derived.Test.YtlehddifcjklgaaCx
import Derived.Maps.OwnIn
import Derived.Maps.OwnSet
import Derived.Maps.AppendAt
import Derived.RangeFuncNested
import Derived.RangeFuncBound
import Derived.RangeFuncCalls
import Derived.RangeFuncLeaves
import Derived.Shelf.Abstract
import Derived.Shelf.RegionOpen
import Derived.WalkKit
import Derived.OwnWalkIn
import Derived.TacticsInMore
import Derived.LoopNIn
import Derived.LoopIn
import Derived.WalkMore
import Derived.Sort.QuietThIn
import Derived.Sort.QuietTacIn
import Derived.Sort.BigQuietIn
import Derived.WalkSpells
import Derived.WalkLawsBesides
import Derived.BigQuiet
import Derived.Deep.QuietTactic
import Derived.Lib.Hide
import Derived.Deep.RegionHeld3
import Derived.StillTailTactics
import Derived.Deep.LoopGhost
import Derived.Lib.IndexAny
namespace Go.Proofs.Ytlehddifcjklgaa
open Go.RowKit Go.Shelf
attribute [local go_sem] Oper.semAt_some
theorem PtsA.grow' {W W' : World} {a : Option Addr} {ps : List Pt} {c : Nat} (h : PtsA W a ps c) (hb : Below W.heap.size W W') : PtsA W' a ps c := h.grow hb
set_option maxRecDepth 100000 in
set_option maxHeartbeats 2000000 in
theorem HullAround_any (ps : List Pt) (a : Option Addr) (c : Nat) (w : World) (hp : PtsA w a ps c) (hc : ps.length ≤ c) (hn : a = none → c = 0) (hl : ps.length ≤ maxLen) (hz : ∀ q ∈ ps, InI q.1 ∧ InI q.2) :
    Calls Try.prog 7 #[.slice a ps.length c] w fun e w' => e = .returned (.bool true) ∧ Below w.heap.size w w' := by
  have hOW := own_any ps a c w hp hc hn hl
  have HP := Lib.hid hp
  have HZ := Lib.hid hz
  clear hp hz hn hc
  go_enter Try.func7, Try.ntmps7
  go_wp2_with fail
  refine hOW.mono ?_
  rintro e w1 ⟨v, rfl, ho, hb⟩
  obtain ⟨ax0, cx0, rfl, _⟩ := ho.open
  have h13 : (ps.take 13).length ≤ 13 := by rw [List.length_take]; omega
  obtain ⟨q0, hq0⟩ : ∃ q0, ps.take 13 = q0 := ⟨_, rfl⟩
  rw [hq0] at ho h13
  have O1 := Lib.hid ho
  have B1 := Lib.hid hb
  rw [hq0]
  clear hOW ho hb hq0
  go_wp2_with fail
  go_loopw [3, 4] (fun xv iv wr => ∃ (k : Nat) (qs : List Pt) (ax : Option Addr) (cx : Nat), k ≤ 2 ∧ iv = .int .i64 (k : Int) ∧ xv = .slice ax qs.length cx ∧ qs.length ≤ 13 ∧ Hid (OwnP wr w.heap.size (.slice ax qs.length cx) qs) ∧ Hid (Below w.heap.size w wr)) (fun _ iv _ => 2 - (intOf iv).toNat)
  case atStart => exact ⟨0, q0, ax0, cx0, by omega, rfl, rfl, h13, O1, B1⟩
  case round =>
    clear O1 B1
    obtain ⟨k, qs, ax, cx, hk, rfl, rfl, h13, OW, HB⟩ := hrel
    by_cases hk2 : k < 2
    · have hd : decide ((k : Int) < 2) = true := decide_eq_true (by omega)
      have hkw : IntKind.i64.wrap ((k : Int) + 1) = (k : Int) + 1 := i64_of _ (by omega) (by omega)
      cases hA : areP qs with
      | false =>
        have H1 := Lib.hid (Around_bad qs ax cx wr OW.out.pts hA (by omega))
        go_wp2_with fail
        refine H1.out.mono ?_
        rintro e w2 ⟨rfl, hb⟩
        have H2 := Lib.hid (Numbers_any qs ax cx w2 (OwnP.pts (own_grow OW.out hb)) (by omega))
        rw [hA] at H2
        have B2 := Lib.hid (Below.andThen HB.out hb (Nat.le_refl _))
        clear H1 hb
        go_wp2_with fail
        refine H2.out.mono ?_
        rintro e w3 ⟨rfl, hb⟩
        have B3 := Lib.hid (Below.andThen B2.out hb (Nat.le_refl _))
        have H3 := Lib.hid (points_any ps a c w3 (HP.out.grow' B3.out) hl HZ.out)
        clear H2 hb B2
        go_wp2_with fail
        refine H3.out.mono ?_
        rintro e w4 ⟨v, qs', rfl, ho, ⟨h3', h12', _⟩, hb⟩
        obtain ⟨ax', cx', rfl, _⟩ := ho.open
        have B4 := Lib.hid (Below.andThen B3.out hb (Nat.le_refl _))
        have O4 := Lib.hid (OwnP.lower ho B3.out.size)
        clear H3 hb ho B3
        go_wp2_with fail
        exact ⟨⟨k + 1, qs', ax', cx', by omega, by simp, rfl, by omega, O4, B4⟩, by simp [intOf]; omega⟩
      | true =>
        obtain ⟨h3, h12⟩ := areP_len hA
        obtain ⟨g, c', he, hg, _, hpt, hcc⟩ := OW.out.someOf (by omega)
        cases he
        have H1 := Lib.hid (Around_good qs g cx wr hpt hA hcc)
        have P1 := Lib.hid hpt
        clear hpt
        go_wp2_with fail
        refine H1.out.mono ?_
        rintro e w2 ⟨L, hL, hs, hne, hb, hres⟩
        have H2 := Lib.hid (Numbers_any qs (some ⟨g, 0, none⟩) cx w2 (.inr ⟨g, 0, rfl, P1.out.grow hb, hcc⟩) (by omega))
        rw [hA] at H2
        have B2 := Lib.hid (Below.andThen HB.out hb (Nat.le_refl _))
        have P2 := Lib.hid (P1.out.grow hb)
        have HL := Lib.hid (And.intro hL (And.intro hs hne))
        clear H1 hb P1 hL hs hne
        rcases hres with ⟨h3r, v, rfl, ho⟩ | ⟨h3r, rfl⟩
        · obtain ⟨R, hR⟩ : ∃ R, arnd (dd L) = R := ⟨_, rfl⟩
          rw [hR] at h3r ho
          have HR := Lib.hid hR
          clear hR
          obtain ⟨ar, cr, rfl, _⟩ := ho.open
          have OR := Lib.hid ho.pts
          have H3R := Lib.hid h3r
          clear ho h3r
          go_wp2_with fail
          refine H2.out.mono ?_
          rintro e w3 ⟨rfl, hb⟩
          have B3 := Lib.hid (Below.andThen B2.out hb (Nat.le_refl _))
          have OR3 := Lib.hid (OR.out.grow hb)
          have P3 := Lib.hid (P2.out.grow hb)
          have H3 := Lib.hid (rAround2_any qs g cx w3 P3.out hA)
          clear H2 hb B2 P2 OR
          go_wp2_with fail
          refine H3.out.mono ?_
          rintro e w4 ⟨v4, os, rfl, ho, ⟨hc2, hone, h1, hm, hle⟩, hlen, hb⟩
          have hq : ¬ 12 < qs.length := by omega
          have HB4 := (arnd_ref HL.out.1 HL.out.2.1 h1 hc2 hone hm hle HL.out.2.2).resolve_right hq
          rw [HR.out] at HB4
          have h3o : 3 ≤ os.length := by
            rcases Nat.lt_or_ge os.length 3 with h | h
            · have := HB4.2.1 h; have := H3R.out; omega
            · exact h
          have eR := HB4.1 h3o
          obtain ⟨a4, c4, rfl, _⟩ := ho.open
          have B4 := Lib.hid (Below.andThen B3.out hb (Nat.le_refl _))
          have HPR := pairs_any R os ar a4 cr c4 w4 (OR3.out.grow hb) ho.pts (by rw [eR]) (by rw [eR]; omega)
          rw [decide_eq_true eR] at HPR
          have HPR := Lib.hid HPR
          rw [decide_eq_true h3o]
          clear H3 hb B3 OR3 P3 hc2 hone h1 hm hle ho HB4 eR
          go_wp2_with fail
          refine HPR.out.mono ?_
          rintro e w5 ⟨rfl, hb⟩
          have B5 := Lib.hid (Below.andThen B4.out hb (Nat.le_refl _))
          have H3 := Lib.hid (points_any ps a c w5 (HP.out.grow' B5.out) hl HZ.out)
          clear hb B4 HPR
          go_wp2_with fail
          refine H3.out.mono ?_
          rintro e w6 ⟨v, qs', rfl, ho, ⟨h3', h12', _⟩, hb⟩
          obtain ⟨ax', cx', rfl, _⟩ := ho.open
          have B6 := Lib.hid (Below.andThen B5.out hb (Nat.le_refl _))
          have O6 := Lib.hid (OwnP.lower ho B5.out.size)
          clear H3 hb ho B5
          go_wp2_with fail
          exact ⟨⟨k + 1, qs', ax', cx', by omega, by simp, rfl, by omega, O6, B6⟩, by simp [intOf]; omega⟩
        · have H3R := Lib.hid h3r
          clear h3r
          go_wp2_with fail
          refine H2.out.mono ?_
          rintro e w3 ⟨rfl, hb⟩
          have B3 := Lib.hid (Below.andThen B2.out hb (Nat.le_refl _))
          have P3 := Lib.hid (P2.out.grow hb)
          have H3 := Lib.hid (rAround2_any qs g cx w3 P3.out hA)
          clear H2 hb B2 P2
          go_wp2_with fail
          refine H3.out.mono ?_
          rintro e w4 ⟨v4, os, rfl, ho, ⟨hc2, hone, h1, hm, hle⟩, hlen, hb⟩
          have hq : ¬ 12 < qs.length := by omega
          have HB4 := (arnd_ref HL.out.1 HL.out.2.1 h1 hc2 hone hm hle HL.out.2.2).resolve_right hq
          have h3o : ¬ 3 ≤ os.length := by
            intro h
            have := HB4.1 h; have := H3R.out; rw [HB4.1 h] at this; omega
          obtain ⟨a4, c4, rfl, _⟩ := ho.open
          have B4 := Lib.hid (Below.andThen B3.out hb (Nat.le_refl _))
          rw [decide_eq_false h3o]
          have H3 := Lib.hid (points_any ps a c w4 (HP.out.grow' B4.out) hl HZ.out)
          clear hb B3 P3 hc2 hone h1 hm hle ho HB4
          go_wp2_with fail
          refine H3.out.mono ?_
          rintro e w6 ⟨v, qs', rfl, ho, ⟨h3', h12', _⟩, hb⟩
          obtain ⟨ax', cx', rfl, _⟩ := ho.open
          have B6 := Lib.hid (Below.andThen B4.out hb (Nat.le_refl _))
          have O6 := Lib.hid (OwnP.lower ho B4.out.size)
          clear H3 hb ho B4
          go_wp2_with fail
          exact ⟨⟨k + 1, qs', ax', cx', by omega, by simp, rfl, by omega, O6, B6⟩, by simp [intOf]; omega⟩
    · have hd : decide ((k : Int) < 2) = false := decide_eq_false (by omega)
      go_wp2_with fail
      refine (awake_any _).mono ?_
      rintro e w2 ⟨rfl, hb⟩
      have B2 := Lib.hid (Below.andThen HB.out hb (Nat.le_refl _))
      clear hb
      go_wp2_with fail
      go_ret
      exact ⟨rfl, B2.out⟩
end Go.Proofs.Ytlehddifcjklgaa
