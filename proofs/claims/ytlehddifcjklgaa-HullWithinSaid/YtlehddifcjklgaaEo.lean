import Derived.Test.YtlehddifcjklgaaEn
import Derived.Maps.OwnIn
import Derived.Maps.OwnSet
import Derived.Maps.AppendAt
import Derived.RangeFuncNested
import Derived.RangeFuncBound
import Derived.RangeFuncCalls
import Derived.RangeFuncLeaves
import Derived.Shelf.Abstract
import Derived.Shelf.RegionOpen
import Derived.WalkKit
import Derived.OwnWalkIn
import Derived.TacticsInMore
import Derived.LoopNIn
import Derived.LoopIn
import Derived.WalkMore
import Derived.Sort.QuietThIn
import Derived.Sort.QuietTacIn
import Derived.Sort.BigQuietIn
import Derived.WalkSpells
import Derived.WalkLawsBesides
import Derived.BigQuiet
import Derived.Deep.QuietTactic
import Derived.Lib.Hide
import Derived.Deep.RegionHeld3
import Derived.StillTailTactics
import Derived.Deep.LoopGhost
import Derived.Lib.IndexAny
namespace Go.Proofs.Ytlehddifcjklgaa
open Go.RowKit Go.Shelf
attribute [local go_sem] Oper.semAt_some
set_option maxRecDepth 100000 in
set_option maxHeartbeats 400000 in
theorem grow_zero (w : World) :
    Calls Try.prog 106 #[.slice none 0 0, .int .i64 0] w fun e w' => ∃ v, e = .returned v ∧ OwnP w' w.heap.size v [] ∧ Below w.heap.size w w' := by
  go_enter Try.func106, Try.ntmps106
  go_wp2_with fail
  exact bodyPost_ret (v := .slice none 0 0) (by simp [results, Try.results106, go_sem]) rfl ⟨_, rfl, ⟨rfl, .inl ⟨rfl, rfl⟩⟩, Below.refl _ _⟩
theorem grow_all (n : Nat) (w : World) (h24 : n ≤ 24) :
    Calls Try.prog 106 #[.slice none 0 0, .int .i64 (n : Int)] w fun e w' => ∃ v, e = .returned v ∧ OwnP w' w.heap.size v [] ∧ Below w.heap.size w w' := by
  rcases Nat.eq_zero_or_pos n with h | h
  · subst h; exact grow_zero w
  · exact grow_any n w h h24
set_option maxRecDepth 100000 in
set_option maxHeartbeats 400000 in
theorem concat_any (ps qs : List Pt) (g1 g2 c1 c2 b : Nat) (w : World) (hb : w.cell? ⟨b, 0, none⟩ = some (.slice (some ⟨g1, 0, none⟩) ps.length c1)) (hb2 : w.cell? ⟨b, 1, none⟩ = some (.slice (some ⟨g2, 0, none⟩) qs.length c2)) (hp : PtsAt w g1 0 ps) (hq : PtsAt w g2 0 qs) (hlt : b < w.heap.size ∧ g1 < w.heap.size ∧ g2 < w.heap.size) (h24 : ps.length + qs.length ≤ 24) :
    Calls Try.prog 90 #[.slice (some ⟨b, 0, none⟩) 2 2] w fun e w' => ∃ v, e = .returned v ∧ OwnP w' w.heap.size v (ps ++ qs) ∧ Below w.heap.size w w' := by
  obtain ⟨n, hn⟩ : ∃ n, ps.length = n := ⟨_, rfl⟩
  obtain ⟨m, hm⟩ : ∃ m, qs.length = m := ⟨_, rfl⟩
  have HN := Lib.hid (And.intro hn hm)
  rw [hn] at hb h24
  rw [hm] at hb2 h24
  have e0 : IntKind.i64.wrap ((n : Int) + (m : Int)) = ((n + m : Nat) : Int) := by rw [i64_of _ (by omega) (by omega)]; omega
  have e1 : IntKind.i64.wrap (n : Int) = (n : Int) := i64_of _ (by omega) (by omega)
  have d0 : decide (((n + m : Nat) : Int) < 0) = false := decide_eq_false (by omega)
  obtain ⟨i0, hi, hz0, hz1, hz2⟩ := info_parts info58
  have HBB := Lib.hid (And.intro hb hb2)
  have HP := Lib.hid hp
  have HQ := Lib.hid hq
  clear hn hm hp hq
  go_enter Try.func90, Try.ntmps90
  go_wp2_with fail
  go_loopw [3, 11] (fun sv iv wr => wr = w ∧ ∃ k : Nat, k ≤ 2 ∧ iv = .int .i64 (k : Int) ∧ sv = .int .i64 ((if k = 0 then 0 else if k = 1 then n else n + m : Nat) : Int)) (fun _ iv _ => 2 - (intOf iv).toNat)
  case atStart => exact ⟨rfl, 0, by omega, rfl, rfl⟩
  case round =>
    obtain ⟨rfl, k, hk, rfl, rfl⟩ := hrel
    match k, hk with
    | 0, _ =>
      rw [if_pos rfl]
      go_wp2_with fail
      refine ⟨⟨trivial, 1, by omega, by simp, by simp⟩, by simp [intOf]⟩
    | 1, _ =>
      rw [if_neg (by omega), if_pos rfl]
      go_wp2_with fail
      refine ⟨⟨trivial, 2, by omega, by simp, by simp⟩, by simp [intOf]⟩
    | 2, _ =>
      rw [if_neg (by omega), if_neg (by omega)]
      generalize hw0 : wr = w0 at *
      have HW0 := Lib.hid hw0
      clear hw0
      have HG := Lib.hid (show Calls Try.prog 106 #[.slice none 0 0, .int .i64 ((n : Int) + (m : Int))] w0 _ by have := grow_all (n + m) w0 h24; rw [Int.natCast_add] at this; exact this)
      go_wp2_with fail
      refine HG.out.mono ?_
      rintro e w1 ⟨v, rfl, ho, hbl⟩
      have OW := Lib.hid ho
      have B1 := Lib.hid hbl
      have b1 := below_at hbl hlt.1 hb
      have b2 := below_at hbl hlt.1 hb2
      obtain ⟨a0, c0, hv, _⟩ := ho.open
      subst hv
      clear HG ho hbl hb hb2 b1 b2
      go_wp2_with fail
      go_loopw [6, 27] (fun nv iv wx => ∃ (k : Nat) (ao : Option Addr) (co : Nat) (L : List Pt), k ≤ 2 ∧ iv = .int .i64 (k : Int) ∧ nv = .slice ao L.length co ∧ L = (if k = 0 then [] else if k = 1 then ps else ps ++ qs) ∧ Hid (OwnP wx w0.heap.size (.slice ao L.length co) L) ∧ Hid (Below w0.heap.size w0 wx)) (fun _ iv _ => 2 - (intOf iv).toNat)
      case atStart => exact ⟨0, a0, c0, [], by omega, rfl, rfl, rfl, OW, B1⟩
      case round =>
        obtain ⟨k, ao, co, L, hk, rfl, rfl, hL, OWx, HBx⟩ := hrel
        match k, hk with
        | 0, _ =>
          have b1 := below_at HBx.out hlt.1 HBB.out.1
          have b2 := below_at HBx.out hlt.1 HBB.out.2
          have hnews := Lib.hid (pts_cells ((HP.out).below HBx.out hlt.2.1) ps.length)
          obtain rfl : L = [] := by simpa using hL
          have OW2 : Hid (wr.ownsRow w0.heap.size 58 2 (.slice ao 0 co) 0 (flat [])) := Lib.hid (by
            have h := OWx.out
            unfold OwnP at h
            exact h)
          have HLEN : Hid ((0 : Nat) + n ≤ 24) := Lib.hid (by omega)
          have HFL : Hid ((flat ps).length = n * 2) := Lib.hid (by rw [flat_length, HN.out.1])
          have HNW : Hid (∀ j u, (flat ps)[j]? = some u → wr.cell? ((⟨g1, 0, none⟩ : Addr).add j) = some u) := Lib.hid (by have h := hnews.out; rw [List.take_length] at h; exact h)
          rw [show (([] : List Pt).length) = 0 from rfl, show ((0 : Nat) : Int) = 0 from rfl]
          go_wp2_with (at_builtin; refine wpList_append_own_at _ rfl _ _ 22 rfl w0.heap.size 58 i0 (.agg #[.int .i64 0, .int .i64 0]) 2 16 Try.underlying22 hi hz0 hz1 hz2 rfl (by decide) _ _ _ rfl OW2.out _ n c1 (flat ps) rfl HFL.out HNW.out (flat_one ps) (by have := HLEN.out; unfold maxLen; omega) (by have := HLEN.out; omega) HBx.out.size ?_; intro v' w2 hown' hgrow hnil hat; have HR2 := Lib.hid hown'; have B2 := Lib.hid (own_belowP OW2.out rfl HBx.out HBx.out hgrow); clear hown' hgrow hnil hat)
          have HO3 : OwnP w2 w0.heap.size v' ps := by
            have h := HR2.out
            rw [Nat.zero_add] at h
            unfold OwnP
            rw [HN.out.1]; exact h
          obtain ⟨a', c', hv, _⟩ := HO3.open
          subst hv
          exact ⟨⟨1, a', c', ps, by omega, by simp, rfl, rfl, Lib.hid HO3, B2⟩, by simp [intOf]⟩
        | 1, _ =>
          have b1 := below_at HBx.out hlt.1 HBB.out.1
          have b2 := below_at HBx.out hlt.1 HBB.out.2
          have hnews := Lib.hid (pts_cells ((HQ.out).below HBx.out hlt.2.2) qs.length)
          obtain rfl : ps = L := by simpa using hL.symm
          have OW2 : Hid (wr.ownsRow w0.heap.size 58 2 (.slice ao n co) n (flat ps)) := Lib.hid (by
            have h := OWx.out
            unfold OwnP at h
            rw [HN.out.1] at h; exact h)
          have HLEN : Hid ((n : Nat) + m ≤ 24) := Lib.hid (by omega)
          have HFL : Hid ((flat qs).length = m * 2) := Lib.hid (by rw [flat_length, HN.out.2])
          have HNW : Hid (∀ j u, (flat qs)[j]? = some u → wr.cell? ((⟨g2, 0, none⟩ : Addr).add j) = some u) := Lib.hid (by have h := hnews.out; rw [List.take_length] at h; exact h)
          rw [HN.out.1]
          go_wp2_with (at_builtin; refine wpList_append_own_at _ rfl _ _ 22 rfl w0.heap.size 58 i0 (.agg #[.int .i64 0, .int .i64 0]) 2 16 Try.underlying22 hi hz0 hz1 hz2 rfl (by decide) _ _ _ rfl OW2.out _ m c2 (flat qs) rfl HFL.out HNW.out (flat_one qs) (by have := HLEN.out; unfold maxLen; omega) (by have := HLEN.out; omega) HBx.out.size ?_; intro v' w2 hown' hgrow hnil hat; have HR2 := Lib.hid hown'; have B2 := Lib.hid (own_belowP OW2.out rfl HBx.out HBx.out hgrow); clear hown' hgrow hnil hat)
          have HO3 : OwnP w2 w0.heap.size v' (ps ++ qs) := by
            have h := HR2.out
            unfold OwnP
            rw [flat_append, List.length_append, HN.out.1, HN.out.2]; exact h
          obtain ⟨a', c', hv, _⟩ := HO3.open
          subst hv
          exact ⟨⟨2, a', c', ps ++ qs, by omega, by simp, rfl, rfl, Lib.hid HO3, B2⟩, by simp [intOf]⟩
        | 2, _ =>
          have HL := Lib.hid (show L = ps ++ qs from hL)
          go_wp2_with fail
          rw [HW0.out]
          have HO3 := OWx.out
          have e : L = ps ++ qs := HL.out
          exact bodyPost_ret (v := .slice ao L.length co) (by simp [results, Try.results90, go_sem]) rfl ⟨_, rfl, by rw [← e]; exact HO3, HBx.out⟩
end Go.Proofs.Ytlehddifcjklgaa
