import Derived.Test.YtlehddifcjklgaaEc
import Derived.Maps.OwnIn
import Derived.Maps.OwnSet
import Derived.Maps.AppendAt
import Derived.RangeFuncNested
import Derived.RangeFuncBound
import Derived.RangeFuncCalls
import Derived.RangeFuncLeaves
import Derived.Shelf.Abstract
import Derived.Shelf.RegionOpen
import Derived.WalkKit
import Derived.OwnWalkIn
import Derived.TacticsInMore
import Derived.LoopNIn
import Derived.LoopIn
import Derived.WalkMore
import Derived.Sort.QuietThIn
import Derived.Sort.QuietTacIn
import Derived.Sort.BigQuietIn
import Derived.WalkSpells
import Derived.WalkLawsBesides
import Derived.BigQuiet
import Derived.Deep.QuietTactic
import Derived.Lib.Hide
import Derived.Deep.RegionHeld3
import Derived.StillTailTactics
import Derived.Deep.LoopGhost
import Derived.Lib.IndexAny
namespace Go.Proofs.Ytlehddifcjklgaa
open Go.RowKit Go.Shelf
attribute [local go_sem] Oper.semAt_some
set_option maxRecDepth 100000 in
set_option maxHeartbeats 1000000 in
theorem pdq_any (ps : List Pt) (g c n₀ : Nat) (lim : Int) (w : World) (ho : OwnG w n₀ g c ps) (hn0 : n₀ ≤ w.heap.size) (h1 : 1 ≤ ps.length) (h12 : ps.length ≤ 12) :
    Calls Try.prog 103 #[.slice (some ⟨g, 0, none⟩) ps.length c, .int .i64 0, .int .i64 (ps.length : Int), .int .i64 lim, .func (.func 85) #[] #[]] w fun e w' => (∃ v, e = .returned v) ∧ ∃ L, L.Perm ps ∧ SrtU L ps.length ∧ OwnG w' n₀ g c L ∧ Below n₀ w w' := by
  have HI := Lib.hid (insort_any ps g c n₀ w ho hn0 h1 h12)
  have d1 : decide ((ps.length : Int) ≤ 12) = true := decide_eq_true (by omega)
  have d2 : decide (ps.length ≤ 12) = true := decide_eq_true h12
  clear ho hn0
  go_enter Try.func103, Try.ntmps103
  go_wp2_with fail
  go_loopw [1, 2] (fun a b wr => a = .int .i64 0 ∧ b = .int .i64 (ps.length : Int) ∧ wr = w) (fun _ _ _ => 0)
  case atStart => exact ⟨rfl, rfl, rfl⟩
  case round =>
    obtain ⟨rfl, rfl, rfl⟩ := hrel
    go_wp2_with fail
    refine HI.out.mono ?_
    rintro e w1 ⟨⟨v, rfl⟩, h⟩
    have H := Lib.hid h
    clear h
    go_wp2_with fail
    refine bodyPost_ret (results_none rfl _ _ _) rfl ?_
    exact ⟨⟨_, rfl⟩, H.out⟩
set_option maxRecDepth 100000 in
set_option maxHeartbeats 1000000 in
theorem sort_any (ps : List Pt) (g c n₀ : Nat) (w : World) (ho : OwnG w n₀ g c ps) (hn0 : n₀ ≤ w.heap.size) (h1 : 1 ≤ ps.length) (h12 : ps.length ≤ 12) :
    Calls Try.prog 84 #[.slice (some ⟨g, 0, none⟩) ps.length c, .func (.func 85) #[] #[]] w fun e w' => (∃ v, e = .returned v) ∧ ∃ L, L.Perm ps ∧ SrtU L ps.length ∧ OwnG w' n₀ g c L ∧ Below n₀ w w' := by
  have hu : IntKind.u64.wrap (ps.length : Int) = (ps.length : Int) := by rw [u64_wrap]; omega
  have HO := Lib.hid ho
  clear ho
  go_enter Try.func84, Try.ntmps84
  go_wp2_with fail
  refine (len64_any ps.length w h12).mono ?_
  rintro e w1 ⟨⟨v, rfl⟩, hb⟩
  have hp := Lib.hid (fun lim => pdq_any ps g c n₀ lim w1 (own_grow HO.out hb) (Nat.le_trans hn0 hb.size) h1 h12)
  have HB := Lib.hid (hb.mono hn0)
  clear hb
  go_wp2_with fail
  refine (hp.out v).mono ?_
  rintro e w2 ⟨⟨v2, rfl⟩, L, h2, h3, h4, h5⟩
  have H := Lib.hid (And.intro h2 (And.intro h3 (And.intro h4 h5)))
  clear h2 h3 h4 h5 hp
  go_wp2_with fail
  go_end0
  exact ⟨⟨_, rfl⟩, L, H.out.1, H.out.2.1, H.out.2.2.1, HB.out.trans H.out.2.2.2⟩
end Go.Proofs.Ytlehddifcjklgaa
