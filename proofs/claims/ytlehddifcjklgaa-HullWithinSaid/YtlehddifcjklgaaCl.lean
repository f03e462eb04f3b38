import Derived.Test.YtlehddifcjklgaaCj
import Derived.Maps.OwnIn
import Derived.Maps.OwnSet
import Derived.Maps.AppendAt
import Derived.RangeFuncNested
import Derived.RangeFuncBound
import Derived.RangeFuncCalls
import Derived.RangeFuncLeaves
import Derived.Shelf.Abstract
import Derived.Shelf.RegionOpen
import Derived.WalkKit
import Derived.OwnWalkIn
import Derived.TacticsInMore
import Derived.LoopNIn
import Derived.LoopIn
import Derived.WalkMore
import Derived.Sort.QuietThIn
import Derived.Sort.QuietTacIn
import Derived.Sort.BigQuietIn
import Derived.WalkSpells
import Derived.WalkLawsBesides
import Derived.BigQuiet
import Derived.Deep.QuietTactic
import Derived.Lib.Hide
import Derived.Deep.RegionHeld3
import Derived.StillTailTactics
import Derived.Deep.LoopGhost
import Derived.Lib.IndexAny
namespace Go.Proofs.Ytlehddifcjklgaa
open Go.RowKit Go.Shelf
attribute [local go_sem] Oper.semAt_some
theorem OwnG.frozen1 {W : World} {n₀ g c : Nat} {ps : List Pt} (h : OwnG W n₀ g c ps) (i j : Nat) (v : Value) (o : Obj) : ((W.setCell ⟨g, i, none⟩ v).alloc o).frozen? ⟨g, j, none⟩ = false := by
  obtain ⟨cur, hh, _⟩ := h.heap
  have hs := setCell_heap W g i v cur hh
  have hlt := (Array.getElem?_eq_some_iff.1 hs).1
  have h1 : (W.setCell ⟨g, i, none⟩ v).frozen? ⟨g, j, none⟩ = false := by simp [World.frozen?, hs]
  exact (((Below.refl (W.setCell ⟨g, i, none⟩ v).heap.size _).alloc (Nat.le_refl _) o).frozen (p := ⟨g, j, none⟩) hlt).trans h1
theorem turn_set (ps : List Pt) (k : Nat) (hk : k < ps.length) : ((ps.take k).map turnP ++ ps.drop k).set k (turnP ps[k]) = (ps.take (k + 1)).map turnP ++ ps.drop (k + 1) := by
  rw [List.set_append_right _ _ (by simp; omega), List.take_succ_eq_append_getElem hk, List.map_append, List.append_assoc]
  congr 1
  rw [List.length_map, List.length_take, show k - min k ps.length = 0 by omega, List.drop_eq_getElem_cons hk]
  rfl
theorem turn_len (ps : List Pt) (k : Nat) : ((ps.take k).map turnP ++ ps.drop k).length = ps.length := by
  simp; omega
theorem turn_get (ps : List Pt) (k : Nat) (hk : k < ps.length) : ((ps.take k).map turnP ++ ps.drop k)[k]'(by rw [turn_len]; exact hk) = ps[k] := by
  rw [List.getElem_append_right (by simp; omega)]
  simp [show k - min k ps.length = 0 by omega]
set_option maxRecDepth 100000 in
set_option maxHeartbeats 2000000 in
theorem Turned_any (ps : List Pt) (b c : Nat) (w : World) (hp : PtsAt w b 0 ps) (hc : ps.length ≤ c) (hck : chk ps = true) :
    Calls Try.prog 27 #[.slice (some ⟨b, 0, none⟩) ps.length c] w fun e w' => ∃ v, e = .returned (.tuple #[v, .int .i64 0]) ∧ OwnP w' w.heap.size v (ps.map turnP) ∧ Below w.heap.size w w' := by
  have ha := chk_areP hck
  obtain ⟨h3, h12⟩ := areP_len ha
  have HBD := Lib.hid (fun k (hk : k < ps.length) => ptAt_bd ha hk)
  have hC := check_any ps b c w hp (by omega)
  rw [hck] at hC
  have HP := Lib.hid hp
  clear hp ha hck
  go_enter Try.func27, Try.ntmps27
  go_wp2_with fail
  refine hC.mono ?_
  rintro e w1 ⟨rfl, hb⟩
  have T1 := Lib.hid hb
  have HP1 := Lib.hid (HP.out.grow hb)
  clear hb hC HP
  go_wp2_with fail
  refine (Clone_any ps b c w1 HP1.out (by omega) hc).mono ?_
  rintro e w2 ⟨v, rfl, ho, hb⟩
  obtain ⟨g, c2, rfl, hg⟩ : ∃ g c2, v = .slice (some ⟨g, 0, none⟩) ps.length c2 ∧ w1.heap.size ≤ g := by
    obtain ⟨a2, c2, rfl, h⟩ := ho.open
    rcases h with ⟨_, _, rfl⟩ | ⟨g, hg, rfl, _⟩
    · simp at h3
    · exact ⟨g, c2, rfl, hg⟩
  have HO := Lib.hid (show OwnG w2 w1.heap.size g c2 ps from ho)
  have T2 := Lib.hid (Below.andThen T1.out hb (Nat.le_refl _))
  have BW := Lib.hid T1.out.size
  clear hb ho T1 HP1
  go_wp2_with fail
  obtain ⟨N, hN⟩ : ∃ N, ps.length = N := ⟨_, rfl⟩
  rw [hN]
  have HN := Lib.hid hN
  have hN12 : N ≤ 12 := by omega
  have hN3 : 3 ≤ N := by omega
  have HO0 := Lib.hid (show OwnG w2 w1.heap.size g c2 ((ps.take 0).map turnP ++ ps.drop 0) from HO.out)
  clear hN h3 h12 HO
  go_loopw [17] (fun i wr => ∃ k : Nat, k ≤ N ∧ i = .int .i64 (k : Int) ∧ Hid (OwnG wr w1.heap.size g c2 ((ps.take k).map turnP ++ ps.drop k)) ∧ Hid (Below w.heap.size w wr)) (fun i _ => N - (intOf i).toNat)
  case atStart => exact ⟨0, by omega, rfl, HO0, T2⟩
  case round =>
    clear HO0
    obtain ⟨k, hk, rfl, HR, HB⟩ := hrel
    by_cases hlt : k < N
    · have hd : decide ((k : Int) < (N : Int)) = true := decide_eq_true (by omega)
      have hkp : k < ps.length := by rw [HN.out]; exact hlt
      have hne : ((ps.take k).map turnP ++ ps.drop k) ≠ [] := fun h => by have := turn_len ps k; rw [h] at this; simp at this; omega
      obtain ⟨hpt, hcc, hg0⟩ := HR.out.pts hne
      have hx := hpt.x k (by rw [turn_len]; exact hkp)
      have hy := hpt.y k (by rw [turn_len]; exact hkp)
      rw [Nat.zero_add, turn_get ps k hkp] at hx hy
      have hbq := HBD.out k hkp
      rw [ptAt_lt hkp] at hbq
      have HSET := Lib.hid (turn_set ps k hkp)
      have hgl := hpt.lt
      generalize ps[k] = q at *
      obtain ⟨q1, q2⟩ := q
      dsimp only at hx hy hbq
      have e1 : IntKind.i64.wrap (-q2) = -q2 := i64_bd hbq.2.neg (by omega)
      have BA : Below wr.heap.size wr (wr.alloc (.cells #[.int .i64 q1, .int .i64 q2] 58)) := (Below.refl _ _).alloc (Nat.le_refl _) _
      have HV : OwnG (wr.alloc (.cells #[.int .i64 q1, .int .i64 q2] 58)) w1.heap.size g c2 ((ps.take k).map turnP ++ ps.drop k) := own_grow HR.out BA
      have hset := HR.out.set k (by rw [turn_len]; exact hkp) (-q2) q1
      have HS := Lib.hid (show OwnG (((wr.setCell ⟨g, k * 2, none⟩ (.int .i64 (-q2))).setCell ⟨g, k * 2 + 1, none⟩ (.int .i64 q1)).alloc (.cells #[.int .i64 q1, .int .i64 q2] 58)) w1.heap.size g c2 (((ps.take k).map turnP ++ ps.drop k).set k (-q2, q1)) from own_grow hset ((Below.refl _ _).alloc (Nat.le_refl _) (.cells #[.int .i64 q1, .int .i64 q2] 58)))
      have vx := below_at BA hgl hx
      have vy := below_at BA hgl hy
      have f0 := HV.frozen (k * 2)
      have f1 := HR.out.frozen1 (k * 2) (k * 2 + 1) (.int .i64 (-q2)) (.cells #[.int .i64 q1, .int .i64 q2] 58)
      have HBn := Lib.hid (Below.al ((HB.out.setCell (p := ⟨g, k * 2, none⟩) (Nat.le_trans BW.out hg0) (.int .i64 (-q2))).setCell (p := ⟨g, k * 2 + 1, none⟩) (Nat.le_trans BW.out hg0) (.int .i64 q1)) (Nat.le_refl _) (.cells #[.int .i64 q1, .int .i64 q2] 58))
      clear hpt hbq hne BA HV hset
      go_wp2_with fail
      refine ⟨⟨k + 1, by omega, by simp, Lib.hid (by rw [← HSET.out]; exact HS.out), HBn⟩, ?_⟩
      simp [intOf]; omega
    · have hd : decide ((k : Int) < (N : Int)) = false := decide_eq_false (by omega)
      obtain rfl : k = N := by omega
      have HR2 := HR.out
      rw [← HN.out, List.take_length, List.drop_length, List.append_nil] at HR2
      unfold OwnG at HR2
      rw [List.length_map, HN.out] at HR2
      have HR3 := Lib.hid HR2
      clear HR2 HR HN
      go_wp2_with fail
      go_ret2
      exact ⟨_, rfl, ownsRow_lower HR3.out BW.out, HB.out⟩
end Go.Proofs.Ytlehddifcjklgaa
