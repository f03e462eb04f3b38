import Derived.Test.YtbhlddfjfcmncaaXb
import Derived.Test.YtbhlddfjfcmncaaZn
namespace Go.Proofs.Ytbhlddfjfcmncaa
open Go.RowKit
/-- one chain of a region: a load, two calls, a new struct that their answer is stored to -/
structure One (W : World) (B : Nat) (t : Value) (F R : ByteArray) (bl bt bc ba bs : Bool) (vl vt vc va : Value) : Prop where
  l : bl = true → vl = t
  m : bt = true → vt = .agg #[.string F, .string R]
  c : bc = true → vc = .agg #[.string F, .string R]
  a : ba = true → ∃ p, va = .pointer (some ⟨p, 0, none⟩) ∧ Own2 W B p (if bs then F else sZ) (if bs then R else sZ)
  s : bs = true → ba = true
section
variable {W W' : World} {B : Nat} {t : Value} {F R : ByteArray} {bl bt bc ba bs : Bool} {vl vt vc va : Value}
theorem One.start (W : World) (B : Nat) (t : Value) (F R : ByteArray) (vl vt vc va : Value) : One W B t F R false false false false false vl vt vc va := ⟨nofun, nofun, nofun, nofun, nofun⟩
theorem One.grow (h : One W B t F R bl bt bc ba bs vl vt vc va) (hb : Below W.heap.size W W') : One W' B t F R bl bt bc ba bs vl vt vc va :=
  { h with a := fun e => let ⟨p, h1, h2⟩ := h.a e; ⟨p, h1, h2.below hb⟩ }
theorem One.al (h : One W B t F R bl bt bc ba bs vl vt vc va) (o : Obj) : One (W.alloc o) B t F R bl bt bc ba bs vl vt vc va := h.grow ((Below.refl _ _).alloc (Nat.le_refl _) _)
theorem One.load (h : One W B t F R bl bt bc ba bs vl vt vc va) : One W B t F R true bt bc ba bs t vt vc va := { h with l := fun _ => rfl }
theorem One.mid (h : One W B t F R bl bt bc ba bs vl vt vc va) : One W B t F R bl true bc ba bs vl (.agg #[.string F, .string R]) vc va := { h with m := fun _ => rfl }
theorem One.call (h : One W B t F R bl bt bc ba bs vl vt vc va) : One W B t F R bl bt true ba bs vl vt (.agg #[.string F, .string R]) va := { h with c := fun _ => rfl }
theorem One.alloc (h : One W B t F R bl bt bc false bs vl vt vc va) (hB : B ≤ W.heap.size) (ty : TypeId) : One (W.alloc (.cells #[.string { data := #[] }, .string { data := #[] }] ty)) B t F R bl bt bc true bs vl vt vc (.pointer (some ⟨W.heap.size, 0, none⟩)) := by
  have h6 : bs = false := by cases e : bs with
    | false => rfl
    | true => have := h.s e; cases this
  subst h6
  exact ⟨h.l, h.m, h.c, fun _ => ⟨_, rfl, Own2.new W hB sZ sZ ty⟩, nofun⟩
theorem One.store {p : Nat} (h : One W B t F R bl bt bc true bs vl vt vc (.pointer (some ⟨p, 0, none⟩))) : One ((W.setCell ⟨p, 0, none⟩ (.string F)).setCell ⟨p, 1, none⟩ (.string R)) B t F R bl bt bc true true vl vt vc (.pointer (some ⟨p, 0, none⟩)) := by
  obtain ⟨q, e, hq⟩ := h.a rfl
  obtain rfl : p = q := by simpa using e
  exact ⟨h.l, h.m, h.c, fun _ => ⟨p, rfl, hq.store F R⟩, fun _ => rfl⟩
theorem One.other {p : Nat} {u v : Value} (h : One W B t F R bl bt bc ba bs vl vt vc va) (hne : ba = true → va ≠ .pointer (some ⟨p, 0, none⟩)) : One ((W.setCell ⟨p, 0, none⟩ u).setCell ⟨p, 1, none⟩ v) B t F R bl bt bc ba bs vl vt vc va :=
  ⟨h.l, h.m, h.c, fun e => let ⟨c, h1, h2⟩ := h.a e; ⟨c, h1, h2.other (fun e2 => hne e (by rw [h1, e2]))⟩, h.s⟩
theorem One.fresh (h : One W B t F R bl bt bc ba bs vl vt vc va) : ba = true → va ≠ .pointer (some ⟨W.heap.size, 0, none⟩) := fun e h1 => by
  obtain ⟨p, rfl, hp⟩ := h.a e
  have := hp.2.1
  simp at h1 <;> omega
theorem One.le {p : Nat} (h : One W B t F R bl bt bc true bs vl vt vc (.pointer (some ⟨p, 0, none⟩))) : B ≤ p := by
  obtain ⟨q, e, hq⟩ := h.a rfl
  obtain rfl : p = q := by simpa using e
  exact hq.1
end
/-- three chains -/
structure ThreeJ (W0 : World) (t u v : Value) (F R G S H U : ByteArray) (l0 m0 c0 l1 m1 c1 l2 m2 c2 a0 a1 a2 s0 s1 s2 : Bool) (x0 y0 z0 x1 y1 z1 x2 y2 z2 p0 p1 p2 : Value) (W : World) : Prop where
  below : Below W0.heap.size W0 W
  o0 : One W W0.heap.size t F R l0 m0 c0 a0 s0 x0 y0 z0 p0
  o1 : One W W0.heap.size u G S l1 m1 c1 a1 s1 x1 y1 z1 p1
  o2 : One W W0.heap.size v H U l2 m2 c2 a2 s2 x2 y2 z2 p2
  n01 : a0 = true → a1 = true → p0 ≠ p1
  n02 : a0 = true → a2 = true → p0 ≠ p2
  n12 : a1 = true → a2 = true → p1 ≠ p2
def threeJ (W0 : World) (t u v : Value) (F R G S H U : ByteArray) (bs : List Bool) (vs : List Value) (W : World) : Prop :=
  ∃ l0 m0 c0 l1 m1 c1 l2 m2 c2 a0 a1 a2 s0 s1 s2 x0 y0 z0 x1 y1 z1 x2 y2 z2 p0 p1 p2, bs = [l0, m0, c0, l1, m1, c1, l2, m2, c2, a0, a1, a2, s0, s1, s2] ∧ vs = [x0, y0, z0, x1, y1, z1, x2, y2, z2, p0, p1, p2] ∧
    ThreeJ W0 t u v F R G S H U l0 m0 c0 l1 m1 c1 l2 m2 c2 a0 a1 a2 s0 s1 s2 x0 y0 z0 x1 y1 z1 x2 y2 z2 p0 p1 p2 W
theorem threeJ_start (W0 : World) (t u v : Value) (F R G S H U : ByteArray) (x0 y0 z0 x1 y1 z1 x2 y2 z2 p0 p1 p2 : Value) :
    threeJ W0 t u v F R G S H U [false, false, false, false, false, false, false, false, false, false, false, false, false, false, false] [x0, y0, z0, x1, y1, z1, x2, y2, z2, p0, p1, p2] W0.drew := by
  refine ⟨false, false, false, false, false, false, false, false, false, false, false, false, false, false, false, x0, y0, z0, x1, y1, z1, x2, y2, z2, p0, p1, p2, rfl, rfl, ?_⟩
  exact ⟨(Below.refl _ _).drew, One.start _ _ _ _ _ _ _ _ _, One.start _ _ _ _ _ _ _ _ _, One.start _ _ _ _ _ _ _ _ _, nofun, nofun, nofun⟩
theorem threeJ_mk {W0 : World} {t u v : Value} {F R G S H U : ByteArray} {l0 m0 c0 l1 m1 c1 l2 m2 c2 a0 a1 a2 s0 s1 s2 : Bool} {x0 y0 z0 x1 y1 z1 x2 y2 z2 p0 p1 p2 : Value} {W : World} (h : ThreeJ W0 t u v F R G S H U l0 m0 c0 l1 m1 c1 l2 m2 c2 a0 a1 a2 s0 s1 s2 x0 y0 z0 x1 y1 z1 x2 y2 z2 p0 p1 p2 W) :
    threeJ W0 t u v F R G S H U [l0, m0, c0, l1, m1, c1, l2, m2, c2, a0, a1, a2, s0, s1, s2] [x0, y0, z0, x1, y1, z1, x2, y2, z2, p0, p1, p2] W :=
  ⟨l0, m0, c0, l1, m1, c1, l2, m2, c2, a0, a1, a2, s0, s1, s2, x0, y0, z0, x1, y1, z1, x2, y2, z2, p0, p1, p2, rfl, rfl, h⟩
end Go.Proofs.Ytbhlddfjfcmncaa
