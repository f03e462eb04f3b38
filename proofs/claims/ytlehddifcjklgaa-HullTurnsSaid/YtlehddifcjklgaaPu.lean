/-
  Plain words of what package hull says of points, sides and fractions: no program.
-/
namespace Go.Proofs.Ytlehddifcjklgaa
abbrev Pt := Int × Int
def inR (p : Pt) : Bool := decide (-20 ≤ p.1) && decide (p.1 ≤ 20) && (decide (-20 ≤ p.2) && decide (p.2 ≤ 20))
def areP (ps : List Pt) : Bool := decide (3 ≤ ps.length) && decide (ps.length ≤ 12) && ps.all inR
def crs (a b : Pt) : Int := a.1 * b.2 + (-a.2) * b.1
def dt (a b : Pt) : Int := a.1 * b.1 + a.2 * b.2
def mn (a b : Pt) : Pt := (a.1 - b.1, a.2 - b.2)
def lft (f a t : Pt) : Bool := decide (0 < crs (mn a f) (mn t f))
def ptAt (ps : List Pt) (i : Nat) : Pt := ps.getD i (0, 0)
def nx (ps : List Pt) (i : Nat) : Pt := ptAt ps ((i + 1) % ps.length)
def pv (ps : List Pt) (i : Nat) : Pt := ptAt ps ((i + ps.length - 1) % ps.length)
def isSide (ps : List Pt) (a b : Pt) : Bool := decide ((ps.countP (lft a b) : Int) = (ps.length : Int) - 2)
def sideAt (ps : List Pt) (i : Nat) : Bool := isSide ps (ptAt ps i) (nx ps i)
def chk (ps : List Pt) : Bool := areP ps && (List.range ps.length).all (sideAt ps)
def crsAt (ps : List Pt) (i : Nat) : Int := crs (ptAt ps i) (nx ps i)
def area (ps : List Pt) : Int := ((List.range ps.length).map (crsAt ps)).sum
def xAt (ps : List Pt) (i : Nat) : Int := crsAt ps i * ((ptAt ps i).1 + (nx ps i).1)
def yAt (ps : List Pt) (i : Nat) : Int := crsAt ps i * ((ptAt ps i).2 + (nx ps i).2)
def xSum (ps : List Pt) : Int := ((List.range ps.length).map (xAt ps)).sum
def ySum (ps : List Pt) : Int := ((List.range ps.length).map (yAt ps)).sum
def gcdI (a b : Int) : Int := (Int.gcd a b : Int)
def mid (ps : List Pt) : Int × Int × Int :=
  let x := xSum ps; let y := ySum ps; let d := 3 * area ps
  let g := gcdI (gcdI x y) d
  (x.tdiv g, y.tdiv g, d.tdiv g)
def frac (n d : Int) : Int × Int := (n.tdiv (gcdI n d), d.tdiv (gcdI n d))
def lessF (f g : Int × Int) : Bool := decide (f.1 * g.2 < g.1 * f.2)
def withinF (f low high : Int × Int) : Bool := !lessF f low && !lessF high f
def alongS (ps : List Pt) (s : Nat) : Pt := mn (nx ps s) (ptAt ps s)
def inw (m : Int × Int × Int) (c : Pt) : Pt := (m.1 - m.2.2 * c.1, m.2.1 - m.2.2 * c.2)
def foot (ps : List Pt) (m : Int × Int × Int) (s : Nat) : Int × Int :=
  frac (dt (inw m (ptAt ps s)) (alongS ps s)) (m.2.2 * dt (alongS ps s) (alongS ps s))
def heightH (ps : List Pt) (m : Int × Int × Int) (s : Nat) : Int := crs (alongS ps s) (inw m (ptAt ps s))
def height (ps : List Pt) (m : Int × Int × Int) (s : Nat) : Int × Int :=
  frac (heightH ps m s * heightH ps m s) (dt (alongS ps s) (alongS ps s))
def restB (ps : List Pt) (m : Int × Int × Int) (s : Nat) : Bool := withinF (foot ps m s) (0, 1) (1, 1)
def firmB (ps : List Pt) (m : Int × Int × Int) (s : Nat) : Bool := restB ps m s && decide (foot ps m s ≠ (0, 1)) && decide (foot ps m s ≠ (1, 1))
def leanF (ps : List Pt) (m : Int × Int × Int) (s : Nat) : Int × Int :=
  frac (height ps m s).1 ((height ps m s).2 * m.2.2 * m.2.2)
def boxP : List Pt := [(0, 0), (4, 0), (4, 2), (0, 2)]
def thinP : List Pt := [(0, 0), (9, 0), (1, 1)]
/-- |x| at most B -/
def Bd (B x : Int) : Prop := -B ≤ x ∧ x ≤ B
theorem Bd.mono {B C x : Int} (h : Bd B x) (hc : B ≤ C) : Bd C x := ⟨by have := h.1; omega, by have := h.2; omega⟩
theorem Bd.add {B C x y : Int} (h : Bd B x) (k : Bd C y) : Bd (B + C) (x + y) := by
  unfold Bd at *; omega
theorem Bd.sub {B C x y : Int} (h : Bd B x) (k : Bd C y) : Bd (B + C) (x - y) := by
  unfold Bd at *; omega
theorem Bd.neg {B x : Int} (h : Bd B x) : Bd B (-x) := by
  unfold Bd at *; omega
theorem Bd.abs {B x : Int} : Bd B x ↔ (x.natAbs : Int) ≤ B := by unfold Bd; omega
theorem Bd.mul {B C x y : Int} (h : Bd B x) (k : Bd C y) : Bd (B * C) (x * y) := by
  rw [Bd.abs] at *
  rw [Int.natAbs_mul, Int.natCast_mul]
  exact Int.mul_le_mul h k (by omega) (by omega)
theorem Bd.tdiv {B x g : Int} (h : Bd B x) : Bd B (x.tdiv g) := by
  rw [Bd.abs] at *
  have : (x.tdiv g).natAbs ≤ x.natAbs := by
    rw [Int.natAbs_tdiv]; exact Nat.div_le_self _ _
  omega
end Go.Proofs.Ytlehddifcjklgaa
