/-
  What bytes tell, as lists; one row appended to rows of the call's own. Condition: none.
-/
import Derived.Test.YtnifaldgofmciaaNdJ
import Derived.Test.YtnifaldgofmciaaOcR
namespace Go.Proofs.Ytnifaldgofmciaa
open Go.RowKit
open oc (Byt Sees Own be nth got rst shrt getV)
/-- A reader's state, and what is left of it. -/
abbrev RS := List Int × Bool
def nxt (p : RS) (n : Int) : RS := (rst p.1 p.2 n, shrt p.1.length p.2 n)
def gt (p : RS) (n : Int) : List Int := got p.1 p.2 n
/-- What was read, in a row of so many bytes. -/
def fix (n : Nat) (xs : List Int) : List Int := xs ++ List.replicate (n - xs.length) 0
/-- The state in front of each key. -/
def stA (lf : Bool) (p : RS) : Nat → RS
  | 0 => p
  | i + 1 => if lf = true then nxt (nxt (stA lf p i) 8) 44 else nxt (nxt (nxt (stA lf p i) 8) 4) 32
def keyA (lf : Bool) (p : RS) (i : Nat) : Int := getV (gt (stA lf p i) 8) 0 8
def valA (p : RS) (i : Nat) : List Int := fix 44 (gt (nxt (stA true p i) 8) 44)
def kidA (p : RS) (i : Nat) : Int × List Int := (getV (gt (nxt (stA false p i) 8) 4) 0 4, fix 32 (gt (nxt (nxt (stA false p i) 8) 4) 32))
def lfR (xs : List Int) : Bool := decide (getV (gt (xs, false) 1) 0 1 = 1)
def cntR (xs : List Int) : Int := getV (gt (nxt (xs, false) 1) 1) 0 1
def begR (xs : List Int) : RS := nxt (nxt (nxt (xs, false) 1) 1) 6
/-- The node that bytes tell. -/
def rdN (xs : List Int) : NV :=
  { leaf := lfR xs
    ks := (List.range (cntR xs).toNat).map (keyA (lfR xs) (begR xs))
    vs := if lfR xs = true then (List.range (cntR xs).toNat).map (valA (begR xs)) else []
    qs := if lfR xs = true then [] else (List.range (cntR xs).toNat).map (kidA (begR xs)) }
/-- One row more. -/
theorem appRow {t e : TypeId} {size bytes : Nat} {z : Value} (ht : Try.prog.underlying t = some (.slice e)) (hinfo : (Try.prog.info? e).map (fun i => (i.zero, i.size, i.bytes)) = some (some z, size, bytes))
    (hzs : z.cells.size = size) (hsz : 0 < size) {w : World} {base : Nat} {v : Value} {k : Nat} {cs : List Value} (hown : w.ownsRow base e size v k cs) (g2 : Nat) (news : List Value) (hl : news.length = size)
    (hg : w.heap[g2]? = some (.cells news.toArray e (0, 0))) (h1 : ∀ u ∈ news, u.oneCell' = true) (hk : k + 1 ≤ 256) (hb : bytes ≤ 1024) (hbase : base ≤ w.heap.size) :
    ∃ v' w', (Builtin.append_ #[t, t] t #[v, .slice (some ⟨g2, 0, none⟩) 1 1]).run Try.prog w = .ok v' w' ∧ w'.ownsRow base e size v' (k + 1) (cs ++ news) ∧ w.grownBy w' v.ownBlock ∧
      (v'.ownBlock = v.ownBlock ∨ v'.ownBlock = some w.heap.size) := by
  obtain ⟨i, hi, hz0, hz1, hz2⟩ := info_parts hinfo
  obtain ⟨v', w', hr, ho, hgr, _, hat⟩ := run_append_own_at (P := Try.prog) w base t t e i z size bytes ht hi hz0 hz1 hz2 hzs hsz v k cs hown ⟨g2, 0, none⟩ 1 1 news (by simp [hl]) (fun j u hj => by
    have hc : (⟨g2, 0, none⟩ : Addr).add j = ⟨g2, 0 + j, none⟩ := by unfold Addr.add; split <;> simp_all
    rw [hc, cell_row hg, Nat.zero_add]
    simpa using hj) h1 (by unfold maxLen; omega) (Nat.le_trans (Nat.mul_le_mul hk hb) (by decide)) hbase
  exact ⟨v', w', hr, ho, hgr, hat⟩
theorem info52 : (Try.prog.info? 52).map (fun i => (i.zero, i.size, i.bytes)) = some (some (.int .u64 0), 1, 8) := by kernel_rfl
theorem info54 : (Try.prog.info? 54).map (fun i => (i.zero, i.size, i.bytes)) = some (some (.agg (val (List.replicate 44 0)).toArray), 44, 44) := by kernel_rfl
theorem info67 : (Try.prog.info? 67).map (fun i => (i.zero, i.size, i.bytes)) = some (some (.agg (kid (0, List.replicate 32 0)).toArray), 33, 36) := by kernel_rfl
end Go.Proofs.Ytnifaldgofmciaa
