/-
  Two slots are compared as they read. Condition: they are 104 bytes each.
-/
import Derived.Test.YtplffbpnjnbolaaSlB
import Derived.Stop.BytesEq
namespace Go.Proofs.Ytplffbpnjnbolaa
open Go.RowKit Go.Extern.Stop
theorem cells_tob (xs : List Int) (h : Byt xs) : bcells xs = ((tob xs).map Extern.Stop.cell).toArray := by
  unfold bcells tob
  rw [List.map_map]
  congr 1
  apply List.map_congr_left
  intro x hx
  have := h x hx
  simp only [Function.comp_def, Extern.Stop.cell]
  congr 1
  simp
  omega
theorem eqBytes (d : Nat) (t : TypeId) (n : Nat) (ht : Try.prog.underlying t = some (.array n 5)) (xs ys : List Int) (hx : Byt xs) (hy : Byt ys) (lx : xs.length = n) (ly : ys.length = n) (w : World) :
    (Op.equalIn (d + 2) t (.agg (bcells xs)) (.agg (bcells ys))).run Try.prog w = .ok (decide (xs = ys)) w := by
  have h := run_equalIn_bytes (P := Try.prog) w d t 5 n ht Try.underlying5 (fun _ => by kernel_rfl) (tob xs) (tob ys) (by simp [tob, lx]) (by simp [tob, ly])
  rw [← cells_tob xs hx, ← cells_tob ys hy] at h
  have hb : (tob xs == tob ys) = decide (xs = ys) := by
    by_cases e : xs = ys
    · subst e; simp
    · have : tob xs ≠ tob ys := fun h => e (tob_inj hx hy h)
      simp [e, this]
  rw [h, hb]
theorem part_arr (t : TypeId) (n : Nat) (ht : Try.prog.underlying t = some (.array n 5)) (hi : (Try.prog.info? t).map (·.size) = some n) (xs : List Int) (o : Nat) (w : World) :
    (part t (bcells xs) o).run Try.prog w = .ok (.agg (bcells ((xs.drop o).take n))) w := by
  cases hq : Try.prog.info? t with
  | none => simp [hq] at hi
  | some i =>
    have hs : i.size = n := by simpa [hq] using hi
    simp [part, isAgg, run_underlying ht, sizeOf, typeInfo, hq, hs, bcells, List.map_take, List.map_drop]
theorem fields_cons {l : List Field} {b : Bool} {ty off : Nat} {r : List (Bool × Nat × Nat)} (h : l.map (fun f => (decide (f.name ≠ "_"), f.type, f.offset)) = (b, ty, off) :: r) :
    ∃ f fs, l = f :: fs ∧ decide (f.name ≠ "_") = b ∧ f.type = ty ∧ f.offset = off ∧ fs.map (fun f => (decide (f.name ≠ "_"), f.type, f.offset)) = r := by
  cases l with
  | nil => simp at h
  | cons f fs =>
    simp only [List.map_cons, List.cons.injEq, Prod.mk.injEq] at h
    exact ⟨f, fs, rfl, h.1.1, h.1.2.1, h.1.2.2, h.2⟩
theorem eqFields_nil (P : Program) (d : Nat) (X Y : Array Value) (w : World) : (Op.eqFields d X Y []).run P w = .ok true w := rfl
theorem eqFields_arr (d : Nat) (t : TypeId) (n o : Nat) (ht : Try.prog.underlying t = some (.array n 5)) (hi : (Try.prog.info? t).map (·.size) = some n) (xs ys : List Int) (hx : Byt xs) (hy : Byt ys) (lx : o + n ≤ xs.length) (ly : o + n ≤ ys.length)
    (f : Field) (fs : List Field) (h1 : decide (f.name ≠ "_") = true) (h2 : f.type = t) (h3 : f.offset = o) (q : Bool) (w : World) (h : (Op.eqFields (d + 2) (bcells xs) (bcells ys) fs).run Try.prog w = .ok q w) :
    (Op.eqFields (d + 2) (bcells xs) (bcells ys) (f :: fs)).run Try.prog w = .ok (decide ((xs.drop o).take n = (ys.drop o).take n) && q) w := by
  have e1 := part_arr t n ht hi xs o w
  have e2 := part_arr t n ht hi ys o w
  have e3 := eqBytes d t n ht _ _ ((hx.drop o).take n) ((hy.drop o).take n) (part_len xs o n lx) (part_len ys o n ly) w
  have h1' : f.name ≠ "_" := of_decide_eq_true h1
  subst h2 h3
  simp only [Op.eqFields, Sem.run_ite, Sem.run_bind, e1, e2, e3, Result.andThen_ok]
  rw [if_pos h1']
  cases decide (List.take n (List.drop f.offset xs) = List.take n (List.drop f.offset ys)) <;> simp [h]
set_option maxRecDepth 100000 in
theorem eq61 (xs ys : List Int) (hx : Byt xs) (hy : Byt ys) (lx : xs.length = 104) (ly : ys.length = 104) (w : World) :
    (Op.equalIn 10000 61 (.agg (bcells xs)) (.agg (bcells ys))).run Try.prog w = .ok (decide (xs = ys)) w := by
  rw [run_equalIn_struct w 9999 61 _ _ (by kernel_rfl) (by kernel_rfl)]
  have hf : (Try.prog.fieldsOf 61).toList.map (fun f => (decide (f.name ≠ "_"), f.type, f.offset)) = [(true, 24, 0), (true, 24, 32), (true, 59, 64)] := by kernel_rfl
  obtain ⟨f1, r1, e1, a1, b1, c1, g1⟩ := fields_cons hf
  obtain ⟨f2, r2, e2, a2, b2, c2, g2⟩ := fields_cons g1
  obtain ⟨f3, r3, e3, a3, b3, c3, g3⟩ := fields_cons g2
  have e4 : r3 = [] := by simpa using g3
  rw [e1, e2, e3, e4]
  rw [eqFields_arr 9997 24 32 0 (by kernel_rfl) (by kernel_rfl) xs ys hx hy (by omega) (by omega) f1 _ a1 b1 c1 _ w
    (eqFields_arr 9997 24 32 32 (by kernel_rfl) (by kernel_rfl) xs ys hx hy (by omega) (by omega) f2 _ a2 b2 c2 _ w
      (eqFields_arr 9997 59 40 64 (by kernel_rfl) (by kernel_rfl) xs ys hx hy (by omega) (by omega) f3 _ a3 b3 c3 _ w (eqFields_nil _ _ _ _ w)))]
  congr 1
  obtain ⟨p1, p2, p3, h, n1, n2, n3, q1, q2, q3⟩ := part3 xs lx
  obtain ⟨p1', p2', p3', h', n1', n2', n3', q1', q2', q3'⟩ := part3 ys ly
  rw [q1, q2, q3, q1', q2', q3']
  by_cases e : xs = ys
  · subst e
    rw [← q1, ← q2, ← q3, ← q1', ← q2', ← q3']
    simp
  · rw [decide_eq_false e]
    by_cases k1 : p1 = p1'
    · by_cases k2 : p2 = p2'
      · by_cases k3 : p3 = p3'
        · exact absurd (by rw [h, h', k1, k2, k3]) e
        · simp [k3]
      · simp [k2]
    · simp [k1]
end Go.Proofs.Ytplffbpnjnbolaa
