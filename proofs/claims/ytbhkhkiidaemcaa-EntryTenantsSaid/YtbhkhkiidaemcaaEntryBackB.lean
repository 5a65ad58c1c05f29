/-
  For all counts, volumes, blocks, roots, tenants and values the law EntryBack of package casematelaw23 returns true: all go there and back, in one way alone. Condition: none.
-/
import Derived.Test.YtbhkhkiidaemcaaES
namespace Go.Proofs.Ytbhkhkiidaemcaa.entryBack
open Go.ChangeShapes Go.WideShapes Go.ChangeAt Go.RowKit
def Eqs (T : TypeId) (A B : Array Value) : Prop := ∀ W : World, (Op.equalIn 10000 T (.agg A) (.agg B)).run Try.prog W = .ok true W
/-! ### There and back -/
theorem fv_at (P : List (List Int)) (a b : List Int) (c : List (List Int)) (o n : Nat) (hP : P.flatten = a ++ (b ++ c.flatten)) (ha : a.length = o) (hb : b.length = n) : pt (fv P) o n = b := by
  unfold fv
  rw [hP, List.append_assoc, List.append_assoc]
  exact pt_at a b _ o n ha hb
theorem k_back {s t : Int} {z : List Int} (hs : 0 ≤ s ∧ s ≤ 4294967295) (hz : z.length = 32) (ht : 0 ≤ t ∧ t ≤ 18446744073709551615) : kS (kW s z t) = s ∧ kZ (kW s z t) = z ∧ kT (kW s z t) = t := by
  have e1 : pt (kW s z t) 0 4 = be 4 s := fv_at (kP s z t) [] (be 4 s) [z, be 8 t] 0 4 (by simp [kP]) rfl (be_len _ _)
  have e2 : pt (kW s z t) 4 32 = z := fv_at (kP s z t) (be 4 s) z [be 8 t] 4 32 (by simp [kP]) (be_len _ _) hz
  have e3 : pt (kW s z t) 36 8 = be 8 t := fv_at (kP s z t) (be 4 s ++ z) (be 8 t) [] 36 8 (by simp [kP]) (by simp [be_len, hz]) (be_len _ _)
  unfold kS kZ kT
  rw [e1, e2, e3, num_be4 hs, num_be8 ht]
  exact ⟨rfl, rfl, rfl⟩
theorem o_back {h : Bool} {s : Int} {z : List Int} (hs : 0 ≤ s ∧ s ≤ 4294967295) (hz : z.length = 32) : oH (oW h s z) = h ∧ oS (oW h s z) = s ∧ oZ (oW h s z) = z := by
  have e1 : pt (oW h s z) 0 1 = be 1 (b2i h) := fv_at (oP h s z) [] (be 1 (b2i h)) [be 4 s, z] 0 1 (by simp [oP]) rfl (be_len _ _)
  have e2 : pt (oW h s z) 1 4 = be 4 s := fv_at (oP h s z) (be 1 (b2i h)) (be 4 s) [z] 1 4 (by simp [oP]) (be_len _ _) (be_len _ _)
  have e3 : pt (oW h s z) 5 32 = z := fv_at (oP h s z) (be 1 (b2i h) ++ be 4 s) z [] 5 32 (by simp [oP]) (by simp [be_len]) hz
  unfold oH oN oS oZ
  rw [e1, e2, e3, num_be4 hs, num_be1 (b2i_bd h)]
  exact ⟨by cases h <;> rfl, rfl, rfl⟩
theorem n_back {z : List Int} {r q c : Int} (hz : z.length = 32) (hm : nMay r q c) : nZ (nW z r q c) = z ∧ nR (nW z r q c) = r ∧ nQ (nW z r q c) = q ∧ nC (nW z r q c) = c := by
  obtain ⟨hr, hq, hc⟩ := hm
  have e1 : pt (nW z r q c) 0 32 = z := fv_at (nP z r q c) [] z [be 2 r, be 2 q, be 1 c] 0 32 (by simp [nP]) rfl hz
  have e2 : pt (nW z r q c) 32 2 = be 2 r := fv_at (nP z r q c) z (be 2 r) [be 2 q, be 1 c] 32 2 (by simp [nP]) hz (be_len _ _)
  have e3 : pt (nW z r q c) 34 2 = be 2 q := fv_at (nP z r q c) (z ++ be 2 r) (be 2 q) [be 1 c] 34 2 (by simp [nP]) (by simp [be_len, hz]) (be_len _ _)
  have e4 : pt (nW z r q c) 36 1 = be 1 c := fv_at (nP z r q c) (z ++ be 2 r ++ be 2 q) (be 1 c) [] 36 1 (by simp [nP]) (by simp [be_len, hz]) (be_len _ _)
  unfold nZ nR nQ nC
  have e : (256 : Int) ^ 2 = 65536 := by decide
  rw [e1, e2, e3, e4, numI_be 2 r hr.1 (by omega), numI_be 2 q hq.1 (by omega), num_be1 ⟨hc.1, by omega⟩]
  exact ⟨rfl, rfl, rfl, rfl⟩
/-! ### Structs are compared -/
set_option maxRecDepth 100000 in
theorem eq37 {s t : Int} {z : List Int} (hz : Byt z) (hl : z.length = 32) : Eqs 37 (kcells s z t) (kcells s z t) := fun w => by
  rw [run_equalIn_struct w 9999 37 _ _ (by kernel_rfl) (by kernel_rfl)]
  obtain ⟨f1, r1, e1, a1, b1, c1, g1⟩ := fields_cons fo37
  obtain ⟨f2, r2, e2, a2, b2, c2, g2⟩ := fields_cons g1
  have e4 : r2 = [] := by simpa using g2
  rw [e1, e2, e4]
  have hp : (part 35 (kcells s z t) 0).run Try.prog w = .ok (.agg (rcells s z).toArray) w := part_struct 35 _ 33 st35 (by kernel_rfl) _ 0 (rcells s z) (by simp [kcells, rcells, hl]) w
  have he := eq35d 9996 s s z z hz hz hl hl w
  rw [eqFields_one 9999 35 0 _ _ _ _ true w hp hp (by rw [he]; simp) f1 _ a1 b1 c1 true
    (eqFields_int 9998 22 .u64 33 (by kernel_rfl) _ _ t t (by simp [kcells, rcells, hl]) (by simp [kcells, rcells, hl]) f2 _ a2 b2 c2 true w (eqFields_nil _ _ _ _ w) |>.trans (by simp))]
  rfl
set_option maxRecDepth 100000 in
theorem eq55 {h : Bool} {s : Int} {z : List Int} (hz : Byt z) (hl : z.length = 32) : Eqs 55 (ocells h s z) (ocells h s z) := fun w => by
  rw [run_equalIn_struct w 9999 55 _ _ (by kernel_rfl) (by kernel_rfl)]
  obtain ⟨f1, r1, e1, a1, b1, c1, g1⟩ := fields_cons fo55
  obtain ⟨f2, r2, e2, a2, b2, c2, g2⟩ := fields_cons g1
  have e4 : r2 = [] := by simpa using g2
  rw [e1, e2, e4]
  have hp0 : (part 4 (ocells h s z) 0).run Try.prog w = .ok (.bool h) w := part_bool 4 (by kernel_rfl) _ 0 _ (by simp [ocells]) w
  have hp : (part 35 (ocells h s z) 1).run Try.prog w = .ok (.agg (rcells s z).toArray) w := part_struct 35 _ 33 st35 (by kernel_rfl) _ 1 (rcells s z) (by simp [ocells, rcells]; exact List.take_of_length_le (by simp [hl])) w
  have he := eq35d 9996 s s z z hz hz hl hl w
  have hb : (Op.equalIn 9999 4 (.bool h) (.bool h)).run Try.prog w = .ok true w := by
    have := run_equalIn_bool' (P := Try.prog) w 9998 4 h h (by kernel_rfl)
    rw [this]; simp
  rw [eqFields_one 9999 4 0 _ _ _ _ true w hp0 hp0 hb f1 _ a1 b1 c1 true
    (eqFields_one 9999 35 1 _ _ _ _ true w hp hp (by rw [he]; simp) f2 _ a2 b2 c2 true (eqFields_nil _ _ _ _ w))]
  rfl
set_option maxRecDepth 100000 in
theorem eq57 {z : List Int} {r q c : Int} (hz : Byt z) (hl : z.length = 32) : Eqs 57 (ncells z r q c) (ncells z r q c) := fun w => by
  rw [run_equalIn_struct w 9999 57 _ _ (by kernel_rfl) (by kernel_rfl)]
  obtain ⟨f1, r1, e1, a1, b1, c1, g1⟩ := fields_cons fo57
  obtain ⟨f2, r2, e2, a2, b2, c2, g2⟩ := fields_cons g1
  obtain ⟨f3, r3, e3, a3, b3, c3, g3⟩ := fields_cons g2
  obtain ⟨f4, r4, e4, a4, b4, c4, g4⟩ := fields_cons g3
  have e5 : r4 = [] := by simpa using g4
  rw [e1, e2, e3, e4, e5]
  have hX : ((ncells z r q c).toList.drop 0).take 32 = z.map (Value.int .u8) := by simp [ncells, hl]
  rw [eqFields_arr' 9997 33 32 0 (by kernel_rfl) (by kernel_rfl) _ _ z z hX hX hz hz hl hl f1 _ a1 b1 c1 _ w
    (eqFields_int 9998 3 .i64 32 (by kernel_rfl) _ _ r r (by simp [ncells, hl]) (by simp [ncells, hl]) f2 _ a2 b2 c2 _ w
      (eqFields_int 9998 3 .i64 33 (by kernel_rfl) _ _ q q (by simp [ncells, hl]) (by simp [ncells, hl]) f3 _ a3 b3 c3 _ w
        (eqFields_int 9998 3 .i64 34 (by kernel_rfl) _ _ c c (by simp [ncells, hl]) (by simp [ncells, hl]) f4 _ a4 b4 c4 _ w (eqFields_nil _ _ _ _ w))))]
  simp
end Go.Proofs.Ytbhkhkiidaemcaa.entryBack
