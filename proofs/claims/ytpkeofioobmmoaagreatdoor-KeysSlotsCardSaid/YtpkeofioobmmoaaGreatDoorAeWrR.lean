/-
  The document's own wrap, as lists: a word in front and others, and that its steps are those of the words in one row. Condition: the numbers are bytes.
-/
import Derived.Test.YtpkeofioobmmoaaGreatDoorAeWrQ
namespace Go.Proofs.YtpkeofioobmmoaaGreatDoor.ae
/-- A word and others, one behind the other. -/
def fl (a : List Nat) (r : List (List Nat)) : List Nat := a ++ r.flatten
set_option maxRecDepth 100000 in
theorem flat_len {r : List (List Nat)} (h : ∀ x ∈ r, x.length = 8) : r.flatten.length = 8 * r.length := by
  induction r with
  | nil => rfl
  | cons x r ih =>
    have h1 := ih (fun y hy => h y (List.mem_cons_of_mem _ hy))
    have h2 := h x (List.mem_cons_self ..)
    rw [List.flatten_cons, List.length_append, h1, h2, List.length_cons]; omega
set_option maxRecDepth 100000 in
theorem flat_cut {r : List (List Nat)} {i : Nat} (hi : i < r.length) : r.flatten = (r.take i).flatten ++ (r[i] ++ (r.drop (i + 1)).flatten) := by
  rw [← List.flatten_cons, ← List.flatten_append]
  congr 1
  rw [← List.drop_eq_getElem_cons hi, List.take_append_drop]
set_option maxRecDepth 100000 in
theorem mem_take8 {r : List (List Nat)} (h : ∀ x ∈ r, x.length = 8) (i : Nat) : ∀ x ∈ r.take i, x.length = 8 := fun x hx => h x (List.mem_of_mem_take hx)
set_option maxRecDepth 100000 in
theorem pr_fl {a : List Nat} {r : List (List Nat)} (ha : a.length = 8) (h : ∀ x ∈ r, x.length = 8) {i : Nat} (hi : i < r.length) : pr (fl a r) (i + 1) = a ++ r[i] := by
  have hl : (r.take i).flatten.length = 8 * i := by rw [flat_len (mem_take8 h i), List.length_take, Nat.min_eq_left (by omega)]
  have h8 : r[i].length = 8 := h _ (List.getElem_mem hi)
  unfold pr fl
  rw [List.take_left' ha]
  congr 1
  rw [flat_cut hi, ← List.append_assoc, List.drop_left' (by rw [List.length_append]; omega), List.take_left' h8]
set_option maxRecDepth 100000 in
theorem pt_fl {a : List Nat} {r : List (List Nat)} (ha : a.length = 8) (h : ∀ x ∈ r, x.length = 8) {i : Nat} (hi : i < r.length) {B : List Nat} (hB : B.length = 16) : pt (fl a r) (i + 1) B = fl (B.take 8) (r.set i (B.drop 8)) := by
  have hl : (r.take i).flatten.length = 8 * i := by rw [flat_len (mem_take8 h i), List.length_take, Nat.min_eq_left (by omega)]
  have h8 : r[i].length = 8 := h _ (List.getElem_mem hi)
  have l1 : (B.take 8).length = 8 := by rw [List.length_take]; omega
  have l2 : (B.drop 8).length = 8 := by rw [List.length_drop]; omega
  have e1 : spl (fl a r) 0 (B.take 8) = fl (B.take 8) r := by
    unfold spl fl
    rw [List.take_zero, List.nil_append, l1, Nat.zero_add, List.drop_left' ha]
  unfold pt
  rw [e1]
  have hset : (r.set i (B.drop 8)).flatten = (r.take i).flatten ++ (B.drop 8 ++ (r.drop (i + 1)).flatten) := by
    rw [flat_cut (show i < (r.set i (B.drop 8)).length by rw [List.length_set]; exact hi)]
    rw [List.take_set_of_le (Nat.le_refl _), List.getElem_set_self, List.drop_set_of_lt (by omega)]
  unfold spl fl
  rw [l2, hset, flat_cut hi]
  rw [← List.append_assoc (B.take 8), List.take_left' (by rw [List.length_append]; omega)]
  rw [← List.append_assoc (B.take 8 ++ _), List.drop_left' (by rw [List.length_append, List.length_append]; omega)]
  simp [List.append_assoc]
/-- A word and a number. -/
def mixw (a : List Nat) (s : Nat) : List Nat := a.set 7 (Nat.xor (at_ a 7) s)
set_option maxRecDepth 100000 in
theorem ct_take (B : List Nat) (s : Nat) : (ct B s).take 8 = mixw (B.take 8) s ∧ (ct B s).drop 8 = B.drop 8 := by
  unfold ct mixw
  refine ⟨?_, ?_⟩
  · rw [List.take_set]
    congr 2
    simp [at_, List.getD]
  · rw [List.drop_set]
    simp
set_option maxRecDepth 100000 in
theorem ct_app {a b : List Nat} (ha : a.length = 8) (s : Nat) : ct (a ++ b) s = mixw a s ++ b := by
  unfold ct mixw
  have e : at_ (a ++ b) 7 = at_ a 7 := by simp [at_, List.getD, List.getElem?_append_left (show 7 < a.length by omega)]
  rw [e, List.set_append_left _ _ (by omega)]
set_option maxRecDepth 100000 in
theorem mixw_bts {a : List Nat} {s : Nat} (ha : Bts 8 a) (hs : s < 256) : Bts 8 (mixw a s) := by
  refine ⟨by unfold mixw; rw [List.length_set]; exact ha.1, fun x hx => ?_⟩
  rcases List.mem_or_eq_of_mem_set hx with h | h
  · exact ha.2 x h
  · rw [h]; exact xor_lt (ha.at_lt 7) hs
/-- The words of the document's own: one in front, n others. -/
def WS (n : Nat) (a : List Nat) (r : List (List Nat)) : Prop := Bts 8 a ∧ r.length = n ∧ ∀ x ∈ r, Bts 8 x
set_option maxRecDepth 100000 in
theorem WS.l8 {n : Nat} {a : List Nat} {r : List (List Nat)} (h : WS n a r) : ∀ x ∈ r, x.length = 8 := fun x hx => (h.2.2 x hx).1
set_option maxRecDepth 100000 in
theorem WS.pair {n : Nat} {a : List Nat} {r : List (List Nat)} (h : WS n a r) {i : Nat} (hi : i < r.length) : Bts 16 (a ++ r[i]) := by
  have := h.2.2 _ (List.getElem_mem hi)
  exact ⟨by rw [List.length_append, h.1.1, this.1], h.1.byt.append this.2⟩
set_option maxRecDepth 100000 in
theorem WS.set {n : Nat} {a b c : List Nat} {r : List (List Nat)} (h : WS n a r) (hb : Bts 8 b) (hc : Bts 8 c) (i : Nat) : WS n b (r.set i c) := by
  refine ⟨hb, by rw [List.length_set]; exact h.2.1, fun x hx => ?_⟩
  rcases List.mem_or_eq_of_mem_set hx with h1 | rfl
  · exact h.2.2 x h1
  · exact hc
set_option maxRecDepth 100000 in
theorem half_bts {B : List Nat} (h : Bts 16 B) : Bts 8 (B.take 8) ∧ Bts 8 (B.drop 8) :=
  ⟨⟨by rw [List.length_take, h.1]; rfl, fun x hx => h.2 x (List.mem_of_mem_take hx)⟩, ⟨by rw [List.length_drop, h.1], fun x hx => h.2 x (List.mem_of_mem_drop hx)⟩⟩
set_option maxRecDepth 100000 in
/-- A step of the document's Wrap. -/
theorem wstep {E : List Nat → List Nat} (hE : ∀ x, Bts 16 x → Bts 16 (E x)) {n s : Nat} {a : List Nat} {r : List (List Nat)} (h : WS n a r) {i : Nat} (hi : i < r.length) (hs : s < 256) :
    WS n (mixw ((E (a ++ r[i])).take 8) s) (r.set i ((E (a ++ r[i])).drop 8)) ∧ fl (mixw ((E (a ++ r[i])).take 8) s) (r.set i ((E (a ++ r[i])).drop 8)) = stp E (fl a r) (i + 1) s := by
  have hx := hE _ (h.pair hi)
  have hh := half_bts hx
  refine ⟨h.set (mixw_bts hh.1 hs) hh.2 i, ?_⟩
  unfold stp
  have hc := ct_bts hx hs
  rw [pr_fl h.1.1 h.l8 hi, pt_fl h.1.1 h.l8 hi hc.1, (ct_take _ s).1, (ct_take _ s).2]
set_option maxRecDepth 100000 in
/-- A step of the document's Unwrap. -/
theorem ustep {D : List Nat → List Nat} (hD : ∀ x, Bts 16 x → Bts 16 (D x)) {n s : Nat} {a : List Nat} {r : List (List Nat)} (h : WS n a r) {i : Nat} (hi : i < r.length) (hs : s < 256) :
    WS n ((D (mixw a s ++ r[i])).take 8) (r.set i ((D (mixw a s ++ r[i])).drop 8)) ∧ fl ((D (mixw a s ++ r[i])).take 8) (r.set i ((D (mixw a s ++ r[i])).drop 8)) = stb D (fl a r) (i + 1) s := by
  have hm := mixw_bts h.1 hs
  have hy := h.2.2 _ (List.getElem_mem hi)
  have hx := hD (mixw a s ++ r[i]) ⟨by rw [List.length_append, hm.1, hy.1], hm.byt.append hy.2⟩
  have hh := half_bts hx
  refine ⟨h.set hh.1 hh.2 i, ?_⟩
  unfold stb
  rw [pr_fl h.1.1 h.l8 hi, ct_app h.1.1, pt_fl h.1.1 h.l8 hi hx.1]
/-- A text's words. -/
def wds : Nat → List Nat → List (List Nat)
  | 0, _ => []
  | n + 1, l => l.take 8 :: wds n (l.drop 8)
set_option maxRecDepth 100000 in
theorem wds_ok : ∀ (n : Nat) (l : List Nat), l.length = 8 * n → Byt l → (wds n l).length = n ∧ (∀ x ∈ wds n l, Bts 8 x) ∧ (wds n l).flatten = l
  | 0, l, h, _ => ⟨rfl, fun x hx => by simp [wds] at hx, by rw [List.length_eq_zero_iff.1 h]; rfl⟩
  | n + 1, l, h, hb => by
    obtain ⟨h1, h2, h3⟩ := wds_ok n (l.drop 8) (by rw [List.length_drop]; omega) (fun x hx => hb x (List.mem_of_mem_drop hx))
    refine ⟨by unfold wds; rw [List.length_cons, h1], fun x hx => ?_, by unfold wds; rw [List.flatten_cons, h3, List.take_append_drop]⟩
    unfold wds at hx
    rcases List.mem_cons.1 hx with rfl | hx
    · exact ⟨by rw [List.length_take]; omega, fun y hy => hb y (List.mem_of_mem_take hy)⟩
    · exact h2 x hx
set_option maxRecDepth 100000 in
theorem wds_get : ∀ (n : Nat) (l : List Nat) (i : Nat) (_ : i < n), (wds n l)[i]? = some ((l.drop (8 * i)).take 8)
  | 0, l, i, h => by omega
  | n + 1, l, 0, _ => by simp [wds]
  | n + 1, l, i + 1, h => by
    have := wds_get n (l.drop 8) i (by omega)
    rw [List.drop_drop] at this
    simp only [wds, List.getElem?_cons_succ]
    rw [this, show 8 + 8 * i = 8 * (i + 1) by omega]
end Go.Proofs.YtpkeofioobmmoaaGreatDoor.ae
