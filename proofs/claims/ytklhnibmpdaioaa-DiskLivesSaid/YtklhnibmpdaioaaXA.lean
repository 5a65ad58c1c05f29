/-
  The document's writes, as a list, beside what is sure and what waits. Condition: none.
-/
import Derived.Test.YtklhnibmpdaioaaDV
namespace Go.Proofs.Ytklhnibmpdaioaa
/-- The last write of a sector: of all, or of the sure ones. -/
def lastX (u : Bool) (s : Nat) : List (Nat × Nat × Bool) → Option Nat
  | [] => none
  | (a, y, b) :: r => match lastX u s r with | some z => some z | none => if a = s ∧ (b = true ∨ u = false) then some y else none
/-- The writes that wait. -/
def unS : List (Nat × Nat × Bool) → List (Nat × Nat)
  | [] => []
  | (a, y, b) :: r => if b = true then unS r else (a, y) :: unS r
/-- No sure write of a sector stands behind one that waits. -/
def OrdL (L : List (Nat × Nat × Bool)) : Prop := L.Pairwise (fun a b => a.1 = b.1 → b.2.2 = true → a.2.2 = true)
/-- What a crash keeps. -/
def crL (kp : Nat → Bool) : Nat → List (Nat × Nat × Bool) → List (Nat × Nat × Bool)
  | _, [] => []
  | n, (a, y, b) :: r => if b = true then (a, y, true) :: crL kp n r else if kp n = true then (a, y, true) :: crL kp (n + 1) r else crL kp (n + 1) r
def lastKw (kp : Nat → Bool) (s : Nat) : Nat → List (Nat × Nat) → Option Nat
  | _, [] => none
  | n, (a, y) :: r => match lastKw kp s (n + 1) r with | some z => some z | none => if a = s ∧ kp n = true then some y else none
structure RL (su : Nat → Option Nat) (ws : List (Nat × Nat)) (L : List (Nat × Nat × Bool)) : Prop where
  w : ws = unS L
  s : ∀ s, su s = lastX true s L
  o : OrdL L
theorem lastX_app (u : Bool) (s a y : Nat) (b : Bool) : ∀ L : List (Nat × Nat × Bool), lastX u s (L ++ [(a, y, b)]) = if a = s ∧ (b = true ∨ u = false) then some y else lastX u s L
  | [] => by show (match lastX u s [] with | some z => some z | none => _) = _; rfl
  | (a', y', b') :: r => by
    show (match lastX u s (r ++ [(a, y, b)]) with | some z => some z | none => _) = _
    rw [lastX_app u s a y b r]
    by_cases h : a = s ∧ (b = true ∨ u = false)
    · rw [if_pos h, if_pos h]
    · rw [if_neg h, if_neg h]; rfl
theorem unS_app (a y : Nat) (b : Bool) : ∀ L : List (Nat × Nat × Bool), unS (L ++ [(a, y, b)]) = unS L ++ (if b = true then [] else [(a, y)])
  | [] => by cases b <;> rfl
  | (a', y', b') :: r => by
    show (if b' = true then unS (r ++ [(a, y, b)]) else (a', y') :: unS (r ++ [(a, y, b)])) = (if b' = true then unS r else (a', y') :: unS r) ++ _
    rw [unS_app a y b r]
    cases b' <;> rfl
theorem lastX_sure_none {s : Nat} : ∀ {L : List (Nat × Nat × Bool)}, (∀ e ∈ L, e.1 = s → e.2.2 = false) → lastX true s L = none
  | [], _ => rfl
  | (a, y, b) :: r, h => by
    show (match lastX true s r with | some z => some z | none => if a = s ∧ (b = true ∨ true = false) then some y else none) = none
    rw [lastX_sure_none (fun e he => h e (List.mem_cons_of_mem _ he))]
    show (if a = s ∧ (b = true ∨ true = false) then some y else none) = none
    rw [if_neg]
    rintro ⟨h1, h2 | h2⟩
    · have := h (a, y, b) List.mem_cons_self h1; rw [h2] at this; cases this
    · cases h2
theorem ord_tail {e : Nat × Nat × Bool} {r : List (Nat × Nat × Bool)} (h : OrdL (e :: r)) : OrdL r := (List.pairwise_cons.1 h).2
theorem ord_none {a y : Nat} {r : List (Nat × Nat × Bool)} (h : OrdL ((a, y, false) :: r)) : lastX true a r = none :=
  lastX_sure_none (fun e he h1 => by
    have := (List.pairwise_cons.1 h).1 e he h1.symm
    cases hb : e.2.2 with
    | false => rfl
    | true => have := this hb; cases this)
theorem lastX_all (s : Nat) : ∀ {L : List (Nat × Nat × Bool)}, OrdL L → lastX false s L = match lastW s (unS L) with | some y => some y | none => lastX true s L
  | [], _ => rfl
  | (a, y, b) :: r, h => by
    show (match lastX false s r with | some z => some z | none => if a = s ∧ (b = true ∨ false = false) then some y else none) = _
    rw [lastX_all s (ord_tail h)]
    cases b with
    | true =>
      show _ = match lastW s (unS r) with | some y => some y | none => (match lastX true s r with | some z => some z | none => if a = s ∧ (true = true ∨ true = false) then some y else none)
      cases lastW s (unS r) with
      | some z => rfl
      | none => cases lastX true s r with
        | some z => rfl
        | none => by_cases e : a = s <;> simp [e]
    | false =>
      show _ = match (match lastW s (unS r) with | some z => some z | none => if a = s then some y else none) with | some y => some y | none => (match lastX true s r with | some z => some z | none => if a = s ∧ (false = true ∨ true = false) then some y else none)
      cases lastW s (unS r) with
      | some z => rfl
      | none =>
        by_cases e : a = s
        · subst e
          rw [ord_none h]
          simp
        · cases lastX true s r with
          | some z => simp [e]
          | none => simp [e]
theorem lastKw_app (kp : Nat → Bool) (s a y : Nat) : ∀ (n : Nat) (ws : List (Nat × Nat)), lastKw kp s n (ws ++ [(a, y)]) = if a = s ∧ kp (n + ws.length) = true then some y else lastKw kp s n ws
  | n, [] => rfl
  | n, (a', y') :: r => by
    show (match lastKw kp s (n + 1) (r ++ [(a, y)]) with | some z => some z | none => _) = _
    rw [lastKw_app kp s a y (n + 1) r, show n + 1 + r.length = n + ((a', y') :: r).length by simp; omega]
    by_cases h : a = s ∧ kp (n + ((a', y') :: r).length) = true
    · rw [if_pos h, if_pos h]
    · rw [if_neg h, if_neg h]; rfl
theorem keepS_last (kp : Nat → Bool) (su : Nat → Option Nat) (ws : List (Nat × Nat)) (s : Nat) : ∀ i, i ≤ ws.length → keepS kp su ws i s = match lastKw kp s 0 (ws.take i) with | some y => some y | none => su s
  | 0, _ => by simp [keepS, lastKw]
  | i + 1, hi => by
    obtain ⟨a, y, ha⟩ : ∃ a y, ws[i]? = some (a, y) := ⟨_, _, List.getElem?_eq_getElem (by omega)⟩
    have ht : ws.take (i + 1) = ws.take i ++ [(a, y)] := by
      obtain ⟨h1, h2⟩ := List.getElem?_eq_some_iff.1 ha
      rw [List.take_succ_eq_append_getElem h1, h2]
    rw [ht, lastKw_app, List.length_take, Nat.min_eq_left (by omega), Nat.zero_add]
    by_cases hk : kp i = true
    · obtain ⟨k1, k2⟩ := keepS_yes (su := su) ha hk
      by_cases e : a = s
      · subst e; rw [k1, if_pos ⟨rfl, hk⟩]
      · rw [k2 s (fun h => e h.symm), keepS_last kp su ws s i (by omega), if_neg (fun h => e h.1)]
    · rw [keepS_no (by simpa using hk), keepS_last kp su ws s i (by omega), if_neg (fun h => hk h.2)]
theorem lastX_cr (kp : Nat → Bool) (s : Nat) : ∀ {L : List (Nat × Nat × Bool)} (n : Nat), OrdL L → lastX true s (crL kp n L) = match lastKw kp s n (unS L) with | some y => some y | none => lastX true s L
  | [], _, _ => rfl
  | (a, y, b) :: r, n, h => by
    cases b with
    | true =>
      show (match lastX true s (crL kp n r) with | some z => some z | none => if a = s ∧ (true = true ∨ true = false) then some y else none) = match lastKw kp s n (unS r) with | some y => some y | none => (match lastX true s r with | some z => some z | none => if a = s ∧ (true = true ∨ true = false) then some y else none)
      rw [lastX_cr kp s n (ord_tail h)]
      cases lastKw kp s n (unS r) with
      | some z => rfl
      | none => rfl
    | false =>
      by_cases hk : kp n = true
      · have e1 : crL kp n ((a, y, false) :: r) = (a, y, true) :: crL kp (n + 1) r := by show (if false = true then _ else if kp n = true then _ else _) = _; rw [if_neg (by decide), if_pos hk]
        rw [e1]
        show (match lastX true s (crL kp (n + 1) r) with | some z => some z | none => if a = s ∧ (true = true ∨ true = false) then some y else none) = match (match lastKw kp s (n + 1) (unS r) with | some z => some z | none => if a = s ∧ kp n = true then some y else none) with | some y => some y | none => (match lastX true s r with | some z => some z | none => if a = s ∧ (false = true ∨ true = false) then some y else none)
        rw [lastX_cr kp s (n + 1) (ord_tail h)]
        cases lastKw kp s (n + 1) (unS r) with
        | some z => rfl
        | none =>
          by_cases e : a = s
          · subst e
            rw [ord_none h]
            simp [hk]
          · cases lastX true s r with
            | some z => simp [e]
            | none => simp [e]
      · have e1 : crL kp n ((a, y, false) :: r) = crL kp (n + 1) r := by show (if false = true then _ else if kp n = true then _ else _) = _; rw [if_neg (by decide), if_neg hk]
        rw [e1]
        show _ = match (match lastKw kp s (n + 1) (unS r) with | some z => some z | none => if a = s ∧ kp n = true then some y else none) with | some y => some y | none => (match lastX true s r with | some z => some z | none => if a = s ∧ (false = true ∨ true = false) then some y else none)
        rw [lastX_cr kp s (n + 1) (ord_tail h)]
        cases lastKw kp s (n + 1) (unS r) with
        | some z => rfl
        | none =>
          cases lastX true s r with
          | some z => simp [hk]
          | none => simp [hk]
theorem crL_sure (kp : Nat → Bool) : ∀ (n : Nat) (L : List (Nat × Nat × Bool)), ∀ e ∈ crL kp n L, e.2.2 = true
  | n, [], e, he => by cases he
  | n, (a, y, b) :: r, e, he => by
    unfold crL at he
    split at he
    · rcases List.mem_cons.1 he with h | h
      · rw [h]
      · exact crL_sure kp n r e h
    · split at he
      · rcases List.mem_cons.1 he with h | h
        · rw [h]
        · exact crL_sure kp (n + 1) r e h
      · exact crL_sure kp (n + 1) r e he
theorem unS_sure : ∀ {L : List (Nat × Nat × Bool)}, (∀ e ∈ L, e.2.2 = true) → unS L = []
  | [], _ => rfl
  | (a, y, b) :: r, h => by
    have hb : b = true := h (a, y, b) List.mem_cons_self
    show (if b = true then unS r else (a, y) :: unS r) = []
    rw [if_pos hb]
    exact unS_sure (fun e he => h e (List.mem_cons_of_mem _ he))
theorem ord_sure {L : List (Nat × Nat × Bool)} (h : ∀ e ∈ L, e.2.2 = true) : OrdL L := List.pairwise_of_forall_mem_list (fun a ha _ _ _ _ => h a ha)
theorem RL.nil : RL (fun _ => none) [] [] := ⟨rfl, fun _ => rfl, List.Pairwise.nil⟩
theorem RL.shown {su : Nat → Option Nat} {ws : List (Nat × Nat)} {L : List (Nat × Nat × Bool)} (h : RL su ws L) (s : Nat) : lastX false s L = shwn su ws s := by
  rw [lastX_all s h.o, ← h.w, ← h.s]; rfl
theorem RL.write {su : Nat → Option Nat} {ws : List (Nat × Nat)} {L : List (Nat × Nat × Bool)} (h : RL su ws L) (s y : Nat) : RL su (ws ++ [(s, y)]) (L ++ [(s, y, false)]) := by
  refine ⟨by rw [unS_app, h.w]; rfl, fun j => ?_, ?_⟩
  · rw [lastX_app, if_neg (by rintro ⟨_, h | h⟩ <;> cases h)]; exact h.s j
  · unfold OrdL
    rw [List.pairwise_append]
    exact ⟨h.o, List.pairwise_singleton _ _, fun a _ b hb _ hs => by simp at hb; rw [hb] at hs; cases hs⟩
theorem RL.crash {su : Nat → Option Nat} {ws : List (Nat × Nat)} {L : List (Nat × Nat × Bool)} (h : RL su ws L) (kp : Nat → Bool) : RL (keepS kp su ws ws.length) [] (crL kp 0 L) := by
  refine ⟨(unS_sure (crL_sure kp 0 L)).symm, fun s => ?_, ord_sure (crL_sure kp 0 L)⟩
  rw [keepS_last kp su ws s ws.length (Nat.le_refl _), List.take_length, lastX_cr kp s 0 h.o, h.w, h.s]
theorem unS_filter (s : Nat) : ∀ L : List (Nat × Nat × Bool), unS (L.filter (fun e => decide (e.1 ≠ s))) = rest s (unS L)
  | [] => rfl
  | (a, y, b) :: r => by
    rw [List.filter_cons]
    by_cases e : a = s
    · rw [if_neg (by simp [e]), unS_filter s r]
      show _ = rest s (if b = true then unS r else (a, y) :: unS r)
      cases b with
      | true => rfl
      | false => show _ = rest s ((a, y) :: unS r); unfold rest; rw [List.filter_cons, if_neg (by simp [e])]
    · rw [if_pos (by simp [e])]
      show (if b = true then unS _ else (a, y) :: unS _) = rest s (if b = true then unS r else (a, y) :: unS r)
      rw [unS_filter s r]
      cases b with
      | true => rfl
      | false => show (a, y) :: rest s (unS r) = rest s ((a, y) :: unS r); unfold rest; rw [List.filter_cons, if_pos (by simp [e])]
theorem lastX_filter (u : Bool) {s j : Nat} (hj : j ≠ s) : ∀ L : List (Nat × Nat × Bool), lastX u j (L.filter (fun e => decide (e.1 ≠ s))) = lastX u j L
  | [] => rfl
  | (a, y, b) :: r => by
    rw [List.filter_cons]
    by_cases e : a = s
    · rw [if_neg (by simp [e]), lastX_filter u hj r]
      show _ = match lastX u j r with | some z => some z | none => if a = j ∧ (b = true ∨ u = false) then some y else none
      rw [if_neg (fun h => hj (h.1.symm.trans e))]
      cases lastX u j r <;> rfl
    · rw [if_pos (by simp [e])]
      show (match lastX u j _ with | some z => some z | none => _) = match lastX u j r with | some z => some z | none => _
      rw [lastX_filter u hj r]
theorem RL.tamper {su : Nat → Option Nat} {ws : List (Nat × Nat)} {L : List (Nat × Nat × Bool)} (h : RL su ws L) (s y : Nat) : RL (putS su s y) (rest s ws) (L.filter (fun e => decide (e.1 ≠ s)) ++ [(s, y, true)]) := by
  refine ⟨by rw [unS_app, unS_filter, h.w]; simp, fun j => ?_, ?_⟩
  · rw [lastX_app]
    unfold putS
    by_cases e : j = s
    · rw [if_pos e, if_pos ⟨e.symm, .inl rfl⟩]
    · rw [if_neg e, if_neg (fun k => e k.1.symm), lastX_filter true e]; exact h.s j
  · unfold OrdL
    rw [List.pairwise_append]
    exact ⟨h.o.sublist List.filter_sublist, List.pairwise_singleton _ _, fun a ha b hb hab _ => by
      simp at hb
      rw [List.mem_filter] at ha
      rw [hb] at hab
      simp [hab] at ha⟩
end Go.Proofs.Ytklhnibmpdaioaa
