/-
  Contracts of the document's disk that only tell: Waits, Copy, Shown, Sure, Read. Condition: it lies in memory.
-/
import Derived.Test.YtklhnibmpdaioaaXB
import Derived.OwnWalk
namespace Go.Proofs.Ytklhnibmpdaioaa
open Go.RowKit
theorem wpList_appX {P : Program} {T : TypeId} {ops : Array Oper} {rest : List Oper} {o : Oper} {a : Act} {w : World} {Q : Exit → Act → World → Prop} (hgd : o.guard = none) (s x : Operand)
    (ho : o.op = .call { callee := .builtin .append, args := #[s, x], argTypes := #[T, T] }) (hty : o.type = T) {v u v' : Value} {w' : World} (hs : a.eval s = v) (hx : a.eval x = u)
    (hr : (Builtin.append_ #[T, T] T #[v, u]).run P w = .ok v' w') (h : wpList P ops Q rest (a.put o.dst v') w') : wpList P ops Q (o :: rest) a w := by
  refine wpList_plain hgd fun K hK => ?_
  unfold Oper.wp execOp
  simp only [ho, hty, resolve, invoke, builtin, Sem.run_bind, Sem.run_pure, Result.andThen_ok, List.map_toArray, List.map_cons, List.map_nil, hs, hx, hr]
  exact hK _ _ h
theorem unS_take {L : List (Nat × Nat × Bool)} {i s y : Nat} {b : Bool} (h : L[i]? = some (s, y, b)) : (unS (L.take (i + 1))).length = (unS (L.take i)).length + (if b = true then 0 else 1) := by
  obtain ⟨h1, h2⟩ := List.getElem?_eq_some_iff.1 h
  rw [List.take_succ_eq_append_getElem h1, h2, unS_app]
  cases b <;> simp
theorem unS_le : ∀ L : List (Nat × Nat × Bool), (unS L).length ≤ L.length
  | [] => Nat.le_refl _
  | (a, y, b) :: r => by
    have := unS_le r
    show (if b = true then unS r else (a, y) :: unS r).length ≤ _
    cases b <;> simp <;> omega
theorem lastX_append (u : Bool) (s : Nat) (B : List (Nat × Nat × Bool)) : ∀ A : List (Nat × Nat × Bool), lastX u s (A ++ B) = match lastX u s B with | some z => some z | none => lastX u s A
  | [] => by show lastX u s B = _; cases lastX u s B <;> rfl
  | (a, y, b) :: r => by
    show (match lastX u s (r ++ B) with | some z => some z | none => if a = s ∧ (b = true ∨ u = false) then some y else none) = match lastX u s B with | some z => some z | none => (match lastX u s r with | some z => some z | none => if a = s ∧ (b = true ∨ u = false) then some y else none)
    rw [lastX_append u s B r]
    cases lastX u s B <;> rfl
theorem lastX_drop {u : Bool} {s : Nat} {L : List (Nat × Nat × Bool)} {k a y : Nat} {b : Bool} (h : L[k]? = some (a, y, b)) (hn : lastX u s (L.drop (k + 1)) = none) : lastX u s (L.drop k) = if a = s ∧ (b = true ∨ u = false) then some y else none := by
  obtain ⟨h1, h2⟩ := List.getElem?_eq_some_iff.1 h
  rw [List.drop_eq_getElem_cons h1, h2]
  show (match lastX u s (L.drop (k + 1)) with | some z => some z | none => _) = _
  rw [hn]
section
variable {w w' : World} {q N rb : Nat} {lv v : Value} {L : List (Nat × Nat × Bool)} {rg : List Value} {c p : Int} {d : Bool}
set_option maxRecDepth 100000 in
theorem waitsX (h : XD w q N lv L rb rg c p d) (hL : L.length ≤ 1000000) : Calls Try.prog 19 #[.pointer (some ⟨q, 0, none⟩)] w fun e w' => e = .returned (.int .i64 (unS L).length) ∧ w = w' := by
  obtain ⟨x, k, rfl, _, _⟩ := h.form
  have H := Lib.hid h
  have c1 := h.c1
  have HE : Hid (unS (L.take L.length) = unS L) := by show _ = _; rw [List.take_length]
  have hl2 : (L.length : Int) ≤ 1000000 := by omega
  clear h
  go_enter Try.func19, Try.ntmps19
  go_wp2_with fail
  go_loopg [3, 4] L.length (fun r v3 v4 wr => ∃ i : Nat, r + i = L.length ∧ v3 = .int .i64 (unS (L.take i)).length ∧ v4 = .int .i64 i ∧ w = wr)
  case atStart => exact ⟨0, by omega, rfl, rfl, rfl⟩
  case round =>
    obtain ⟨i, hr, rfl, rfl, rfl⟩ := hrel
    have HR := Lib.hid hr
    by_cases hi : i < L.length
    · obtain ⟨s, y, b, he⟩ : ∃ s y b, L[i]? = some (s, y, b) := ⟨_, _, _, List.getElem?_eq_getElem hi⟩
      obtain ⟨g, o, vv, rfl, d0, d1, d2, _, _⟩ := H.out.at he
      have UT := Lib.hid (unS_take he)
      have hle := unS_le (L.take i)
      have hle2 : (L.take i).length ≤ i := by rw [List.length_take]; omega
      have hi2 : (i : Int) < L.length := by omega
      clear hr he
      generalize hz : (unS (L.take i)).length = z at *
      clear hz
      cases b with
      | true =>
        simp only [if_true, Nat.add_zero] at UT
        go_wp2_with fail
        go_roundg (L.length - (i + 1))
        case measure => have := HR.out; omega
        case rel => exact ⟨i + 1, by have := HR.out; omega, by rw [UT.out], by go_num, rfl⟩
      | false =>
        have UT2 : Hid ((unS (L.take (i + 1))).length = z + 1) := by show _ = _; have := UT.out; simpa using this
        go_wp2_with fail
        go_roundg (L.length - (i + 1))
        case measure => have := HR.out; omega
        case rel => exact ⟨i + 1, by have := HR.out; omega, by rw [UT2.out]; go_num, by go_num, rfl⟩
    · have hz : i = L.length := by omega
      subst hz
      rw [HE.out]
      clear hr HR hi
      go_wp2_with fail
      go_ret
      exact ⟨rfl, rfl⟩
theorem copyX {y : Nat} (h : TX w v (tx y)) : Calls Try.prog 75 #[v] w fun e w' => ∃ v', e = .returned v' ∧ TY w' v' (tx y) ∧ Below w.heap.size w w' := by
  obtain ⟨b, rfl, hg⟩ := h
  rw [tx_len]
  obtain ⟨i, hi, hz0, hz1, hz2⟩ := info_parts info5
  have hmax : (512 : Nat) ≤ maxLen := by decide
  have hat : ∀ j u, (tx y)[j]? = some u → u = y := fun j u hj => by unfold tx at hj; rw [List.getElem?_replicate] at hj; split at hj <;> simp_all
  obtain ⟨v', w', hr, ho, hgr, _⟩ := run_append_own (P := Try.prog) (w := w) w.heap.size 32 32 5 i _ 1 1 Try.underlying32 hi hz0 hz1 hz2 rfl (by decide) (.slice none 0 0) 0 [] (World.ownsRow_nil _ _ 5 1) ⟨b, 0, none⟩ 512 512 ((tx y).map fun n : Nat => Value.int .u8 (n : Int)) (by simp [tx_len])
    (fun j u hj => by rw [addr_add, cell_of_row _ _ _ _ _ _ hg, Nat.zero_add]; unfold bcells; rw [List.getElem?_toArray]; exact hj) (by simp [Value.oneCell']) (by omega) (by omega) (Nat.le_refl _)
  have HT : Hid (TY w' v' (tx y)) := by
    obtain ⟨_, ⟨_, h0⟩ | ⟨g, cap, cur, rfl, hb, hg2, h1, h2, h3, h4⟩⟩ := ho
    · omega
    · refine ⟨g, cap, cur, by rw [tx_len], hg2, by rw [tx_len]; omega, h2, fun j z hj => ?_⟩
      have hjl : j < 512 := by have := (List.getElem?_eq_some_iff.1 hj).1; rw [tx_len] at this; exact this
      have h5 : ((tx y).map fun n : Nat => Value.int .u8 (n : Int))[j]? = some (.int .u8 (z : Int)) := by rw [List.getElem?_map, hj]; rfl
      rw [List.nil_append] at h4
      rw [← h4, List.getElem?_take_of_lt (by omega)] at h5
      simpa using h5
  have HB : Hid (Below w.heap.size w w') := ⟨hgr.os, hgr.tape, hgr.output, hgr.size, fun k hk => hgr.block k hk (by simp [Value.ownBlock])⟩
  have HR := Lib.hid hr
  clear ho hgr hr hat hi hz0 hz1 hz2
  go_enter Try.func75, Try.ntmps75
  go_wp2_with (at_builtin; refine wpList_appX rfl (.tmp 4) (.tmp 5) rfl rfl rfl rfl HR.out ?_)
  go_ret
  exact ⟨_, rfl, HT.out, HB.out⟩
def ShP (w : World) (o : Option Nat) (e : Ending) (w' : World) : Prop := ∃ v, e = .returned v ∧ TY w' v (padT o) ∧ Below w.heap.size w w'
set_option maxRecDepth 100000 in
set_option maxHeartbeats 1000000 in
theorem shownX (h : XD w q N lv L rb rg c p d) (hL : L.length ≤ 1000000) (s : Nat) (u : Bool) : Calls Try.prog 60 #[.pointer (some ⟨q, 0, none⟩), .int .u32 s, .bool u] w (ShP w (lastX u s L)) := by
  obtain ⟨x, k, rfl, _, _⟩ := h.form
  have H := Lib.hid h
  have c1 := h.c1
  have hl2 : (L.length : Int) ≤ 1000000 := by omega
  have HL := Lib.hid hL
  have MK : ∀ w : World, (Instr.makeSlice 32 (.int .i64 512) (.int .i64 512)).run Try.prog w = .ok (.slice (some ⟨w.heap.size, 0, none⟩) 512 512) (w.alloc (.cells (bcells (List.replicate 512 0)) 5)) := fun w => make32 w 512 (by omega)
  have HZ : Hid (lastX u s (L.drop L.length) = none) := by show _ = _; rw [List.drop_length]; rfl
  have HF : Hid (∀ o, o = lastX u s L → ∀ v w', TY w' v (padT o) → Below w.heap.size w w' → ShP w (lastX u s L) (.returned v) w') := fun o ho v w' h1 h2 => ⟨v, rfl, by rw [← ho]; exact h1, h2⟩
  have HD : Hid (∀ n, lastX u s (L.drop n) ≠ none → lastX u s (L.drop n) = lastX u s L) := fun n hn => by
    have := lastX_append u s (L.drop n) (L.take n)
    rw [List.take_append_drop] at this
    rw [this]
    cases hq : lastX u s (L.drop n) with
    | none => exact absurd hq hn
    | some z => rfl
  clear h hL
  go_enter Try.func60, Try.ntmps60
  go_wp2_with fail
  go_loopg [7] L.length (fun r v7 wr => ∃ n : Nat, r = n ∧ n ≤ L.length ∧ v7 = .int .i64 ((n : Int) - 1) ∧ lastX u s (L.drop n) = none ∧ w = wr)
  case atStart => exact ⟨L.length, rfl, Nat.le_refl _, rfl, HZ.out, rfl⟩
  case round =>
    obtain ⟨n, hrn, hn, rfl, hz, rfl⟩ := hrel
    have HRN := Lib.hid hrn
    clear hrn
    have HN := Lib.hid hn
    have Z := Lib.hid hz
    clear hz
    cases n with
    | zero =>
      have HX : Hid (ShP w (lastX u s L) (.returned (.slice (some ⟨w.heap.size, 0, none⟩) 512 512)) (w.alloc (.cells (bcells (List.replicate 512 0)) 5))) := by
        refine HF.out none Z.out.symm _ _ ?_ ((Below.refl _ _).alloc (Nat.le_refl _) _)
        have := TX.ty (w := w.alloc (.cells (bcells (List.replicate 512 0)) 5)) (v := .slice (some ⟨w.heap.size, 0, none⟩) 512 512) (xs := tx 0) ⟨w.heap.size, by rw [tx_len], heap_alloc_new _ _⟩ (by rw [tx_len]; decide)
        exact this
      clear hn
      go_wp2_with fail
      go_ret
      exact HX.out
    | succ i =>
      have ez : ((i + 1 : Nat) : Int) - 1 = (i : Int) := by omega
      rw [ez]
      clear ez
      have hi : i < L.length := by omega
      obtain ⟨a, y, b, he⟩ : ∃ a y b, L[i]? = some (a, y, b) := ⟨_, _, _, List.getElem?_eq_getElem hi⟩
      obtain ⟨g, o, vv, rfl, d0, d1, d2, _, dt, _⟩ := H.out.at he
      have LD := Lib.hid (lastX_drop (u := u) (s := s) he Z.out)
      have DT := Lib.hid dt
      have hi2 : (i : Int) < L.length := by omega
      have hi0 : 0 ≤ (i : Int) := by omega
      have hi1 : (i : Int) ≤ 1000000 := by omega
      clear he dt hn
      by_cases hm : a = s ∧ (b = true ∨ u = false)
      · rw [if_pos hm] at LD
        have HX : Hid (ShP w (lastX u s L) (.returned vv) w) := HF.out (some y) (by rw [← HD.out i (by rw [LD.out]; simp)]; exact LD.out.symm) _ _ DT.out (Below.refl _ _)
        obtain ⟨rfl, hb⟩ := hm
        have hb2 : Hid (b = true ∨ u = false) := hb
        clear hb
        cases b with
        | true =>
          go_wp2_with fail
          go_ret
          exact HX.out
        | false =>
          have hu : u = false := by have := hb2.out; simpa using this
          subst hu
          go_wp2_with fail
          go_ret
          exact HX.out
      · rw [if_neg hm] at LD
        have HM := Lib.hid hm
        clear hm
        by_cases ha : a = s
        · subst ha
          have hbu : b = false ∧ u = true := by
            have := HM.out
            cases b <;> cases u <;> simp_all
          obtain ⟨rfl, rfl⟩ := hbu
          go_wp2_with fail
          go_roundg i
          case measure => have := HRN.out; omega
          case rel => exact ⟨i, rfl, by have := HN.out; omega, by go_num, LD.out, rfl⟩
        · have hab : ((a : Int) == (s : Int)) = false := by simp; omega
          go_wp2_with fail
          go_roundg i
          case measure => have := HRN.out; omega
          case rel => exact ⟨i, rfl, by have := HN.out; omega, by go_num, LD.out, rfl⟩
end
end Go.Proofs.Ytklhnibmpdaioaa
