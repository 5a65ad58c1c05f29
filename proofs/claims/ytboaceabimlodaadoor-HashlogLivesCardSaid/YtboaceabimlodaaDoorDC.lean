/-
  Contract of the document's Clash of a log. Condition: it lies in memory as a list of texts.
-/
import Derived.Test.YtboaceabimlodaaDoorDS
namespace Go.Proofs.YtboaceabimlodaaDoor
open Go.RowKit
/-- No two of the first i have one sum. -/
def NoC (T : List (List Int)) (i : Nat) : Prop := ∀ (a b : Nat) (s t : List Int), a < b → b < i → T[a]? = some s → T[b]? = some t → sha s ≠ sha t
theorem NoC.mono {T : List (List Int)} {i j : Nat} (h : NoC T i) (hj : j ≤ i) : NoC T j := fun a b s t h1 h2 => h a b s t h1 (by omega)
theorem mem_take_at {T : List (List Int)} {i : Nat} {u : List Int} (h : u ∈ T.take i) : ∃ a, a < i ∧ T[a]? = some u := by
  obtain ⟨a, ha⟩ := List.mem_iff_getElem?.1 h
  have h1 := (List.getElem?_eq_some_iff.1 ha).1
  rw [List.length_take] at h1
  exact ⟨a, by omega, by rw [← ha, List.getElem?_take_of_lt (by omega)]⟩
theorem clk_take {T : List (List Int)} : ∀ {i : Nat}, NoC T i → clk sha (T.take i) = none
  | 0, _ => by rw [List.take_zero]; rfl
  | i + 1, h => by
    have ih := clk_take (h.mono (Nat.le_succ i))
    by_cases hi : i < T.length
    · rw [List.take_succ_eq_append_getElem hi, clk_snoc, ih]
      simp only
      rw [if_neg]
      intro ha
      obtain ⟨u, hu, e⟩ := List.any_eq_true.1 ha
      obtain ⟨a, h1, h2⟩ := mem_take_at hu
      exact h a i u T[i] h1 (Nat.lt_succ_self i) h2 (List.getElem?_eq_getElem hi) (by simpa using e)
    · rw [List.take_of_length_le (by omega)]
      rw [List.take_of_length_le (by omega)] at ih
      exact ih
theorem clk_app {c : List Int} : ∀ (B A : List (List Int)), clk sha A = some c → clk sha (A ++ B) = some c
  | [], A, e => by rw [List.append_nil]; exact e
  | b :: B, A, e => by
    rw [show A ++ b :: B = (A ++ [b]) ++ B from by simp]
    refine clk_app B _ ?_
    rw [clk_snoc, e]
theorem place {T : List (List Int)} {i k : Nat} {s t : List Int} (hN : NoC T i) (ht : T[i]? = some t) (hk : T[k]? = some s) (hki : k < i) (hs : sha s = sha t) (h0 : ∀ (a : Nat) (u : List Int), a < k → T[a]? = some u → sha u ≠ sha t) :
    clk sha T = some (sha t) ∧ (ofSum sha T (sha t))[0]? = some s ∧ (ofSum sha T (sha t))[1]? = some t := by
  obtain ⟨il, rfl⟩ := List.getElem?_eq_some_iff.1 ht
  obtain ⟨kl, rfl⟩ := List.getElem?_eq_some_iff.1 hk
  have e1 : T = T.take i ++ T[i] :: T.drop (i + 1) := by
    rw [← List.drop_eq_getElem_cons il, List.take_append_drop]
  have klt : k < (T.take i).length := by rw [List.length_take]; omega
  have e2 : T.take i = T.take k ++ T[k] :: (T.take i).drop (k + 1) := by
    have e3 : T.take i = (T.take i).take k ++ (T.take i).drop k := (List.take_append_drop k _).symm
    rw [List.take_take, Nat.min_eq_left (by omega), List.drop_eq_getElem_cons klt] at e3
    rw [List.getElem_take] at e3
    exact e3
  have f1 : (T.take k).filter (fun u => sha u == sha T[i]) = [] := List.filter_eq_nil_iff.2 fun u hu e => by
    obtain ⟨a, h1, h2⟩ := mem_take_at hu
    exact h0 a u h1 h2 (by simpa using e)
  have f2 : ((T.take i).drop (k + 1)).filter (fun u => sha u == sha T[i]) = [] := List.filter_eq_nil_iff.2 fun u hu e => by
    obtain ⟨a, ha⟩ := List.mem_iff_getElem?.1 hu
    have hl := (List.getElem?_eq_some_iff.1 ha).1
    rw [List.length_drop, List.length_take] at hl
    rw [List.getElem?_drop, List.getElem?_take_of_lt (by omega)] at ha
    have e' : sha u = sha T[i] := by simpa using e
    exact hN k (k + 1 + a) T[k] u (by omega) (by omega) hk ha (by rw [hs, e'])
  have f3 : ofSum sha T (sha T[i]) = T[k] :: T[i] :: (T.drop (i + 1)).filter (fun u => sha u == sha T[i]) := by
    unfold ofSum
    generalize hc : sha T[i] = c at *
    conv => lhs; rw [e1, e2]
    rw [List.filter_append, List.filter_append, f1, List.filter_cons, if_pos (by simp [hs]), f2, List.filter_cons, if_pos (by simp [hc])]
    rfl
  refine ⟨?_, by rw [f3]; rfl, by rw [f3]; rfl⟩
  have c1 : clk sha (T.take i ++ [T[i]]) = some (sha T[i]) := by
    rw [clk_snoc, clk_take hN]
    simp only
    rw [if_pos]
    exact List.any_eq_true.2 ⟨T[k], by rw [e2]; simp, by simp [hs]⟩
  have := clk_app (T.drop (i + 1)) _ c1
  rw [show T.take i ++ [T[i]] ++ T.drop (i + 1) = T from by rw [List.append_assoc]; exact e1.symm] at this
  exact this
/-- What Clash tells. -/
def ClP (T : List (List Int)) (e : Ending) : Prop :=
  (clk sha T = none ∧ e = .returned (.tuple #[.int .i64 0, .int .i64 0, .bool false])) ∨
    ∃ (k i : Nat) (c s t : List Int), e = .returned (.tuple #[.int .i64 (k : Int), .int .i64 (i : Int), .bool true]) ∧ clk sha T = some c ∧ (ofSum sha T c)[0]? = some s ∧ (ofSum sha T c)[1]? = some t ∧ T[k]? = some s ∧ T[i]? = some t
/-- The sums of the first texts, as strings. -/
def strs (T : List (List Int)) (i : Nat) : List Value := (T.take i).map fun t => .string (strOfNums (sha t))
theorem strs_len {T : List (List Int)} {i : Nat} (hi : i ≤ T.length) : (strs T i).length = i := by unfold strs; rw [List.length_map, List.length_take]; omega
theorem strs_at {T : List (List Int)} {i k : Nat} (hk : k < i) (hi : i ≤ T.length) : (strs T i)[k]? = some (.string (strOfNums (sha (T[k]'(by omega))))) := by
  unfold strs
  rw [List.getElem?_map, List.getElem?_take_of_lt hk, List.getElem?_eq_getElem (by omega)]
  rfl
theorem strs_succ {T : List (List Int)} {i : Nat} (hi : i < T.length) : strs T (i + 1) = strs T i ++ [.string (strOfNums (sha T[i]))] := by
  unfold strs
  rw [List.take_succ_eq_append_getElem hi, List.map_append]
  rfl
theorem info9 : (Tryd.prog.info? 9).map (fun i => (i.zero, i.size, i.bytes)) = some (some (.string ByteArray.empty), 1, 16) := by kernel_rfl
/-- One string more. -/
theorem str_app {W : World} {base i : Nat} {v : Value} {xs : List Value} {s : _} (h : W.ownsRow base 9 1 v i xs) (hi : i ≤ 1000000) (hbase : base ≤ W.heap.size) :
    ∃ v' W7, (Builtin.append_ #[48, 48] 48 #[v, .slice (some ⟨W.heap.size, 0, none⟩) 1 1]).run Tryd.prog (W.alloc (.cells #[.string s] 9)) = .ok v' W7 ∧ W7.ownsRow base 9 1 v' (i + 1) (xs ++ [.string s]) ∧ (∃ x c, v' = .slice x (i + 1) c) ∧ Below base W W7 := by
  obtain ⟨Wb, hWb⟩ : ∃ Wb, Wb = W.alloc (.cells #[.string s] 9) := ⟨_, rfl⟩
  have hq : Wb.heap[W.heap.size]? = some (.cells #[.string s] 9 (0, 0)) := by rw [hWb]; exact heap_alloc_new W _
  have bb : Below W.heap.size W Wb := by rw [hWb]; exact (Below.refl _ _).alloc (Nat.le_refl _) _
  rw [← hWb]
  have rW : Wb.ownsRow base 9 1 v i xs := ownsRow_same h (fun j e => bb.block j (by
    obtain ⟨_, ⟨rfl, _⟩ | ⟨g, cap, cur, rfl, _, hg, _⟩⟩ := h
    · simp [Value.ownBlock] at e
    · simp only [Value.ownBlock, Option.some.injEq] at e
      subst e
      exact blk_lt hg))
  obtain ⟨inf, hi', hz0, hz1, hz2⟩ := info_parts info9
  have cq : Wb.cell? ⟨W.heap.size, 0, none⟩ = some (.string s) := (cell_of_row _ _ 0 _ _ _ hq).trans rfl
  obtain ⟨v', W7, hr, hown, hg, hnil⟩ := run_append_own (P := Tryd.prog) Wb base 48 48 9 inf _ 1 16 Tryd.underlying48 hi' hz0 hz1 hz2 rfl (by decide) v i xs rW ⟨W.heap.size, 0, none⟩ 1 1 [.string s] rfl (fun j u hj => by
    match j, hj with
    | 0, hj =>
      simp at hj
      subst hj
      rw [addr_add]
      exact cq) (by simp [Value.oneCell']) (by unfold maxLen; omega) (by omega) (Nat.le_trans hbase bb.size)
  refine ⟨v', W7, hr, hown, ?_, (bb.mono hbase).trans ((Below.refl _ _).grown hg (Nat.le_trans hbase bb.size) (fun k e => (rW.lt k e).1))⟩
  obtain ⟨_, ⟨rfl, e2⟩ | ⟨g, cap, cur, rfl, _⟩⟩ := hown
  · omega
  · exact ⟨_, _, rfl⟩
theorem wpList_appT (T : TypeId) {ops : Array Oper} {rest : List Oper} {o : Oper} {a : Act} {w : World} {Q : Exit → Act → World → Prop} (hgd : o.guard = none) (s x : Operand)
    (ho : o.op = .call { callee := .builtin .append, args := #[s, x], argTypes := #[T, T] }) (hty : o.type = T) {v u v' : Value} {w' : World} (hs : a.eval s = v) (hx : a.eval x = u)
    (hr : (Builtin.append_ #[T, T] T #[v, u]).run Tryd.prog w = .ok v' w') (h : wpList Tryd.prog ops Q rest (a.put o.dst v') w') : wpList Tryd.prog ops Q (o :: rest) a w := by
  refine wpList_plain hgd fun K hK => ?_
  unfold Oper.wp execOp
  simp only [ho, hty, resolve, invoke, builtin, Sem.run_bind, Sem.run_pure, Result.andThen_ok, List.map_toArray, List.map_cons, List.map_nil, hs, hx, hr]
  exact hK _ _ h
set_option maxRecDepth 100000 in
set_option maxHeartbeats 4000000 in
theorem clashD (U : Nat → Prop) (h : Nat) (T : List (List Int)) (w : World) (d : DL U w h T) (hT : T.length ≤ 1000000) :
    Calls Tryd.prog 15 #[.pointer (some ⟨h, 0, none⟩)] w fun e w' => ClP T e ∧ Below w.heap.size w w' := by
  obtain ⟨x, c, c0, hl, hrow⟩ := d.read
  have C0 := Lib.hid c0
  have HL := Lib.hid hl
  have HROW := Lib.hid hrow
  have BY := Lib.hid d.byt
  obtain ⟨n, hn⟩ : ∃ n, n = T.length := ⟨_, rfl⟩
  rw [← hn] at C0 hT
  have HN := Lib.hid hn
  have HNI := Lib.hid hT
  have hni : (n : Int) ≤ 1000000 := by omega
  clear d c0 hl hrow hn hT
  go_enter Tryd.func15, Tryd.ntmps15
  go_wp2_with fail
  go_loopw [5, 6] (fun v5 vi wr => ∃ (i : Nat) (x5 : Option Addr) (c5 : Nat), i ≤ n ∧ vi = .int .i64 (i : Int) ∧ v5 = .slice x5 i c5 ∧ wr.ownsRow w.heap.size 9 1 (.slice x5 i c5) i (strs T i) ∧ NoC T i ∧ Below w.heap.size w wr) (fun _ vi _ => n - (intOf vi).toNat)
  case atStart => exact ⟨0, none, 0, by omega, rfl, rfl, World.ownsRow_nil _ _ 9 1, fun a b s t h1 h2 => by omega, Below.refl _ _⟩
  case round =>
    obtain ⟨i, x5, c5, hi, rfl, rfl, hrw, hno, hbw⟩ := hrel
    have HRW := Lib.hid hrw
    have HNO := Lib.hid hno
    have HBW := Lib.hid hbw
    clear hrw hno hbw
    have c0 := (HBW.out.cell (p := ⟨h, 0, none⟩) HL.out).trans C0.out
    by_cases hlt : i < n
    · have hii : (i : Int) < (n : Int) := by omega
      have hir : i < T.length := by have := HN.out; omega
      obtain ⟨gb, u, rfl, hgl, hcu, hsu⟩ := HROW.out i T[i] (List.getElem?_eq_getElem hir)
      have cu := (HBW.out.cell (p := ⟨gb, i, none⟩) hgl).trans hcu
      have TG : Hid (T[i]? = some T[i]) := List.getElem?_eq_getElem hir
      have TB := Lib.hid (BY.out T[i] (List.getElem_mem hir))
      have SS := Lib.hid (strs_succ hir)
      obtain ⟨t, ht⟩ : ∃ t, t = T[i] := ⟨_, rfl⟩
      rw [← ht] at hsu TG TB SS
      have SD := Lib.hid (sumD u t (by have := TB.out.2; omega) _ (hsu.below HBW.out))
      clear hgl hcu hsu ht
      go_wp2_with fail
      refine SD.out.mono ?_
      rintro e w2 ⟨xr, cr, rfl, ho, hb2⟩
      have st := ho.sees.str
      have B2 := Lib.hid (HBW.out.trans (hb2.mono HBW.out.size))
      have R2 := Lib.hid (ownsRow_same HRW.out (fun j e => hb2.block j (HRW.out.lt j e).2))
      clear ho hb2 SD cu c0
      go_wp2_with fail
      clear st
      go_loopw [8] (fun vk wr => ∃ k : Nat, k ≤ i ∧ vk = .int .i64 (k : Int) ∧ (∀ (a : Nat) (s : List Int), a < k → T[a]? = some s → sha s ≠ sha t) ∧ wr = w2) (fun vk _ => i - (intOf vk).toNat)
      case atStart => exact ⟨0, by omega, rfl, fun a s h1 => by omega, by first | exact rfl | trivial⟩
      case round =>
        obtain ⟨k, hk, rfl, hall, rfl⟩ := hrel
        have HALL := Lib.hid hall
        clear hall
        by_cases hkl : k < i
        · have hkk : (k : Int) < (i : Int) := by omega
          have hkr : k < T.length := by omega
          have SA := strs_at hkl (Nat.le_of_lt hir)
          have TK : Hid (T[k]? = some T[k]) := List.getElem?_eq_getElem hkr
          have TKB := Lib.hid (BY.out T[k] (List.getElem_mem hkr))
          obtain ⟨s, hs⟩ : ∃ s, s = T[k] := ⟨_, rfl⟩
          rw [← hs] at SA TK TKB
          have CELL : ∃ g, x5 = some ⟨g, 0, none⟩ ∧ wr.cell? ⟨g, k, none⟩ = some (.string (strOfNums (sha s))) := by
            obtain ⟨_, ⟨e3, e4⟩ | ⟨g, cap, cur, e3, _, hg, hn', hm, hsz, ht'⟩⟩ := R2.out
            · omega
            · simp only [Value.slice.injEq] at e3
              refine ⟨g, e3.1, ?_⟩
              rw [cell_of_row _ _ _ _ _ _ hg]
              rw [← ht', List.getElem?_take_of_lt (by omega)] at SA
              simpa using SA
          obtain ⟨g, rfl, cg0⟩ := CELL
          have SQ0 := Lib.hid (str_eq (sha_byt s) (sha_byt t))
          clear hs SA
          by_cases e : sha s = sha t
          · have sq : ((strOfNums (sha s)).toList == (strOfNums (sha t)).toList) = true := by rw [SQ0.out]; exact decide_eq_true e
            have E := Lib.hid e
            clear e SQ0
            go_wp2_with fail
            go_ret3
            exact ⟨.inr ⟨k, i, _, s, t, rfl, (place HNO.out TG.out TK.out hkl E.out HALL.out).1, (place HNO.out TG.out TK.out hkl E.out HALL.out).2.1, (place HNO.out TG.out TK.out hkl E.out HALL.out).2.2, TK.out, TG.out⟩, B2.out⟩
          · have sq : ((strOfNums (sha s)).toList == (strOfNums (sha t)).toList) = false := by rw [SQ0.out]; exact decide_eq_false e
            have NX : Hid (∀ (a : Nat) (s' : List Int), a < k + 1 → T[a]? = some s' → sha s' ≠ sha t) := fun a s' h1 h2 => by
              by_cases ha : a < k
              · exact HALL.out a s' ha h2
              · have ha' : a = k := by omega
                rw [ha', TK.out] at h2
                simp only [Option.some.injEq] at h2
                rw [← h2]
                exact e
            clear e SQ0
            go_wp2_with fail
            go_roundw
            case rel => exact ⟨k + 1, by omega, by go_num, NX.out, by first | exact rfl | trivial⟩
            case measure => simp [intOf]; omega
        · have hki : k = i := by omega
          subst hki
          have hge : ¬ (k : Int) < (k : Int) := by omega
          have NO1 : Hid (NoC T (k + 1)) := fun a b s1 t1 h1 h2 h3 h4 => by
            by_cases hb : b < k
            · exact HNO.out a b s1 t1 h1 hb h3 h4
            · have hb' : b = k := by omega
              rw [hb', TG.out] at h4
              simp only [Option.some.injEq] at h4
              rw [← h4]
              exact HALL.out a s1 (by omega) h3
          obtain ⟨_, W7, hr, how, ⟨x7, c7, rfl⟩, hb7⟩ := str_app (s := strOfNums (sha t)) R2.out (by have := HNI.out; omega) B2.out.size
          rw [← SS.out] at how
          have HR := Lib.hid hr
          have HO := Lib.hid how
          have HB7 := Lib.hid (B2.out.trans hb7)
          clear hr how hb7
          go_wp2_with (at_builtin; refine wpList_appT 48 rfl _ _ rfl rfl rfl rfl HR.out ?_)
          go_roundw
          case rel => exact ⟨k + 1, x7, c7, by omega, by go_num, rfl, HO.out, NO1.out, HB7.out⟩
          case measure => simp [intOf]; omega
    · have hge : ¬ (i : Int) < (n : Int) := by omega
      have hin : i = n := by omega
      have CN : Hid (clk sha T = none) := by
        have := clk_take HNO.out
        rw [hin, HN.out, List.take_length] at this
        exact this
      clear hin
      go_wp2_with fail
      go_ret3
      exact ⟨.inl ⟨CN.out, rfl⟩, HBW.out⟩
end Go.Proofs.YtboaceabimlodaaDoor
