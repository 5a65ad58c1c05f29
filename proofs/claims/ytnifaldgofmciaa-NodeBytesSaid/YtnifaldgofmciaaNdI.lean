/-
  Contract of node.Write: leaves. Condition: the value reads as a node.
-/
import Derived.Test.YtnifaldgofmciaaNdH
namespace Go.Proofs.Ytnifaldgofmciaa
open Go.RowKit
open oc (Byt Sees Own be nth)
def wrE (n : NV) : Int := if rightB n.leaf n.ks n.vs.length n.qs.length = true then 0 else 3
def wrV (n : NV) : List Int := if rightB n.leaf n.ks n.vs.length n.qs.length = true then nB n else []
def WriteP (w : World) (n : NV) (e : Ending) (w' : World) : Prop := ∃ v, e = .returned (.tuple #[v, .int .i64 (wrE n)]) ∧ Sees w' v (wrV n) ∧ Below w.heap.size w w'
/-- The same for a number of noughts, in a plain region. -/
theorem wpList_appZ {ops : Array Oper} {rest : List Oper} {o : Oper} {a : Act} {w : World} {Q : Exit → Act → World → Prop} (hgd : o.guard = none) (s x : Operand)
    (ho : o.op = .call { callee := .builtin .append, args := #[s, x], argTypes := #[27, 3] }) (hty : o.type = 27) {v u v' : Value} {w' : World} (hs : a.eval s = v) (hx : a.eval x = u)
    (hr : (Builtin.append_ #[27, 3] 27 #[v, u]).run Try.prog w = .ok v' w') (h : wpList Try.prog ops Q rest (a.put o.dst v') w') : wpList Try.prog ops Q (o :: rest) a w := by
  refine wpList_plain hgd fun K hK => ?_
  unfold Oper.wp execOp
  simp only [ho, hty, resolve, invoke, builtin, Sem.run_bind, Sem.run_pure, Result.andThen_ok, List.map_toArray, List.map_cons, List.map_nil, hs, hx, hr]
  exact hK _ _ h
theorem writeP_no {n : NV} {w w' : World} (h : rightB n.leaf n.ks n.vs.length n.qs.length = false) (hb : Below w.heap.size w w') : WriteP w n (.returned (.tuple #[.slice none 0 0, .int .i64 3])) w' := by
  unfold WriteP wrE wrV
  rw [h]
  exact ⟨_, rfl, oc.sees_nil _, hb⟩
theorem nB_len {n : NV} (h : (bdB n n.ks.length).length ≤ 512) : (nB n).length = 512 := by
  unfold nB
  simp
  omega
theorem writeP_yes {n : NV} {w w2 w' : World} {e : Ending} (h : rightB n.leaf n.ks n.vs.length n.qs.length = true) (hl : (bdB n n.ks.length).length ≤ 512) (hb : Below w.heap.size w w2) (hp : oc.PadP w2 (bdB n n.ks.length) 512 e w') : WriteP w n e w' := by
  obtain ⟨v, rfl, hs, hb2⟩ := hp
  have e1 : oc.padE (bdB n n.ks.length).length 512 = 0 := by
    unfold oc.padE
    rw [if_neg (by omega), if_neg (by omega)]
  have e2 : oc.padV (bdB n n.ks.length) 512 = nB n := by
    unfold oc.padV
    rw [e1]
    rfl
  rw [e2] at hs
  unfold WriteP wrE wrV
  rw [if_pos h, if_pos h, e1]
  exact ⟨v, rfl, hs, hb.trans (hb2.mono hb.size)⟩
theorem right_leaf {ks : List Int} {a b : Nat} (h : rightB true ks a b = true) : 1 ≤ ks.length ∧ ks.length ≤ 9 ∧ a = ks.length ∧ b = 0 := by
  unfold rightB at h
  simp only [if_true, Bool.and_eq_true, decide_eq_true_eq] at h
  omega
theorem right_inner {ks : List Int} {a b : Nat} (h : rightB false ks a b = true) : 2 ≤ ks.length ∧ ks.length ≤ 11 ∧ b = ks.length ∧ a = 0 := by
  unfold rightB at h
  simp only [Bool.false_eq_true, if_false, Bool.and_eq_true, decide_eq_true_eq] at h
  omega
set_option maxRecDepth 100000 in
set_option maxHeartbeats 8000000 in
theorem write_no (v : Value) (n : NV) (w : World) (hv : ND w v n) (hr : rightB n.leaf n.ks n.vs.length n.qs.length = false) : Calls Try.prog 10 #[v] w (WriteP w n) := by
  obtain ⟨K, V, Q, rfl, hK, hV, hQ, hz, hq⟩ := hv
  obtain ⟨xk, ck, rfl⟩ := hK.len
  obtain ⟨xv, cv, rfl⟩ := hV.len
  obtain ⟨xq, cq, rfl⟩ := hQ.len
  have OKP : Hid n.okP := ⟨hK.1, hz, hq⟩
  obtain ⟨w1, hw1⟩ : ∃ w1, w1 = w.alloc (.cells #[.bool n.leaf, .slice xk n.ks.length ck, .slice xv n.vs.length cv, .slice xq n.qs.length cq] 26) := ⟨_, rfl⟩
  have b1 : Below w.heap.size w w1 := by rw [hw1]; exact (Below.refl _ _).alloc (Nat.le_refl _) _
  have e1 : w1.heap[w.heap.size]? = some (.cells #[.bool n.leaf, .slice xk n.ks.length ck, .slice xv n.vs.length cv, .slice xq n.qs.length cq] 26 (0, 0)) := by rw [hw1]; exact heap_alloc_new w _
  have LG1 : Hid (w.heap.size < w1.heap.size) := (Array.getElem?_eq_some_iff.1 e1).1
  have c0 := (cell_row e1 0).trans (show (#[Value.bool n.leaf, .slice xk n.ks.length ck, .slice xv n.vs.length cv, .slice xq n.qs.length cq] : Array Value)[0]? = some (.bool n.leaf) from rfl)
  have c1 := (cell_row e1 1).trans (show (#[Value.bool n.leaf, .slice xk n.ks.length ck, .slice xv n.vs.length cv, .slice xq n.qs.length cq] : Array Value)[1]? = some (.slice xk n.ks.length ck) from rfl)
  have c2 := (cell_row e1 2).trans (show (#[Value.bool n.leaf, .slice xk n.ks.length ck, .slice xv n.vs.length cv, .slice xq n.qs.length cq] : Array Value)[2]? = some (.slice xv n.vs.length cv) from rfl)
  have c3 := (cell_row e1 3).trans (show (#[Value.bool n.leaf, .slice xk n.ks.length ck, .slice xv n.vs.length cv, .slice xq n.qs.length cq] : Array Value)[3]? = some (.slice xq n.qs.length cq) from rfl)
  have B1 := Lib.hid b1
  have HW1 := Lib.hid hw1
  have RC : Hid (Calls Try.prog 12 #[.agg #[.bool n.leaf, .slice xk n.ks.length ck, .slice xv n.vs.length cv, .slice xq n.qs.length cq]] w1 fun e w' => e = .returned (.bool (rightB n.leaf n.ks n.vs.length n.qs.length)) ∧ Below w1.heap.size w1 w') := right n.leaf _ n.ks xv xq _ cv _ cq w1 (hK.below b1)
  have NO : Hid (∀ W, Below w1.heap.size w1 W → WriteP w n (.returned (.tuple #[.slice none 0 0, .int .i64 3])) W) := fun W hb => writeP_no hr (b1.trans (hb.mono b1.size))
  rw [hr] at RC
  clear OKP hK hV hQ hz hq hw1 b1 e1 c0 c1 c2 c3 hr
  generalize n.ks.length = a at *
  generalize n.vs.length = b at *
  generalize n.qs.length = c at *
  generalize n.leaf = lf at *
  go_enter Try.func10, Try.ntmps10
  go_wp2_with fail
  rw [← HW1.out]
  refine RC.out.mono ?_
  rintro e w2 ⟨rfl, hb⟩
  have HB := Lib.hid hb
  clear hb
  go_wp2_with fail
  go_ret2
  exact NO.out _ HB.out
set_option maxRecDepth 100000 in
set_option maxHeartbeats 8000000 in
theorem write_leaf (v : Value) (n : NV) (w : World) (hv : ND w v n) (hl : n.leaf = true) (hr : rightB n.leaf n.ks n.vs.length n.qs.length = true) : Calls Try.prog 10 #[v] w (WriteP w n) := by
  obtain ⟨K, V, Q, rfl, hK, hV, hQ, hz, hq⟩ := hv
  obtain ⟨xk, ck, rfl⟩ := hK.len
  obtain ⟨xv, cv, rfl⟩ := hV.len
  obtain ⟨xq, cq, rfl⟩ := hQ.len
  have OKP : Hid n.okP := ⟨hK.1, hz, hq⟩
  obtain ⟨w1, hw1⟩ : ∃ w1, w1 = w.alloc (.cells #[.bool n.leaf, .slice xk n.ks.length ck, .slice xv n.vs.length cv, .slice xq n.qs.length cq] 26) := ⟨_, rfl⟩
  have b1 : Below w.heap.size w w1 := by rw [hw1]; exact (Below.refl _ _).alloc (Nat.le_refl _) _
  have e1 : w1.heap[w.heap.size]? = some (.cells #[.bool n.leaf, .slice xk n.ks.length ck, .slice xv n.vs.length cv, .slice xq n.qs.length cq] 26 (0, 0)) := by rw [hw1]; exact heap_alloc_new w _
  have LG1 : Hid (w.heap.size < w1.heap.size) := (Array.getElem?_eq_some_iff.1 e1).1
  have c0 := (cell_row e1 0).trans (show (#[Value.bool n.leaf, .slice xk n.ks.length ck, .slice xv n.vs.length cv, .slice xq n.qs.length cq] : Array Value)[0]? = some (.bool n.leaf) from rfl)
  have c1 := (cell_row e1 1).trans (show (#[Value.bool n.leaf, .slice xk n.ks.length ck, .slice xv n.vs.length cv, .slice xq n.qs.length cq] : Array Value)[1]? = some (.slice xk n.ks.length ck) from rfl)
  have c2 := (cell_row e1 2).trans (show (#[Value.bool n.leaf, .slice xk n.ks.length ck, .slice xv n.vs.length cv, .slice xq n.qs.length cq] : Array Value)[2]? = some (.slice xv n.vs.length cv) from rfl)
  have c3 := (cell_row e1 3).trans (show (#[Value.bool n.leaf, .slice xk n.ks.length ck, .slice xv n.vs.length cv, .slice xq n.qs.length cq] : Array Value)[3]? = some (.slice xq n.qs.length cq) from rfl)
  have B1 := Lib.hid b1
  have HW1 := Lib.hid hw1
  have RC : Hid (Calls Try.prog 12 #[.agg #[.bool n.leaf, .slice xk n.ks.length ck, .slice xv n.vs.length cv, .slice xq n.qs.length cq]] w1 fun e w' => e = .returned (.bool (rightB n.leaf n.ks n.vs.length n.qs.length)) ∧ Below w1.heap.size w1 w') := right n.leaf _ n.ks xv xq _ cv _ cq w1 (hK.below b1)
  have RT : 1 ≤ n.ks.length ∧ n.ks.length ≤ 9 ∧ n.vs.length = n.ks.length ∧ n.qs.length = 0 := by
    rw [hl] at hr
    exact right_leaf hr
  have ST : stp n = 52 := by unfold stp; rw [if_pos hl]
  have BL : Hid (∀ i, i ≤ n.ks.length → (bdB n i).length = 8 + i * 52) := fun i hi => by rw [← ST]; exact bdB_len OKP.out i (fun _ => by omega) (fun e => by rw [hl] at e; cases e)
  have YES : Hid (∀ W e W', Below w1.heap.size w1 W → oc.PadP W (bdB n n.ks.length) 512 e W' → WriteP w n e W') := fun W e W' hb hp => writeP_yes hr (by rw [BL.out _ (Nat.le_refl _)]; omega) (b1.trans (hb.mono b1.size)) hp
  have NX : Hid (∀ i, bdB n i ++ be 8 (n.ks.getD i 0) ++ n.vs.getD i [] = bdB n (i + 1)) := fun i => by rw [bdB_succ]; unfold itB; rw [if_pos hl, List.append_assoc]
  have Z0 : Hid ([1, (n.ks.length : Int)] ++ List.replicate 6 0 = bdB n 0) := by show _ = _; rw [bdB_zero]; unfold frB; rw [if_pos hl]
  have KC : Hid (∀ i, i < n.ks.length → ∃ b o, xk = some ⟨b, o, none⟩ ∧ b < w1.heap.size ∧ w1.cell? ⟨b, o + i, none⟩ = some (.int .u64 (n.ks.getD i 0)) ∧ 0 ≤ n.ks.getD i 0 ∧ n.ks.getD i 0 ≤ 18446744073709551615) := fun i hi => by
    obtain ⟨h1, _, x, c, hx, h4⟩ := hK.below b1
    obtain ⟨b, o, e1, e2, e3⟩ := h4 i hi
    cases hx
    exact ⟨b, o, e1, e2, e3, h1 _ (getD_mem hi)⟩
  have VC : Hid (∀ i, i < n.ks.length → ∃ b o, xv = some ⟨b, o, none⟩ ∧ b < w1.heap.size ∧ w1.rangeAt b (o + i * 44) ((n.vs.getD i []).map (Value.int .u8)) ∧ (∀ x ∈ n.vs.getD i [], 0 ≤ x ∧ x ≤ 255) ∧ (n.vs.getD i []).length = 44) := fun i hi => by
    obtain ⟨_, _, x, c, hx, h4⟩ := hV.below b1
    have hi' : i < n.vs.length := by omega
    obtain ⟨b, o, e1, e2, e3⟩ := h4 i _ (getD_at [] hi')
    cases hx
    exact ⟨b, o, e1, e2, e3, hz _ (getD_mem hi')⟩
  rw [hr] at RC
  rw [hl] at RC HW1 c0
  rw [RT.2.2.1] at RC HW1 c2
  rw [hl, RT.2.2.1]
  have h9 := RT.2.1
  have h1 := RT.1
  clear OKP hK hV hQ hz hq hw1 b1 e1 ST RT hr hl
  have C0 := Lib.hid c0
  have C1 := Lib.hid c1
  have C2 := Lib.hid c2
  clear c0 c1 c2 c3
  generalize n.qs.length = c at *
  obtain ⟨N, hN⟩ : ∃ N, N = n.ks.length := ⟨_, rfl⟩
  rw [← hN] at RC HW1 C1 C2 BL YES Z0 KC VC h9 h1
  rw [← hN]
  clear hN
  generalize bdB n = B at *
  have e8 : IntKind.u8.wrap (N : Int) = N := oc.u8nat N (by omega)
  go_enter Try.func10, Try.ntmps10
  go_wp2_with fail
  rw [← HW1.out]
  refine RC.out.mono ?_
  rintro e w2 ⟨rfl, hb⟩
  have HB := Lib.hid hb
  clear hb
  have c0 := (HB.out.cell (p := ⟨w.heap.size, 0, none⟩) LG1.out).trans C0.out
  have c1 := (HB.out.cell (p := ⟨w.heap.size, 1, none⟩) LG1.out).trans C1.out
  obtain ⟨q0, cq0, w3, hr0, ho0, hb0⟩ := appZ w2.heap.size w1.heap.size (w2.alloc (.cells #[.int .u8 1, .int .u8 N] 5)) 1 N (by omega) (by omega) (by have := HB.out.size; simp; omega) (heap_alloc_new w2 _)
  rw [Z0.out] at ho0
  have HR0 := Lib.hid hr0
  have HO0 := Lib.hid ho0
  have HB0 : Hid (Below w1.heap.size w1 w3) := (HB.out.alloc HB.out.size _).trans hb0
  clear hr0 ho0 hb0
  have d1 := (HB0.out.cell (p := ⟨w.heap.size, 1, none⟩) LG1.out).trans C1.out
  go_wp2_with (at_builtin; refine wpList_appZ rfl _ _ rfl rfl rfl rfl HR0.out ?_)
  clear c0 c1 d1 HR0
  go_loopw [5, 23] (fun v vi wr => ∃ (i : Nat) (q : Option Addr) (cq : Nat), i ≤ N ∧ vi = .int .i64 i ∧ v = .slice q (8 + i * 52) cq ∧ Own wr w1.heap.size (.slice q (8 + i * 52) cq) (B i) ∧ Below w1.heap.size w1 wr) (fun _ vi _ => N - (intOf vi).toNat)
  case atStart => exact ⟨0, q0, cq0, by omega, rfl, rfl, HO0.out, HB0.out⟩
  case round =>
    obtain ⟨i, q, cq, hi, rfl, rfl, ho, hb⟩ := hrel
    have HB := Lib.hid hb
    have HO := Lib.hid ho
    clear hb ho
    by_cases hlt : i < N
    · have hi16 : (i : Int) < (N : Int) := by omega
      obtain ⟨b, o, rfl, hlb, hk, hk0, hk1⟩ := KC.out i hlt
      obtain ⟨b', o', rfl, hlb', hz, hzb, hzl⟩ := VC.out i hlt
      have HX := Lib.hid (NX.out i)
      have L0 := Lib.hid (BL.out i hi)
      have L1 := Lib.hid (BL.out (i + 1) hlt)
      generalize n.ks.getD i 0 = key at *
      generalize n.vs.getD i [] = zs at *
      have PK : Hid (∀ W, Calls Try.prog 26 #[.int .u64 key] W (oc.NewP W 8 (be 8 key))) := fun W => oc.putb64 key hk0 hk1 W
      have HZ := Lib.hid hz
      have HLB' := Lib.hid hlb'
      have HZB := Lib.hid hzb
      have HZL := Lib.hid hzl
      have k1 := (HB.out.cell (p := ⟨b, o + i, none⟩) hlb).trans hk
      have i9 : (i : Int) ≤ 9 := by omega
      clear hz hzb hzl hlb' hk hk0 hk1
      go_wp2_with fail
      refine (PK.out _).mono ?_
      rintro e w4 ⟨g, rfl, hs, hb, hg⟩
      obtain ⟨q1, cq1, w5, hr1, ho1, hb1⟩ := oc.app (HO.out.below hb) hs (by rw [L0.out, oc.be_len]; omega) (Nat.le_trans HB.out.size hb.size)
      rw [L0.out, oc.be_len] at hr1 ho1
      have HR1 := Lib.hid hr1
      have HB5 : Hid (Below w1.heap.size w1 w5) := (HB.out.trans (hb.mono HB.out.size)).trans hb1.2
      have SZ : Hid (Sees w5 (.slice (some ⟨b', o' + i * 44, none⟩) 44 44) zs) := sees_range HZB.out (fun e => by have := HZL.out; rw [e] at this; simp at this) (by rw [HZL.out]; decide) (range_below HZ.out HLB'.out HB5.out) 44 HZL.out.symm
      obtain ⟨q2, cq2, w6, hr2, ho2, hb2⟩ := oc.app ho1 SZ.out (by rw [List.length_append, L0.out, oc.be_len, HZL.out]; omega) HB5.out.size
      rw [List.length_append, L0.out, oc.be_len, HZL.out] at hr2 ho2
      rw [HX.out, show 8 + i * 52 + 8 + 44 = 8 + (i + 1) * 52 by omega] at ho2
      rw [show 8 + i * 52 + 8 + 44 = 8 + (i + 1) * 52 by omega] at hr2
      have HR2 := Lib.hid hr2
      have HO6 := Lib.hid ho2
      have HB6 := Lib.hid (HB5.out.trans hb2.2)
      have c0 := (HB5.out.cell (p := ⟨w.heap.size, 0, none⟩) LG1.out).trans C0.out
      have c2 := (HB5.out.cell (p := ⟨w.heap.size, 2, none⟩) LG1.out).trans C2.out
      clear hs hb hg hr1 ho1 hb1 hr2 ho2 hb2 k1 SZ HX PK HO
      go_wp2_with (at_builtin; first | refine oc.wpList_app rfl _ _ rfl rfl rfl rfl HR1.out ?_ | refine oc.wpList_app rfl _ _ rfl rfl rfl rfl HR2.out ?_)
      go_roundw
      case rel => exact ⟨i + 1, q2, cq2, by omega, by go_num, rfl, HO6.out, HB6.out⟩
      case measure => simp [intOf]; omega
    · obtain rfl : i = N := by omega
      have PD : Hid (Calls Try.prog 28 #[.slice q (8 + i * 52) cq, .int .i64 512] wr (WriteP w n)) := (oc.pad _ (B i) 512 (by omega) wr HO.out.sees).mono fun e w' hp => YES.out wr e w' HB.out hp
      go_wp2_with fail
      refine PD.out.mono ?_
      rintro e w7 ⟨v, rfl, hs, hb⟩
      have HP : Hid (WriteP w n (.returned (.tuple #[v, .int .i64 (wrE n)])) w7) := ⟨v, rfl, hs, hb⟩
      clear hs hb PD
      generalize wrE n = er at *
      go_wp2_with fail
      go_ret2
      exact HP.out
end Go.Proofs.Ytnifaldgofmciaa
