/-
  Contract of node.Write: nodes that are no leaves; any node. Condition: the value reads as a node, its kids' sectors are numbers of 32 digits.
-/
import Derived.Test.YtnifaldgofmciaaNdI
namespace Go.Proofs.Ytnifaldgofmciaa
open Go.RowKit
open oc (Byt Sees Own be nth)
set_option maxRecDepth 100000 in
set_option maxHeartbeats 8000000 in
theorem write_inner (v : Value) (n : NV) (w : World) (hv : ND w v n) (hf : ∀ p ∈ n.qs, 0 ≤ p.1 ∧ p.1 ≤ 4294967295) (hl : n.leaf = false) (hr : rightB n.leaf n.ks n.vs.length n.qs.length = true) : Calls Try.prog 10 #[v] w (WriteP w n) := by
  obtain ⟨K, V, Q, rfl, hK, hV, hQ, hz, hq⟩ := hv
  obtain ⟨xk, ck, rfl⟩ := hK.len
  obtain ⟨xv, cv, rfl⟩ := hV.len
  obtain ⟨xq, cq, rfl⟩ := hQ.len
  have OKP : Hid n.okP := ⟨hK.1, hz, hq⟩
  obtain ⟨w1, hw1⟩ : ∃ w1, w1 = w.alloc (.cells #[.bool n.leaf, .slice xk n.ks.length ck, .slice xv n.vs.length cv, .slice xq n.qs.length cq] 26) := ⟨_, rfl⟩
  have b1 : Below w.heap.size w w1 := by rw [hw1]; exact (Below.refl _ _).alloc (Nat.le_refl _) _
  have e1 : w1.heap[w.heap.size]? = some (.cells #[.bool n.leaf, .slice xk n.ks.length ck, .slice xv n.vs.length cv, .slice xq n.qs.length cq] 26 (0, 0)) := by rw [hw1]; exact heap_alloc_new w _
  have LG1 : Hid (w.heap.size < w1.heap.size) := (Array.getElem?_eq_some_iff.1 e1).1
  have c0 := (cell_row e1 0).trans (show (#[Value.bool n.leaf, .slice xk n.ks.length ck, .slice xv n.vs.length cv, .slice xq n.qs.length cq] : Array Value)[0]? = some (.bool n.leaf) from rfl)
  have c1 := (cell_row e1 1).trans (show (#[Value.bool n.leaf, .slice xk n.ks.length ck, .slice xv n.vs.length cv, .slice xq n.qs.length cq] : Array Value)[1]? = some (.slice xk n.ks.length ck) from rfl)
  have c2 := (cell_row e1 2).trans (show (#[Value.bool n.leaf, .slice xk n.ks.length ck, .slice xv n.vs.length cv, .slice xq n.qs.length cq] : Array Value)[2]? = some (.slice xv n.vs.length cv) from rfl)
  have c3 := (cell_row e1 3).trans (show (#[Value.bool n.leaf, .slice xk n.ks.length ck, .slice xv n.vs.length cv, .slice xq n.qs.length cq] : Array Value)[3]? = some (.slice xq n.qs.length cq) from rfl)
  have B1 := Lib.hid b1
  have HW1 := Lib.hid hw1
  have RC : Hid (Calls Try.prog 12 #[.agg #[.bool n.leaf, .slice xk n.ks.length ck, .slice xv n.vs.length cv, .slice xq n.qs.length cq]] w1 fun e w' => e = .returned (.bool (rightB n.leaf n.ks n.vs.length n.qs.length)) ∧ Below w1.heap.size w1 w') := right n.leaf _ n.ks xv xq _ cv _ cq w1 (hK.below b1)
  have RT : 2 ≤ n.ks.length ∧ n.ks.length ≤ 11 ∧ n.qs.length = n.ks.length ∧ n.vs.length = 0 := by
    rw [hl] at hr
    exact right_inner hr
  have ST : stp n = 44 := by unfold stp; rw [hl]; rfl
  have BL : Hid (∀ i, i ≤ n.ks.length → (bdB n i).length = 8 + i * 44) := fun i hi => by rw [← ST]; exact bdB_len OKP.out i (fun e => by rw [hl] at e; cases e) (fun _ => by omega)
  have YES : Hid (∀ W e W', Below w1.heap.size w1 W → oc.PadP W (bdB n n.ks.length) 512 e W' → WriteP w n e W') := fun W e W' hb hp => writeP_yes hr (by rw [BL.out _ (Nat.le_refl _)]; omega) (b1.trans (hb.mono b1.size)) hp
  have NX : Hid (∀ i, bdB n i ++ be 8 (n.ks.getD i 0) ++ be 4 (n.qs.getD i (0, [])).1 ++ (n.qs.getD i (0, [])).2 = bdB n (i + 1)) := fun i => by rw [bdB_succ]; unfold itB; rw [hl, if_neg (by decide), List.append_assoc, List.append_assoc]
  have Z0 : Hid ([2, (n.ks.length : Int)] ++ List.replicate 6 0 = bdB n 0) := by show _ = _; rw [bdB_zero]; unfold frB; rw [hl, if_neg (by decide)]
  have KC : Hid (∀ i, i < n.ks.length → ∃ b o, xk = some ⟨b, o, none⟩ ∧ b < w1.heap.size ∧ w1.cell? ⟨b, o + i, none⟩ = some (.int .u64 (n.ks.getD i 0)) ∧ 0 ≤ n.ks.getD i 0 ∧ n.ks.getD i 0 ≤ 18446744073709551615) := fun i hi => by
    obtain ⟨h1, _, x, c, hx, h4⟩ := hK.below b1
    obtain ⟨b, o, e1, e2, e3⟩ := h4 i hi
    cases hx
    exact ⟨b, o, e1, e2, e3, h1 _ (getD_mem hi)⟩
  have QC : Hid (∀ i, i < n.ks.length → ∃ b o, xq = some ⟨b, o, none⟩ ∧ b < w1.heap.size ∧ w1.rangeAt b (o + i * 33) (kid (n.qs.getD i (0, []))) ∧ (∀ x ∈ (n.qs.getD i (0, [])).2, 0 ≤ x ∧ x ≤ 255) ∧ (n.qs.getD i (0, [])).2.length = 32 ∧ 0 ≤ (n.qs.getD i (0, [])).1 ∧ (n.qs.getD i (0, [])).1 ≤ 4294967295) := fun i hi => by
    obtain ⟨_, _, x, c, hx, h4⟩ := hQ.below b1
    have hi' : i < n.qs.length := by omega
    obtain ⟨b, o, e1, e2, e3⟩ := h4 i _ (getD_at (0, []) hi')
    cases hx
    exact ⟨b, o, e1, e2, e3, (hq _ (getD_mem hi')).1, (hq _ (getD_mem hi')).2, hf _ (getD_mem hi')⟩
  rw [hr] at RC
  rw [hl] at RC HW1 c0
  rw [RT.2.2.1] at RC HW1 c3
  rw [hl, RT.2.2.1]
  have h9 := RT.2.1
  
  have h1 := RT.1
  clear hf OKP hK hV hQ hz hq hw1 b1 e1 ST RT hr hl
  have C0 := Lib.hid c0
  have C1 := Lib.hid c1
  have C3 := Lib.hid c3
  clear c0 c1 c2 c3
  generalize n.vs.length = c at *
  obtain ⟨N, hN⟩ : ∃ N, N = n.ks.length := ⟨_, rfl⟩
  rw [← hN] at RC HW1 C1 C3 BL YES Z0 KC QC h9 h1
  rw [← hN]
  clear hN
  generalize bdB n = B at *
  have e8 : IntKind.u8.wrap (N : Int) = N := oc.u8nat N (by omega)
  go_enter Try.func10, Try.ntmps10
  go_wp2_with fail
  rw [← HW1.out]
  refine RC.out.mono ?_
  rintro e w2 ⟨rfl, hb⟩
  have HB := Lib.hid hb
  clear hb
  have c0 := (HB.out.cell (p := ⟨w.heap.size, 0, none⟩) LG1.out).trans C0.out
  have c1 := (HB.out.cell (p := ⟨w.heap.size, 1, none⟩) LG1.out).trans C1.out
  obtain ⟨q0, cq0, w3, hr0, ho0, hb0⟩ := appZ w2.heap.size w1.heap.size (w2.alloc (.cells #[.int .u8 2, .int .u8 N] 5)) 2 N (by omega) (by omega) (by have := HB.out.size; simp; omega) (heap_alloc_new w2 _)
  rw [Z0.out] at ho0
  have HR0 := Lib.hid hr0
  have HO0 := Lib.hid ho0
  have HB0 : Hid (Below w1.heap.size w1 w3) := (HB.out.alloc HB.out.size _).trans hb0
  clear hr0 ho0 hb0
  have d1 := (HB0.out.cell (p := ⟨w.heap.size, 1, none⟩) LG1.out).trans C1.out
  go_wp2_with (at_builtin; refine wpList_appZ rfl _ _ rfl rfl rfl rfl HR0.out ?_)
  clear c0 c1 d1 HR0
  go_loopw [5, 23] (fun v vi wr => ∃ (i : Nat) (q : Option Addr) (cq : Nat), i ≤ N ∧ vi = .int .i64 i ∧ v = .slice q (8 + i * 44) cq ∧ Own wr w1.heap.size (.slice q (8 + i * 44) cq) (B i) ∧ Below w1.heap.size w1 wr) (fun _ vi _ => N - (intOf vi).toNat)
  case atStart => exact ⟨0, q0, cq0, by omega, rfl, rfl, HO0.out, HB0.out⟩
  case round =>
    obtain ⟨i, q, cq, hi, rfl, rfl, ho, hb⟩ := hrel
    have HB := Lib.hid hb
    have HO := Lib.hid ho
    clear hb ho
    by_cases hlt : i < N
    · have hi16 : (i : Int) < (N : Int) := by omega
      obtain ⟨b, o, rfl, hlb, hk, hk0, hk1⟩ := KC.out i hlt
      obtain ⟨b', o', rfl, hlb', hz, hzb, hzl, hs0, hs1⟩ := QC.out i hlt
      have HX := Lib.hid (NX.out i)
      have L0 := Lib.hid (BL.out i hi)
      have L1 := Lib.hid (BL.out (i + 1) hlt)
      generalize n.ks.getD i 0 = key at *
      generalize n.qs.getD i (0, []) = p at *
      obtain ⟨s, zs⟩ := p
      simp only at hz hzb hzl hs0 hs1 HX
      have PS : Hid (∀ W, Calls Try.prog 27 #[.int .u32 s] W (oc.NewP W 4 (be 4 s))) := fun W => oc.putb32 s hs0 hs1 W
      have PK : Hid (∀ W, Calls Try.prog 26 #[.int .u64 key] W (oc.NewP W 8 (be 8 key))) := fun W => oc.putb64 key hk0 hk1 W
      have HZ := Lib.hid hz
      have HLB' := Lib.hid hlb'
      have HZB := Lib.hid hzb
      have HZL := Lib.hid hzl
      have k1 := (HB.out.cell (p := ⟨b, o + i, none⟩) hlb).trans hk
      have i9 : (i : Int) ≤ 11 := by omega
      clear hz hzb hzl hlb' hk hk0 hk1 hs0 hs1
      go_wp2_with fail
      refine (PK.out _).mono ?_
      rintro e w4 ⟨g, rfl, hs, hb, hg⟩
      obtain ⟨q1, cq1, w5, hr1, ho1, hb1⟩ := oc.app (HO.out.below hb) hs (by rw [L0.out, oc.be_len]; omega) (Nat.le_trans HB.out.size hb.size)
      rw [L0.out, oc.be_len] at hr1 ho1
      have HR1 := Lib.hid hr1
      have HB5 : Hid (Below w1.heap.size w1 w5) := (HB.out.trans (hb.mono HB.out.size)).trans hb1.2
      have HO5 := Lib.hid ho1
      have c0 := (HB5.out.cell (p := ⟨w.heap.size, 0, none⟩) LG1.out).trans C0.out
      have c3 := (HB5.out.cell (p := ⟨w.heap.size, 3, none⟩) LG1.out).trans C3.out
      have k2 : w5.cell? ⟨b', o' + i * 33, none⟩ = some (.int .u32 s) := range_below HZ.out HLB'.out HB5.out 0 _ rfl
      clear hs hb hg hr1 ho1 hb1 k1 PK HO
      go_wp2_with (at_builtin; refine oc.wpList_app rfl _ _ rfl rfl rfl rfl HR1.out ?_)
      refine (PS.out _).mono ?_
      rintro e w6 ⟨g, rfl, hs, hb, hg⟩
      obtain ⟨q2, cq2, w7, hr2, ho2, hb2⟩ := oc.app (HO5.out.below hb) hs (by rw [List.length_append, L0.out, oc.be_len, oc.be_len]; omega) (Nat.le_trans HB5.out.size hb.size)
      rw [List.length_append, L0.out, oc.be_len, oc.be_len] at hr2 ho2
      have HR2 := Lib.hid hr2
      have HB7 : Hid (Below w1.heap.size w1 w7) := (HB5.out.trans (hb.mono HB5.out.size)).trans hb2.2
      have SZ : Hid (Sees w7 (.slice (some ⟨b', o' + i * 33 + 1, none⟩) 32 32) zs) := sees_range HZB.out (fun e => by have := HZL.out; rw [e] at this; simp at this) (by rw [HZL.out]; decide) (fun j v hj => by
        have := range_below HZ.out HLB'.out HB7.out (j + 1) v (by simpa [kid] using hj)
        rw [show o' + i * 33 + 1 + j = o' + i * 33 + (j + 1) by omega]
        exact this) 32 HZL.out.symm
      obtain ⟨q3, cq3, w8, hr3, ho3, hb3⟩ := oc.app ho2 SZ.out (by rw [List.length_append, List.length_append, L0.out, oc.be_len, oc.be_len, HZL.out]; omega) HB7.out.size
      rw [List.length_append, List.length_append, L0.out, oc.be_len, oc.be_len, HZL.out] at hr3 ho3
      rw [HX.out, show 8 + i * 44 + 8 + 4 + 32 = 8 + (i + 1) * 44 by omega] at ho3
      rw [show 8 + i * 44 + 8 + 4 + 32 = 8 + (i + 1) * 44 by omega] at hr3
      have HR3 := Lib.hid hr3
      have HO8 := Lib.hid ho3
      have HB8 := Lib.hid (HB7.out.trans hb3.2)
      have c3 := (HB7.out.cell (p := ⟨w.heap.size, 3, none⟩) LG1.out).trans C3.out
      clear hs hb hg hr2 ho2 hb2 hr3 ho3 hb3 SZ HX PS HO5 k2 c0
      go_wp2_with (at_builtin; first | refine oc.wpList_app rfl _ _ rfl rfl rfl rfl HR2.out ?_ | refine oc.wpList_app rfl _ _ rfl rfl rfl rfl HR3.out ?_)
      go_roundw
      case rel => exact ⟨i + 1, q3, cq3, by omega, by go_num, rfl, HO8.out, HB8.out⟩
      case measure => simp [intOf]; omega
    · obtain rfl : i = N := by omega
      have PD : Hid (Calls Try.prog 28 #[.slice q (8 + i * 44) cq, .int .i64 512] wr (WriteP w n)) := (oc.pad _ (B i) 512 (by omega) wr HO.out.sees).mono fun e w' hp => YES.out wr e w' HB.out hp
      go_wp2_with fail
      refine PD.out.mono ?_
      rintro e w7 ⟨v, rfl, hs, hb⟩
      have HP : Hid (WriteP w n (.returned (.tuple #[v, .int .i64 (wrE n)])) w7) := ⟨v, rfl, hs, hb⟩
      clear hs hb PD
      generalize wrE n = er at *
      go_wp2_with fail
      go_ret2
      exact HP.out
theorem write (v : Value) (n : NV) (w : World) (hv : ND w v n) (hf : ∀ p ∈ n.qs, 0 ≤ p.1 ∧ p.1 ≤ 4294967295) : Calls Try.prog 10 #[v] w (WriteP w n) := by
  cases hr : rightB n.leaf n.ks n.vs.length n.qs.length with
  | false => exact write_no v n w hv hr
  | true =>
    cases hl : n.leaf with
    | true => exact write_leaf v n w hv hl hr
    | false => exact write_inner v n w hv hf hl hr
end Go.Proofs.Ytnifaldgofmciaa
