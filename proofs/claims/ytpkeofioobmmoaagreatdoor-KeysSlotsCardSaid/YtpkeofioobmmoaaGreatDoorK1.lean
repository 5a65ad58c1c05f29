/-
  Marks and ciphers side by side; contracts of keys.locks and keys.Volume. Condition: none.
-/
import Derived.Test.YtpkeofioobmmoaaGreatDoorShR
import Derived.Test.YtpkeofioobmmoaaGreatDoorAeXtsC
import Derived.Deep.DeepCutAuto
import Derived.Test.YtpkeofioobmmoaaGreatDoorAeXtsF
import Derived.Laws.IdiomCopy
namespace Go.Proofs.YtpkeofioobmmoaaGreatDoor
open Go.RowKit
theorem bcells_zl (l : List Nat) : sh.bcells (ae.zl l) = ae.ncells l := by
  simp [sh.bcells, ae.zl, ae.ncells, List.map_map, Function.comp_def]
/-- Numbers of 0 on. -/
def toN (xs : List Int) : List Nat := xs.map Int.toNat
theorem zl_toN {xs : List Int} (h : sh.Byt xs) : ae.zl (toN xs) = xs := by
  unfold ae.zl toN
  rw [List.map_map]
  conv => rhs; rw [← List.map_id xs]
  apply List.map_congr_left
  intro x hx
  have := h x hx
  simp only [Function.comp_def, id]
  omega
theorem toN_bts {n : Nat} {xs : List Int} (h : sh.Byt xs) (hl : xs.length = n) : ae.Bts n (toN xs) := by
  refine ⟨by simp [toN, hl], fun x hx => ?_⟩
  unfold toN at hx
  obtain ⟨y, hy, rfl⟩ := List.mem_map.1 hx
  have := h y hy
  omega
theorem byt_zl {l : List Nat} (h : ae.Byt l) : sh.Byt (ae.zl l) := fun x hx => by
  unfold ae.zl at hx
  obtain ⟨y, hy, rfl⟩ := List.mem_map.1 hx
  have := h y hy
  omega
theorem nth_zl (l : List Nat) (i : Nat) : sh.nth (ae.zl l) i = (ae.at_ l i : Nat) := by
  unfold sh.nth ae.zl ae.at_
  simp only [List.getD, List.getElem?_map]
  cases l[i]? <;> simp
theorem sees_sh {w : World} {v : Value} {l : List Nat} (h : ae.Sees w v l) : sh.Sees w v (ae.zl l) := by
  obtain ⟨h1, ⟨rfl, rfl⟩ | ⟨a, cap, rfl, rfl, h2⟩ | ⟨b, o, cap, rfl, h3, h4, h5, h6⟩⟩ := h
  · exact ⟨byt_zl h1, .inl ⟨rfl, rfl⟩⟩
  · exact ⟨byt_zl h1, .inr (.inl ⟨a, cap, rfl, rfl, h2⟩)⟩
  · refine ⟨byt_zl h1, .inr (.inr ⟨b, o, cap, by rw [ae.zl_len], fun e => h3 ?_, by rw [ae.zl_len]; exact h4, h5, fun i hi => ?_⟩)⟩
    · have := congrArg List.length e
      rw [ae.zl_len] at this
      exact List.length_eq_zero_iff.1 this
    · rw [ae.zl_len] at hi
      rw [h6 i hi, nth_zl]
/-- A text's mark, in the ciphers' words. -/
def macN (k b : List Nat) : List Nat := toN (sh.mac (ae.zl k) (ae.zl b))
theorem macN_bts {k : List Nat} (b : List Nat) (hk : ae.Byt k) : ae.Bts 32 (macN k b) := toN_bts (sh.mac_byt _ _) (sh.mac_len _ _ (byt_zl hk))
theorem zl_macN (k b : List Nat) : ae.zl (macN k b) = sh.mac (ae.zl k) (ae.zl b) := zl_toN (sh.mac_byt _ _)
/-- The key of a name and a number. -/
def derN (key nm : List Nat) (num : Nat) : List Nat := toN (sh.strm (ae.zl key) (ae.zl nm ++ sh.be 8 num) 32)
theorem derN_bts {key : List Nat} (nm : List Nat) (num : Nat) (hk : ae.Byt key) : ae.Bts 32 (derN key nm num) := toN_bts (sh.strm_byt _ _ _) (sh.strm_len _ _ (byt_zl hk) 32 (by omega))
theorem zl_derN (key nm : List Nat) (num : Nat) : ae.zl (derN key nm num) = sh.strm (ae.zl key) (ae.zl nm ++ sh.be 8 num) 32 := zl_toN (sh.strm_byt _ _ _)
theorem extractC (vk vb : Value) (k b : List Nat) (w : World) (hk : ae.Sees w vk k) (hb : ae.Sees w vb b) (lk : k.length ≤ 562949953421312) (lb : b.length ≤ 562949953421312) (hG : sh.Glob w) :
    Calls Tryz.prog 26 #[vk, vb] w fun e w' => e = .returned (.agg (ae.ncells (macN k b))) ∧ Below w.heap.size w w' := by
  have h := sh.extract vk vb (ae.zl k) (ae.zl b) w (sees_sh hk) (sees_sh hb) (by rw [ae.zl_len]; exact lk) (by rw [ae.zl_len]; exact lb) hG
  rw [← zl_macN, bcells_zl] at h
  exact h
theorem deriveC (key nm : List Nat) (num : Nat) (hnum : num ≤ 18446744073709551615) (w : World) (hk : ae.Bts 32 key) (hv : ae.Byt nm) (ln : nm.length ≤ 900) (hG : sh.Glob w) (s : ByteArray) (hs : s = ae.strN nm) :
    Calls Tryz.prog 18 #[.agg (ae.ncells key), .string s, .int .u64 num] w fun e w' => e = .returned (.agg (ae.ncells (derN key nm num))) ∧ Below w.heap.size w w' := by
  have h := sh.derive (ae.zl key) (ae.zl nm) num (by omega) w (byt_zl hk.2) (by rw [ae.zl_len]; exact hk.1) (byt_zl hv) (by rw [ae.zl_len]; exact ln) hG
  rw [← zl_derN, bcells_zl, bcells_zl] at h
  rw [hs]
  exact h
open Go.RowKit Go.Proofs.YtpkeofioobmmoaaGreatDoor.ae
/-- The names of keys. -/
def nCheck : List Nat := [99, 104, 101, 99, 107]
def nWrap : List Nat := [119, 114, 97, 112]
def nOne : List Nat := [111, 110, 101]
def nTwo : List Nat := [116, 119, 111]
theorem nCheck_byt : ae.Byt nCheck := fun x h => by simp [nCheck] at h; omega
theorem nWrap_byt : ae.Byt nWrap := fun x h => by simp [nWrap] at h; omega
theorem nOne_byt : ae.Byt nOne := fun x h => by simp [nOne] at h; omega
theorem nTwo_byt : ae.Byt nTwo := fun x h => by simp [nTwo] at h; omega
/-- The check key and the wrapping key of an outer key and a salt. -/
def chk (outer salt : List Nat) : List Nat := derN (macN salt outer) nCheck 0
def wrk (outer salt : List Nat) : List Nat := derN (macN salt outer) nWrap 0
theorem chk_bts {outer salt : List Nat} (hs : ae.Byt salt) : ae.Bts 32 (chk outer salt) := derN_bts _ _ (macN_bts outer hs).2
theorem wrk_bts {outer salt : List Nat} (hs : ae.Byt salt) : ae.Bts 32 (wrk outer salt) := derN_bts _ _ (macN_bts outer hs).2
theorem len37 : Tryz.prog.arrayLen 22 = 32 := by kernel_rfl
theorem und37 : Tryz.prog.underlying 22 = some (.array (Tryz.prog.arrayLen 22) (Tryz.prog.elem 22)) := by kernel_rfl
theorem size37 (W : World) : (sizeOf (Tryz.prog.elem 22)).run Tryz.prog W = .ok 1 W := by kernel_rfl
theorem i37s : (Tryz.prog.info? 22).map (·.size) = some 32 := by kernel_rfl
theorem i37 {b : List Nat} (h : b.length = 32) : (Tryz.prog.info? 22).map (·.size) = some (ncells b).size := by rw [i37s, nsize, h]
theorem arr37 (g o : Nat) (W : World) : (Instr.sliceAt 22 (.pointer (some ⟨g, o, none⟩)) none none none).run Tryz.prog W = .ok (.slice (some ⟨g, o, none⟩) 32 32) W := by
  rw [run_sliceAt_array_all W 22 ⟨g, o, none⟩ und37, size37]
  simp [Result.andThen, slicedAt, len37, ae.addr_add]
theorem arr38 (g o : Nat) (W : World) : (Instr.sliceAt 23 (.pointer (some ⟨g, o, none⟩)) none none none).run Tryz.prog W = .ok (.slice (some ⟨g, o, none⟩) 32 32) W := by
  rw [run_sliceAt_array_all W 23 ⟨g, o, none⟩ sh.und48, sh.size48]
  simp [Result.andThen, slicedAt, sh.len48, ae.addr_add]
theorem sees32 {w : World} {g : Nat} {xs : List Nat} {t : TypeId} (h : w.heap[g]? = some (.cells (ncells xs) t (0, 0))) (hb : ae.Bts 32 xs) : ae.Sees w (.slice (some ⟨g, 0, none⟩) 32 32) xs :=
  sees_row w g xs hb.2 (by rw [hb.1]; decide) h 32 hb.1.symm
set_option maxRecDepth 100000 in
set_option maxHeartbeats 4000000 in
theorem locks (outer salt : List Nat) (ho : ae.Bts 32 outer) (hs : ae.Bts 32 salt) (w : World) (hG : sh.Glob w) :
    Calls Tryz.prog 12 #[.agg (ncells outer), .agg (ncells salt)] w fun e w' => e = .returned (.tuple #[.agg (ncells (chk outer salt)), .agg (ncells (wrk outer salt))]) ∧ Below w.heap.size w w' := by
  have z38 := ae.zero23
  obtain ⟨Z, hZ⟩ : ∃ Z, Z = ncells (zeros 32) := ⟨_, rfl⟩
  rw [← hZ] at z38
  have hmac := macN_bts outer hs.2
  have ZL : Hid (∀ l : List Nat, l.length = 32 → Z.size = (ncells l).size) := fun l hl => by rw [hZ]; exact z23 hl
  have LM := Lib.hid hmac.1
  have LC := Lib.hid (chk_bts (outer := outer) hs.2).1
  have LW := Lib.hid (wrk_bts (outer := outer) hs.2).1
  have h2w : 2 ≤ w.heap.size := by have := hG.lt; omega
  have EX : Hid (∀ (W : World) (g k : Nat), sh.Glob W → W.heap[g]? = some (.cells (ncells outer) 23 (0, 0)) → W.heap[k]? = some (.cells (ncells salt) 22 (0, 0)) → Calls Tryz.prog 26 #[.slice (some ⟨k, 0, none⟩) 32 32, .slice (some ⟨g, 0, none⟩) 32 32] W fun e w' => e = .returned (.agg (ncells (macN salt outer))) ∧ Below W.heap.size W w') :=
    fun W g k hg h1 h2 => extractC _ _ salt outer W (sees32 h2 hs) (sees32 h1 ho) (by rw [hs.1]; omega) (by rw [ho.1]; omega) hg
  have D1 : Hid (∀ (W : World), sh.Glob W → Calls Tryz.prog 18 #[.agg (ncells (macN salt outer)), .string ⟨#[99, 104, 101, 99, 107]⟩, .int .u64 0] W fun e w' => e = .returned (.agg (ncells (chk outer salt))) ∧ Below W.heap.size W w') :=
    fun W hg => deriveC _ nCheck 0 (by omega) W hmac nCheck_byt (by decide) hg _ (by kernel_rfl)
  have D2 : Hid (∀ (W : World), sh.Glob W → Calls Tryz.prog 18 #[.agg (ncells (macN salt outer)), .string ⟨#[119, 114, 97, 112]⟩, .int .u64 0] W fun e w' => e = .returned (.agg (ncells (wrk outer salt))) ∧ Below W.heap.size W w') :=
    fun W hg => deriveC _ nWrap 0 (by omega) W hmac nWrap_byt (by decide) hg _ (by kernel_rfl)
  obtain ⟨W0, hW0⟩ : ∃ W0, W0 = (((w.alloc (.cells (ncells outer) 23)).alloc (.cells (ncells salt) 22)).alloc (.cells Z 23)).alloc (.cells Z 23) := ⟨_, rfl⟩
  have b1 : Below w.heap.size w (w.alloc (.cells (ncells outer) 23)) := (Below.refl _ _).alloc (Nat.le_refl _) _
  have b2 := b1.alloc (by simp) (.cells (ncells salt) 22)
  have b3 := b2.alloc (by simp <;> omega) (.cells Z 23)
  have b4 := b3.alloc (by simp <;> omega) (.cells Z 23)
  have HB : Hid (Below w.heap.size w W0) := by rw [hW0]; exact b4
  have sz : W0.heap.size = w.heap.size + 4 := by rw [hW0]; simp
  have G0 : Hid (W0.heap[w.heap.size]? = some (.cells (ncells outer) 23 (0, 0))) := by
    show _ = _
    rw [hW0, Below.heap_alloc _ _ _ (by simp <;> omega), Below.heap_alloc _ _ _ (by simp <;> omega), Below.heap_alloc _ _ _ (by simp)]; exact heap_alloc_new w _
  have G1 : Hid (W0.heap[w.heap.size + 1]? = some (.cells (ncells salt) 22 (0, 0))) := by
    show _ = _
    rw [hW0, Below.heap_alloc _ _ _ (by simp <;> omega), Below.heap_alloc _ _ _ (by simp)]; exact heap_alloc2_new w _ _
  have G2 : Hid (W0.heap[w.heap.size + 1 + 1]? = some (.cells Z 23 (0, 0))) := by
    show _ = _
    rw [hW0, Below.heap_alloc _ _ _ (by simp)]
    have := heap_alloc_new ((w.alloc (.cells (ncells outer) 23)).alloc (.cells (ncells salt) 22)) (.cells Z 23)
    simpa using this
  have G3 : Hid (W0.heap[w.heap.size + 1 + 1 + 1]? = some (.cells Z 23 (0, 0))) := by
    show _ = _
    have := heap_alloc_new (((w.alloc (.cells (ncells outer) 23)).alloc (.cells (ncells salt) 22)).alloc (.cells Z 23)) (.cells Z 23)
    rw [hW0]
    simpa using this
  have HG := Lib.hid (hG.below b4 h2w)
  rw [← hW0] at HG
  have H2 : 2 ≤ W0.heap.size := by omega
  have HW0 := Lib.hid hW0
  have SZ := Lib.hid sz
  have HC : Hid (chk outer salt = derN (macN salt outer) nCheck 0) := rfl
  clear hW0 sz b1 b2 b3 b4 hmac ho hs hG hZ
  generalize macN salt outer = M at LM EX D1 D2
  generalize chk outer salt = CK at LC D1 ⊢
  generalize wrk outer salt = WK at LW D2 ⊢
  have A37 := arr37
  have A38 := arr38
  go_enter Tryz.func12, Tryz.ntmps12
  go_wp2_with fail
  rw [← HW0.out]
  go_cut [6] (fun s6 wx => ∃ g6, s6 = .pointer (some ⟨g6, 0, none⟩) ∧ wx.heap[g6]? = some (.cells (ncells M) 23 (0, 0)) ∧ W0.heap.size ≤ g6 ∧ Below W0.heap.size W0 wx)
  case first =>
    refine wp_region_held_drew (S := fun W => Below W0.heap.size W0 W) (by kernel_rfl) ((Below.refl _ _).drew) (fun hS => ?_)
    have hb0 : Below W0.heap.size W0 W0.drew := (Below.refl _ _).drew
    have qG0 := (hb0.block _ (blk_lt G0.out)).trans G0.out
    have qG1 := (hb0.block _ (blk_lt G1.out)).trans G1.out
    have qHG := HG.out.below hb0 HG.out.lt
    clear hb0 G0 G1 HG
    generalize W0.drew = Was at hS qG0 qG1 qHG ⊢
    have G0 := Lib.hid qG0
    have G1 := Lib.hid qG1
    have HG := Lib.hid qHG
    clear qG0 qG1 qHG
    refine' wpAnyH_take (i := 0) ?h1x0a ?hsx0a ?hfx0a ?hrx0a ?hQx0a (Or.inl ⟨?hwx0a, ?hyx0a⟩) hS ?restx0a
    case h1x0a => (simp only [List.getElem?_toArray, List.getElem?_cons_zero]; rfl)
    case hsx0a | hfx0a | hrx0a => kernel_rfl
    case hQx0a => exact fun _ _ _ h => h
    case hwx0a => rfl
    case hyx0a =>
      intro W hW
      go_simp
      try with_reducible rfl
    simp only [Act.put, List.setIfInBounds_toArray, List.set_cons_succ, List.set_cons_zero]
    refine' wpAnyH_take (i := 1) ?h1x1a ?hsx1a ?hfx1a ?hrx1a ?hQx1a (Or.inl ⟨?hwx1a, ?hyx1a⟩) hS ?restx1a
    case h1x1a => (simp only [List.getElem?_toArray, List.getElem?_cons_succ, List.getElem?_cons_zero]; rfl)
    case hsx1a | hfx1a | hrx1a => kernel_rfl
    case hQx1a => exact fun _ _ _ h => h
    case hwx1a => rfl
    case hyx1a =>
      intro W hW
      go_simp
      try with_reducible rfl
    simp only [Act.put, List.setIfInBounds_toArray, List.set_cons_succ, List.set_cons_zero]
    refine wpAnyH_ready (rs := [2, 3]) (by kernel_rfl) (by simp) ?_
    refine' (AllReadyH.cons ?hoc2a (fun K hK => ?stc2a) (AllReadyH.cons ?hoc3a (fun K hK => ?stc3a) AllReadyH.nil))
    case hoc2a => (simp only [List.getElem?_toArray, List.getElem?_cons_succ, List.getElem?_cons_zero]; rfl)
    case hoc3a => (simp only [List.getElem?_toArray, List.getElem?_cons_succ, List.getElem?_cons_zero]; rfl)
    case stc2a =>
      go_simp
      refine (EX.out Was _ _ HG.out G0.out G1.out).mono ?_
      rintro e Wax2 ⟨rfl, hb⟩
      have G0 := Lib.hid ((hb.block _ (blk_lt G0.out)).trans G0.out)
      have G1 := Lib.hid ((hb.block _ (blk_lt G1.out)).trans G1.out)
      have HG := Lib.hid (HG.out.below hb HG.out.lt)
      go_wp2_with fail
      refine hK.out _ _ (hS.trans (hb.mono hS.size)) (fun hHeld => ?_)
      clear hK K
      try simp only [Act.put, List.setIfInBounds_toArray, List.set_cons_succ, List.set_cons_zero]
      clear hS
      have hS := hHeld
      clear hHeld
      clear hb
      refine wpAnyH_ready (rs := [3]) (by kernel_rfl) (by simp) ?_
      refine' (AllReadyH.cons ?hoc3ax2 (fun K hK => ?stc3ax2) AllReadyH.nil)
      case hoc3ax2 => (simp only [List.getElem?_toArray, List.getElem?_cons_succ, List.getElem?_cons_zero]; rfl)
      go_simp
      have hb := (Below.refl Wax2.heap.size Wax2).alloc (Nat.le_refl _) (.cells Z 23)
      refine hK.out _ _ (hS.trans (hb.mono hS.size)) (fun hHeld => ?_)
      clear hK K
      try simp only [Act.put, List.setIfInBounds_toArray, List.set_cons_succ, List.set_cons_zero]
      have qF6 := heap_alloc_new Wax2 (.cells Z 23)
      have hg6 := hS.size
      have qG0 := (hb.block _ (blk_lt G0.out)).trans G0.out
      have qG1 := (hb.block _ (blk_lt G1.out)).trans G1.out
      have qHG := HG.out.below hb HG.out.lt
      clear hS
      have hS := hHeld
      clear hHeld
      clear hb
      clear G0 G1 HG
      generalize Wax2.alloc (.cells Z 23) = Wax2x3 at *
      generalize Wax2.heap.size = g6 at *
      have G0 := Lib.hid qG0
      have G1 := Lib.hid qG1
      have HG := Lib.hid qHG
      have F6 := Lib.hid qF6
      clear qG0 qG1 qHG qF6
      refine wpAnyH_ready (rs := [4]) (by kernel_rfl) (by simp) ?_
      refine' (AllReadyH.cons ?hoc4ax2x3 (fun K hK => ?stc4ax2x3) AllReadyH.nil)
      case hoc4ax2x3 => (simp only [List.getElem?_toArray, List.getElem?_cons_succ, List.getElem?_cons_zero]; rfl)
      refine step_store_row rfl 23 (.tmp 6) (.tmp 9) rfl g6 (ncells M) rfl rfl 23 _ F6.out (i23 LM.out) (ZL.out _ LM.out) (none_ _) ?_
      refine hK.out _ _ (hS.trans (below_row _ _ hg6)) (fun hHeld => ?_)
      clear hK K
      simp only [Act.put]
      have qF6 := setRow_heap _ g6 _ (ncells M) _ _ F6.out
      have qG0 := (setRow_other _ _ _ (ncells M) (show w.heap.size ≠ g6 from (by have := hg6; have := SZ.out; omega))).trans G0.out
      have qG1 := (setRow_other _ _ _ (ncells M) (show (w.heap.size + 1) ≠ g6 from (by have := hg6; have := SZ.out; omega))).trans G1.out
      have qHG := HG.out.below (below_row (B := 2) _ (ncells M) (by have := hg6; have := H2; omega)) (Nat.le_refl _)
      clear hS
      have hS := hHeld
      clear hHeld
      clear G0 G1 HG F6
      generalize Wax2x3.setRow g6 (ncells M) = Wax2x3x4 at *
      have G0 := Lib.hid qG0
      have G1 := Lib.hid qG1
      have HG := Lib.hid qHG
      have F6 := Lib.hid qF6
      clear qG0 qG1 qHG qF6
      refine wpAnyH_done (by kernel_rfl) ?_ _
      go_wp2_with fail
      go_meet
      exact ⟨g6, rfl, F6.out, hg6, hS⟩
    case stc3a =>
      go_simp
      have hb := (Below.refl Was.heap.size Was).alloc (Nat.le_refl _) (.cells Z 23)
      refine hK.out _ _ (hS.trans (hb.mono hS.size)) (fun hHeld => ?_)
      clear hK K
      try simp only [Act.put, List.setIfInBounds_toArray, List.set_cons_succ, List.set_cons_zero]
      have qF6 := heap_alloc_new Was (.cells Z 23)
      have hg6 := hS.size
      have qG0 := (hb.block _ (blk_lt G0.out)).trans G0.out
      have qG1 := (hb.block _ (blk_lt G1.out)).trans G1.out
      have qHG := HG.out.below hb HG.out.lt
      clear hS
      have hS := hHeld
      clear hHeld
      clear hb
      clear G0 G1 HG
      generalize Was.alloc (.cells Z 23) = Wax3 at *
      generalize Was.heap.size = g6 at *
      have G0 := Lib.hid qG0
      have G1 := Lib.hid qG1
      have HG := Lib.hid qHG
      have F6 := Lib.hid qF6
      clear qG0 qG1 qHG qF6
      refine wpAnyH_ready (rs := [2]) (by kernel_rfl) (by simp) ?_
      refine' (AllReadyH.cons ?hoc2ax3 (fun K hK => ?stc2ax3) AllReadyH.nil)
      case hoc2ax3 => (simp only [List.getElem?_toArray, List.getElem?_cons_succ, List.getElem?_cons_zero]; rfl)
      go_simp
      refine (EX.out Wax3 _ _ HG.out G0.out G1.out).mono ?_
      rintro e Wax3x2 ⟨rfl, hb⟩
      have G0 := Lib.hid ((hb.block _ (blk_lt G0.out)).trans G0.out)
      have G1 := Lib.hid ((hb.block _ (blk_lt G1.out)).trans G1.out)
      have HG := Lib.hid (HG.out.below hb HG.out.lt)
      have F6 := Lib.hid ((hb.block _ (blk_lt F6.out)).trans F6.out)
      go_wp2_with fail
      refine hK.out _ _ (hS.trans (hb.mono hS.size)) (fun hHeld => ?_)
      clear hK K
      try simp only [Act.put, List.setIfInBounds_toArray, List.set_cons_succ, List.set_cons_zero]
      clear hS
      have hS := hHeld
      clear hHeld
      clear hb
      refine wpAnyH_ready (rs := [4]) (by kernel_rfl) (by simp) ?_
      refine' (AllReadyH.cons ?hoc4ax3x2 (fun K hK => ?stc4ax3x2) AllReadyH.nil)
      case hoc4ax3x2 => (simp only [List.getElem?_toArray, List.getElem?_cons_succ, List.getElem?_cons_zero]; rfl)
      refine step_store_row rfl 23 (.tmp 6) (.tmp 9) rfl g6 (ncells M) rfl rfl 23 _ F6.out (i23 LM.out) (ZL.out _ LM.out) (none_ _) ?_
      refine hK.out _ _ (hS.trans (below_row _ _ hg6)) (fun hHeld => ?_)
      clear hK K
      simp only [Act.put]
      have qF6 := setRow_heap _ g6 _ (ncells M) _ _ F6.out
      have qG0 := (setRow_other _ _ _ (ncells M) (show w.heap.size ≠ g6 from (by have := hg6; have := SZ.out; omega))).trans G0.out
      have qG1 := (setRow_other _ _ _ (ncells M) (show (w.heap.size + 1) ≠ g6 from (by have := hg6; have := SZ.out; omega))).trans G1.out
      have qHG := HG.out.below (below_row (B := 2) _ (ncells M) (by have := hg6; have := H2; omega)) (Nat.le_refl _)
      clear hS
      have hS := hHeld
      clear hHeld
      clear G0 G1 HG F6
      generalize Wax3x2.setRow g6 (ncells M) = Wax3x2x4 at *
      have G0 := Lib.hid qG0
      have G1 := Lib.hid qG1
      have HG := Lib.hid qHG
      have F6 := Lib.hid qF6
      clear qG0 qG1 qHG qF6
      refine wpAnyH_done (by kernel_rfl) ?_ _
      go_wp2_with fail
      go_meet
      exact ⟨g6, rfl, F6.out, hg6, hS⟩
  case rest =>
  obtain ⟨g6, rfl, k6, hg6, kb⟩ := hcut
  have F6 := Lib.hid k6
  have HBc := Lib.hid (HB.out.trans (kb.mono HB.out.size))
  have F2 := Lib.hid ((kb.block _ (blk_lt G2.out)).trans G2.out)
  have F3 := Lib.hid ((kb.block _ (blk_lt G3.out)).trans G3.out)
  have HGc := Lib.hid (HG.out.below kb HG.out.lt)
  have HG6 : w.heap.size + 4 ≤ g6 := by have := SZ.out; omega
  clear k6 hg6 kb HB HG G0 G1 G2 G3 EX HW0 SZ H2
  clear W0
  go_wp2_with fail
  refine wp_region_held_drew (S := fun W => Below w.heap.size w W ∧ W.heap[g6]? = some (.cells (ncells M) 23 (0, 0))) (by kernel_rfl) (⟨HBc.out.drew, F6.out⟩) (fun hS => ?_)
  have hb0 : Below wc.heap.size wc wc.drew := (Below.refl _ _).drew
  have qF2 := (hb0.block _ (blk_lt F2.out)).trans F2.out
  have qF3 := (hb0.block _ (blk_lt F3.out)).trans F3.out
  have qHGc := HGc.out.below hb0 HGc.out.lt
  clear hb0 F2 F3 HGc
  generalize wc.drew = Wbs at hS qF2 qF3 qHGc ⊢
  have F2 := Lib.hid qF2
  have F3 := Lib.hid qF3
  have HGc := Lib.hid qHGc
  clear qF2 qF3 qHGc
  refine' wpAnyH_take (i := 0) ?h1x0b ?hsx0b ?hfx0b ?hrx0b ?hQx0b (yieldsIf_load_at ?hwx0b 23 (.tmp 6) ?hopx0b g6 0 rfl (ncells M) _ (fun W hW => range_row hW.2) Tryz.underlying23 rfl ?hix0b) hS ?restx0b
  case h1x0b => (simp only [List.getElem?_toArray, List.getElem?_cons_zero]; rfl)
  case hopx0b => rfl
  case hsx0b | hfx0b | hrx0b => kernel_rfl
  case hQx0b => exact fun _ _ _ h => h
  case hwx0b => rfl
  case hix0b => exact (i23 LM.out)
  simp only [Act.put, List.setIfInBounds_toArray, List.set_cons_succ, List.set_cons_zero]
  refine' wpAnyH_take (i := 2) ?h1x2b ?hsx2b ?hfx2b ?hrx2b ?hQx2b (yieldsIf_load_at ?hwx2b 23 (.tmp 6) ?hopx2b g6 0 rfl (ncells M) _ (fun W hW => range_row hW.2) Tryz.underlying23 rfl ?hix2b) hS ?restx2b
  case h1x2b => (simp only [List.getElem?_toArray, List.getElem?_cons_succ, List.getElem?_cons_zero]; rfl)
  case hopx2b => rfl
  case hsx2b | hfx2b | hrx2b => kernel_rfl
  case hQx2b => exact fun _ _ _ h => h
  case hwx2b => rfl
  case hix2b => exact (i23 LM.out)
  simp only [Act.put, List.setIfInBounds_toArray, List.set_cons_succ, List.set_cons_zero]
  refine wpAnyH_ready (rs := [1]) (by kernel_rfl) (by simp) ?_
  refine' (AllReadyH.cons ?hoc1b (fun K hK => ?stc1b) AllReadyH.nil)
  case hoc1b => (simp only [List.getElem?_toArray, List.getElem?_cons_succ, List.getElem?_cons_zero]; rfl)
  go_simp
  refine (D1.out Wbs HGc.out).mono ?_
  rintro e Wbx1 ⟨rfl, hb⟩
  have F2 := Lib.hid ((hb.block _ (blk_lt F2.out)).trans F2.out)
  have F3 := Lib.hid ((hb.block _ (blk_lt F3.out)).trans F3.out)
  have HGc := Lib.hid (HGc.out.below hb HGc.out.lt)
  go_wp2_with fail
  refine hK.out _ _ (⟨hS.1.trans (hb.mono hS.1.size), (hb.block _ (blk_lt hS.2)).trans hS.2⟩) (fun hHeld => ?_)
  clear hK K
  try simp only [Act.put, List.setIfInBounds_toArray, List.set_cons_succ, List.set_cons_zero]
  clear hS
  have hS := hHeld
  clear hHeld
  clear hb
  refine wpAnyH_ready (rs := [3]) (by kernel_rfl) (by simp) ?_
  refine' (AllReadyH.cons ?hoc3bx1 (fun K hK => ?stc3bx1) AllReadyH.nil)
  case hoc3bx1 => (simp only [List.getElem?_toArray, List.getElem?_cons_succ, List.getElem?_cons_zero]; rfl)
  go_simp
  refine (D2.out Wbx1 HGc.out).mono ?_
  rintro e Wbx1x3 ⟨rfl, hb⟩
  have F2 := Lib.hid ((hb.block _ (blk_lt F2.out)).trans F2.out)
  have F3 := Lib.hid ((hb.block _ (blk_lt F3.out)).trans F3.out)
  have HGc := Lib.hid (HGc.out.below hb HGc.out.lt)
  go_wp2_with fail
  refine hK.out _ _ (⟨hS.1.trans (hb.mono hS.1.size), (hb.block _ (blk_lt hS.2)).trans hS.2⟩) (fun hHeld => ?_)
  clear hK K
  try simp only [Act.put, List.setIfInBounds_toArray, List.set_cons_succ, List.set_cons_zero]
  clear hS
  have hS := hHeld
  clear hHeld
  clear hb
  refine wpAnyH_ready (rs := [4]) (by kernel_rfl) (by simp) ?_
  refine' (AllReadyH.cons ?hoc4bx1x3 (fun K hK => ?stc4bx1x3) AllReadyH.nil)
  case hoc4bx1x3 => (simp only [List.getElem?_toArray, List.getElem?_cons_succ, List.getElem?_cons_zero]; rfl)
  refine step_store_row rfl 23 (.tmp 4) (.tmp 11) rfl (w.heap.size + 1 + 1) (ncells CK) rfl rfl 23 _ F2.out (i23 LC.out) (ZL.out _ LC.out) (none_ _) ?_
  refine hK.out _ _ (⟨hS.1.trans (below_row _ _ (by omega)), by rw [setRow_other _ _ _ _ (show g6 ≠ (w.heap.size + 1 + 1) from (by omega))]; exact hS.2⟩) (fun hHeld => ?_)
  clear hK K
  simp only [Act.put]
  have qF2 := setRow_heap _ (w.heap.size + 1 + 1) _ (ncells CK) _ _ F2.out
  have qF3 := (setRow_other _ _ _ (ncells CK) (show (w.heap.size + 1 + 1 + 1) ≠ (w.heap.size + 1 + 1) from (by omega))).trans F3.out
  have qHGc := HGc.out.below (below_row (B := 2) _ (ncells CK) (by omega)) (Nat.le_refl _)
  clear hS
  have hS := hHeld
  clear hHeld
  clear F2 F3 HGc
  generalize Wbx1x3.setRow (w.heap.size + 1 + 1) (ncells CK) = Wbx1x3x4 at *
  have F2 := Lib.hid qF2
  have F3 := Lib.hid qF3
  have HGc := Lib.hid qHGc
  clear qF2 qF3 qHGc
  refine wpAnyH_ready (rs := [5]) (by kernel_rfl) (by simp) ?_
  refine' (AllReadyH.cons ?hoc5bx1x3x4 (fun K hK => ?stc5bx1x3x4) AllReadyH.nil)
  case hoc5bx1x3x4 => (simp only [List.getElem?_toArray, List.getElem?_cons_succ, List.getElem?_cons_zero]; rfl)
  refine step_store_row rfl 23 (.tmp 5) (.tmp 13) rfl (w.heap.size + 1 + 1 + 1) (ncells WK) rfl rfl 23 _ F3.out (i23 LW.out) (ZL.out _ LW.out) (none_ _) ?_
  refine hK.out _ _ (⟨hS.1.trans (below_row _ _ (by omega)), by rw [setRow_other _ _ _ _ (show g6 ≠ (w.heap.size + 1 + 1 + 1) from (by omega))]; exact hS.2⟩) (fun hHeld => ?_)
  clear hK K
  simp only [Act.put]
  have qF3 := setRow_heap _ (w.heap.size + 1 + 1 + 1) _ (ncells WK) _ _ F3.out
  have qF2 := (setRow_other _ _ _ (ncells WK) (show (w.heap.size + 1 + 1) ≠ (w.heap.size + 1 + 1 + 1) from (by omega))).trans F2.out
  have qHGc := HGc.out.below (below_row (B := 2) _ (ncells WK) (by omega)) (Nat.le_refl _)
  clear hS
  have hS := hHeld
  clear hHeld
  clear F2 F3 HGc
  generalize Wbx1x3x4.setRow (w.heap.size + 1 + 1 + 1) (ncells WK) = Wbx1x3x4x5 at *
  have F2 := Lib.hid qF2
  have F3 := Lib.hid qF3
  have HGc := Lib.hid qHGc
  clear qF2 qF3 qHGc
  refine wpAnyH_done (by kernel_rfl) ?_ _
  go_wp2_with fail
  refine bodyPost_ret (v := .tuple #[.agg (ncells CK), .agg (ncells WK)]) (results_two_rows Tryz.results12 _ _ (w.heap.size + 1 + 1) (w.heap.size + 1 + 1 + 1) 23 _ _ (0, 0) (0, 0) _ rfl rfl F2.out F3.out Tryz.underlying23 rfl (i23 LC.out) (i23 LW.out)) rfl ⟨rfl, hS.1⟩
open Go.RowKit Go.Proofs.YtpkeofioobmmoaaGreatDoor.ae
/-- A volume's keys. -/
def vone (m : List Nat) (n : Nat) : List Nat := derN m nOne n
def vtwo (m : List Nat) (n : Nat) : List Nat := derN m nTwo n
theorem vone_bts {m : List Nat} (n : Nat) (hm : ae.Bts 32 m) : ae.Bts 32 (vone m n) := derN_bts _ _ hm.2
theorem vtwo_bts {m : List Nat} (n : Nat) (hm : ae.Bts 32 m) : ae.Bts 32 (vtwo m n) := derN_bts _ _ hm.2
set_option maxRecDepth 100000 in
set_option maxHeartbeats 4000000 in
theorem volume (m : List Nat) (hm : ae.Bts 32 m) (n : Nat) (hn : n ≤ 18446744073709551615) (w : World) (hG : sh.Glob w) :
    Calls Tryz.prog 7 #[.agg (ncells m), .int .u64 n] w fun e w' => e = .returned (.tuple #[.agg (ncells (vone m n)), .agg (ncells (vtwo m n))]) ∧ Below w.heap.size w w' := by
  have z38 := ae.zero23
  obtain ⟨Z, hZ⟩ : ∃ Z, Z = ncells (zeros 32) := ⟨_, rfl⟩
  rw [← hZ] at z38
  have ZL : Hid (∀ l : List Nat, l.length = 32 → Z.size = (ncells l).size) := fun l hl => by rw [hZ]; exact z23 hl
  have LM := Lib.hid hm.1
  have LC := Lib.hid (vone_bts n hm).1
  have LW := Lib.hid (vtwo_bts n hm).1
  have h2w : 2 ≤ w.heap.size := by have := hG.lt; omega
  have D1 : Hid (∀ (W : World), sh.Glob W → Calls Tryz.prog 18 #[.agg (ncells m), .string ⟨#[111, 110, 101]⟩, .int .u64 n] W fun e w' => e = .returned (.agg (ncells (vone m n))) ∧ Below W.heap.size W w') :=
    fun W hg => deriveC _ nOne n hn W hm nOne_byt (by decide) hg _ (by kernel_rfl)
  have D2 : Hid (∀ (W : World), sh.Glob W → Calls Tryz.prog 18 #[.agg (ncells m), .string ⟨#[116, 119, 111]⟩, .int .u64 n] W fun e w' => e = .returned (.agg (ncells (vtwo m n))) ∧ Below W.heap.size W w') :=
    fun W hg => deriveC _ nTwo n hn W hm nTwo_byt (by decide) hg _ (by kernel_rfl)
  obtain ⟨W0, hW0⟩ : ∃ W0, W0 = ((w.alloc (.cells (ncells m) 23)).alloc (.cells Z 23)).alloc (.cells Z 23) := ⟨_, rfl⟩
  have b1 : Below w.heap.size w (w.alloc (.cells (ncells m) 23)) := (Below.refl _ _).alloc (Nat.le_refl _) _
  have b2 := b1.alloc (by simp) (.cells Z 23)
  have b3 := b2.alloc (by simp <;> omega) (.cells Z 23)
  have HB : Hid (Below w.heap.size w W0) := by rw [hW0]; exact b3
  have G0 : Hid (W0.heap[w.heap.size]? = some (.cells (ncells m) 23 (0, 0))) := by
    show _ = _
    rw [hW0, Below.heap_alloc _ _ _ (by simp <;> omega), Below.heap_alloc _ _ _ (by simp)]; exact heap_alloc_new w _
  have G1 : Hid (W0.heap[w.heap.size + 1]? = some (.cells Z 23 (0, 0))) := by
    show _ = _
    rw [hW0, Below.heap_alloc _ _ _ (by simp <;> omega)]; exact heap_alloc2_new w _ _
  have G2 : Hid (W0.heap[w.heap.size + 1 + 1]? = some (.cells Z 23 (0, 0))) := by
    show _ = _
    have := heap_alloc_new ((w.alloc (.cells (ncells m) 23)).alloc (.cells Z 23)) (.cells Z 23)
    rw [hW0]
    simpa using this
  have HG := Lib.hid (hG.below b3 h2w)
  rw [← hW0] at HG
  have HW0 := Lib.hid hW0
  clear hW0 b1 b2 b3 hm hG hZ hn
  generalize vone m n = CK at LC D1 ⊢
  generalize vtwo m n = WK at LW D2 ⊢
  go_enter Tryz.func7, Tryz.ntmps7
  go_wp2_with fail
  rw [← HW0.out]
  refine wp_region_held_drew (S := fun W => Below w.heap.size w W ∧ W.heap[w.heap.size]? = some (.cells (ncells m) 23 (0, 0))) (by kernel_rfl) (⟨HB.out.drew, G0.out⟩) (fun hS => ?_)
  have hb0 : Below W0.heap.size W0 W0.drew := (Below.refl _ _).drew
  have qG1 := (hb0.block _ (blk_lt G1.out)).trans G1.out
  have qG2 := (hb0.block _ (blk_lt G2.out)).trans G2.out
  have qHG := HG.out.below hb0 HG.out.lt
  clear hb0 G1 G2 HG
  generalize W0.drew = Wbs at hS qG1 qG2 qHG ⊢
  have G1 := Lib.hid qG1
  have G2 := Lib.hid qG2
  have HG := Lib.hid qHG
  clear qG1 qG2 qHG
  refine' wpAnyH_take (i := 0) ?h1x0b ?hsx0b ?hfx0b ?hrx0b ?hQx0b (yieldsIf_load_at ?hwx0b 23 (.tmp 2) ?hopx0b w.heap.size 0 rfl (ncells m) _ (fun W hW => range_row hW.2) Tryz.underlying23 rfl ?hix0b) hS ?restx0b
  case h1x0b => (simp only [List.getElem?_toArray, List.getElem?_cons_zero]; rfl)
  case hopx0b => rfl
  case hsx0b | hfx0b | hrx0b => kernel_rfl
  case hQx0b => exact fun _ _ _ h => h
  case hwx0b => rfl
  case hix0b => exact (i23 LM.out)
  simp only [Act.put, List.setIfInBounds_toArray, List.set_cons_succ, List.set_cons_zero]
  refine' wpAnyH_take (i := 1) ?h1x1b ?hsx1b ?hfx1b ?hrx1b ?hQx1b (Or.inl ⟨?hwx1b, ?hyx1b⟩) hS ?restx1b
  case h1x1b => (simp only [List.getElem?_toArray, List.getElem?_cons_succ, List.getElem?_cons_zero]; rfl)
  case hsx1b | hfx1b | hrx1b => kernel_rfl
  case hQx1b => exact fun _ _ _ h => h
  case hwx1b => rfl
  case hyx1b =>
    intro W hW
    go_simp
    try with_reducible rfl
  simp only [Act.put, List.setIfInBounds_toArray, List.set_cons_succ, List.set_cons_zero]
  refine' wpAnyH_take (i := 3) ?h1x3b ?hsx3b ?hfx3b ?hrx3b ?hQx3b (yieldsIf_load_at ?hwx3b 23 (.tmp 2) ?hopx3b w.heap.size 0 rfl (ncells m) _ (fun W hW => range_row hW.2) Tryz.underlying23 rfl ?hix3b) hS ?restx3b
  case h1x3b => (simp only [List.getElem?_toArray, List.getElem?_cons_succ, List.getElem?_cons_zero]; rfl)
  case hopx3b => rfl
  case hsx3b | hfx3b | hrx3b => kernel_rfl
  case hQx3b => exact fun _ _ _ h => h
  case hwx3b => rfl
  case hix3b => exact (i23 LM.out)
  simp only [Act.put, List.setIfInBounds_toArray, List.set_cons_succ, List.set_cons_zero]
  refine' wpAnyH_take (i := 4) ?h1x4b ?hsx4b ?hfx4b ?hrx4b ?hQx4b (Or.inl ⟨?hwx4b, ?hyx4b⟩) hS ?restx4b
  case h1x4b => (simp only [List.getElem?_toArray, List.getElem?_cons_succ, List.getElem?_cons_zero]; rfl)
  case hsx4b | hfx4b | hrx4b => kernel_rfl
  case hQx4b => exact fun _ _ _ h => h
  case hwx4b => rfl
  case hyx4b =>
    intro W hW
    go_simp
    try with_reducible rfl
  simp only [Act.put, List.setIfInBounds_toArray, List.set_cons_succ, List.set_cons_zero]
  refine wpAnyH_ready (rs := [2]) (by kernel_rfl) (by simp) ?_
  refine' (AllReadyH.cons ?hoc2b (fun K hK => ?stc2b) AllReadyH.nil)
  case hoc2b => (simp only [List.getElem?_toArray, List.getElem?_cons_succ, List.getElem?_cons_zero]; rfl)
  go_simp
  refine (D1.out Wbs HG.out).mono ?_
  rintro e Wbx2 ⟨rfl, hb⟩
  have G1 := Lib.hid ((hb.block _ (blk_lt G1.out)).trans G1.out)
  have G2 := Lib.hid ((hb.block _ (blk_lt G2.out)).trans G2.out)
  have HG := Lib.hid (HG.out.below hb HG.out.lt)
  go_wp2_with fail
  refine hK.out _ _ (⟨hS.1.trans (hb.mono hS.1.size), (hb.block _ (blk_lt hS.2)).trans hS.2⟩) (fun hHeld => ?_)
  clear hK K
  try simp only [Act.put, List.setIfInBounds_toArray, List.set_cons_succ, List.set_cons_zero]
  clear hS
  have hS := hHeld
  clear hHeld
  clear hb
  refine wpAnyH_ready (rs := [5]) (by kernel_rfl) (by simp) ?_
  refine' (AllReadyH.cons ?hoc5bx2 (fun K hK => ?stc5bx2) AllReadyH.nil)
  case hoc5bx2 => (simp only [List.getElem?_toArray, List.getElem?_cons_succ, List.getElem?_cons_zero]; rfl)
  go_simp
  refine (D2.out Wbx2 HG.out).mono ?_
  rintro e Wbx2x5 ⟨rfl, hb⟩
  have G1 := Lib.hid ((hb.block _ (blk_lt G1.out)).trans G1.out)
  have G2 := Lib.hid ((hb.block _ (blk_lt G2.out)).trans G2.out)
  have HG := Lib.hid (HG.out.below hb HG.out.lt)
  go_wp2_with fail
  refine hK.out _ _ (⟨hS.1.trans (hb.mono hS.1.size), (hb.block _ (blk_lt hS.2)).trans hS.2⟩) (fun hHeld => ?_)
  clear hK K
  try simp only [Act.put, List.setIfInBounds_toArray, List.set_cons_succ, List.set_cons_zero]
  clear hS
  have hS := hHeld
  clear hHeld
  clear hb
  refine wpAnyH_ready (rs := [6]) (by kernel_rfl) (by simp) ?_
  refine' (AllReadyH.cons ?hoc6bx2x5 (fun K hK => ?stc6bx2x5) AllReadyH.nil)
  case hoc6bx2x5 => (simp only [List.getElem?_toArray, List.getElem?_cons_succ, List.getElem?_cons_zero]; rfl)
  refine step_store_row rfl 23 (.tmp 4) (.tmp 8) rfl (w.heap.size + 1) (ncells CK) rfl rfl 23 _ G1.out (i23 LC.out) (ZL.out _ LC.out) (none_ _) ?_
  refine hK.out _ _ (⟨hS.1.trans (below_row _ _ (by omega)), by rw [setRow_other _ _ _ _ (show w.heap.size ≠ (w.heap.size + 1) from (by omega))]; exact hS.2⟩) (fun hHeld => ?_)
  clear hK K
  simp only [Act.put]
  have qG1 := setRow_heap _ (w.heap.size + 1) _ (ncells CK) _ _ G1.out
  have qG2 := (setRow_other _ _ _ (ncells CK) (show (w.heap.size + 1 + 1) ≠ (w.heap.size + 1) from (by omega))).trans G2.out
  have qHG := HG.out.below (below_row (B := 2) _ (ncells CK) (by omega)) (Nat.le_refl _)
  clear hS
  have hS := hHeld
  clear hHeld
  clear G1 G2 HG
  generalize Wbx2x5.setRow (w.heap.size + 1) (ncells CK) = Wbx2x5x6 at *
  have G1 := Lib.hid qG1
  have G2 := Lib.hid qG2
  have HG := Lib.hid qHG
  clear qG1 qG2 qHG
  refine wpAnyH_ready (rs := [7]) (by kernel_rfl) (by simp) ?_
  refine' (AllReadyH.cons ?hoc7bx2x5x6 (fun K hK => ?stc7bx2x5x6) AllReadyH.nil)
  case hoc7bx2x5x6 => (simp only [List.getElem?_toArray, List.getElem?_cons_succ, List.getElem?_cons_zero]; rfl)
  refine step_store_row rfl 23 (.tmp 5) (.tmp 11) rfl (w.heap.size + 1 + 1) (ncells WK) rfl rfl 23 _ G2.out (i23 LW.out) (ZL.out _ LW.out) (none_ _) ?_
  refine hK.out _ _ (⟨hS.1.trans (below_row _ _ (by omega)), by rw [setRow_other _ _ _ _ (show w.heap.size ≠ (w.heap.size + 1 + 1) from (by omega))]; exact hS.2⟩) (fun hHeld => ?_)
  clear hK K
  simp only [Act.put]
  have qG2 := setRow_heap _ (w.heap.size + 1 + 1) _ (ncells WK) _ _ G2.out
  have qG1 := (setRow_other _ _ _ (ncells WK) (show (w.heap.size + 1) ≠ (w.heap.size + 1 + 1) from (by omega))).trans G1.out
  have qHG := HG.out.below (below_row (B := 2) _ (ncells WK) (by omega)) (Nat.le_refl _)
  clear hS
  have hS := hHeld
  clear hHeld
  clear G1 G2 HG
  generalize Wbx2x5x6.setRow (w.heap.size + 1 + 1) (ncells WK) = Wbx2x5x6x7 at *
  have G1 := Lib.hid qG1
  have G2 := Lib.hid qG2
  have HG := Lib.hid qHG
  clear qG1 qG2 qHG
  refine wpAnyH_done (by kernel_rfl) ?_ _
  go_wp2_with fail
  refine bodyPost_ret (v := .tuple #[.agg (ncells CK), .agg (ncells WK)]) (results_two_rows Tryz.results7 _ _ (w.heap.size + 1) (w.heap.size + 1 + 1) 23 _ _ (0, 0) (0, 0) _ rfl rfl G1.out G2.out Tryz.underlying23 rfl (i23 LC.out) (i23 LW.out)) rfl ⟨rfl, hS.1⟩
theorem derN_one (key nm : List Nat) (num : Nat) (hk : ae.Byt key) : derN key nm num = toN (sh.tstr (zl key) (zl nm ++ sh.be 8 num) 1) := by
  unfold derN
  rw [sh.strm32 _ _ (byt_zl hk)]
end Go.Proofs.YtpkeofioobmmoaaGreatDoor
