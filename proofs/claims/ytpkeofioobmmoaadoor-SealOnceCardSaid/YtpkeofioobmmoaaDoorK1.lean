/-
  Marks and ciphers side by side; contracts of keys.locks, keys.Volume, seal.Seal, seal.Open, and of alive of package casematelaw22. Condition: none.
-/
import Derived.Test.YtpkeofioobmmoaaDoorShR
import Derived.Test.YtpkeofioobmmoaaDoorAeXtsE
import Derived.Deep.DeepCutAuto
import Derived.Test.YtpkeofioobmmoaaDoorAeXtsG
import Derived.Laws.IdiomCopy
namespace Go.Proofs.YtpkeofioobmmoaaDoor
open Go.RowKit
theorem bcells_zl (l : List Nat) : sh.bcells (ae.zl l) = ae.ncells l := by
  simp [sh.bcells, ae.zl, ae.ncells, List.map_map, Function.comp_def]
/-- Numbers of 0 on. -/
def toN (xs : List Int) : List Nat := xs.map Int.toNat
theorem zl_toN {xs : List Int} (h : sh.Byt xs) : ae.zl (toN xs) = xs := by
  unfold ae.zl toN
  rw [List.map_map]
  conv => rhs; rw [← List.map_id xs]
  apply List.map_congr_left
  intro x hx
  have := h x hx
  simp only [Function.comp_def, id]
  omega
theorem toN_zl (l : List Nat) : toN (ae.zl l) = l := by
  unfold ae.zl toN
  rw [List.map_map]
  conv => rhs; rw [← List.map_id l]
  apply List.map_congr_left
  intro x _
  simp
theorem toN_bts {n : Nat} {xs : List Int} (h : sh.Byt xs) (hl : xs.length = n) : ae.Bts n (toN xs) := by
  refine ⟨by simp [toN, hl], fun x hx => ?_⟩
  unfold toN at hx
  obtain ⟨y, hy, rfl⟩ := List.mem_map.1 hx
  have := h y hy
  omega
theorem byt_zl {l : List Nat} (h : ae.Byt l) : sh.Byt (ae.zl l) := fun x hx => by
  unfold ae.zl at hx
  obtain ⟨y, hy, rfl⟩ := List.mem_map.1 hx
  have := h y hy
  omega
theorem nth_zl (l : List Nat) (i : Nat) : sh.nth (ae.zl l) i = (ae.at_ l i : Nat) := by
  unfold sh.nth ae.zl ae.at_
  simp only [List.getD, List.getElem?_map]
  cases l[i]? <;> simp
theorem sees_sh {w : World} {v : Value} {l : List Nat} (h : ae.Sees w v l) : sh.Sees w v (ae.zl l) := by
  obtain ⟨h1, ⟨rfl, rfl⟩ | ⟨a, cap, rfl, rfl, h2⟩ | ⟨b, o, cap, rfl, h3, h4, h5, h6⟩⟩ := h
  · exact ⟨byt_zl h1, .inl ⟨rfl, rfl⟩⟩
  · exact ⟨byt_zl h1, .inr (.inl ⟨a, cap, rfl, rfl, h2⟩)⟩
  · refine ⟨byt_zl h1, .inr (.inr ⟨b, o, cap, by rw [ae.zl_len], fun e => h3 ?_, by rw [ae.zl_len]; exact h4, h5, fun i hi => ?_⟩)⟩
    · have := congrArg List.length e
      rw [ae.zl_len] at this
      exact List.length_eq_zero_iff.1 this
    · rw [ae.zl_len] at hi
      rw [h6 i hi, nth_zl]
/-- A text's mark, in the ciphers' words. -/
def macN (k b : List Nat) : List Nat := toN (sh.mac (ae.zl k) (ae.zl b))
theorem macN_bts {k : List Nat} (b : List Nat) (hk : ae.Byt k) : ae.Bts 32 (macN k b) := toN_bts (sh.mac_byt _ _) (sh.mac_len _ _ (byt_zl hk))
theorem zl_macN (k b : List Nat) : ae.zl (macN k b) = sh.mac (ae.zl k) (ae.zl b) := zl_toN (sh.mac_byt _ _)
/-- The key of a name and a number. -/
def derN (key nm : List Nat) (num : Nat) : List Nat := toN (sh.strm (ae.zl key) (ae.zl nm ++ sh.be 8 num) 32)
theorem derN_bts {key : List Nat} (nm : List Nat) (num : Nat) (hk : ae.Byt key) : ae.Bts 32 (derN key nm num) := toN_bts (sh.strm_byt _ _ _) (sh.strm_len _ _ (byt_zl hk) 32 (by omega))
theorem zl_derN (key nm : List Nat) (num : Nat) : ae.zl (derN key nm num) = sh.strm (ae.zl key) (ae.zl nm ++ sh.be 8 num) 32 := zl_toN (sh.strm_byt _ _ _)
theorem extractC (vk vb : Value) (k b : List Nat) (w : World) (hk : ae.Sees w vk k) (hb : ae.Sees w vb b) (lk : k.length ≤ 562949953421312) (lb : b.length ≤ 562949953421312) (hG : sh.Glob w) :
    Calls Tryd.prog 41 #[vk, vb] w fun e w' => e = .returned (.agg (ae.ncells (macN k b))) ∧ Below w.heap.size w w' := by
  have h := sh.extract vk vb (ae.zl k) (ae.zl b) w (sees_sh hk) (sees_sh hb) (by rw [ae.zl_len]; exact lk) (by rw [ae.zl_len]; exact lb) hG
  rw [← zl_macN, bcells_zl] at h
  exact h
theorem deriveC (key nm : List Nat) (num : Nat) (hnum : num ≤ 18446744073709551615) (w : World) (hk : ae.Bts 32 key) (hv : ae.Byt nm) (ln : nm.length ≤ 900) (hG : sh.Glob w) (s : ByteArray) (hs : s = ae.strN nm) :
    Calls Tryd.prog 42 #[.agg (ae.ncells key), .string s, .int .u64 num] w fun e w' => e = .returned (.agg (ae.ncells (derN key nm num))) ∧ Below w.heap.size w w' := by
  have h := sh.derive (ae.zl key) (ae.zl nm) num (by omega) w (byt_zl hk.2) (by rw [ae.zl_len]; exact hk.1) (byt_zl hv) (by rw [ae.zl_len]; exact ln) hG
  rw [← zl_derN, bcells_zl, bcells_zl] at h
  rw [hs]
  exact h
open Go.RowKit Go.Proofs.YtpkeofioobmmoaaDoor.ae
/-- The names of keys. -/
def nCheck : List Nat := [99, 104, 101, 99, 107]
def nWrap : List Nat := [119, 114, 97, 112]
def nOne : List Nat := [111, 110, 101]
def nTwo : List Nat := [116, 119, 111]
theorem nCheck_byt : ae.Byt nCheck := fun x h => by simp [nCheck] at h; omega
theorem nWrap_byt : ae.Byt nWrap := fun x h => by simp [nWrap] at h; omega
theorem nOne_byt : ae.Byt nOne := fun x h => by simp [nOne] at h; omega
theorem nTwo_byt : ae.Byt nTwo := fun x h => by simp [nTwo] at h; omega
/-- The check key and the wrapping key of an outer key and a salt. -/
def chk (outer salt : List Nat) : List Nat := derN (macN salt outer) nCheck 0
def wrk (outer salt : List Nat) : List Nat := derN (macN salt outer) nWrap 0
theorem chk_bts {outer salt : List Nat} (hs : ae.Byt salt) : ae.Bts 32 (chk outer salt) := derN_bts _ _ (macN_bts outer hs).2
theorem wrk_bts {outer salt : List Nat} (hs : ae.Byt salt) : ae.Bts 32 (wrk outer salt) := derN_bts _ _ (macN_bts outer hs).2
theorem len37 : Tryd.prog.arrayLen 37 = 32 := by kernel_rfl
theorem und37 : Tryd.prog.underlying 37 = some (.array (Tryd.prog.arrayLen 37) (Tryd.prog.elem 37)) := by kernel_rfl
theorem size37 (W : World) : (sizeOf (Tryd.prog.elem 37)).run Tryd.prog W = .ok 1 W := by kernel_rfl
theorem i37s : (Tryd.prog.info? 37).map (·.size) = some 32 := by kernel_rfl
theorem i37 {b : List Nat} (h : b.length = 32) : (Tryd.prog.info? 37).map (·.size) = some (ncells b).size := by rw [i37s, nsize, h]
theorem arr37 (g o : Nat) (W : World) : (Instr.sliceAt 37 (.pointer (some ⟨g, o, none⟩)) none none none).run Tryd.prog W = .ok (.slice (some ⟨g, o, none⟩) 32 32) W := by
  rw [run_sliceAt_array_all W 37 ⟨g, o, none⟩ und37, size37]
  simp [Result.andThen, slicedAt, len37, ae.addr_add]
theorem arr38 (g o : Nat) (W : World) : (Instr.sliceAt 38 (.pointer (some ⟨g, o, none⟩)) none none none).run Tryd.prog W = .ok (.slice (some ⟨g, o, none⟩) 32 32) W := by
  rw [run_sliceAt_array_all W 38 ⟨g, o, none⟩ sh.und48, sh.size48]
  simp [Result.andThen, slicedAt, sh.len48, ae.addr_add]
theorem sees32 {w : World} {g : Nat} {xs : List Nat} {t : TypeId} (h : w.heap[g]? = some (.cells (ncells xs) t (0, 0))) (hb : ae.Bts 32 xs) : ae.Sees w (.slice (some ⟨g, 0, none⟩) 32 32) xs :=
  sees_row w g xs hb.2 (by rw [hb.1]; decide) h 32 hb.1.symm
set_option maxRecDepth 100000 in
set_option maxHeartbeats 4000000 in
theorem locks (outer salt : List Nat) (ho : ae.Bts 32 outer) (hs : ae.Bts 32 salt) (w : World) (hG : sh.Glob w) :
    Calls Tryd.prog 29 #[.agg (ncells outer), .agg (ncells salt)] w fun e w' => e = .returned (.tuple #[.agg (ncells (chk outer salt)), .agg (ncells (wrk outer salt))]) ∧ Below w.heap.size w w' := by
  have z38 := ae.zero23
  obtain ⟨Z, hZ⟩ : ∃ Z, Z = ncells (zeros 32) := ⟨_, rfl⟩
  rw [← hZ] at z38
  have hmac := macN_bts outer hs.2
  have ZL : Hid (∀ l : List Nat, l.length = 32 → Z.size = (ncells l).size) := fun l hl => by rw [hZ]; exact z23 hl
  have LM := Lib.hid hmac.1
  have LC := Lib.hid (chk_bts (outer := outer) hs.2).1
  have LW := Lib.hid (wrk_bts (outer := outer) hs.2).1
  have h2w : 2 ≤ w.heap.size := by have := hG.lt; omega
  have EX : Hid (∀ (W : World) (g k : Nat), sh.Glob W → W.heap[g]? = some (.cells (ncells outer) 38 (0, 0)) → W.heap[k]? = some (.cells (ncells salt) 37 (0, 0)) → Calls Tryd.prog 41 #[.slice (some ⟨k, 0, none⟩) 32 32, .slice (some ⟨g, 0, none⟩) 32 32] W fun e w' => e = .returned (.agg (ncells (macN salt outer))) ∧ Below W.heap.size W w') :=
    fun W g k hg h1 h2 => extractC _ _ salt outer W (sees32 h2 hs) (sees32 h1 ho) (by rw [hs.1]; omega) (by rw [ho.1]; omega) hg
  have D1 : Hid (∀ (W : World), sh.Glob W → Calls Tryd.prog 42 #[.agg (ncells (macN salt outer)), .string ⟨#[99, 104, 101, 99, 107]⟩, .int .u64 0] W fun e w' => e = .returned (.agg (ncells (chk outer salt))) ∧ Below W.heap.size W w') :=
    fun W hg => deriveC _ nCheck 0 (by omega) W hmac nCheck_byt (by decide) hg _ (by kernel_rfl)
  have D2 : Hid (∀ (W : World), sh.Glob W → Calls Tryd.prog 42 #[.agg (ncells (macN salt outer)), .string ⟨#[119, 114, 97, 112]⟩, .int .u64 0] W fun e w' => e = .returned (.agg (ncells (wrk outer salt))) ∧ Below W.heap.size W w') :=
    fun W hg => deriveC _ nWrap 0 (by omega) W hmac nWrap_byt (by decide) hg _ (by kernel_rfl)
  obtain ⟨W0, hW0⟩ : ∃ W0, W0 = (((w.alloc (.cells (ncells outer) 38)).alloc (.cells (ncells salt) 37)).alloc (.cells Z 38)).alloc (.cells Z 38) := ⟨_, rfl⟩
  have b1 : Below w.heap.size w (w.alloc (.cells (ncells outer) 38)) := (Below.refl _ _).alloc (Nat.le_refl _) _
  have b2 := b1.alloc (by simp) (.cells (ncells salt) 37)
  have b3 := b2.alloc (by simp <;> omega) (.cells Z 38)
  have b4 := b3.alloc (by simp <;> omega) (.cells Z 38)
  have HB : Hid (Below w.heap.size w W0) := by rw [hW0]; exact b4
  have sz : W0.heap.size = w.heap.size + 4 := by rw [hW0]; simp
  have G0 : Hid (W0.heap[w.heap.size]? = some (.cells (ncells outer) 38 (0, 0))) := by
    show _ = _
    rw [hW0, Below.heap_alloc _ _ _ (by simp <;> omega), Below.heap_alloc _ _ _ (by simp <;> omega), Below.heap_alloc _ _ _ (by simp)]; exact heap_alloc_new w _
  have G1 : Hid (W0.heap[w.heap.size + 1]? = some (.cells (ncells salt) 37 (0, 0))) := by
    show _ = _
    rw [hW0, Below.heap_alloc _ _ _ (by simp <;> omega), Below.heap_alloc _ _ _ (by simp)]; exact heap_alloc2_new w _ _
  have G2 : Hid (W0.heap[w.heap.size + 1 + 1]? = some (.cells Z 38 (0, 0))) := by
    show _ = _
    rw [hW0, Below.heap_alloc _ _ _ (by simp)]
    have := heap_alloc_new ((w.alloc (.cells (ncells outer) 38)).alloc (.cells (ncells salt) 37)) (.cells Z 38)
    simpa using this
  have G3 : Hid (W0.heap[w.heap.size + 1 + 1 + 1]? = some (.cells Z 38 (0, 0))) := by
    show _ = _
    have := heap_alloc_new (((w.alloc (.cells (ncells outer) 38)).alloc (.cells (ncells salt) 37)).alloc (.cells Z 38)) (.cells Z 38)
    rw [hW0]
    simpa using this
  have HG := Lib.hid (hG.below b4 h2w)
  rw [← hW0] at HG
  have H2 : 2 ≤ W0.heap.size := by omega
  have HW0 := Lib.hid hW0
  have SZ := Lib.hid sz
  have HC : Hid (chk outer salt = derN (macN salt outer) nCheck 0) := rfl
  clear hW0 sz b1 b2 b3 b4 hmac ho hs hG hZ
  generalize macN salt outer = M at LM EX D1 D2
  generalize chk outer salt = CK at LC D1 ⊢
  generalize wrk outer salt = WK at LW D2 ⊢
  have A37 := arr37
  have A38 := arr38
  go_enter Tryd.func29, Tryd.ntmps29
  go_wp2_with fail
  rw [← HW0.out]
  go_cut [6] (fun s6 wx => ∃ g6, s6 = .pointer (some ⟨g6, 0, none⟩) ∧ wx.heap[g6]? = some (.cells (ncells M) 38 (0, 0)) ∧ W0.heap.size ≤ g6 ∧ Below W0.heap.size W0 wx)
  case first =>
    refine wp_region_held_drew (S := fun W => Below W0.heap.size W0 W) (by kernel_rfl) ((Below.refl _ _).drew) (fun hS => ?_)
    have hb0 : Below W0.heap.size W0 W0.drew := (Below.refl _ _).drew
    have qG0 := (hb0.block _ (blk_lt G0.out)).trans G0.out
    have qG1 := (hb0.block _ (blk_lt G1.out)).trans G1.out
    have qHG := HG.out.below hb0 HG.out.lt
    clear hb0 G0 G1 HG
    generalize W0.drew = Was at hS qG0 qG1 qHG ⊢
    have G0 := Lib.hid qG0
    have G1 := Lib.hid qG1
    have HG := Lib.hid qHG
    clear qG0 qG1 qHG
    refine' wpAnyH_take (i := 0) ?h1x0a ?hsx0a ?hfx0a ?hrx0a ?hQx0a (Or.inl ⟨?hwx0a, ?hyx0a⟩) hS ?restx0a
    case h1x0a => (simp only [List.getElem?_toArray, List.getElem?_cons_zero]; rfl)
    case hsx0a => kernel_rfl
    case hfx0a => kernel_rfl
    case hrx0a => kernel_rfl
    case hQx0a => exact fun _ _ _ h => h
    case hwx0a => rfl
    case hyx0a =>
      intro W hW
      go_simp
      try with_reducible rfl
    simp only [Act.put, List.setIfInBounds_toArray, List.set_cons_succ, List.set_cons_zero]
    refine' wpAnyH_take (i := 1) ?h1x1a ?hsx1a ?hfx1a ?hrx1a ?hQx1a (Or.inl ⟨?hwx1a, ?hyx1a⟩) hS ?restx1a
    case h1x1a => (simp only [List.getElem?_toArray, List.getElem?_cons_succ, List.getElem?_cons_zero]; rfl)
    case hsx1a => kernel_rfl
    case hfx1a => kernel_rfl
    case hrx1a => kernel_rfl
    case hQx1a => exact fun _ _ _ h => h
    case hwx1a => rfl
    case hyx1a =>
      intro W hW
      go_simp
      try with_reducible rfl
    simp only [Act.put, List.setIfInBounds_toArray, List.set_cons_succ, List.set_cons_zero]
    refine wpAnyH_ready (rs := [2, 3]) (by kernel_rfl) (by simp) ?_
    refine' (AllReadyH.cons ?hoc2a (fun K hK => ?stc2a) (AllReadyH.cons ?hoc3a (fun K hK => ?stc3a) AllReadyH.nil))
    case hoc2a => (simp only [List.getElem?_toArray, List.getElem?_cons_succ, List.getElem?_cons_zero]; rfl)
    case hoc3a => (simp only [List.getElem?_toArray, List.getElem?_cons_succ, List.getElem?_cons_zero]; rfl)
    case stc2a =>
      go_simp
      refine (EX.out Was _ _ HG.out G0.out G1.out).mono ?_
      rintro e Wax2 ⟨rfl, hb⟩
      have G0 := Lib.hid ((hb.block _ (blk_lt G0.out)).trans G0.out)
      have G1 := Lib.hid ((hb.block _ (blk_lt G1.out)).trans G1.out)
      have HG := Lib.hid (HG.out.below hb HG.out.lt)
      go_wp2_with fail
      refine hK.out _ _ (hS.trans (hb.mono hS.size)) (fun hHeld => ?_)
      clear hK K
      try simp only [Act.put, List.setIfInBounds_toArray, List.set_cons_succ, List.set_cons_zero]
      clear hS
      have hS := hHeld
      clear hHeld
      clear hb
      refine wpAnyH_ready (rs := [3]) (by kernel_rfl) (by simp) ?_
      refine' (AllReadyH.cons ?hoc3ax2 (fun K hK => ?stc3ax2) AllReadyH.nil)
      case hoc3ax2 => (simp only [List.getElem?_toArray, List.getElem?_cons_succ, List.getElem?_cons_zero]; rfl)
      go_simp
      have hb := (Below.refl Wax2.heap.size Wax2).alloc (Nat.le_refl _) (.cells Z 38)
      refine hK.out _ _ (hS.trans (hb.mono hS.size)) (fun hHeld => ?_)
      clear hK K
      try simp only [Act.put, List.setIfInBounds_toArray, List.set_cons_succ, List.set_cons_zero]
      have qF6 := heap_alloc_new Wax2 (.cells Z 38)
      have hg6 := hS.size
      have qG0 := (hb.block _ (blk_lt G0.out)).trans G0.out
      have qG1 := (hb.block _ (blk_lt G1.out)).trans G1.out
      have qHG := HG.out.below hb HG.out.lt
      clear hS
      have hS := hHeld
      clear hHeld
      clear hb
      clear G0 G1 HG
      generalize Wax2.alloc (.cells Z 38) = Wax2x3 at *
      generalize Wax2.heap.size = g6 at *
      have G0 := Lib.hid qG0
      have G1 := Lib.hid qG1
      have HG := Lib.hid qHG
      have F6 := Lib.hid qF6
      clear qG0 qG1 qHG qF6
      refine wpAnyH_ready (rs := [4]) (by kernel_rfl) (by simp) ?_
      refine' (AllReadyH.cons ?hoc4ax2x3 (fun K hK => ?stc4ax2x3) AllReadyH.nil)
      case hoc4ax2x3 => (simp only [List.getElem?_toArray, List.getElem?_cons_succ, List.getElem?_cons_zero]; rfl)
      refine step_store_row rfl 38 (.tmp 6) (.tmp 9) rfl g6 (ncells M) rfl rfl 38 _ F6.out (i23 LM.out) (ZL.out _ LM.out) (none_ _) ?_
      refine hK.out _ _ (hS.trans (below_row _ _ hg6)) (fun hHeld => ?_)
      clear hK K
      simp only [Act.put]
      have qF6 := setRow_heap _ g6 _ (ncells M) _ _ F6.out
      have qG0 := (setRow_other _ _ _ (ncells M) (show w.heap.size ≠ g6 from (by have := hg6; have := SZ.out; omega))).trans G0.out
      have qG1 := (setRow_other _ _ _ (ncells M) (show (w.heap.size + 1) ≠ g6 from (by have := hg6; have := SZ.out; omega))).trans G1.out
      have qHG := HG.out.below (below_row (B := 2) _ (ncells M) (by have := hg6; have := H2; omega)) (Nat.le_refl _)
      clear hS
      have hS := hHeld
      clear hHeld
      clear G0 G1 HG F6
      generalize Wax2x3.setRow g6 (ncells M) = Wax2x3x4 at *
      have G0 := Lib.hid qG0
      have G1 := Lib.hid qG1
      have HG := Lib.hid qHG
      have F6 := Lib.hid qF6
      clear qG0 qG1 qHG qF6
      refine wpAnyH_done (by kernel_rfl) ?_ _
      go_wp2_with fail
      go_meet
      exact ⟨g6, rfl, F6.out, hg6, hS⟩
    case stc3a =>
      go_simp
      have hb := (Below.refl Was.heap.size Was).alloc (Nat.le_refl _) (.cells Z 38)
      refine hK.out _ _ (hS.trans (hb.mono hS.size)) (fun hHeld => ?_)
      clear hK K
      try simp only [Act.put, List.setIfInBounds_toArray, List.set_cons_succ, List.set_cons_zero]
      have qF6 := heap_alloc_new Was (.cells Z 38)
      have hg6 := hS.size
      have qG0 := (hb.block _ (blk_lt G0.out)).trans G0.out
      have qG1 := (hb.block _ (blk_lt G1.out)).trans G1.out
      have qHG := HG.out.below hb HG.out.lt
      clear hS
      have hS := hHeld
      clear hHeld
      clear hb
      clear G0 G1 HG
      generalize Was.alloc (.cells Z 38) = Wax3 at *
      generalize Was.heap.size = g6 at *
      have G0 := Lib.hid qG0
      have G1 := Lib.hid qG1
      have HG := Lib.hid qHG
      have F6 := Lib.hid qF6
      clear qG0 qG1 qHG qF6
      refine wpAnyH_ready (rs := [2]) (by kernel_rfl) (by simp) ?_
      refine' (AllReadyH.cons ?hoc2ax3 (fun K hK => ?stc2ax3) AllReadyH.nil)
      case hoc2ax3 => (simp only [List.getElem?_toArray, List.getElem?_cons_succ, List.getElem?_cons_zero]; rfl)
      go_simp
      refine (EX.out Wax3 _ _ HG.out G0.out G1.out).mono ?_
      rintro e Wax3x2 ⟨rfl, hb⟩
      have G0 := Lib.hid ((hb.block _ (blk_lt G0.out)).trans G0.out)
      have G1 := Lib.hid ((hb.block _ (blk_lt G1.out)).trans G1.out)
      have HG := Lib.hid (HG.out.below hb HG.out.lt)
      have F6 := Lib.hid ((hb.block _ (blk_lt F6.out)).trans F6.out)
      go_wp2_with fail
      refine hK.out _ _ (hS.trans (hb.mono hS.size)) (fun hHeld => ?_)
      clear hK K
      try simp only [Act.put, List.setIfInBounds_toArray, List.set_cons_succ, List.set_cons_zero]
      clear hS
      have hS := hHeld
      clear hHeld
      clear hb
      refine wpAnyH_ready (rs := [4]) (by kernel_rfl) (by simp) ?_
      refine' (AllReadyH.cons ?hoc4ax3x2 (fun K hK => ?stc4ax3x2) AllReadyH.nil)
      case hoc4ax3x2 => (simp only [List.getElem?_toArray, List.getElem?_cons_succ, List.getElem?_cons_zero]; rfl)
      refine step_store_row rfl 38 (.tmp 6) (.tmp 9) rfl g6 (ncells M) rfl rfl 38 _ F6.out (i23 LM.out) (ZL.out _ LM.out) (none_ _) ?_
      refine hK.out _ _ (hS.trans (below_row _ _ hg6)) (fun hHeld => ?_)
      clear hK K
      simp only [Act.put]
      have qF6 := setRow_heap _ g6 _ (ncells M) _ _ F6.out
      have qG0 := (setRow_other _ _ _ (ncells M) (show w.heap.size ≠ g6 from (by have := hg6; have := SZ.out; omega))).trans G0.out
      have qG1 := (setRow_other _ _ _ (ncells M) (show (w.heap.size + 1) ≠ g6 from (by have := hg6; have := SZ.out; omega))).trans G1.out
      have qHG := HG.out.below (below_row (B := 2) _ (ncells M) (by have := hg6; have := H2; omega)) (Nat.le_refl _)
      clear hS
      have hS := hHeld
      clear hHeld
      clear G0 G1 HG F6
      generalize Wax3x2.setRow g6 (ncells M) = Wax3x2x4 at *
      have G0 := Lib.hid qG0
      have G1 := Lib.hid qG1
      have HG := Lib.hid qHG
      have F6 := Lib.hid qF6
      clear qG0 qG1 qHG qF6
      refine wpAnyH_done (by kernel_rfl) ?_ _
      go_wp2_with fail
      go_meet
      exact ⟨g6, rfl, F6.out, hg6, hS⟩
  case rest =>
  obtain ⟨g6, rfl, k6, hg6, kb⟩ := hcut
  have F6 := Lib.hid k6
  have HBc := Lib.hid (HB.out.trans (kb.mono HB.out.size))
  have F2 := Lib.hid ((kb.block _ (blk_lt G2.out)).trans G2.out)
  have F3 := Lib.hid ((kb.block _ (blk_lt G3.out)).trans G3.out)
  have HGc := Lib.hid (HG.out.below kb HG.out.lt)
  have HG6 : w.heap.size + 4 ≤ g6 := by have := SZ.out; omega
  clear k6 hg6 kb HB HG G0 G1 G2 G3 EX HW0 SZ H2
  clear W0
  go_wp2_with fail
  refine wp_region_held_drew (S := fun W => Below w.heap.size w W ∧ W.heap[g6]? = some (.cells (ncells M) 38 (0, 0))) (by kernel_rfl) (⟨HBc.out.drew, F6.out⟩) (fun hS => ?_)
  have hb0 : Below wc.heap.size wc wc.drew := (Below.refl _ _).drew
  have qF2 := (hb0.block _ (blk_lt F2.out)).trans F2.out
  have qF3 := (hb0.block _ (blk_lt F3.out)).trans F3.out
  have qHGc := HGc.out.below hb0 HGc.out.lt
  clear hb0 F2 F3 HGc
  generalize wc.drew = Wbs at hS qF2 qF3 qHGc ⊢
  have F2 := Lib.hid qF2
  have F3 := Lib.hid qF3
  have HGc := Lib.hid qHGc
  clear qF2 qF3 qHGc
  refine' wpAnyH_take (i := 0) ?h1x0b ?hsx0b ?hfx0b ?hrx0b ?hQx0b (yieldsIf_load_at ?hwx0b 38 (.tmp 6) ?hopx0b g6 0 rfl (ncells M) _ (fun W hW => range_row hW.2) Tryd.underlying38 rfl ?hix0b) hS ?restx0b
  case h1x0b => (simp only [List.getElem?_toArray, List.getElem?_cons_zero]; rfl)
  case hopx0b => rfl
  case hsx0b => kernel_rfl
  case hfx0b => kernel_rfl
  case hrx0b => kernel_rfl
  case hQx0b => exact fun _ _ _ h => h
  case hwx0b => rfl
  case hix0b => exact (i23 LM.out)
  simp only [Act.put, List.setIfInBounds_toArray, List.set_cons_succ, List.set_cons_zero]
  refine' wpAnyH_take (i := 2) ?h1x2b ?hsx2b ?hfx2b ?hrx2b ?hQx2b (yieldsIf_load_at ?hwx2b 38 (.tmp 6) ?hopx2b g6 0 rfl (ncells M) _ (fun W hW => range_row hW.2) Tryd.underlying38 rfl ?hix2b) hS ?restx2b
  case h1x2b => (simp only [List.getElem?_toArray, List.getElem?_cons_succ, List.getElem?_cons_zero]; rfl)
  case hopx2b => rfl
  case hsx2b => kernel_rfl
  case hfx2b => kernel_rfl
  case hrx2b => kernel_rfl
  case hQx2b => exact fun _ _ _ h => h
  case hwx2b => rfl
  case hix2b => exact (i23 LM.out)
  simp only [Act.put, List.setIfInBounds_toArray, List.set_cons_succ, List.set_cons_zero]
  refine wpAnyH_ready (rs := [1]) (by kernel_rfl) (by simp) ?_
  refine' (AllReadyH.cons ?hoc1b (fun K hK => ?stc1b) AllReadyH.nil)
  case hoc1b => (simp only [List.getElem?_toArray, List.getElem?_cons_succ, List.getElem?_cons_zero]; rfl)
  go_simp
  refine (D1.out Wbs HGc.out).mono ?_
  rintro e Wbx1 ⟨rfl, hb⟩
  have F2 := Lib.hid ((hb.block _ (blk_lt F2.out)).trans F2.out)
  have F3 := Lib.hid ((hb.block _ (blk_lt F3.out)).trans F3.out)
  have HGc := Lib.hid (HGc.out.below hb HGc.out.lt)
  go_wp2_with fail
  refine hK.out _ _ (⟨hS.1.trans (hb.mono hS.1.size), (hb.block _ (blk_lt hS.2)).trans hS.2⟩) (fun hHeld => ?_)
  clear hK K
  try simp only [Act.put, List.setIfInBounds_toArray, List.set_cons_succ, List.set_cons_zero]
  clear hS
  have hS := hHeld
  clear hHeld
  clear hb
  refine wpAnyH_ready (rs := [3]) (by kernel_rfl) (by simp) ?_
  refine' (AllReadyH.cons ?hoc3bx1 (fun K hK => ?stc3bx1) AllReadyH.nil)
  case hoc3bx1 => (simp only [List.getElem?_toArray, List.getElem?_cons_succ, List.getElem?_cons_zero]; rfl)
  go_simp
  refine (D2.out Wbx1 HGc.out).mono ?_
  rintro e Wbx1x3 ⟨rfl, hb⟩
  have F2 := Lib.hid ((hb.block _ (blk_lt F2.out)).trans F2.out)
  have F3 := Lib.hid ((hb.block _ (blk_lt F3.out)).trans F3.out)
  have HGc := Lib.hid (HGc.out.below hb HGc.out.lt)
  go_wp2_with fail
  refine hK.out _ _ (⟨hS.1.trans (hb.mono hS.1.size), (hb.block _ (blk_lt hS.2)).trans hS.2⟩) (fun hHeld => ?_)
  clear hK K
  try simp only [Act.put, List.setIfInBounds_toArray, List.set_cons_succ, List.set_cons_zero]
  clear hS
  have hS := hHeld
  clear hHeld
  clear hb
  refine wpAnyH_ready (rs := [4]) (by kernel_rfl) (by simp) ?_
  refine' (AllReadyH.cons ?hoc4bx1x3 (fun K hK => ?stc4bx1x3) AllReadyH.nil)
  case hoc4bx1x3 => (simp only [List.getElem?_toArray, List.getElem?_cons_succ, List.getElem?_cons_zero]; rfl)
  refine step_store_row rfl 38 (.tmp 4) (.tmp 11) rfl (w.heap.size + 1 + 1) (ncells CK) rfl rfl 38 _ F2.out (i23 LC.out) (ZL.out _ LC.out) (none_ _) ?_
  refine hK.out _ _ (⟨hS.1.trans (below_row _ _ (by omega)), by rw [setRow_other _ _ _ _ (show g6 ≠ (w.heap.size + 1 + 1) from (by omega))]; exact hS.2⟩) (fun hHeld => ?_)
  clear hK K
  simp only [Act.put]
  have qF2 := setRow_heap _ (w.heap.size + 1 + 1) _ (ncells CK) _ _ F2.out
  have qF3 := (setRow_other _ _ _ (ncells CK) (show (w.heap.size + 1 + 1 + 1) ≠ (w.heap.size + 1 + 1) from (by omega))).trans F3.out
  have qHGc := HGc.out.below (below_row (B := 2) _ (ncells CK) (by omega)) (Nat.le_refl _)
  clear hS
  have hS := hHeld
  clear hHeld
  clear F2 F3 HGc
  generalize Wbx1x3.setRow (w.heap.size + 1 + 1) (ncells CK) = Wbx1x3x4 at *
  have F2 := Lib.hid qF2
  have F3 := Lib.hid qF3
  have HGc := Lib.hid qHGc
  clear qF2 qF3 qHGc
  refine wpAnyH_ready (rs := [5]) (by kernel_rfl) (by simp) ?_
  refine' (AllReadyH.cons ?hoc5bx1x3x4 (fun K hK => ?stc5bx1x3x4) AllReadyH.nil)
  case hoc5bx1x3x4 => (simp only [List.getElem?_toArray, List.getElem?_cons_succ, List.getElem?_cons_zero]; rfl)
  refine step_store_row rfl 38 (.tmp 5) (.tmp 13) rfl (w.heap.size + 1 + 1 + 1) (ncells WK) rfl rfl 38 _ F3.out (i23 LW.out) (ZL.out _ LW.out) (none_ _) ?_
  refine hK.out _ _ (⟨hS.1.trans (below_row _ _ (by omega)), by rw [setRow_other _ _ _ _ (show g6 ≠ (w.heap.size + 1 + 1 + 1) from (by omega))]; exact hS.2⟩) (fun hHeld => ?_)
  clear hK K
  simp only [Act.put]
  have qF3 := setRow_heap _ (w.heap.size + 1 + 1 + 1) _ (ncells WK) _ _ F3.out
  have qF2 := (setRow_other _ _ _ (ncells WK) (show (w.heap.size + 1 + 1) ≠ (w.heap.size + 1 + 1 + 1) from (by omega))).trans F2.out
  have qHGc := HGc.out.below (below_row (B := 2) _ (ncells WK) (by omega)) (Nat.le_refl _)
  clear hS
  have hS := hHeld
  clear hHeld
  clear F2 F3 HGc
  generalize Wbx1x3x4.setRow (w.heap.size + 1 + 1 + 1) (ncells WK) = Wbx1x3x4x5 at *
  have F2 := Lib.hid qF2
  have F3 := Lib.hid qF3
  have HGc := Lib.hid qHGc
  clear qF2 qF3 qHGc
  refine wpAnyH_done (by kernel_rfl) ?_ _
  go_wp2_with fail
  refine bodyPost_ret (v := .tuple #[.agg (ncells CK), .agg (ncells WK)]) (results_two_rows Tryd.results29 _ _ (w.heap.size + 1 + 1) (w.heap.size + 1 + 1 + 1) 38 _ _ (0, 0) (0, 0) _ rfl rfl F2.out F3.out Tryd.underlying38 rfl (i23 LC.out) (i23 LW.out)) rfl ⟨rfl, hS.1⟩
open Go.RowKit Go.Proofs.YtpkeofioobmmoaaDoor.ae
/-- A volume's keys. -/
def vone (m : List Nat) (n : Nat) : List Nat := derN m nOne n
def vtwo (m : List Nat) (n : Nat) : List Nat := derN m nTwo n
theorem vone_bts {m : List Nat} (n : Nat) (hm : ae.Bts 32 m) : ae.Bts 32 (vone m n) := derN_bts _ _ hm.2
theorem vtwo_bts {m : List Nat} (n : Nat) (hm : ae.Bts 32 m) : ae.Bts 32 (vtwo m n) := derN_bts _ _ hm.2
set_option maxRecDepth 100000 in
set_option maxHeartbeats 4000000 in
theorem volume (m : List Nat) (hm : ae.Bts 32 m) (n : Nat) (hn : n ≤ 18446744073709551615) (w : World) (hG : sh.Glob w) :
    Calls Tryd.prog 49 #[.agg (ncells m), .int .u64 n] w fun e w' => e = .returned (.tuple #[.agg (ncells (vone m n)), .agg (ncells (vtwo m n))]) ∧ Below w.heap.size w w' := by
  have z38 := ae.zero23
  obtain ⟨Z, hZ⟩ : ∃ Z, Z = ncells (zeros 32) := ⟨_, rfl⟩
  rw [← hZ] at z38
  have ZL : Hid (∀ l : List Nat, l.length = 32 → Z.size = (ncells l).size) := fun l hl => by rw [hZ]; exact z23 hl
  have LM := Lib.hid hm.1
  have LC := Lib.hid (vone_bts n hm).1
  have LW := Lib.hid (vtwo_bts n hm).1
  have h2w : 2 ≤ w.heap.size := by have := hG.lt; omega
  have D1 : Hid (∀ (W : World), sh.Glob W → Calls Tryd.prog 42 #[.agg (ncells m), .string ⟨#[111, 110, 101]⟩, .int .u64 n] W fun e w' => e = .returned (.agg (ncells (vone m n))) ∧ Below W.heap.size W w') :=
    fun W hg => deriveC _ nOne n hn W hm nOne_byt (by decide) hg _ (by kernel_rfl)
  have D2 : Hid (∀ (W : World), sh.Glob W → Calls Tryd.prog 42 #[.agg (ncells m), .string ⟨#[116, 119, 111]⟩, .int .u64 n] W fun e w' => e = .returned (.agg (ncells (vtwo m n))) ∧ Below W.heap.size W w') :=
    fun W hg => deriveC _ nTwo n hn W hm nTwo_byt (by decide) hg _ (by kernel_rfl)
  obtain ⟨W0, hW0⟩ : ∃ W0, W0 = ((w.alloc (.cells (ncells m) 38)).alloc (.cells Z 38)).alloc (.cells Z 38) := ⟨_, rfl⟩
  have b1 : Below w.heap.size w (w.alloc (.cells (ncells m) 38)) := (Below.refl _ _).alloc (Nat.le_refl _) _
  have b2 := b1.alloc (by simp) (.cells Z 38)
  have b3 := b2.alloc (by simp <;> omega) (.cells Z 38)
  have HB : Hid (Below w.heap.size w W0) := by rw [hW0]; exact b3
  have G0 : Hid (W0.heap[w.heap.size]? = some (.cells (ncells m) 38 (0, 0))) := by
    show _ = _
    rw [hW0, Below.heap_alloc _ _ _ (by simp <;> omega), Below.heap_alloc _ _ _ (by simp)]; exact heap_alloc_new w _
  have G1 : Hid (W0.heap[w.heap.size + 1]? = some (.cells Z 38 (0, 0))) := by
    show _ = _
    rw [hW0, Below.heap_alloc _ _ _ (by simp <;> omega)]; exact heap_alloc2_new w _ _
  have G2 : Hid (W0.heap[w.heap.size + 1 + 1]? = some (.cells Z 38 (0, 0))) := by
    show _ = _
    have := heap_alloc_new ((w.alloc (.cells (ncells m) 38)).alloc (.cells Z 38)) (.cells Z 38)
    rw [hW0]
    simpa using this
  have HG := Lib.hid (hG.below b3 h2w)
  rw [← hW0] at HG
  have HW0 := Lib.hid hW0
  clear hW0 b1 b2 b3 hm hG hZ hn
  generalize vone m n = CK at LC D1 ⊢
  generalize vtwo m n = WK at LW D2 ⊢
  go_enter Tryd.func49, Tryd.ntmps49
  go_wp2_with fail
  rw [← HW0.out]
  refine wp_region_held_drew (S := fun W => Below w.heap.size w W ∧ W.heap[w.heap.size]? = some (.cells (ncells m) 38 (0, 0))) (by kernel_rfl) (⟨HB.out.drew, G0.out⟩) (fun hS => ?_)
  have hb0 : Below W0.heap.size W0 W0.drew := (Below.refl _ _).drew
  have qG1 := (hb0.block _ (blk_lt G1.out)).trans G1.out
  have qG2 := (hb0.block _ (blk_lt G2.out)).trans G2.out
  have qHG := HG.out.below hb0 HG.out.lt
  clear hb0 G1 G2 HG
  generalize W0.drew = Wbs at hS qG1 qG2 qHG ⊢
  have G1 := Lib.hid qG1
  have G2 := Lib.hid qG2
  have HG := Lib.hid qHG
  clear qG1 qG2 qHG
  refine' wpAnyH_take (i := 0) ?h1x0b ?hsx0b ?hfx0b ?hrx0b ?hQx0b (yieldsIf_load_at ?hwx0b 38 (.tmp 2) ?hopx0b w.heap.size 0 rfl (ncells m) _ (fun W hW => range_row hW.2) Tryd.underlying38 rfl ?hix0b) hS ?restx0b
  case h1x0b => (simp only [List.getElem?_toArray, List.getElem?_cons_zero]; rfl)
  case hopx0b => rfl
  case hsx0b => kernel_rfl
  case hfx0b => kernel_rfl
  case hrx0b => kernel_rfl
  case hQx0b => exact fun _ _ _ h => h
  case hwx0b => rfl
  case hix0b => exact (i23 LM.out)
  simp only [Act.put, List.setIfInBounds_toArray, List.set_cons_succ, List.set_cons_zero]
  refine' wpAnyH_take (i := 1) ?h1x1b ?hsx1b ?hfx1b ?hrx1b ?hQx1b (Or.inl ⟨?hwx1b, ?hyx1b⟩) hS ?restx1b
  case h1x1b => (simp only [List.getElem?_toArray, List.getElem?_cons_succ, List.getElem?_cons_zero]; rfl)
  case hsx1b => kernel_rfl
  case hfx1b => kernel_rfl
  case hrx1b => kernel_rfl
  case hQx1b => exact fun _ _ _ h => h
  case hwx1b => rfl
  case hyx1b =>
    intro W hW
    go_simp
    try with_reducible rfl
  simp only [Act.put, List.setIfInBounds_toArray, List.set_cons_succ, List.set_cons_zero]
  refine' wpAnyH_take (i := 3) ?h1x3b ?hsx3b ?hfx3b ?hrx3b ?hQx3b (yieldsIf_load_at ?hwx3b 38 (.tmp 2) ?hopx3b w.heap.size 0 rfl (ncells m) _ (fun W hW => range_row hW.2) Tryd.underlying38 rfl ?hix3b) hS ?restx3b
  case h1x3b => (simp only [List.getElem?_toArray, List.getElem?_cons_succ, List.getElem?_cons_zero]; rfl)
  case hopx3b => rfl
  case hsx3b => kernel_rfl
  case hfx3b => kernel_rfl
  case hrx3b => kernel_rfl
  case hQx3b => exact fun _ _ _ h => h
  case hwx3b => rfl
  case hix3b => exact (i23 LM.out)
  simp only [Act.put, List.setIfInBounds_toArray, List.set_cons_succ, List.set_cons_zero]
  refine' wpAnyH_take (i := 4) ?h1x4b ?hsx4b ?hfx4b ?hrx4b ?hQx4b (Or.inl ⟨?hwx4b, ?hyx4b⟩) hS ?restx4b
  case h1x4b => (simp only [List.getElem?_toArray, List.getElem?_cons_succ, List.getElem?_cons_zero]; rfl)
  case hsx4b => kernel_rfl
  case hfx4b => kernel_rfl
  case hrx4b => kernel_rfl
  case hQx4b => exact fun _ _ _ h => h
  case hwx4b => rfl
  case hyx4b =>
    intro W hW
    go_simp
    try with_reducible rfl
  simp only [Act.put, List.setIfInBounds_toArray, List.set_cons_succ, List.set_cons_zero]
  refine wpAnyH_ready (rs := [2]) (by kernel_rfl) (by simp) ?_
  refine' (AllReadyH.cons ?hoc2b (fun K hK => ?stc2b) AllReadyH.nil)
  case hoc2b => (simp only [List.getElem?_toArray, List.getElem?_cons_succ, List.getElem?_cons_zero]; rfl)
  go_simp
  refine (D1.out Wbs HG.out).mono ?_
  rintro e Wbx2 ⟨rfl, hb⟩
  have G1 := Lib.hid ((hb.block _ (blk_lt G1.out)).trans G1.out)
  have G2 := Lib.hid ((hb.block _ (blk_lt G2.out)).trans G2.out)
  have HG := Lib.hid (HG.out.below hb HG.out.lt)
  go_wp2_with fail
  refine hK.out _ _ (⟨hS.1.trans (hb.mono hS.1.size), (hb.block _ (blk_lt hS.2)).trans hS.2⟩) (fun hHeld => ?_)
  clear hK K
  try simp only [Act.put, List.setIfInBounds_toArray, List.set_cons_succ, List.set_cons_zero]
  clear hS
  have hS := hHeld
  clear hHeld
  clear hb
  refine wpAnyH_ready (rs := [5]) (by kernel_rfl) (by simp) ?_
  refine' (AllReadyH.cons ?hoc5bx2 (fun K hK => ?stc5bx2) AllReadyH.nil)
  case hoc5bx2 => (simp only [List.getElem?_toArray, List.getElem?_cons_succ, List.getElem?_cons_zero]; rfl)
  go_simp
  refine (D2.out Wbx2 HG.out).mono ?_
  rintro e Wbx2x5 ⟨rfl, hb⟩
  have G1 := Lib.hid ((hb.block _ (blk_lt G1.out)).trans G1.out)
  have G2 := Lib.hid ((hb.block _ (blk_lt G2.out)).trans G2.out)
  have HG := Lib.hid (HG.out.below hb HG.out.lt)
  go_wp2_with fail
  refine hK.out _ _ (⟨hS.1.trans (hb.mono hS.1.size), (hb.block _ (blk_lt hS.2)).trans hS.2⟩) (fun hHeld => ?_)
  clear hK K
  try simp only [Act.put, List.setIfInBounds_toArray, List.set_cons_succ, List.set_cons_zero]
  clear hS
  have hS := hHeld
  clear hHeld
  clear hb
  refine wpAnyH_ready (rs := [6]) (by kernel_rfl) (by simp) ?_
  refine' (AllReadyH.cons ?hoc6bx2x5 (fun K hK => ?stc6bx2x5) AllReadyH.nil)
  case hoc6bx2x5 => (simp only [List.getElem?_toArray, List.getElem?_cons_succ, List.getElem?_cons_zero]; rfl)
  refine step_store_row rfl 38 (.tmp 4) (.tmp 8) rfl (w.heap.size + 1) (ncells CK) rfl rfl 38 _ G1.out (i23 LC.out) (ZL.out _ LC.out) (none_ _) ?_
  refine hK.out _ _ (⟨hS.1.trans (below_row _ _ (by omega)), by rw [setRow_other _ _ _ _ (show w.heap.size ≠ (w.heap.size + 1) from (by omega))]; exact hS.2⟩) (fun hHeld => ?_)
  clear hK K
  simp only [Act.put]
  have qG1 := setRow_heap _ (w.heap.size + 1) _ (ncells CK) _ _ G1.out
  have qG2 := (setRow_other _ _ _ (ncells CK) (show (w.heap.size + 1 + 1) ≠ (w.heap.size + 1) from (by omega))).trans G2.out
  have qHG := HG.out.below (below_row (B := 2) _ (ncells CK) (by omega)) (Nat.le_refl _)
  clear hS
  have hS := hHeld
  clear hHeld
  clear G1 G2 HG
  generalize Wbx2x5.setRow (w.heap.size + 1) (ncells CK) = Wbx2x5x6 at *
  have G1 := Lib.hid qG1
  have G2 := Lib.hid qG2
  have HG := Lib.hid qHG
  clear qG1 qG2 qHG
  refine wpAnyH_ready (rs := [7]) (by kernel_rfl) (by simp) ?_
  refine' (AllReadyH.cons ?hoc7bx2x5x6 (fun K hK => ?stc7bx2x5x6) AllReadyH.nil)
  case hoc7bx2x5x6 => (simp only [List.getElem?_toArray, List.getElem?_cons_succ, List.getElem?_cons_zero]; rfl)
  refine step_store_row rfl 38 (.tmp 5) (.tmp 11) rfl (w.heap.size + 1 + 1) (ncells WK) rfl rfl 38 _ G2.out (i23 LW.out) (ZL.out _ LW.out) (none_ _) ?_
  refine hK.out _ _ (⟨hS.1.trans (below_row _ _ (by omega)), by rw [setRow_other _ _ _ _ (show w.heap.size ≠ (w.heap.size + 1 + 1) from (by omega))]; exact hS.2⟩) (fun hHeld => ?_)
  clear hK K
  simp only [Act.put]
  have qG2 := setRow_heap _ (w.heap.size + 1 + 1) _ (ncells WK) _ _ G2.out
  have qG1 := (setRow_other _ _ _ (ncells WK) (show (w.heap.size + 1) ≠ (w.heap.size + 1 + 1) from (by omega))).trans G1.out
  have qHG := HG.out.below (below_row (B := 2) _ (ncells WK) (by omega)) (Nat.le_refl _)
  clear hS
  have hS := hHeld
  clear hHeld
  clear G1 G2 HG
  generalize Wbx2x5x6.setRow (w.heap.size + 1 + 1) (ncells WK) = Wbx2x5x6x7 at *
  have G1 := Lib.hid qG1
  have G2 := Lib.hid qG2
  have HG := Lib.hid qHG
  clear qG1 qG2 qHG
  refine wpAnyH_done (by kernel_rfl) ?_ _
  go_wp2_with fail
  refine bodyPost_ret (v := .tuple #[.agg (ncells CK), .agg (ncells WK)]) (results_two_rows Tryd.results49 _ _ (w.heap.size + 1) (w.heap.size + 1 + 1) 38 _ _ (0, 0) (0, 0) _ rfl rfl G1.out G2.out Tryd.underlying38 rfl (i23 LC.out) (i23 LW.out)) rfl ⟨rfl, hS.1⟩
/-- A block, sealed, and opened. -/
def sealN (m : List Nat) (n s : Nat) (b : List Nat) : List Nat := sct (enc (vone m n)) (enc (vtwo m n) (twk s)) b 32
def openN (m : List Nat) (n s : Nat) (b : List Nat) : List Nat := sct (dec (vone m n)) (enc (vtwo m n) (twk s)) b 32

set_option maxRecDepth 100000 in
set_option maxHeartbeats 4000000 in
theorem sealTurn (m b : List Nat) (hm : ae.Bts 32 m) (n s : Nat) (hn : n ≤ 18446744073709551615) (x : Option Addr) (cap : Nat) (w : World) (hs : ae.Sees w (.slice x 512 cap) b) (hL : 512 = b.length) (hG : sh.Glob w) :
    Calls Tryd.prog 33 #[.func (.func 34) #[] #[], .agg (ncells m), .int .u64 n, .int .u64 s, .slice x 512 cap] w (SecP w 512 (sealN m n s b)) := by
  have VO : Hid (∀ W : World, sh.Glob W → Calls Tryd.prog 49 #[.agg (ncells m), .int .u64 n] W fun e w' => e = .returned (.tuple #[.agg (ncells (vone m n)), .agg (ncells (vtwo m n))]) ∧ Below W.heap.size W w') := fun W hg => volume m hm n hn W hg
  have NX : Hid (∀ W : World, Calls Tryd.prog 48 #[.agg (ncells (vone m n)), .agg (ncells (vtwo m n))] W (NewX W (flat (vone m n)) (flat (vtwo m n)))) := fun W => newX _ _ (vone_bts n hm) (vtwo_bts n hm) W
  have TW : Hid (∀ W : World, Calls Tryd.prog 50 #[.int .u64 s] W fun e w' => e = .returned (.agg (ncells (twk s))) ∧ Below W.heap.size W w') := fun W => tweakC s W
  have TX : Hid (∀ (g : Nat) (W : World), XIat W g (flat (vone m n)) (flat (vtwo m n)) → ae.Sees W (.slice x 512 cap) b → Calls Tryd.prog 34 #[.pointer (some ⟨g, 0, none⟩), .agg (ncells (twk s)), .slice x 512 cap] W (SecP W 512 (sealN m n s b))) :=
    fun g W h hv => turnX (vone m n) (vtwo m n) (twk s) b (vone_bts n hm) (vtwo_bts n hm) (twk_bts s) g 512 32 x cap W h hv hL rfl (by omega) (by omega)
  have LM := Lib.hid hm.1
  have HB : Hid (Below w.heap.size w (w.alloc (.cells (ncells m) 38))) := (Below.refl _ _).alloc (Nat.le_refl _) _
  have G0 := Lib.hid (heap_alloc_new w (.cells (ncells m) 38))
  have HG := Lib.hid (hG.below HB.out hG.lt)
  have HS := Lib.hid (hs.below HB.out)
  clear hm hs hL hG hn
  generalize sealN m n s b = J at TX ⊢
  generalize vone m n = K1 at VO NX TX
  generalize vtwo m n = K2 at VO NX TX
  generalize flat K1 = F1 at NX TX
  generalize flat K2 = F2 at NX TX
  generalize twk s = T at TW TX
  go_enter Tryd.func33, Tryd.ntmps33
  go_wp2_with (refine wpList_load_row rfl 38 (.tmp 6) rfl w.heap.size rfl 38 (ncells m) (0, 0) _ G0.out Tryd.underlying38 rfl (i23 LM.out) ?_)
  refine (VO.out _ HG.out).mono ?_
  rintro e w1 ⟨rfl, hb⟩
  have B1 := Lib.hid (HB.out.trans (hb.mono HB.out.size))
  have S1 := Lib.hid (HS.out.below hb)
  clear hb HB HS HG
  go_wp2_with fail
  refine (NX.out _).mono ?_
  rintro e w2 ⟨g, rfl, hx, hb⟩
  have B2 := Lib.hid (B1.out.trans (hb.mono B1.out.size))
  have S2 := Lib.hid (S1.out.below hb)
  have X2 := Lib.hid hx
  clear hb hx B1 S1
  go_wp2_with fail
  refine (TW.out _).mono ?_
  rintro e w3 ⟨rfl, hb⟩
  have B3 := Lib.hid (B2.out.trans (hb.mono B2.out.size))
  have S3 := Lib.hid (S2.out.below hb)
  have X3 := Lib.hid (X2.out.below hb)
  clear hb B2 S2 X2
  go_wp2_with fail
  refine (TX.out _ _ X3.out S3.out).mono ?_
  rintro e w4 ⟨q, rfl, hq, hr, hb⟩
  have B4 := Lib.hid (B3.out.trans (hb.mono B3.out.size))
  have Q4 := Lib.hid (Nat.le_trans B3.out.size hq)
  have R4 := Lib.hid hr
  clear hb hr hq B3
  go_wp2_with fail
  go_ret2
  exact ⟨q, rfl, Q4.out, R4.out, B4.out⟩
set_option maxRecDepth 100000 in
theorem sealTurnNo (m : List Nat) (n s : Nat) (x : Option Addr) (L cap : Nat) (hL : L ≠ 512) (w : World) :
    Calls Tryd.prog 33 #[.func (.func 34) #[] #[], .agg (ncells m), .int .u64 n, .int .u64 s, .slice x L cap] w fun e w' => e = .returned (.tuple #[.slice none 0 0, .int .i64 3]) ∧ Below w.heap.size w w' := by
  have hl : ((L : Int) != 512) = true := by simp; omega
  have HB : Hid (Below w.heap.size w (w.alloc (.cells (ncells m) 38))) := (Below.refl _ _).alloc (Nat.le_refl _) _
  clear hL
  go_enter Tryd.func33, Tryd.ntmps33
  go_wp2_with fail
  go_ret2
  exact ⟨rfl, HB.out⟩
set_option maxRecDepth 100000 in
set_option maxHeartbeats 4000000 in
theorem sealC (m b : List Nat) (hm : ae.Bts 32 m) (n s : Nat) (hn : n ≤ 18446744073709551615) (x : Option Addr) (cap : Nat) (w : World) (hs : ae.Sees w (.slice x 512 cap) b) (hL : 512 = b.length) (hG : sh.Glob w) :
    Calls Tryd.prog 22 #[.agg (ncells m), .int .u64 n, .int .u64 s, .slice x 512 cap] w (SecP w 512 (sealN m n s b)) := by
  have TX : Hid (∀ (W : World), sh.Glob W → ae.Sees W (.slice x 512 cap) b → Calls Tryd.prog 33 #[.func (.func 34) #[] #[], .agg (ncells m), .int .u64 n, .int .u64 s, .slice x 512 cap] W (SecP W 512 (sealN m n s b))) := fun W hg hv => sealTurn m b hm n s hn x cap W hv hL hg
  have LM := Lib.hid hm.1
  have HB : Hid (Below w.heap.size w (w.alloc (.cells (ncells m) 38))) := (Below.refl _ _).alloc (Nat.le_refl _) _
  have G0 := Lib.hid (heap_alloc_new w (.cells (ncells m) 38))
  have HG := Lib.hid (hG.below HB.out hG.lt)
  have HS := Lib.hid (hs.below HB.out)
  clear hm hs hL hG hn
  generalize sealN m n s b = J at TX ⊢
  go_enter Tryd.func22, Tryd.ntmps22
  go_wp2_with (refine wpList_load_row rfl 38 (.tmp 4) rfl w.heap.size rfl 38 (ncells m) (0, 0) _ G0.out Tryd.underlying38 rfl (i23 LM.out) ?_)
  refine (TX.out _ HG.out HS.out).mono ?_
  rintro e w1 ⟨q, rfl, hq, hr, hb⟩
  have B4 := Lib.hid (HB.out.trans (hb.mono HB.out.size))
  have Q4 := Lib.hid (Nat.le_trans HB.out.size hq)
  have R4 := Lib.hid hr
  clear hb hr hq
  go_wp2_with fail
  go_ret2
  exact ⟨q, rfl, Q4.out, R4.out, B4.out⟩
set_option maxRecDepth 100000 in
set_option maxHeartbeats 4000000 in
theorem sealNo (m : List Nat) (hm : ae.Bts 32 m) (n s : Nat) (x : Option Addr) (L cap : Nat) (hL : L ≠ 512) (w : World) :
    Calls Tryd.prog 22 #[.agg (ncells m), .int .u64 n, .int .u64 s, .slice x L cap] w fun e w' => e = .returned (.tuple #[.slice none 0 0, .int .i64 3]) ∧ Below w.heap.size w w' := by
  have TX : Hid (∀ (W : World), Calls Tryd.prog 33 #[.func (.func 34) #[] #[], .agg (ncells m), .int .u64 n, .int .u64 s, .slice x L cap] W fun e w' => e = .returned (.tuple #[.slice none 0 0, .int .i64 3]) ∧ Below W.heap.size W w') := fun W => sealTurnNo m n s x L cap hL W
  have LM := Lib.hid hm.1
  have HB : Hid (Below w.heap.size w (w.alloc (.cells (ncells m) 38))) := (Below.refl _ _).alloc (Nat.le_refl _) _
  have G0 := Lib.hid (heap_alloc_new w (.cells (ncells m) 38))
  clear hm hL
  go_enter Tryd.func22, Tryd.ntmps22
  go_wp2_with (refine wpList_load_row rfl 38 (.tmp 4) rfl w.heap.size rfl 38 (ncells m) (0, 0) _ G0.out Tryd.underlying38 rfl (i23 LM.out) ?_)
  refine (TX.out _).mono ?_
  rintro e w1 ⟨rfl, hb⟩
  have B4 := Lib.hid (HB.out.trans (hb.mono HB.out.size))
  clear hb
  go_wp2_with fail
  go_ret2
  exact ⟨rfl, B4.out⟩

set_option maxRecDepth 100000 in
set_option maxHeartbeats 4000000 in
theorem openTurn (m b : List Nat) (hm : ae.Bts 32 m) (n s : Nat) (hn : n ≤ 18446744073709551615) (x : Option Addr) (cap : Nat) (w : World) (hs : ae.Sees w (.slice x 512 cap) b) (hL : 512 = b.length) (hG : sh.Glob w) :
    Calls Tryd.prog 33 #[.func (.func 39) #[] #[], .agg (ncells m), .int .u64 n, .int .u64 s, .slice x 512 cap] w (SecP w 512 (openN m n s b)) := by
  have VO : Hid (∀ W : World, sh.Glob W → Calls Tryd.prog 49 #[.agg (ncells m), .int .u64 n] W fun e w' => e = .returned (.tuple #[.agg (ncells (vone m n)), .agg (ncells (vtwo m n))]) ∧ Below W.heap.size W w') := fun W hg => volume m hm n hn W hg
  have NX : Hid (∀ W : World, Calls Tryd.prog 48 #[.agg (ncells (vone m n)), .agg (ncells (vtwo m n))] W (NewX W (flat (vone m n)) (flat (vtwo m n)))) := fun W => newX _ _ (vone_bts n hm) (vtwo_bts n hm) W
  have TW : Hid (∀ W : World, Calls Tryd.prog 50 #[.int .u64 s] W fun e w' => e = .returned (.agg (ncells (twk s))) ∧ Below W.heap.size W w') := fun W => tweakC s W
  have TX : Hid (∀ (g : Nat) (W : World), XIat W g (flat (vone m n)) (flat (vtwo m n)) → ae.Sees W (.slice x 512 cap) b → Calls Tryd.prog 39 #[.pointer (some ⟨g, 0, none⟩), .agg (ncells (twk s)), .slice x 512 cap] W (SecP W 512 (openN m n s b))) :=
    fun g W h hv => backX (vone m n) (vtwo m n) (twk s) b (vone_bts n hm) (vtwo_bts n hm) (twk_bts s) g 512 32 x cap W h hv hL rfl (by omega) (by omega)
  have LM := Lib.hid hm.1
  have HB : Hid (Below w.heap.size w (w.alloc (.cells (ncells m) 38))) := (Below.refl _ _).alloc (Nat.le_refl _) _
  have G0 := Lib.hid (heap_alloc_new w (.cells (ncells m) 38))
  have HG := Lib.hid (hG.below HB.out hG.lt)
  have HS := Lib.hid (hs.below HB.out)
  clear hm hs hL hG hn
  generalize openN m n s b = J at TX ⊢
  generalize vone m n = K1 at VO NX TX
  generalize vtwo m n = K2 at VO NX TX
  generalize flat K1 = F1 at NX TX
  generalize flat K2 = F2 at NX TX
  generalize twk s = T at TW TX
  go_enter Tryd.func33, Tryd.ntmps33
  go_wp2_with (refine wpList_load_row rfl 38 (.tmp 6) rfl w.heap.size rfl 38 (ncells m) (0, 0) _ G0.out Tryd.underlying38 rfl (i23 LM.out) ?_)
  refine (VO.out _ HG.out).mono ?_
  rintro e w1 ⟨rfl, hb⟩
  have B1 := Lib.hid (HB.out.trans (hb.mono HB.out.size))
  have S1 := Lib.hid (HS.out.below hb)
  clear hb HB HS HG
  go_wp2_with fail
  refine (NX.out _).mono ?_
  rintro e w2 ⟨g, rfl, hx, hb⟩
  have B2 := Lib.hid (B1.out.trans (hb.mono B1.out.size))
  have S2 := Lib.hid (S1.out.below hb)
  have X2 := Lib.hid hx
  clear hb hx B1 S1
  go_wp2_with fail
  refine (TW.out _).mono ?_
  rintro e w3 ⟨rfl, hb⟩
  have B3 := Lib.hid (B2.out.trans (hb.mono B2.out.size))
  have S3 := Lib.hid (S2.out.below hb)
  have X3 := Lib.hid (X2.out.below hb)
  clear hb B2 S2 X2
  go_wp2_with fail
  refine (TX.out _ _ X3.out S3.out).mono ?_
  rintro e w4 ⟨q, rfl, hq, hr, hb⟩
  have B4 := Lib.hid (B3.out.trans (hb.mono B3.out.size))
  have Q4 := Lib.hid (Nat.le_trans B3.out.size hq)
  have R4 := Lib.hid hr
  clear hb hr hq B3
  go_wp2_with fail
  go_ret2
  exact ⟨q, rfl, Q4.out, R4.out, B4.out⟩
set_option maxRecDepth 100000 in
theorem openTurnNo (m : List Nat) (n s : Nat) (x : Option Addr) (L cap : Nat) (hL : L ≠ 512) (w : World) :
    Calls Tryd.prog 33 #[.func (.func 39) #[] #[], .agg (ncells m), .int .u64 n, .int .u64 s, .slice x L cap] w fun e w' => e = .returned (.tuple #[.slice none 0 0, .int .i64 3]) ∧ Below w.heap.size w w' := by
  have hl : ((L : Int) != 512) = true := by simp; omega
  have HB : Hid (Below w.heap.size w (w.alloc (.cells (ncells m) 38))) := (Below.refl _ _).alloc (Nat.le_refl _) _
  clear hL
  go_enter Tryd.func33, Tryd.ntmps33
  go_wp2_with fail
  go_ret2
  exact ⟨rfl, HB.out⟩
set_option maxRecDepth 100000 in
set_option maxHeartbeats 4000000 in
theorem openC (m b : List Nat) (hm : ae.Bts 32 m) (n s : Nat) (hn : n ≤ 18446744073709551615) (x : Option Addr) (cap : Nat) (w : World) (hs : ae.Sees w (.slice x 512 cap) b) (hL : 512 = b.length) (hG : sh.Glob w) :
    Calls Tryd.prog 24 #[.agg (ncells m), .int .u64 n, .int .u64 s, .slice x 512 cap] w (SecP w 512 (openN m n s b)) := by
  have TX : Hid (∀ (W : World), sh.Glob W → ae.Sees W (.slice x 512 cap) b → Calls Tryd.prog 33 #[.func (.func 39) #[] #[], .agg (ncells m), .int .u64 n, .int .u64 s, .slice x 512 cap] W (SecP W 512 (openN m n s b))) := fun W hg hv => openTurn m b hm n s hn x cap W hv hL hg
  have LM := Lib.hid hm.1
  have HB : Hid (Below w.heap.size w (w.alloc (.cells (ncells m) 38))) := (Below.refl _ _).alloc (Nat.le_refl _) _
  have G0 := Lib.hid (heap_alloc_new w (.cells (ncells m) 38))
  have HG := Lib.hid (hG.below HB.out hG.lt)
  have HS := Lib.hid (hs.below HB.out)
  clear hm hs hL hG hn
  generalize openN m n s b = J at TX ⊢
  go_enter Tryd.func24, Tryd.ntmps24
  go_wp2_with (refine wpList_load_row rfl 38 (.tmp 4) rfl w.heap.size rfl 38 (ncells m) (0, 0) _ G0.out Tryd.underlying38 rfl (i23 LM.out) ?_)
  refine (TX.out _ HG.out HS.out).mono ?_
  rintro e w1 ⟨q, rfl, hq, hr, hb⟩
  have B4 := Lib.hid (HB.out.trans (hb.mono HB.out.size))
  have Q4 := Lib.hid (Nat.le_trans HB.out.size hq)
  have R4 := Lib.hid hr
  clear hb hr hq
  go_wp2_with fail
  go_ret2
  exact ⟨q, rfl, Q4.out, R4.out, B4.out⟩
set_option maxRecDepth 100000 in
set_option maxHeartbeats 4000000 in
theorem openNo (m : List Nat) (hm : ae.Bts 32 m) (n s : Nat) (x : Option Addr) (L cap : Nat) (hL : L ≠ 512) (w : World) :
    Calls Tryd.prog 24 #[.agg (ncells m), .int .u64 n, .int .u64 s, .slice x L cap] w fun e w' => e = .returned (.tuple #[.slice none 0 0, .int .i64 3]) ∧ Below w.heap.size w w' := by
  have TX : Hid (∀ (W : World), Calls Tryd.prog 33 #[.func (.func 39) #[] #[], .agg (ncells m), .int .u64 n, .int .u64 s, .slice x L cap] W fun e w' => e = .returned (.tuple #[.slice none 0 0, .int .i64 3]) ∧ Below W.heap.size W w') := fun W => openTurnNo m n s x L cap hL W
  have LM := Lib.hid hm.1
  have HB : Hid (Below w.heap.size w (w.alloc (.cells (ncells m) 38))) := (Below.refl _ _).alloc (Nat.le_refl _) _
  have G0 := Lib.hid (heap_alloc_new w (.cells (ncells m) 38))
  clear hm hL
  go_enter Tryd.func24, Tryd.ntmps24
  go_wp2_with (refine wpList_load_row rfl 38 (.tmp 4) rfl w.heap.size rfl 38 (ncells m) (0, 0) _ G0.out Tryd.underlying38 rfl (i23 LM.out) ?_)
  refine (TX.out _).mono ?_
  rintro e w1 ⟨rfl, hb⟩
  have B4 := Lib.hid (HB.out.trans (hb.mono HB.out.size))
  clear hb
  go_wp2_with fail
  go_ret2
  exact ⟨rfl, B4.out⟩
open Go.RowKit Go.Proofs.YtpkeofioobmmoaaDoor.ae
/-- A block of bytes, noughts behind them. -/
def padN (b : List Nat) : List Nat := b ++ zeros (512 - b.length)
theorem padN_len {b : List Nat} (h : b.length ≤ 512) : (padN b).length = 512 := by unfold padN; rw [List.length_append, zeros_len]; omega
theorem padN_byt {b : List Nat} (h : ae.Byt b) : ae.Byt (padN b) := h.append (zeros_byt _)
def BlkP (w : World) (b : List Nat) (e : Ending) (w' : World) : Prop :=
  ∃ q, e = .returned (.slice (some ⟨q, 0, none⟩) 512 512) ∧ w.heap.size ≤ q ∧ w'.heap[q]? = some (.cells (ncells (padN b)) 5 (0, 0)) ∧ Below w.heap.size w w'
set_option maxRecDepth 100000 in
set_option maxHeartbeats 1000000 in
theorem blockC (b : List Nat) (x : Option Addr) (L cap : Nat) (w : World) (hs : ae.Sees w (.slice x L cap) b) (hL : L = b.length) (hl : L ≤ 512) : Calls Tryd.prog 26 #[.slice x L cap] w (BlkP w b) := by
  have hmk : ∀ W : World, (Instr.makeSlice 49 (.int .i64 512) (.int .i64 512)).run Tryd.prog W = .ok (.slice (some ⟨W.heap.size, 0, none⟩) 512 512) (W.alloc (.cells (ncells (zeros 512)) 5)) := fun W => mkN 512 (by omega) W
  obtain ⟨Z, hZ⟩ : ∃ Z, Z = ncells (zeros 512) := ⟨_, rfl⟩
  rw [← hZ] at hmk
  have G0 := Lib.hid (heap_alloc_new w (.cells Z 5))
  have HB : Hid (Below w.heap.size w (w.alloc (.cells Z 5))) := (Below.refl _ _).alloc (Nat.le_refl _) _
  by_cases h0 : b = []
  · subst h0
    obtain rfl : L = 0 := by simpa using hL
    have hp : padN [] = zeros 512 := by simp [padN]
    have HP := Lib.hid hp
    have HZ := Lib.hid hZ
    have HR := Lib.hid (run_copy_none (P := Tryd.prog) (w.alloc (.cells Z 5)) 49 49 3 5 (some ⟨w.heap.size, 0, none⟩) x 512 512 0 cap Tryd.underlying49 info5s (by simp))
    clear hp hs hL hl hZ
    go_enter Tryd.func26, Tryd.ntmps26
    go_wp2_with (refine wpList_copy_run rfl (.tmp 5) (.tmp 6) rfl rfl rfl rfl HR.out ?_)
    go_ret
    exact ⟨w.heap.size, rfl, Nat.le_refl _, by rw [HP.out, ← HZ.out]; exact G0.out, HB.out⟩
  · obtain ⟨bb, oo, rfl, h1, h2, h3, h4⟩ := hs.cells h0
    have hz5 : Z.size = 512 := by rw [hZ, nsize, zeros_len]
    have hr := run_copy_row Tryd.prog (w.alloc (.cells Z 5)) 49 49 3 5 w.heap.size 0 512 512 ⟨bb, oo, none⟩ L cap Z 5 (b.map fun n : Nat => Value.int .u8 (n : Int)) Tryd.underlying49 info5s G0.out (by rw [List.length_map, ← h1]; exact (Nat.min_eq_left hl).symm)
      (fun j v hj => by
        rw [List.getElem?_map] at hj
        have hj' : j < b.length := by
          rcases Nat.lt_or_ge j b.length with h | h
          · omega
          · rw [List.getElem?_eq_none h] at hj; simp at hj
        have hc := h4 j hj'
        rw [addr_add, HB.out.cell (World.block_lt_of_cell? w _ hc), hc]
        rw [List.getElem?_eq_getElem (by omega)] at hj
        simp at hj
        rw [← hj]
        simp [at_, List.getD, hj'])
      (by rw [List.length_map, hz5]; omega) (fun v hv => by simp at hv; obtain ⟨_, _, rfl⟩ := hv; rfl)
    have es := splice_end [] b 512 (by omega)
    rw [List.nil_append, List.nil_append, ← hZ] at es
    simp only [List.length_nil] at es
    rw [List.length_map, es] at hr
    have e0 : goInt b.length = .int .i64 L := by rw [← h1]; rfl
    rw [e0] at hr
    have HR := Lib.hid hr
    have R1 : Hid (((w.alloc (.cells Z 5)).setRow w.heap.size (ncells (b ++ zeros (512 - b.length)))).heap[w.heap.size]? = some (.cells (ncells (b ++ zeros (512 - b.length))) 5 (0, 0))) := setRow_heap _ _ _ _ _ _ G0.out
    have HB1 := Lib.hid (HB.out.trans (below_row (B := w.heap.size) _ (ncells (b ++ zeros (512 - b.length))) (Nat.le_refl _)))
    have PD : Hid (padN b = b ++ zeros (512 - b.length)) := rfl
    clear hr es e0 hs hL hl hz5 hZ h0 h1 h2 h3 h4
    generalize b ++ zeros (512 - b.length) = D at HR R1 HB1 PD
    go_enter Tryd.func26, Tryd.ntmps26
    go_wp2_with (refine wpList_copy_run rfl (.tmp 5) (.tmp 6) rfl rfl rfl rfl HR.out ?_)
    go_ret
    exact ⟨w.heap.size, rfl, Nat.le_refl _, by rw [PD.out]; exact R1.out, HB1.out⟩
/-- There and back. -/
theorem open_seal {m b : List Nat} (hm : ae.Bts 32 m) (n s : Nat) (hl : b.length = 512) (hb : ae.Byt b) : openN m n s (sealN m n s b) = b :=
  sct_back (n := 32) (enc_bts (vtwo_bts n hm) (twk_bts s)) hl hb (fun _ h => enc_bts (vone_bts n hm) h) (fun _ h => dec_enc (vone_bts n hm) h)
theorem seal_open {m b : List Nat} (hm : ae.Bts 32 m) (n s : Nat) (hl : b.length = 512) (hb : ae.Byt b) : sealN m n s (openN m n s b) = b :=
  sct_back (n := 32) (enc_bts (vtwo_bts n hm) (twk_bts s)) hl hb (fun _ h => dec_bts (vone_bts n hm) h) (fun _ h => enc_dec (vone_bts n hm) h)
theorem sealN_len (m : List Nat) (n s : Nat) (b : List Nat) : (sealN m n s b).length = 512 := sct_len _ _ _ 32
theorem openN_len (m : List Nat) (n s : Nat) (b : List Nat) : (openN m n s b).length = 512 := sct_len _ _ _ 32
theorem sealN_byt {m b : List Nat} (hm : ae.Bts 32 m) (n s : Nat) (hb : ae.Byt b) : ae.Byt (sealN m n s b) := sct_bts (fun _ h => enc_bts (vone_bts n hm) h) (enc_bts (vtwo_bts n hm) (twk_bts s)) hb 32
theorem openN_byt {m b : List Nat} (hm : ae.Bts 32 m) (n s : Nat) (hb : ae.Byt b) : ae.Byt (openN m n s b) := sct_bts (fun _ h => dec_bts (vone_bts n hm) h) (enc_bts (vtwo_bts n hm) (twk_bts s)) hb 32
/-- The fixed keys. -/
def fk1 : List Nat := [191, 39, 208, 104, 95, 51, 119, 131, 186, 184, 185, 7, 37, 176, 161, 176, 141, 161, 138, 51, 150, 145, 187, 253, 57, 38, 251, 34, 164, 166, 4, 58]
def fk2 : List Nat := [134, 195, 38, 8, 15, 243, 237, 161, 225, 234, 117, 31, 232, 116, 209, 184, 124, 130, 103, 194, 164, 116, 245, 100, 236, 236, 225, 172, 49, 93, 138, 74]
theorem derN_one (key nm : List Nat) (num : Nat) (hk : ae.Byt key) : derN key nm num = toN (sh.tstr (zl key) (zl nm ++ sh.be 8 num) 1) := by
  unfold derN
  rw [sh.strm32 _ _ (byt_zl hk)]
theorem fk1_eq : toN (sh.tstr (zl xk1) (zl nOne ++ sh.be 8 2) 1) = fk1 := by decide +kernel
theorem fk2_eq : toN (sh.tstr (zl xk1) (zl nTwo ++ sh.be 8 2) 1) = fk2 := by decide +kernel
theorem vone_fixed : vone xk1 2 = fk1 := by
  have := derN_one xk1 nOne 2 xk1_bts.2
  unfold vone
  rw [this]
  exact fk1_eq
theorem vtwo_fixed : vtwo xk1 2 = fk2 := by
  have := derN_one xk1 nTwo 2 xk1_bts.2
  unfold vtwo
  rw [this]
  exact fk2_eq
def fm : List Nat := turn (rkey fk2) (twk 3)
theorem f_unlike : Nat.beq (at_ (jn (turn (rkey fk1) (jn (120 :: zeros 15) fm)) fm) 0) 120 = false := by decide +kernel
/-- The fixed block. -/
def fb : List Nat := padN [120]
theorem fb_byt : ae.Byt fb := padN_byt (fun x h => by simp at h; omega)
theorem fb_len : fb.length = 512 := padN_len (by simp)
theorem fb_first : blk fb 0 = 120 :: zeros 15 := by
  refine bts_ext' (tab_len _ _) (by rw [List.length_cons, zeros_len]) fun i hi => ?_
  rw [blk, tab_at _ _ _ hi, Nat.mul_zero, Nat.zero_add]
  unfold fb padN
  rcases Nat.eq_zero_or_pos i with rfl | h
  · rfl
  · obtain ⟨k, rfl⟩ : ∃ k, i = k + 1 := ⟨i - 1, by omega⟩
    show at_ (zeros _) k = at_ (zeros 15) k
    rw [zeros_at, zeros_at]
theorem f_seal : sealN xk1 2 3 fb ≠ fb := fun e => by
  have h : at_ (blk (sealN xk1 2 3 fb) 0) 0 = at_ (blk fb 0) 0 := by rw [e]
  unfold sealN at h
  rw [vone_fixed, vtwo_fixed, sct_blk _ _ _ 32 0 (by omega), fb_first, enc_rkey, enc_rkey] at h
  have hf := f_unlike
  have h2 : at_ (jn (turn (rkey fk1) (jn (120 :: zeros 15) fm)) fm) 0 = 120 := h
  rw [h2] at hf
  cases hf
open Go.RowKit Go.Proofs.YtpkeofioobmmoaaDoor.ae
set_option maxRecDepth 100000 in
set_option maxHeartbeats 4000000 in
theorem alive22 (w : World) (hG : sh.Glob w) : Calls Tryd.prog 21 #[] w fun e w' => e = .returned (.bool true) ∧ Below w.heap.size w w' := by
  have b1 := build23a
  have kc := fun (w : World) (C : Array Value) (n c : Nat) => sh.conv22 w C n c
  have BL : Hid (∀ (W : World) (q : Nat) (fr : Nat × Nat), W.heap[q]? = some (.cells #[.int .u8 120] 5 fr) → Calls Tryd.prog 26 #[.slice (some ⟨q, 0, none⟩) 1 1] W (BlkP W [120])) :=
    fun W q fr h => blockC [120] _ 1 1 W (sees_row W q [120] (fun x h => by simp at h; omega) (by decide) h 1 rfl) rfl (by omega)
  have SR : ∀ (W : World) (q : Nat) (J : List Nat), ae.Byt J → J.length = 512 → W.heap[q]? = some (.cells (ncells J) 5 (0, 0)) → ae.Sees W (.slice (some ⟨q, 0, none⟩) 512 512) J := fun W q J hJ hl hq => sees_row W q J hJ (by rw [hl]; decide) hq 512 hl.symm
  have yJ : ae.Byt (sealN xk1 2 3 fb) := sealN_byt xk1_bts 2 3 fb_byt
  have SE : Hid (∀ (W : World) (q : Nat), sh.Glob W → W.heap[q]? = some (.cells (ncells fb) 5 (0, 0)) → Calls Tryd.prog 22 #[.agg (ncells xk1), .int .u64 2, .int .u64 3, .slice (some ⟨q, 0, none⟩) 512 512] W (SecP W 512 (sealN xk1 2 3 fb))) :=
    fun W q hg h => sealC xk1 fb xk1_bts 2 3 (by omega) _ 512 W (SR W q fb fb_byt fb_len h) fb_len.symm hg
  have OP : Hid (∀ (W : World) (q : Nat), sh.Glob W → W.heap[q]? = some (.cells (ncells (sealN xk1 2 3 fb)) 5 (0, 0)) → Calls Tryd.prog 24 #[.agg (ncells xk1), .int .u64 2, .int .u64 3, .slice (some ⟨q, 0, none⟩) 512 512] W (SecP W 512 fb)) :=
    fun W q hg h => by
      have := openC xk1 _ xk1_bts 2 3 (by omega) _ 512 W (SR W q _ yJ (sealN_len _ _ _ _) h) (sealN_len _ _ _ _).symm hg
      rw [open_seal xk1_bts 2 3 fb_len fb_byt] at this
      exact this
  have SN : Hid (∀ (W : World) (q : Nat), Calls Tryd.prog 22 #[.agg (ncells xk1), .int .u64 2, .int .u64 3, .slice (some ⟨q, 0, none⟩) 511 511] W fun e w' => e = .returned (.tuple #[.slice none 0 0, .int .i64 3]) ∧ Below W.heap.size W w') :=
    fun W q => sealNo xk1 xk1_bts 2 3 _ 511 511 (by omega) W
  have hmk : ∀ W : World, (Instr.makeSlice 49 (.int .i64 511) (.int .i64 511)).run Tryd.prog W = .ok (.slice (some ⟨W.heap.size, 0, none⟩) 511 511) (W.alloc (.cells (ncells (zeros 511)) 5)) := fun W => mkN 511 (by omega) W
  have STJ : Hid (∀ (W : World) (q : Nat), W.heap[q]? = some (.cells (ncells (sealN xk1 2 3 fb)) 5 (0, 0)) → (convert 49 9 (.slice (some ⟨q, 0, none⟩) 512 512)).run Tryd.prog W = .ok (.string (strN (sealN xk1 2 3 fb))) W) := fun W q h => (SR W q _ yJ (sealN_len _ _ _ _) h).str
  have STP : Hid (∀ (W : World) (q : Nat), W.heap[q]? = some (.cells (ncells fb) 5 (0, 0)) → (convert 49 9 (.slice (some ⟨q, 0, none⟩) 512 512)).run Tryd.prog W = .ok (.string (strN fb)) W) := fun W q h => (SR W q _ fb_byt fb_len h).str
  have ne1 : ((strN (sealN xk1 2 3 fb)).toList == (strN fb).toList) = false := by
    rw [strN_eq yJ fb_byt]; simpa using f_seal
  have NE1 := Lib.hid ne1
  have NE2 : Hid (((strN (sealN xk1 2 3 fb)).toList != (strN fb).toList) = true) := by show _ = _; rw [bne, ne1]; rfl
  have EQ : Hid (((strN fb).toList == (strN fb).toList) = true) := by show _ = _; simp
  have FB : Hid (fb = padN [120]) := rfl
  have HG := Lib.hid hG
  clear ne1 yJ SR hG
  generalize sealN xk1 2 3 fb = J at SE OP STJ NE1 NE2
  generalize strN J = SJ at STJ NE1 NE2
  generalize strN fb = SP at STP NE1 NE2 EQ
  go_enter Tryd.func21, Tryd.ntmps21
  go_wp2_with fail
  have al0 : Below w.heap.size w (w.alloc (.cells #[.int .u8 120] 5 (1, 2))) := (Below.refl _ _).alloc (Nat.le_refl _) _
  refine (BL.out _ _ _ (heap_alloc_new w _)).mono ?_
  rintro e w1 ⟨q0, rfl, hq, hr, hb⟩
  have R0 : Hid (w1.heap[q0]? = some (.cells (ncells fb) 5 (0, 0))) := hr
  have B1 := Lib.hid (al0.trans (hb.mono al0.size))
  have G1 := Lib.hid (HG.out.below B1.out HG.out.lt)
  clear hq hr hb al0 HG
  go_wp2_with fail
  refine (SE.out _ _ G1.out R0.out).mono ?_
  rintro e w2 ⟨q1, rfl, hq, hr, hb⟩
  have R1 := Lib.hid hr
  have B2 := Lib.hid (B1.out.trans (hb.mono B1.out.size))
  have G2 := Lib.hid (G1.out.below hb G1.out.lt)
  clear hq hr hb B1 G1 R0 SE
  go_wp2_with fail
  refine (OP.out _ _ G2.out R1.out).mono ?_
  rintro e w3 ⟨q2, rfl, hq, hr, hb⟩
  have al : Below w3.heap.size w3 (w3.alloc (.cells (ncells (zeros 511)) 5)) := (Below.refl _ _).alloc (Nat.le_refl _) _
  have R2 := Lib.hid ((al.block _ (blk_lt hr)).trans hr)
  have q1' := (hb.block _ (blk_lt R1.out)).trans R1.out
  have R1 := Lib.hid ((al.block _ (blk_lt q1')).trans q1')
  have b3 := B2.out.trans (hb.mono B2.out.size)
  have B3 := Lib.hid (b3.trans (al.mono b3.size))
  clear hq hr hb al b3 q1' B2 G2 OP
  go_wp2_with fail
  refine (SN.out _ _).mono ?_
  rintro e w4 ⟨rfl, hb⟩
  have R2 := Lib.hid ((hb.block _ (blk_lt R2.out)).trans R2.out)
  have R1 := Lib.hid ((hb.block _ (blk_lt R1.out)).trans R1.out)
  have B4 := Lib.hid (B3.out.trans (hb.mono B3.out.size))
  clear hb B3 SN
  go_wp2_with fail
  refine wp_region_held_drew (S := fun W => Below w4.heap.size w4 W) (by kernel_rfl) ((Below.refl _ _).drew) (fun hS => ?_)
  have hb0 : Below w4.heap.size w4 w4.drew := (Below.refl _ _).drew
  clear hb0 
  generalize w4.drew = Wzs at hS  ⊢
  refine' wpAnyH_take (i := 0) ?h1x0z ?hsx0z ?hfx0z ?hrx0z ?hQx0z (Or.inl ⟨?hwx0z, ?hyx0z⟩) hS ?restx0z
  case h1x0z => (simp only [List.getElem?_toArray, List.getElem?_cons_zero]; rfl)
  case hsx0z => kernel_rfl
  case hfx0z => kernel_rfl
  case hrx0z => kernel_rfl
  case hQx0z => exact fun _ _ _ h => h
  case hwx0z => rfl
  case hyx0z =>
    intro W hW
    go_simp
    try with_reducible rfl
  simp only [Act.put, List.setIfInBounds_toArray, List.set_cons_succ, List.set_cons_zero]
  refine' wpAnyH_take (i := 1) ?h1x1z ?hsx1z ?hfx1z ?hrx1z ?hQx1z (Or.inl ⟨?hwx1z, ?hyx1z⟩) hS ?restx1z
  case h1x1z => (simp only [List.getElem?_toArray, List.getElem?_cons_succ, List.getElem?_cons_zero]; rfl)
  case hsx1z => kernel_rfl
  case hfx1z => kernel_rfl
  case hrx1z => kernel_rfl
  case hQx1z => exact fun _ _ _ h => h
  case hwx1z => rfl
  case hyx1z =>
    intro W hW
    go_simp
    try with_reducible rfl
  simp only [Act.put, List.setIfInBounds_toArray, List.set_cons_succ, List.set_cons_zero]
  refine' wpAnyH_take (i := 2) ?h1x2z ?hsx2z ?hfx2z ?hrx2z ?hQx2z (Or.inl ⟨?hwx2z, ?hyx2z⟩) hS ?restx2z
  case h1x2z => (simp only [List.getElem?_toArray, List.getElem?_cons_succ, List.getElem?_cons_zero]; rfl)
  case hsx2z => kernel_rfl
  case hfx2z => kernel_rfl
  case hrx2z => kernel_rfl
  case hQx2z => exact fun _ _ _ h => h
  case hwx2z => rfl
  case hyx2z =>
    intro W hW
    go_simp
    try with_reducible rfl
  simp only [Act.put, List.setIfInBounds_toArray, List.set_cons_succ, List.set_cons_zero]
  refine' wpAnyH_take (i := 3) ?h1x3z ?hsx3z ?hfx3z ?hrx3z ?hQx3z (Or.inl ⟨?hwx3z, ?hyx3z⟩) hS ?restx3z
  case h1x3z => (simp only [List.getElem?_toArray, List.getElem?_cons_succ, List.getElem?_cons_zero]; rfl)
  case hsx3z => kernel_rfl
  case hfx3z => kernel_rfl
  case hrx3z => kernel_rfl
  case hQx3z => exact fun _ _ _ h => h
  case hwx3z => rfl
  case hyx3z =>
    intro W hW
    go_simp
    try with_reducible rfl
  simp only [Act.put, List.setIfInBounds_toArray, List.set_cons_succ, List.set_cons_zero]
  refine' wpAnyH_take (i := 4) ?h1x4z ?hsx4z ?hfx4z ?hrx4z ?hQx4z (Or.inl ⟨?hwx4z, ?hyx4z⟩) hS ?restx4z
  case h1x4z => (simp only [List.getElem?_toArray, List.getElem?_cons_succ, List.getElem?_cons_zero]; rfl)
  case hsx4z => kernel_rfl
  case hfx4z => kernel_rfl
  case hrx4z => kernel_rfl
  case hQx4z => exact fun _ _ _ h => h
  case hwx4z => rfl
  case hyx4z =>
    intro W hW
    go_simp
    try with_reducible rfl
  simp only [Act.put, List.setIfInBounds_toArray, List.set_cons_succ, List.set_cons_zero]
  refine' wpAnyH_take (i := 5) ?h1x5z ?hsx5z ?hfx5z ?hrx5z ?hQx5z (Or.inl ⟨?hwx5z, ?hyx5z⟩) hS ?restx5z
  case h1x5z => (simp only [List.getElem?_toArray, List.getElem?_cons_succ, List.getElem?_cons_zero]; rfl)
  case hsx5z => kernel_rfl
  case hfx5z => kernel_rfl
  case hrx5z => kernel_rfl
  case hQx5z => exact fun _ _ _ h => h
  case hwx5z => rfl
  case hyx5z =>
    intro W hW
    go_simp
    try with_reducible rfl
  simp only [Act.put, List.setIfInBounds_toArray, List.set_cons_succ, List.set_cons_zero]
  refine' wpAnyH_take (i := 6) ?h1x6z ?hsx6z ?hfx6z ?hrx6z ?hQx6z (Or.inl ⟨?hwx6z, ?hyx6z⟩) hS ?restx6z
  case h1x6z => (simp only [List.getElem?_toArray, List.getElem?_cons_succ, List.getElem?_cons_zero]; rfl)
  case hsx6z => kernel_rfl
  case hfx6z => kernel_rfl
  case hrx6z => kernel_rfl
  case hQx6z => exact fun _ _ _ h => h
  case hwx6z => rfl
  case hyx6z =>
    intro W hW
    go_simp
    try with_reducible rfl
  simp only [Act.put, List.setIfInBounds_toArray, List.set_cons_succ, List.set_cons_zero]
  refine' wpAnyH_take (i := 7) ?h1x7z ?hsx7z ?hfx7z ?hrx7z ?hQx7z (Or.inl ⟨?hwx7z, ?hyx7z⟩) hS ?restx7z
  case h1x7z => (simp only [List.getElem?_toArray, List.getElem?_cons_succ, List.getElem?_cons_zero]; rfl)
  case hsx7z => kernel_rfl
  case hfx7z => kernel_rfl
  case hrx7z => kernel_rfl
  case hQx7z => exact fun _ _ _ h => h
  case hwx7z => rfl
  case hyx7z =>
    intro W hW
    go_simp
    try with_reducible rfl
  simp only [Act.put, List.setIfInBounds_toArray, List.set_cons_succ, List.set_cons_zero]
  refine' wpAnyH_take (i := 8) ?h1x8z ?hsx8z ?hfx8z ?hrx8z ?hQx8z (Or.inl ⟨?hwx8z, ?hyx8z⟩) hS ?restx8z
  case h1x8z => (simp only [List.getElem?_toArray, List.getElem?_cons_succ, List.getElem?_cons_zero]; rfl)
  case hsx8z => kernel_rfl
  case hfx8z => kernel_rfl
  case hrx8z => kernel_rfl
  case hQx8z => exact fun _ _ _ h => h
  case hwx8z => rfl
  case hyx8z =>
    intro W hW
    go_simp
    try with_reducible rfl
  simp only [Act.put, List.setIfInBounds_toArray, List.set_cons_succ, List.set_cons_zero]
  refine' wpAnyH_take (i := 9) ?h1x9z ?hsx9z ?hfx9z ?hrx9z ?hQx9z (Or.inl ⟨?hwx9z, ?hyx9z⟩) hS ?restx9z
  case h1x9z => (simp only [List.getElem?_toArray, List.getElem?_cons_succ, List.getElem?_cons_zero]; rfl)
  case hsx9z => kernel_rfl
  case hfx9z => kernel_rfl
  case hrx9z => kernel_rfl
  case hQx9z => exact fun _ _ _ h => h
  case hwx9z => rfl
  case hyx9z =>
    intro W hW
    have cs := STJ.out W q1 ((hW.block _ (blk_lt R1.out)).trans R1.out)
    go_simp
    try with_reducible rfl
  simp only [Act.put, List.setIfInBounds_toArray, List.set_cons_succ, List.set_cons_zero]
  refine' wpAnyH_take (i := 10) ?h1x10z ?hsx10z ?hfx10z ?hrx10z ?hQx10z (Or.inl ⟨?hwx10z, ?hyx10z⟩) hS ?restx10z
  case h1x10z => (simp only [List.getElem?_toArray, List.getElem?_cons_succ, List.getElem?_cons_zero]; rfl)
  case hsx10z => kernel_rfl
  case hfx10z => kernel_rfl
  case hrx10z => kernel_rfl
  case hQx10z => exact fun _ _ _ h => h
  case hwx10z => rfl
  case hyx10z =>
    intro W hW
    go_simp
    try with_reducible rfl
  simp only [Act.put, List.setIfInBounds_toArray, List.set_cons_succ, List.set_cons_zero]
  refine' wpAnyH_take (i := 11) ?h1x11z ?hsx11z ?hfx11z ?hrx11z ?hQx11z (Or.inl ⟨?hwx11z, ?hyx11z⟩) hS ?restx11z
  case h1x11z => (simp only [List.getElem?_toArray, List.getElem?_cons_succ, List.getElem?_cons_zero]; rfl)
  case hsx11z => kernel_rfl
  case hfx11z => kernel_rfl
  case hrx11z => kernel_rfl
  case hQx11z => exact fun _ _ _ h => h
  case hwx11z => rfl
  case hyx11z =>
    intro W hW
    have cs := STP.out W q2 ((hW.block _ (blk_lt R2.out)).trans R2.out)
    go_simp
    try with_reducible rfl
  simp only [Act.put, List.setIfInBounds_toArray, List.set_cons_succ, List.set_cons_zero]
  refine' wpAnyH_take (i := 12) ?h1x12z ?hsx12z ?hfx12z ?hrx12z ?hQx12z (Or.inl ⟨?hwx12z, ?hyx12z⟩) hS ?restx12z
  case h1x12z => (simp only [List.getElem?_toArray, List.getElem?_cons_succ, List.getElem?_cons_zero]; rfl)
  case hsx12z => kernel_rfl
  case hfx12z => kernel_rfl
  case hrx12z => kernel_rfl
  case hQx12z => exact fun _ _ _ h => h
  case hwx12z => rfl
  case hyx12z =>
    intro W hW
    have n1 := NE1.out
    have n2 := NE2.out
    go_simp
    try with_reducible rfl
  simp only [Act.put, List.setIfInBounds_toArray, List.set_cons_succ, List.set_cons_zero]
  refine' wpAnyH_take (i := 13) ?h1x13z ?hsx13z ?hfx13z ?hrx13z ?hQx13z (Or.inl ⟨?hwx13z, ?hyx13z⟩) hS ?restx13z
  case h1x13z => (simp only [List.getElem?_toArray, List.getElem?_cons_succ, List.getElem?_cons_zero]; rfl)
  case hsx13z => kernel_rfl
  case hfx13z => kernel_rfl
  case hrx13z => kernel_rfl
  case hQx13z => exact fun _ _ _ h => h
  case hwx13z => rfl
  case hyx13z =>
    intro W hW
    go_simp
    try with_reducible rfl
  simp only [Act.put, List.setIfInBounds_toArray, List.set_cons_succ, List.set_cons_zero]
  refine' wpAnyH_take (i := 14) ?h1x14z ?hsx14z ?hfx14z ?hrx14z ?hQx14z (Or.inl ⟨?hwx14z, ?hyx14z⟩) hS ?restx14z
  case h1x14z => (simp only [List.getElem?_toArray, List.getElem?_cons_succ, List.getElem?_cons_zero]; rfl)
  case hsx14z => kernel_rfl
  case hfx14z => kernel_rfl
  case hrx14z => kernel_rfl
  case hQx14z => exact fun _ _ _ h => h
  case hwx14z => rfl
  case hyx14z =>
    intro W hW
    go_simp
    try with_reducible rfl
  simp only [Act.put, List.setIfInBounds_toArray, List.set_cons_succ, List.set_cons_zero]
  refine' wpAnyH_take (i := 15) ?h1x15z ?hsx15z ?hfx15z ?hrx15z ?hQx15z (Or.inl ⟨?hwx15z, ?hyx15z⟩) hS ?restx15z
  case h1x15z => (simp only [List.getElem?_toArray, List.getElem?_cons_succ, List.getElem?_cons_zero]; rfl)
  case hsx15z => kernel_rfl
  case hfx15z => kernel_rfl
  case hrx15z => kernel_rfl
  case hQx15z => exact fun _ _ _ h => h
  case hwx15z => rfl
  case hyx15z =>
    intro W hW
    go_simp
    try with_reducible rfl
  simp only [Act.put, List.setIfInBounds_toArray, List.set_cons_succ, List.set_cons_zero]
  refine' wpAnyH_take (i := 16) ?h1x16z ?hsx16z ?hfx16z ?hrx16z ?hQx16z (Or.inl ⟨?hwx16z, ?hyx16z⟩) hS ?restx16z
  case h1x16z => (simp only [List.getElem?_toArray, List.getElem?_cons_succ, List.getElem?_cons_zero]; rfl)
  case hsx16z => kernel_rfl
  case hfx16z => kernel_rfl
  case hrx16z => kernel_rfl
  case hQx16z => exact fun _ _ _ h => h
  case hwx16z => rfl
  case hyx16z =>
    intro W hW
    go_simp
    try with_reducible rfl
  simp only [Act.put, List.setIfInBounds_toArray, List.set_cons_succ, List.set_cons_zero]
  refine' wpAnyH_take (i := 17) ?h1x17z ?hsx17z ?hfx17z ?hrx17z ?hQx17z (Or.inl ⟨?hwx17z, ?hyx17z⟩) hS ?restx17z
  case h1x17z => (simp only [List.getElem?_toArray, List.getElem?_cons_succ, List.getElem?_cons_zero]; rfl)
  case hsx17z => kernel_rfl
  case hfx17z => kernel_rfl
  case hrx17z => kernel_rfl
  case hQx17z => exact fun _ _ _ h => h
  case hwx17z => rfl
  case hyx17z =>
    intro W hW
    go_simp
    try with_reducible rfl
  simp only [Act.put, List.setIfInBounds_toArray, List.set_cons_succ, List.set_cons_zero]
  refine' wpAnyH_take (i := 18) ?h1x18z ?hsx18z ?hfx18z ?hrx18z ?hQx18z (Or.inl ⟨?hwx18z, ?hyx18z⟩) hS ?restx18z
  case h1x18z => (simp only [List.getElem?_toArray, List.getElem?_cons_succ, List.getElem?_cons_zero]; rfl)
  case hsx18z => kernel_rfl
  case hfx18z => kernel_rfl
  case hrx18z => kernel_rfl
  case hQx18z => exact fun _ _ _ h => h
  case hwx18z => rfl
  case hyx18z =>
    intro W hW
    go_simp
    try with_reducible rfl
  simp only [Act.put, List.setIfInBounds_toArray, List.set_cons_succ, List.set_cons_zero]
  refine' wpAnyH_take (i := 19) ?h1x19z ?hsx19z ?hfx19z ?hrx19z ?hQx19z (Or.inl ⟨?hwx19z, ?hyx19z⟩) hS ?restx19z
  case h1x19z => (simp only [List.getElem?_toArray, List.getElem?_cons_succ, List.getElem?_cons_zero]; rfl)
  case hsx19z => kernel_rfl
  case hfx19z => kernel_rfl
  case hrx19z => kernel_rfl
  case hQx19z => exact fun _ _ _ h => h
  case hwx19z => rfl
  case hyx19z =>
    intro W hW
    go_simp
    try with_reducible rfl
  simp only [Act.put, List.setIfInBounds_toArray, List.set_cons_succ, List.set_cons_zero]
  refine' wpAnyH_take (i := 20) ?h1x20z ?hsx20z ?hfx20z ?hrx20z ?hQx20z (Or.inl ⟨?hwx20z, ?hyx20z⟩) hS ?restx20z
  case h1x20z => (simp only [List.getElem?_toArray, List.getElem?_cons_succ, List.getElem?_cons_zero]; rfl)
  case hsx20z => kernel_rfl
  case hfx20z => kernel_rfl
  case hrx20z => kernel_rfl
  case hQx20z => exact fun _ _ _ h => h
  case hwx20z => rfl
  case hyx20z =>
    intro W hW
    have cs := STP.out W q2 ((hW.block _ (blk_lt R2.out)).trans R2.out)
    go_simp
    try with_reducible rfl
  simp only [Act.put, List.setIfInBounds_toArray, List.set_cons_succ, List.set_cons_zero]
  refine wpAnyH_ready (rs := [21]) (by kernel_rfl) (by simp) ?_
  refine' (AllReadyH.cons ?hoc21z (fun K hK => ?stc21z) AllReadyH.nil)
  case hoc21z => (simp only [List.getElem?_toArray, List.getElem?_cons_succ, List.getElem?_cons_zero]; rfl)
  go_simp
  have hS1 := hS
  have hal1 : Below Wzs.heap.size Wzs (Wzs.alloc (.cells #[.int .u8 120] 5)) := (Below.refl _ _).alloc (Nat.le_refl _) _
  refine hK.out _ _ (hS.alloc hS.size _) (fun hHeld => ?_)
  clear hK K
  try simp only [Act.put, List.setIfInBounds_toArray, List.set_cons_succ, List.set_cons_zero]
  clear hHeld hal1
  refine wpAnyH_ready (rs := [22]) (by kernel_rfl) (by simp) ?_
  refine' AllReadyH.cons ?hoc22zx21t (fun K hK => ?stc22zx21t) AllReadyH.nil
  case hoc22zx21t => (simp only [List.getElem?_toArray, List.getElem?_cons_succ, List.getElem?_cons_zero]; rfl)
  have cv := sh.conv22 Wzs #[.int .u8 120] 1 1
  go_simp
  have hb : Below Wzs.heap.size Wzs (Wzs.alloc (.cells #[.int .u8 120] 5 (1, 2))) := (Below.refl _ _).alloc (Nat.le_refl _) _
  refine hK.out _ _ (hS1.alloc hS1.size _) (fun hHeld => ?_)
  clear hK K cv
  try simp only [Act.put, List.setIfInBounds_toArray, List.set_cons_succ, List.set_cons_zero]
  have qRT := heap_alloc_new Wzs (.cells #[.int .u8 120] 5 (1, 2))
  clear hS1 
  clear hS
  have hS := hHeld
  clear hHeld
  clear hb
  generalize Wzs.alloc (.cells #[.int .u8 120] 5 (1, 2)) = Wzx21t at *
  generalize Wzs.heap.size = qt at *
  have RT := Lib.hid qRT
  clear qRT
  refine wpAnyH_ready (rs := [23]) (by kernel_rfl) (by simp) ?_
  refine' (AllReadyH.cons ?hoc23zx21 (fun K hK => ?stc23zx21) AllReadyH.nil)
  case hoc23zx21 => (simp only [List.getElem?_toArray, List.getElem?_cons_succ, List.getElem?_cons_zero]; rfl)
  go_simp
  refine (BL.out Wzx21t qt _ RT.out).mono ?_
  rintro e Wzx21x23 ⟨qb, rfl, hq, hr, hb⟩
  have RT := Lib.hid ((hb.block _ (blk_lt RT.out)).trans RT.out)
  have RB : Hid (Wzx21x23.heap[qb]? = some (.cells (ncells fb) 5 (0, 0))) := hr
  clear hq hr
  go_wp2_with fail
  refine hK.out _ _ (hS.trans (hb.mono hS.size)) (fun hHeld => ?_)
  clear hK K
  try simp only [Act.put, List.setIfInBounds_toArray, List.set_cons_succ, List.set_cons_zero]
  clear hS
  have hS := hHeld
  clear hHeld
  clear hb
  refine wpAnyH_ready (rs := [24]) (by kernel_rfl) (by simp) ?_
  refine' (AllReadyH.cons ?hoc24zx21x23 (fun K hK => ?stc24zx21x23) AllReadyH.nil)
  case hoc24zx21x23 => (simp only [List.getElem?_toArray, List.getElem?_cons_succ, List.getElem?_cons_zero]; rfl)
  have cs := STP.out Wzx21x23 qb RB.out
  go_simp
  refine hK.out _ _ hS (fun hHeld => ?_)
  clear hK K
  try simp only [Act.put, List.setIfInBounds_toArray, List.set_cons_succ, List.set_cons_zero]
  clear hS
  have hS := hHeld
  clear hHeld
  refine' wpAnyH_take (i := 25) ?h1x25zx21x23x24 ?hsx25zx21x23x24 ?hfx25zx21x23x24 ?hrx25zx21x23x24 ?hQx25zx21x23x24 (Or.inl ⟨?hwx25zx21x23x24, ?hyx25zx21x23x24⟩) hS ?restx25zx21x23x24
  case h1x25zx21x23x24 => (simp only [List.getElem?_toArray, List.getElem?_cons_succ, List.getElem?_cons_zero]; rfl)
  case hsx25zx21x23x24 => kernel_rfl
  case hfx25zx21x23x24 => kernel_rfl
  case hrx25zx21x23x24 => kernel_rfl
  case hQx25zx21x23x24 => exact fun _ _ _ h => h
  case hwx25zx21x23x24 => rfl
  case hyx25zx21x23x24 =>
    intro W hW
    have n1 := EQ.out
    go_simp
    try with_reducible rfl
  simp only [Act.put, List.setIfInBounds_toArray, List.set_cons_succ, List.set_cons_zero]
  refine' wpAnyH_take (i := 26) ?h1x26zx21x23x24 ?hsx26zx21x23x24 ?hfx26zx21x23x24 ?hrx26zx21x23x24 ?hQx26zx21x23x24 (Or.inl ⟨?hwx26zx21x23x24, ?hyx26zx21x23x24⟩) hS ?restx26zx21x23x24
  case h1x26zx21x23x24 => (simp only [List.getElem?_toArray, List.getElem?_cons_succ, List.getElem?_cons_zero]; rfl)
  case hsx26zx21x23x24 => kernel_rfl
  case hfx26zx21x23x24 => kernel_rfl
  case hrx26zx21x23x24 => kernel_rfl
  case hQx26zx21x23x24 => exact fun _ _ _ h => h
  case hwx26zx21x23x24 => rfl
  case hyx26zx21x23x24 =>
    intro W hW
    go_simp
    try with_reducible rfl
  simp only [Act.put, List.setIfInBounds_toArray, List.set_cons_succ, List.set_cons_zero]
  refine' wpAnyH_take (i := 27) ?h1x27zx21x23x24 ?hsx27zx21x23x24 ?hfx27zx21x23x24 ?hrx27zx21x23x24 ?hQx27zx21x23x24 (Or.inl ⟨?hwx27zx21x23x24, ?hyx27zx21x23x24⟩) hS ?restx27zx21x23x24
  case h1x27zx21x23x24 => (simp only [List.getElem?_toArray, List.getElem?_cons_succ, List.getElem?_cons_zero]; rfl)
  case hsx27zx21x23x24 => kernel_rfl
  case hfx27zx21x23x24 => kernel_rfl
  case hrx27zx21x23x24 => kernel_rfl
  case hQx27zx21x23x24 => exact fun _ _ _ h => h
  case hwx27zx21x23x24 => rfl
  case hyx27zx21x23x24 =>
    intro W hW
    go_simp
    try with_reducible rfl
  simp only [Act.put, List.setIfInBounds_toArray, List.set_cons_succ, List.set_cons_zero]
  refine' wpAnyH_take (i := 28) ?h1x28zx21x23x24 ?hsx28zx21x23x24 ?hfx28zx21x23x24 ?hrx28zx21x23x24 ?hQx28zx21x23x24 (Or.inl ⟨?hwx28zx21x23x24, ?hyx28zx21x23x24⟩) hS ?restx28zx21x23x24
  case h1x28zx21x23x24 => (simp only [List.getElem?_toArray, List.getElem?_cons_succ, List.getElem?_cons_zero]; rfl)
  case hsx28zx21x23x24 => kernel_rfl
  case hfx28zx21x23x24 => kernel_rfl
  case hrx28zx21x23x24 => kernel_rfl
  case hQx28zx21x23x24 => exact fun _ _ _ h => h
  case hwx28zx21x23x24 => rfl
  case hyx28zx21x23x24 =>
    intro W hW
    go_simp
    try with_reducible rfl
  simp only [Act.put, List.setIfInBounds_toArray, List.set_cons_succ, List.set_cons_zero]
  refine' wpAnyH_take (i := 29) ?h1x29zx21x23x24 ?hsx29zx21x23x24 ?hfx29zx21x23x24 ?hrx29zx21x23x24 ?hQx29zx21x23x24 (Or.inl ⟨?hwx29zx21x23x24, ?hyx29zx21x23x24⟩) hS ?restx29zx21x23x24
  case h1x29zx21x23x24 => (simp only [List.getElem?_toArray, List.getElem?_cons_succ, List.getElem?_cons_zero]; rfl)
  case hsx29zx21x23x24 => kernel_rfl
  case hfx29zx21x23x24 => kernel_rfl
  case hrx29zx21x23x24 => kernel_rfl
  case hQx29zx21x23x24 => exact fun _ _ _ h => h
  case hwx29zx21x23x24 => rfl
  case hyx29zx21x23x24 =>
    intro W hW
    go_simp
    try with_reducible rfl
  simp only [Act.put, List.setIfInBounds_toArray, List.set_cons_succ, List.set_cons_zero]
  refine' wpAnyH_take (i := 30) ?h1x30zx21x23x24 ?hsx30zx21x23x24 ?hfx30zx21x23x24 ?hrx30zx21x23x24 ?hQx30zx21x23x24 (Or.inl ⟨?hwx30zx21x23x24, ?hyx30zx21x23x24⟩) hS ?restx30zx21x23x24
  case h1x30zx21x23x24 => (simp only [List.getElem?_toArray, List.getElem?_cons_succ, List.getElem?_cons_zero]; rfl)
  case hsx30zx21x23x24 => kernel_rfl
  case hfx30zx21x23x24 => kernel_rfl
  case hrx30zx21x23x24 => kernel_rfl
  case hQx30zx21x23x24 => exact fun _ _ _ h => h
  case hwx30zx21x23x24 => rfl
  case hyx30zx21x23x24 =>
    intro W hW
    go_simp
    try with_reducible rfl
  simp only [Act.put, List.setIfInBounds_toArray, List.set_cons_succ, List.set_cons_zero]
  refine' wpAnyH_take (i := 31) ?h1x31zx21x23x24 ?hsx31zx21x23x24 ?hfx31zx21x23x24 ?hrx31zx21x23x24 ?hQx31zx21x23x24 (Or.inl ⟨?hwx31zx21x23x24, ?hyx31zx21x23x24⟩) hS ?restx31zx21x23x24
  case h1x31zx21x23x24 => (simp only [List.getElem?_toArray, List.getElem?_cons_succ, List.getElem?_cons_zero]; rfl)
  case hsx31zx21x23x24 => kernel_rfl
  case hfx31zx21x23x24 => kernel_rfl
  case hrx31zx21x23x24 => kernel_rfl
  case hQx31zx21x23x24 => exact fun _ _ _ h => h
  case hwx31zx21x23x24 => rfl
  case hyx31zx21x23x24 =>
    intro W hW
    go_simp
    try with_reducible rfl
  simp only [Act.put, List.setIfInBounds_toArray, List.set_cons_zero]
  refine wpAnyH_done (by kernel_rfl) ?_ _
  go_wp2_with fail
  go_ret
  exact ⟨rfl, B4.out.trans (hS.mono B4.out.size)⟩
end Go.Proofs.YtpkeofioobmmoaaDoor
