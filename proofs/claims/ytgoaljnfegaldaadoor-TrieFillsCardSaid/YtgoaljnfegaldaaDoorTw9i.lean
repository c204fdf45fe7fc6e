/- The landed Find of tries of ints walked. -/
import Derived.Test.YtgoaljnfegaldaaDoorTw6i
import Derived.Test.YtgoaljnfegaldaaDoorTw8i
import Derived.Test.YtgoaljnfegaldaaDoorTv3
namespace Go.Proofs.YtgoaljnfegaldaaDoor
open Go.RowKit Go.Shelf
attribute [local go_sem] store_one S_match S_store

section
variable {w : World} {F : Nat → Prop} {g : Nat} {max : Int} {l : Ents Int} {R : Nat → Option Role} {N M E : List Key → Option Nat} {here : List Key → Option (Txt × Int)} {bs : List Nat} {C : Nat} {av : Value}
set_option maxRecDepth 100000 in
set_option maxHeartbeats 2000000 in
theorem findi_any (h : TrieAt vli w F g max l R N M E here bs C av) (path : List Txt) (Vp : Value) (bp op : Nat) (r : Option (Txt × Int)) (hT : TA w Vp path bp op) (hP : PathOk path) (hr : FindIs l path r) (hm : MaxAt w) :
    Calls Tryd.prog 16 #[.pointer (some ⟨g, 0, none⟩), Vp] w fun e w' => ∃ VF gf o', e = .returned (.tuple #[vli (fdX 0 r), VF, S (fdP r), .bool r.isSome]) ∧ FA w' VF (fdF r path) gf o' ∧ (fdF r path = [] ∨ (w.heap.size ≤ gf ∧ gf < w'.heap.size)) ∧ Below w.heap.size w w' := by
  have hfound := find_unique (find_keys h.wf h.keyd path) hr
  have hrel := findK_rel (dom := domN N) h.ents path []
  rw [hfound] at hrel
  have HB := Lib.hid (besti_any h.nodes path Vp bp op hT hP)
  cases r with
  | none =>
    rw [hrel.none_iff.2 rfl] at HB
    clear h hT hP hr hm hfound hrel
    go_enter Tryd.func16, Tryd.ntmps16
    go_wp2_with fail
    refine HB.out.mono ?_
    rintro e W ⟨rfl, hB⟩
    have HB1 := Lib.hid hB
    clear hB
    unfold ptrO
    go_wp2
    refine bodyPost_ret (results_four rfl _ _ _) rfl ?_
    exact ⟨.slice none 0 0, 0, 0, rfl, (flds_nil _ 0).fa, .inl rfl, HB1.out⟩
  | some e =>
    cases hq : findK (domN N) E [] path with
    | none => rw [hq] at hrel; exact hrel.elim
    | some eb =>
      rw [hq] at HB hrel
      obtain ⟨ty, hrow⟩ := hrel
      obtain ⟨p, x⟩ := e
      obtain ⟨s, hs⟩ := h.wf.segs _ hr.mem
      have hfit : fitsF s path = true := by
        have := hr.fits
        rwa [show segD p = s by unfold segD; rw [hs]; rfl] at this
      have hseg : fdF (some (p, x)) path = paramsF s path := by
        show paramsF (segD p) path = _
        rw [show segD p = s by unfold segD; rw [hs]; rfl]
      rw [hseg]
      have HTK : Hid (∀ W, Below w.heap.size w W → Calls Tryd.prog 26 #[S p, Vp] W fun e w' => ∃ VF gf, e = .returned VF ∧ FA w' VF (paramsF s path) gf 0 ∧ (paramsF s path = [] ∨ (W.heap.size ≤ gf ∧ gf < w'.heap.size)) ∧ Below W.heap.size W w') := Lib.hid fun W hB =>
        taken_any p s path Vp bp op (h.short _ hr.mem) hs hfit hP W (hm.below hB) (hT.below hB)
      have HRW : Hid (∀ W, Below w.heap.size w W → W.cell? ⟨eb, 0, none⟩ = some (S p) ∧ W.cell? ⟨eb, 1, none⟩ = some (vli x)) := Lib.hid fun W hB => by
        have hr2 := hrow.below hB hrow.lt
        exact ⟨cell_of_row W eb 0 _ ty (0, 0) hr2, cell_of_row W eb 1 _ ty (0, 0) hr2⟩
      generalize paramsF s path = ps at *
      clear h hT hP hr hm hfound hrow hs hfit hseg hq
      go_enter Tryd.func16, Tryd.ntmps16
      go_wp2_with fail
      refine HB.out.mono ?_
      rintro e W ⟨rfl, hB⟩
      have HB1 := Lib.hid hB
      clear hB
      unfold ptrO
      obtain ⟨Wq, hWq⟩ : ∃ Wq, Wq = W.drew := ⟨_, rfl⟩
      have hBq : Below w.heap.size w Wq := by rw [hWq]; exact HB1.out.trans ((below_drew W).mono HB1.out.size)
      have HBQ := Lib.hid hBq
      have HSQ := Lib.hid (HRW.out Wq hBq)
      have hs1 := HRW.out W HB1.out
      have HTQ := Lib.hid (HTK.out Wq hBq)
      have HWQ := Lib.hid hWq
      clear hBq hWq
      go_wp2
      refine wp_region_noPanic ?_
      refine wp_region_held_drew (S := fun wx => wx.cell? ⟨eb, 0, none⟩ = some (S p) ∧ wx.cell? ⟨eb, 1, none⟩ = some (vli x)) (by kernel_rfl) hs1 (fun _ => ?_)
      rw [← HWQ.out]
      clear hs1
      refine take_at (i := 0) (d := some 20) (v := .pointer (some ⟨eb, 0, none⟩)) rfl (by kernel_rfl) (by kernel_rfl) (by kernel_rfl) (fun _ _ _ h => h) (fun oi ho => ?_) HSQ.out ?_
      · obtain rfl := Option.some.inj ho
        exact Or.inl ⟨by rfl, fun wx hSw => by obtain ⟨hu1, hu2⟩ := hSw; go_simp⟩
      simp only [Act.put, List.setIfInBounds_toArray, List.set_cons_zero, List.set_cons_succ]
      refine take_at (i := 1) (d := some 21) (v := .pointer (some ⟨eb, 0, none⟩)) rfl (by kernel_rfl) (by kernel_rfl) (by kernel_rfl) (fun _ _ _ h => h) (fun oi ho => ?_) HSQ.out ?_
      · obtain rfl := Option.some.inj ho
        exact Or.inl ⟨by rfl, fun wx hSw => by obtain ⟨hu1, hu2⟩ := hSw; go_simp⟩
      simp only [Act.put, List.setIfInBounds_toArray, List.set_cons_zero, List.set_cons_succ]
      refine take_at (i := 2) (d := some 22) (v := .pointer (some ⟨eb, 1, none⟩)) rfl (by kernel_rfl) (by kernel_rfl) (by kernel_rfl) (fun _ _ _ h => h) (fun oi ho => ?_) HSQ.out ?_
      · obtain rfl := Option.some.inj ho
        exact Or.inl ⟨by rfl, fun wx hSw => by obtain ⟨hu1, hu2⟩ := hSw; go_simp⟩
      simp only [Act.put, List.setIfInBounds_toArray, List.set_cons_zero, List.set_cons_succ]
      refine take_at (i := 3) (d := some 23) (v := vli x) rfl (by kernel_rfl) (by kernel_rfl) (by kernel_rfl) (fun _ _ _ h => h) (fun oi ho => ?_) HSQ.out ?_
      · obtain rfl := Option.some.inj ho
        exact Or.inl ⟨by rfl, fun wx hSw => by obtain ⟨hu1, hu2⟩ := hSw; go_simp⟩
      simp only [Act.put, List.setIfInBounds_toArray, List.set_cons_zero, List.set_cons_succ]
      refine take_at (i := 4) (d := some 24) (v := .pointer (some ⟨eb, 0, none⟩)) rfl (by kernel_rfl) (by kernel_rfl) (by kernel_rfl) (fun _ _ _ h => h) (fun oi ho => ?_) HSQ.out ?_
      · obtain rfl := Option.some.inj ho
        exact Or.inl ⟨by rfl, fun wx hSw => by obtain ⟨hu1, hu2⟩ := hSw; go_simp⟩
      simp only [Act.put, List.setIfInBounds_toArray, List.set_cons_zero, List.set_cons_succ]
      refine take_at (i := 5) (d := some 25) (v := .pointer (some ⟨eb, 0, none⟩)) rfl (by kernel_rfl) (by kernel_rfl) (by kernel_rfl) (fun _ _ _ h => h) (fun oi ho => ?_) HSQ.out ?_
      · obtain rfl := Option.some.inj ho
        exact Or.inl ⟨by rfl, fun wx hSw => by obtain ⟨hu1, hu2⟩ := hSw; go_simp⟩
      simp only [Act.put, List.setIfInBounds_toArray, List.set_cons_zero, List.set_cons_succ]
      refine take_at (i := 6) (d := some 26) (v := .pointer (some ⟨eb, 0, none⟩)) rfl (by kernel_rfl) (by kernel_rfl) (by kernel_rfl) (fun _ _ _ h => h) (fun oi ho => ?_) HSQ.out ?_
      · obtain rfl := Option.some.inj ho
        exact Or.inl ⟨by rfl, fun wx hSw => by obtain ⟨hu1, hu2⟩ := hSw; go_simp⟩
      simp only [Act.put, List.setIfInBounds_toArray, List.set_cons_zero, List.set_cons_succ]
      refine take_at (i := 7) (d := some 27) (v := S p) rfl (by kernel_rfl) (by kernel_rfl) (by kernel_rfl) (fun _ _ _ h => h) (fun oi ho => ?_) HSQ.out ?_
      · obtain rfl := Option.some.inj ho
        exact Or.inl ⟨by rfl, fun wx hSw => by obtain ⟨hu1, hu2⟩ := hSw; go_simp⟩
      simp only [Act.put, List.setIfInBounds_toArray, List.set_cons_zero, List.set_cons_succ]
      refine take_at (i := 8) (d := some 28) (v := Vp) rfl (by kernel_rfl) (by kernel_rfl) (by kernel_rfl) (fun _ _ _ h => h) (fun oi ho => ?_) HSQ.out ?_
      · obtain rfl := Option.some.inj ho
        exact Or.inl ⟨by rfl, fun wx hSw => by obtain ⟨hu1, hu2⟩ := hSw; go_simp⟩
      simp only [Act.put, List.setIfInBounds_toArray, List.set_cons_zero, List.set_cons_succ]
      refine take_at (i := 10) (d := some 30) (v := .pointer (some ⟨eb, 0, none⟩)) rfl (by kernel_rfl) (by kernel_rfl) (by kernel_rfl) (fun _ _ _ h => h) (fun oi ho => ?_) HSQ.out ?_
      · obtain rfl := Option.some.inj ho
        exact Or.inl ⟨by rfl, fun wx hSw => by obtain ⟨hu1, hu2⟩ := hSw; go_simp⟩
      simp only [Act.put, List.setIfInBounds_toArray, List.set_cons_zero, List.set_cons_succ]
      refine take_at (i := 11) (d := some 31) (v := .pointer (some ⟨eb, 0, none⟩)) rfl (by kernel_rfl) (by kernel_rfl) (by kernel_rfl) (fun _ _ _ h => h) (fun oi ho => ?_) HSQ.out ?_
      · obtain rfl := Option.some.inj ho
        exact Or.inl ⟨by rfl, fun wx hSw => by obtain ⟨hu1, hu2⟩ := hSw; go_simp⟩
      simp only [Act.put, List.setIfInBounds_toArray, List.set_cons_zero, List.set_cons_succ]
      refine take_at (i := 12) (d := some 32) (v := .pointer (some ⟨eb, 0, none⟩)) rfl (by kernel_rfl) (by kernel_rfl) (by kernel_rfl) (fun _ _ _ h => h) (fun oi ho => ?_) HSQ.out ?_
      · obtain rfl := Option.some.inj ho
        exact Or.inl ⟨by rfl, fun wx hSw => by obtain ⟨hu1, hu2⟩ := hSw; go_simp⟩
      simp only [Act.put, List.setIfInBounds_toArray, List.set_cons_zero, List.set_cons_succ]
      refine take_at (i := 13) (d := some 33) (v := S p) rfl (by kernel_rfl) (by kernel_rfl) (by kernel_rfl) (fun _ _ _ h => h) (fun oi ho => ?_) HSQ.out ?_
      · obtain rfl := Option.some.inj ho
        exact Or.inl ⟨by rfl, fun wx hSw => by obtain ⟨hu1, hu2⟩ := hSw; go_simp⟩
      simp only [Act.put, List.setIfInBounds_toArray, List.set_cons_zero, List.set_cons_succ]
      refine ready_call (i := 9) (d := some 29) (f := 26) (args := #[S p, Vp]) rfl (by kernel_rfl) (fun oi ho => ?_) ?_
      · obtain rfl := Option.some.inj ho
        exact ⟨by rfl, by go_simp⟩
      refine (HTQ.out).mono ?_
      rintro e W5 ⟨VF, gf, rfl, hF, hg, hB5⟩
      have HB5 := Lib.hid (HBQ.out.trans (hB5.mono HBQ.out.size))
      have HF := Lib.hid hF
      have HG : Hid (ps = [] ∨ (w.heap.size ≤ gf ∧ gf < W5.heap.size)) := Lib.hid (hg.imp id fun h => ⟨Nat.le_trans HBQ.out.size h.1, h.2⟩)
      have HS5 := Lib.hid (HRW.out W5 HB5.out)
      clear hF hg hB5
      refine ⟨_, rfl, HS5.out, ?_⟩
      simp only [Act.put, List.setIfInBounds_toArray, List.set_cons_zero, List.set_cons_succ]
      refine take_at (i := 14) (d := some 4) (v := vli x) rfl (by kernel_rfl) (by kernel_rfl) (by kernel_rfl) (fun _ _ _ h => h) (fun oi ho => ?_) HS5.out ?_
      · obtain rfl := Option.some.inj ho
        exact Or.inl ⟨by rfl, fun wx hSw => by obtain ⟨hu1, hu2⟩ := hSw; go_simp⟩
      simp only [Act.put, List.setIfInBounds_toArray, List.set_cons_zero, List.set_cons_succ]
      refine take_at (i := 15) (d := some 5) (v := VF) rfl (by kernel_rfl) (by kernel_rfl) (by kernel_rfl) (fun _ _ _ h => h) (fun oi ho => ?_) HS5.out ?_
      · obtain rfl := Option.some.inj ho
        exact Or.inl ⟨by rfl, fun wx hSw => by obtain ⟨hu1, hu2⟩ := hSw; go_simp⟩
      simp only [Act.put, List.setIfInBounds_toArray, List.set_cons_zero, List.set_cons_succ]
      refine take_at (i := 16) (d := some 6) (v := S p) rfl (by kernel_rfl) (by kernel_rfl) (by kernel_rfl) (fun _ _ _ h => h) (fun oi ho => ?_) HS5.out ?_
      · obtain rfl := Option.some.inj ho
        exact Or.inl ⟨by rfl, fun wx hSw => by obtain ⟨hu1, hu2⟩ := hSw; go_simp⟩
      simp only [Act.put, List.setIfInBounds_toArray, List.set_cons_zero, List.set_cons_succ]
      refine take_at (i := 17) (d := some 7) (v := .bool true) rfl (by kernel_rfl) (by kernel_rfl) (by kernel_rfl) (fun _ _ _ h => h) (fun oi ho => ?_) HS5.out ?_
      · obtain rfl := Option.some.inj ho
        exact Or.inl ⟨by rfl, fun wx hSw => by obtain ⟨hu1, hu2⟩ := hSw; go_simp⟩
      simp only [Act.put, List.setIfInBounds_toArray, List.set_cons_zero, List.set_cons_succ]
      refine wpAnyH_done (by kernel_rfl) ?_ _
      refine NoPanic.normal ?_
      go_wp2
      refine bodyPost_ret (results_four rfl _ _ _) rfl ?_
      exact ⟨VF, gf, 0, rfl, HF.out, HG.out, HB5.out⟩
end
end Go.Proofs.YtgoaljnfegaldaaDoor
