/- The document's Answer (stage 17) walked. (mkdd.py writes it.) -/
import Derived.Test.YtnaekjmlikhglaaDoorDc
namespace Go.Proofs.YtnaekjmlikhglaaDoor
open Go.RowKit
attribute [local go_sem] store_one B_match B_store S_match S_store

theorem own_lit {W : World} {g base : Nat} {cs : Array Value} {fs : DFds} (h : Row W g cs 37) (hb : base ≤ g) (hcs : cs.toList = fcells fs) (hn : fs.length ≤ 1000) : W.ownsRow base 37 2 (.slice (some ⟨g, 0, none⟩) fs.length fs.length) fs.length (fcells fs) := by
  have hl : (fcells fs).length = fs.length * 2 := by unfold fcells; exact flat_len (c := fun f : DTx × DTx => [S f.1, S f.2]) (sz := 2) (fun _ => rfl) fs
  refine ⟨hl, .inr ⟨g, fs.length, cs, rfl, hb, h, Nat.le_refl _, by simp only [maxLen]; omega, ?_, ?_⟩⟩
  · rw [← Array.length_toList, hcs, hl]
  · rw [hcs, List.take_of_length_le (by omega)]
theorem own_none (W : World) (base : Nat) : W.ownsRow base 37 2 (.slice none 0 0) 0 (fcells []) := ⟨rfl, .inl ⟨rfl, rfl⟩⟩
def put3 (W : World) (b : Nat) (v0 v1 v2 : Value) : World := ((W.setCell ⟨b, 0, none⟩ v0).setCell ⟨b, 1, none⟩ v1).setCell ⟨b, 2, none⟩ v2
theorem put3_row {W : World} {b : Nat} {t : TypeId} {a0 a1 a2 : Value} (h : Row W b #[a0, a1, a2] t) (v0 v1 v2 : Value) : Row (put3 W b v0 v1 v2) b #[v0, v1, v2] t := by
  have h0 : Row (W.setCell ⟨b, 0, none⟩ v0) b #[v0, a1, a2] t := h.set 0 v0
  have h1 : Row ((W.setCell ⟨b, 0, none⟩ v0).setCell ⟨b, 1, none⟩ v1) b #[v0, v1, a2] t := h0.set 1 v1
  exact h1.set 2 v2
theorem put3_other {W : World} {b j : Nat} (h : j ≠ b) (v0 v1 v2 : Value) : (put3 W b v0 v1 v2).heap[j]? = W.heap[j]? := by
  unfold put3
  rw [heap_setCell_other _ _ _ _ (by exact h), heap_setCell_other _ _ _ _ (by exact h), heap_setCell_other _ _ _ _ (by exact h)]
theorem put3_below {n : Nat} {w W : World} {b : Nat} (h : Below n w W) (hb : n ≤ b) (v0 v1 v2 : Value) : Below n w (put3 W b v0 v1 v2) := ((h.setCell (p := ⟨b, 0, none⟩) hb v0).setCell (p := ⟨b, 1, none⟩) hb v1).setCell (p := ⟨b, 2, none⟩) hb v2
theorem infoRp : (Tryd.prog.info? 30).map (·.size) = some 3 := by kernel_rfl
theorem check_cases (m : DTx) (v : Int) (fs : DFds) : (∃ a, checkF m v fs = (a, 101)) ∨ checkF m v fs = ([], 426) ∨ checkF m v fs = ([], 400) := by
  unfold checkF
  split
  · split
    · exact .inl ⟨_, rfl⟩
    · exact .inr (.inl rfl)
  · exact .inr (.inr rfl)
set_option maxRecDepth 100000 in
set_option maxHeartbeats 2000000 in
theorem ranswer_any (m p q : DTx) (v : Int) (V : Value) (body : DTx) (cl : Bool) (fs : DFds) (b o : Nat) (w : World) (hV : FA w V fs b o) (hs : Small17 fs) :
    Calls Tryd.prog 14 #[rqV17 m p q v V body cl] w fun e w' => ∃ V', e = .returned (.tuple #[rpV17 ((checkF m v fs).2 : Int) V' (replyF (checkF m v fs)).2, .bool (decide ((checkF m v fs).2 = 101))]) ∧
      w'.ownsRow w.heap.size 37 2 V' (replyF (checkF m v fs)).1.length (fcells (replyF (checkF m v fs)).1) ∧ Below w.heap.size w w' := by
  obtain ⟨W1, hW1⟩ : ∃ W, W = (w.alloc (.cells (rqC17 m p q v V body cl) 24)).alloc (.cells #[.int .i64 0, .slice none 0 0, .string ⟨#[]⟩] 30) := ⟨_, rfl⟩
  have hb1 : Below w.heap.size w W1 := by rw [hW1]; exact ((Below.refl _ _).alloc (Nat.le_refl _) _).alloc (by rw [alloc_size]; omega) _
  have hC := rcheck_any m p q v V body cl fs b o W1 (hV.below hb1) hs
  have hr1 : Row W1 (w.heap.size + 1) #[.int .i64 0, .slice none 0 0, .string ⟨#[]⟩] 30 := by
    have := row_new (w.alloc (.cells (rqC17 m p q v V body cl) 24)) #[.int .i64 0, .slice none 0 0, .string ⟨#[]⟩] 30
    rw [alloc_size] at this
    rw [hW1]; exact this
  have H1 := Lib.hid (And.intro hr1 hb1)
  have hcs := check_cases m v fs
  obtain ⟨x, hx⟩ : ∃ x, x = checkF m v fs := ⟨_, rfl⟩
  rw [← hx] at hC hcs ⊢
  clear hx hb1 hr1 hV hs
  unfold rqV17 at hC ⊢
  unfold rqC17 at hC hW1 ⊢
  rw [hW1] at hC
  rcases hcs with ⟨a, rfl⟩ | rfl | rfl
  · have HC := Lib.hid hC
    clear hC
    go_enter Tryd.func14, Tryd.ntmps14
    go_wp2_with fail
    refine HC.out.mono ?_
    rintro e W2 ⟨rfl, hB⟩
    rw [← hW1] at hB
    have hr2 := H1.out.1.below hB H1.out.1.lt
    have H2 := Lib.hid (And.intro hr2 (H1.out.2.trans (hB.mono H1.out.2.size)))
    clear HC hB H1 hW1
    clear hr2
    obtain ⟨W3, hW3⟩ : ∃ W, W = (W2.alloc (.cells #[.int .i64 101, .slice (some ⟨W2.heap.size + 1, 0, none⟩) 3 3, .string ⟨#[]⟩] 30)).alloc (.cells #[.string ⟨#[85, 112, 103, 114, 97, 100, 101]⟩, .string ⟨#[119, 101, 98, 115, 111, 99, 107, 101, 116]⟩, .string ⟨#[67, 111, 110, 110, 101, 99, 116, 105, 111, 110]⟩, .string ⟨#[85, 112, 103, 114, 97, 100, 101]⟩, .string ⟨#[83, 101, 99, 45, 87, 101, 98, 83, 111, 99, 107, 101, 116, 45, 65, 99, 99, 101, 112, 116]⟩, S a] 37) := ⟨_, rfl⟩
    have hb3 : Below w.heap.size w W3 := by rw [hW3]; exact (H2.out.2.alloc H2.out.2.size _).alloc (by rw [alloc_size]; have := H2.out.2.size; omega) _
    have hr3 : Row W3 (w.heap.size + 1) #[.int .i64 0, .slice none 0 0, .string ⟨#[]⟩] 30 := by rw [hW3]; exact (H2.out.1.alloc _).alloc _
    have hz : ∀ i v, (#[.int .i64 0, .slice none 0 0, .string ⟨#[]⟩] : Array Value)[i]? = some v → W3.cell? ⟨w.heap.size + 1, i, none⟩ = some v := fun i v h => by rw [cell_of_row W3 _ i _ _ (0, 0) hr3]; exact h
    have z0 := hz 0 _ rfl
    have z1 := hz 1 _ rfl
    have z2 := hz 2 _ rfl
    have f0 := hr3.frozen 0
    have f1 := hr3.frozen 1
    have f2 := hr3.frozen 2
    have HB := Lib.hid (And.intro hr3 hb3)
    have HG := Lib.hid (H2.out.1.lt)
    have HO : Hid (W3.ownsRow w.heap.size 37 2 (.slice (some ⟨W2.heap.size + 1, 0, none⟩) 3 3) 3 (fcells (replyF (a, 101)).1)) := Lib.hid (own_lit (fs := (replyF (a, 101)).1) (by rw [hW3]; have := row_new (W2.alloc (.cells #[.int .i64 101, .slice (some ⟨W2.heap.size + 1, 0, none⟩) 3 3, .string ⟨#[]⟩] 30)) #[.string ⟨#[85, 112, 103, 114, 97, 100, 101]⟩, .string ⟨#[119, 101, 98, 115, 111, 99, 107, 101, 116]⟩, .string ⟨#[67, 111, 110, 110, 101, 99, 116, 105, 111, 110]⟩, .string ⟨#[85, 112, 103, 114, 97, 100, 101]⟩, .string ⟨#[83, 101, 99, 45, 87, 101, 98, 83, 111, 99, 107, 101, 116, 45, 65, 99, 99, 101, 112, 116]⟩, S a] 37; rw [alloc_size] at this; exact this) (by have := H2.out.2.size; omega) rfl (by show (3 : Nat) ≤ 1000; decide))
    rw [hW3] at z0 z1 z2 f0 f1 f2
    clear hz hr3 hb3
    go_wp2
    rw [← hW3]
    refine bodyPost_ret (results_row_tmp rfl _ _ (w.heap.size + 1) 30 #[.int .i64 101, .slice (some ⟨W2.heap.size + 1, 0, none⟩) 3 3, .string ⟨#[]⟩] (0, 0) _ rfl (put3_row HB.out.1 (.int .i64 101) (.slice (some ⟨W2.heap.size + 1, 0, none⟩) 3 3) (.string ⟨#[]⟩)) Tryd.underlying30 rfl infoRp) rfl ?_
    exact ⟨.slice (some ⟨W2.heap.size + 1, 0, none⟩) 3 3, rfl, own_same HO.out (fun j hj => by obtain rfl := Option.some.inj hj; exact put3_other (by show W2.heap.size + 1 ≠ w.heap.size + 1; have := HG.out; omega) _ _ _), put3_below HB.out.2 (by omega) _ _ _⟩
  · have HC := Lib.hid hC
    clear hC
    go_enter Tryd.func14, Tryd.ntmps14
    go_wp2_with fail
    refine HC.out.mono ?_
    rintro e W2 ⟨rfl, hB⟩
    rw [← hW1] at hB
    have hr2 := H1.out.1.below hB H1.out.1.lt
    have H2 := Lib.hid (And.intro hr2 (H1.out.2.trans (hB.mono H1.out.2.size)))
    clear HC hB H1 hW1
    clear hr2
    obtain ⟨W3, hW3⟩ : ∃ W, W = (W2.alloc (.cells #[.int .i64 426, .slice (some ⟨W2.heap.size + 1, 0, none⟩) 1 1, .string ⟨#[98, 97, 100, 32, 118, 101, 114, 115, 105, 111, 110]⟩] 30)).alloc (.cells #[.string ⟨#[83, 101, 99, 45, 87, 101, 98, 83, 111, 99, 107, 101, 116, 45, 86, 101, 114, 115, 105, 111, 110]⟩, .string ⟨#[49, 51]⟩] 37) := ⟨_, rfl⟩
    have hb3 : Below w.heap.size w W3 := by rw [hW3]; exact (H2.out.2.alloc H2.out.2.size _).alloc (by rw [alloc_size]; have := H2.out.2.size; omega) _
    have hr3 : Row W3 (w.heap.size + 1) #[.int .i64 0, .slice none 0 0, .string ⟨#[]⟩] 30 := by rw [hW3]; exact (H2.out.1.alloc _).alloc _
    have hz : ∀ i v, (#[.int .i64 0, .slice none 0 0, .string ⟨#[]⟩] : Array Value)[i]? = some v → W3.cell? ⟨w.heap.size + 1, i, none⟩ = some v := fun i v h => by rw [cell_of_row W3 _ i _ _ (0, 0) hr3]; exact h
    have z0 := hz 0 _ rfl
    have z1 := hz 1 _ rfl
    have z2 := hz 2 _ rfl
    have f0 := hr3.frozen 0
    have f1 := hr3.frozen 1
    have f2 := hr3.frozen 2
    have HB := Lib.hid (And.intro hr3 hb3)
    have HG := Lib.hid (H2.out.1.lt)
    have HO : Hid (W3.ownsRow w.heap.size 37 2 (.slice (some ⟨W2.heap.size + 1, 0, none⟩) 1 1) 1 (fcells (replyF ([], 426)).1)) := Lib.hid (own_lit (fs := (replyF ([], 426)).1) (by rw [hW3]; have := row_new (W2.alloc (.cells #[.int .i64 426, .slice (some ⟨W2.heap.size + 1, 0, none⟩) 1 1, .string ⟨#[98, 97, 100, 32, 118, 101, 114, 115, 105, 111, 110]⟩] 30)) #[.string ⟨#[83, 101, 99, 45, 87, 101, 98, 83, 111, 99, 107, 101, 116, 45, 86, 101, 114, 115, 105, 111, 110]⟩, .string ⟨#[49, 51]⟩] 37; rw [alloc_size] at this; exact this) (by have := H2.out.2.size; omega) rfl (by show (1 : Nat) ≤ 1000; decide))
    rw [hW3] at z0 z1 z2 f0 f1 f2
    clear hz hr3 hb3
    go_wp2
    rw [← hW3]
    refine bodyPost_ret (results_row_tmp rfl _ _ (w.heap.size + 1) 30 #[.int .i64 426, .slice (some ⟨W2.heap.size + 1, 0, none⟩) 1 1, .string ⟨#[98, 97, 100, 32, 118, 101, 114, 115, 105, 111, 110]⟩] (0, 0) _ rfl (put3_row HB.out.1 (.int .i64 426) (.slice (some ⟨W2.heap.size + 1, 0, none⟩) 1 1) (.string ⟨#[98, 97, 100, 32, 118, 101, 114, 115, 105, 111, 110]⟩)) Tryd.underlying30 rfl infoRp) rfl ?_
    exact ⟨.slice (some ⟨W2.heap.size + 1, 0, none⟩) 1 1, rfl, own_same HO.out (fun j hj => by obtain rfl := Option.some.inj hj; exact put3_other (by show W2.heap.size + 1 ≠ w.heap.size + 1; have := HG.out; omega) _ _ _), put3_below HB.out.2 (by omega) _ _ _⟩
  · have HC := Lib.hid hC
    clear hC
    go_enter Tryd.func14, Tryd.ntmps14
    go_wp2_with fail
    refine HC.out.mono ?_
    rintro e W2 ⟨rfl, hB⟩
    rw [← hW1] at hB
    have hr2 := H1.out.1.below hB H1.out.1.lt
    have H2 := Lib.hid (And.intro hr2 (H1.out.2.trans (hB.mono H1.out.2.size)))
    clear HC hB H1 hW1
    clear hr2
    obtain ⟨W3, hW3⟩ : ∃ W, W = W2.alloc (.cells #[.int .i64 400, .slice none 0 0, .string ⟨#[98, 97, 100, 32, 104, 97, 110, 100, 115, 104, 97, 107, 101]⟩] 30) := ⟨_, rfl⟩
    have hb3 : Below w.heap.size w W3 := by rw [hW3]; exact (H2.out.2.alloc H2.out.2.size _)
    have hr3 : Row W3 (w.heap.size + 1) #[.int .i64 0, .slice none 0 0, .string ⟨#[]⟩] 30 := by rw [hW3]; exact (H2.out.1.alloc _)
    have hz : ∀ i v, (#[.int .i64 0, .slice none 0 0, .string ⟨#[]⟩] : Array Value)[i]? = some v → W3.cell? ⟨w.heap.size + 1, i, none⟩ = some v := fun i v h => by rw [cell_of_row W3 _ i _ _ (0, 0) hr3]; exact h
    have z0 := hz 0 _ rfl
    have z1 := hz 1 _ rfl
    have z2 := hz 2 _ rfl
    have f0 := hr3.frozen 0
    have f1 := hr3.frozen 1
    have f2 := hr3.frozen 2
    have HB := Lib.hid (And.intro hr3 hb3)
    have HG := Lib.hid (H2.out.1.lt)
    rw [hW3] at z0 z1 z2 f0 f1 f2
    clear hz hr3 hb3
    go_wp2
    rw [← hW3]
    refine bodyPost_ret (results_row_tmp rfl _ _ (w.heap.size + 1) 30 #[.int .i64 400, .slice none 0 0, .string ⟨#[98, 97, 100, 32, 104, 97, 110, 100, 115, 104, 97, 107, 101]⟩] (0, 0) _ rfl (put3_row HB.out.1 (.int .i64 400) (.slice none 0 0) (.string ⟨#[98, 97, 100, 32, 104, 97, 110, 100, 115, 104, 97, 107, 101]⟩)) Tryd.underlying30 rfl infoRp) rfl ?_
    exact ⟨.slice none 0 0, rfl, own_none _ _, put3_below HB.out.2 (by omega) _ _ _⟩
end Go.Proofs.YtnaekjmlikhglaaDoor
