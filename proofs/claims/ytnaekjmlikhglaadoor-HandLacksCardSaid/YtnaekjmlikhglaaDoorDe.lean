/- Great, Asks, wakes of stage 17; HandAccepts over any package. (mkde.py writes it.) -/
import Derived.Test.YtnaekjmlikhglaaDoorDd
namespace Go.Proofs.YtnaekjmlikhglaaDoor
open Go.RowKit
attribute [local go_sem] store_one B_match B_store S_match S_store

def keyV : DTx := [100, 71, 104, 108, 73, 72, 78, 104, 98, 88, 66, 115, 90, 83, 66, 117, 98, 50, 53, 106, 90, 81, 61, 61]
def acc0 : DTx := [115, 51, 112, 80, 76, 77, 66, 105, 84, 120, 97, 81, 57, 107, 89, 71, 122, 122, 104, 90, 82, 98, 75, 43, 120, 79, 111, 61]
def wsP : DTx := [47, 119, 115]
def asksF : DFds := [([72, 111, 115, 116], [97]), ([85, 112, 103, 114, 97, 100, 101], [119, 101, 98, 115, 111, 99, 107, 101, 116]), ([67, 111, 110, 110, 101, 99, 116, 105, 111, 110], [107, 101, 101, 112, 45, 97, 108, 105, 118, 101, 44, 32, 85, 112, 103, 114, 97, 100, 101]), ([83, 101, 99, 45, 87, 101, 98, 83, 111, 99, 107, 101, 116, 45, 75, 101, 121], [100, 71, 104, 108, 73, 72, 78, 104, 98, 88, 66, 115, 90, 83, 66, 117, 98, 50, 53, 106, 90, 81, 61, 61]), ([83, 101, 99, 45, 87, 101, 98, 83, 111, 99, 107, 101, 116, 45, 86, 101, 114, 115, 105, 111, 110], [49, 51])]
theorem acc_key : accF keyV = acc0 := by decide +kernel
theorem check_asks : checkF getD 11 asksF = (acc0, 101) := by
  have h : askF getD 11 asksF = true := by decide +kernel
  unfold checkF
  rw [if_pos h, if_pos (by decide +kernel), show (manyF asksF keyD).headD [] = keyV by decide +kernel, acc_key]
theorem check_post : checkF [80, 79, 83, 84] 0 [] = ([], 400) := check_no (by decide +kernel)
theorem small_asks : Small17 asksF := ⟨by decide, fun f hf => by
  have : ∀ f ∈ asksF, f.1.length ≤ 200 ∧ f.2.length ≤ 200 := by decide
  exact this f hf⟩
def smallB (fs : DFds) : Bool := decide (fs.length ≤ 40) && fs.all fun f => decide (f.1.length ≤ 200) && decide (f.2.length ≤ 200)
theorem small_of {fs : DFds} (h : smallB fs = true) : fs.length ≤ 40 ∧ ∀ f ∈ fs, f.1.length ≤ 200 ∧ f.2.length ≤ 200 := by
  unfold smallB at h
  simp only [Bool.and_eq_true, decide_eq_true_eq, List.all_eq_true] at h
  exact h
theorem not_small {fs : DFds} {f : DTx × DTx} (h : f ∈ fs) (hl : 200 < f.1.length ∨ 200 < f.2.length) : smallB fs = false := by
  cases hb : smallB fs with
  | false => rfl
  | true =>
    have := (small_of hb).2 f h
    omega
set_option maxRecDepth 100000 in
set_option maxHeartbeats 1000000 in
theorem great_any (m p q : DTx) (v : Int) (V : Value) (body : DTx) (cl : Bool) (fs : DFds) (b o : Nat) (w : World) (hV : FA w V fs b o) :
    Calls Tryd.prog 9 #[rqV17 m p q v V body cl] w fun e w' => e = .returned (.bool (!(smallB fs))) ∧ Below w.heap.size w w' := by
  obtain ⟨W1, hW1⟩ : ∃ W, W = w.alloc (.cells (rqC17 m p q v V body cl) 24) := ⟨_, rfl⟩
  have hb1 : Below w.heap.size w W1 := by rw [hW1]; exact (Below.refl _ _).alloc (Nat.le_refl _) _
  have hV1 := hV.below hb1
  have hr1 : Row W1 w.heap.size (rqC17 m p q v V body cl) 24 := by rw [hW1]; exact row_new _ _ _
  have c4 : W1.cell? ⟨w.heap.size, 4, none⟩ = some V := cell_of_row W1 _ 4 _ _ (0, 0) hr1
  have hlen := hV1.len 3
  obtain ⟨n, hn⟩ : ∃ n, n = fs.length := ⟨_, rfl⟩
  rw [← hn] at hlen
  have H1 := Lib.hid (And.intro hV1 (And.intro hb1 hn))
  clear hV hV1 hb1 hr1 hn
  unfold rqV17
  unfold rqC17 at hW1 ⊢
  by_cases hbig : 40 < n
  · have g1 : decide ((40 : Int) < (n : Int)) = true := decide_eq_true (by omega)
    have g1' : decide ((n : Int) > 40) = true := g1
    have HV : Hid (smallB fs = false) := Lib.hid (by unfold smallB; rw [decide_eq_false (by rw [← H1.out.2.2]; omega)]; rfl)
    rw [hW1] at c4
    clear hbig
    go_enter Tryd.func9, Tryd.ntmps9
    go_wp2
    go_ret
    rw [← hW1]
    exact ⟨by rw [HV.out]; rfl, H1.out.2.1⟩
  have g1 : decide ((40 : Int) < (n : Int)) = false := decide_eq_false (by omega)
  have g1' : decide ((n : Int) > 40) = false := g1
  have HBG := Lib.hid hbig
  rw [hW1] at c4
  clear hbig
  go_enter Tryd.func9, Tryd.ntmps9
  go_wp2
  rw [← hW1] at c4 ⊢
  clear hW1 g1 g1'
  go_loopw [3] (fun iv wr => ∃ k : Nat, k ≤ n ∧ iv = .int .i64 (k : Int) ∧ wr = W1 ∧ Hid ((fs.take k).all (fun f => decide (f.1.length ≤ 200) && decide (f.2.length ≤ 200)) = true)) (fun iv _ => n - (intOf iv).toNat)
  case atStart => exact ⟨0, Nat.zero_le _, rfl, rfl, Lib.hid rfl⟩
  case round =>
    obtain ⟨k, hk, rfl, rfl, HI⟩ := hrel
    by_cases hlt : k < n
    · have hlt2 : decide ((k : Int) < (n : Int)) = true := decide_eq_true (by omega)
      have hkl : k < fs.length := by rw [← H1.out.2.2]; exact hlt
      obtain ⟨⟨nk, vk⟩, hf⟩ : ∃ f, fs[k]? = some f := ⟨fs[k], List.getElem?_eq_getElem hkl⟩
      have hix := H1.out.1.index k hkl
      obtain ⟨c0, c1⟩ := H1.out.1.cell k _ hf
      dsimp only at c0 c1
      have hl1 := run_len_S (P := Tryd.prog) Tryd.underlying9 3 nk
      have hl2 := run_len_S (P := Tryd.prog) Tryd.underlying9 3 vk
      obtain ⟨N1, hN1⟩ : ∃ n, n = nk.length := ⟨_, rfl⟩
      obtain ⟨N2, hN2⟩ : ∃ n, n = vk.length := ⟨_, rfl⟩
      rw [← hN1] at hl1
      rw [← hN2] at hl2
      have HM := Lib.hid (List.mem_of_getElem? hf)
      have HT : Hid (N1 ≤ 200 → N2 ≤ 200 → (fs.take (k + 1)).all (fun f => decide (f.1.length ≤ 200) && decide (f.2.length ≤ 200)) = true) := Lib.hid fun h1 h2 => by
        rw [List.take_add_one, hf, Option.toList_some, List.all_append, HI.out]
        simp only [List.all_cons, List.all_nil, Bool.and_true, Bool.true_and]
        rw [decide_eq_true (by rw [← hN1]; exact h1), decide_eq_true (by rw [← hN2]; exact h2)]
        rfl
      have HNN := Lib.hid (And.intro hN1 hN2)
      have hw2 : IntKind.i64.wrap ((k : Int) + 1) = (k : Int) + 1 := by have := HBG.out; rw [IntKind.wrap_i64]; omega
      generalize o + k * 2 = q at *
      clear hkl hf hN1 hN2
      by_cases h1 : 200 < N1
      · have g2 : decide ((200 : Int) < (N1 : Int)) = true := decide_eq_true (by omega)
        have g2' : decide ((N1 : Int) > 200) = true := g2
        have HV := Lib.hid (not_small HM.out (.inl (by rw [← HNN.out.1]; exact h1)))
        clear h1
        go_wp2
        go_ret
        exact ⟨by rw [HV.out]; rfl, H1.out.2.1⟩
      have g2 : decide ((200 : Int) < (N1 : Int)) = false := decide_eq_false (by omega)
      have g2' : decide ((N1 : Int) > 200) = false := g2
      by_cases h2 : 200 < N2
      · have g3 : decide ((200 : Int) < (N2 : Int)) = true := decide_eq_true (by omega)
        have g3' : decide ((N2 : Int) > 200) = true := g3
        have HV := Lib.hid (not_small HM.out (.inr (by rw [← HNN.out.2]; exact h2)))
        clear h2
        go_wp2
        go_ret
        exact ⟨by rw [HV.out]; rfl, H1.out.2.1⟩
      have g3 : decide ((200 : Int) < (N2 : Int)) = false := decide_eq_false (by omega)
      have g3' : decide ((N2 : Int) > 200) = false := g3
      have HE := Lib.hid (HT.out (by omega) (by omega))
      clear HT h1 h2
      go_wp2
      exact ⟨⟨k + 1, by omega, by go_num, by trivial, HE⟩, by simp [intOf]; omega⟩
    · obtain rfl : k = n := by omega
      have hlt2 : decide ((k : Int) < (k : Int)) = false := decide_eq_false (by omega)
      have HV : Hid (smallB fs = true) := Lib.hid (by
        unfold smallB
        have := HI.out
        rw [H1.out.2.2, List.take_length] at this
        rw [this, decide_eq_true (by have := HBG.out; rw [← H1.out.2.2]; omega)]; rfl)
      go_wp2
      go_ret
      exact ⟨by rw [HV.out]; rfl, H1.out.2.1⟩
theorem infoRq : (Tryd.prog.info? 24).map (·.size) = some 7 := by kernel_rfl
set_option maxRecDepth 100000 in
set_option maxHeartbeats 1000000 in
theorem asks_any (w : World) : Calls Tryd.prog 19 #[] w fun e w' => ∃ V, e = .returned (rqV17 getD wsP [] 11 V [] false) ∧ w'.ownsRow w.heap.size 37 2 V 5 (fcells asksF) ∧ Below w.heap.size w w' := by
  obtain ⟨W3, hW3⟩ : ∃ W, W = (w.alloc (.cells #[.string ⟨#[71, 69, 84]⟩, .string ⟨#[47, 119, 115]⟩, .string ⟨#[]⟩, .int .i64 11, .slice (some ⟨w.heap.size + 1, 0, none⟩) 5 5, .string ⟨#[]⟩, .bool false] 24)).alloc (.cells #[.string ⟨#[72, 111, 115, 116]⟩, .string ⟨#[97]⟩, .string ⟨#[85, 112, 103, 114, 97, 100, 101]⟩, .string ⟨#[119, 101, 98, 115, 111, 99, 107, 101, 116]⟩, .string ⟨#[67, 111, 110, 110, 101, 99, 116, 105, 111, 110]⟩, .string ⟨#[107, 101, 101, 112, 45, 97, 108, 105, 118, 101, 44, 32, 85, 112, 103, 114, 97, 100, 101]⟩, .string ⟨#[83, 101, 99, 45, 87, 101, 98, 83, 111, 99, 107, 101, 116, 45, 75, 101, 121]⟩, .string ⟨#[100, 71, 104, 108, 73, 72, 78, 104, 98, 88, 66, 115, 90, 83, 66, 117, 98, 50, 53, 106, 90, 81, 61, 61]⟩, .string ⟨#[83, 101, 99, 45, 87, 101, 98, 83, 111, 99, 107, 101, 116, 45, 86, 101, 114, 115, 105, 111, 110]⟩, .string ⟨#[49, 51]⟩] 37) := ⟨_, rfl⟩
  have hr : Row W3 w.heap.size #[.string ⟨#[71, 69, 84]⟩, .string ⟨#[47, 119, 115]⟩, .string ⟨#[]⟩, .int .i64 11, .slice (some ⟨w.heap.size + 1, 0, none⟩) 5 5, .string ⟨#[]⟩, .bool false] 24 := by rw [hW3]; exact (row_new _ _ _).alloc _
  have HO : Hid (W3.ownsRow w.heap.size 37 2 (.slice (some ⟨w.heap.size + 1, 0, none⟩) 5 5) 5 (fcells asksF)) := Lib.hid (own_lit (fs := asksF) (by rw [hW3]; have := row_new (w.alloc (.cells #[.string ⟨#[71, 69, 84]⟩, .string ⟨#[47, 119, 115]⟩, .string ⟨#[]⟩, .int .i64 11, .slice (some ⟨w.heap.size + 1, 0, none⟩) 5 5, .string ⟨#[]⟩, .bool false] 24)) #[.string ⟨#[72, 111, 115, 116]⟩, .string ⟨#[97]⟩, .string ⟨#[85, 112, 103, 114, 97, 100, 101]⟩, .string ⟨#[119, 101, 98, 115, 111, 99, 107, 101, 116]⟩, .string ⟨#[67, 111, 110, 110, 101, 99, 116, 105, 111, 110]⟩, .string ⟨#[107, 101, 101, 112, 45, 97, 108, 105, 118, 101, 44, 32, 85, 112, 103, 114, 97, 100, 101]⟩, .string ⟨#[83, 101, 99, 45, 87, 101, 98, 83, 111, 99, 107, 101, 116, 45, 75, 101, 121]⟩, .string ⟨#[100, 71, 104, 108, 73, 72, 78, 104, 98, 88, 66, 115, 90, 83, 66, 117, 98, 50, 53, 106, 90, 81, 61, 61]⟩, .string ⟨#[83, 101, 99, 45, 87, 101, 98, 83, 111, 99, 107, 101, 116, 45, 86, 101, 114, 115, 105, 111, 110]⟩, .string ⟨#[49, 51]⟩] 37; rw [alloc_size] at this; exact this) (by omega) rfl (by decide))
  have HB : Hid (Below w.heap.size w W3) := Lib.hid (by rw [hW3]; exact ((Below.refl _ _).alloc (Nat.le_refl _) _).alloc (by rw [alloc_size]; omega) _)
  have HR := Lib.hid hr
  clear hr
  go_enter Tryd.func19, Tryd.ntmps19
  go_wp2
  rw [← hW3]
  refine bodyPost_ret (results_cell_row rfl _ _ w.heap.size 24 _ (0, 0) _ rfl HR.out Tryd.underlying24 rfl infoRq) rfl ?_
  exact ⟨_, rfl, HO.out, HB.out⟩
end Go.Proofs.YtnaekjmlikhglaaDoor
