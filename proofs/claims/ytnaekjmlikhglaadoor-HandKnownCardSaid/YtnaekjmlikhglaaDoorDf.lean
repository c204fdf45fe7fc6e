/- wakes of stage 17; HandAccepts over any package. (mkdf.py writes it.) -/
import Derived.Test.YtnaekjmlikhglaaDoorDe
namespace Go.Proofs.YtnaekjmlikhglaaDoor
open Go.RowKit
attribute [local go_sem] store_one B_match B_store S_match S_store

set_option maxRecDepth 100000 in
set_option maxHeartbeats 1000000 in
theorem wakes17_any {w : World} (C : HandI w) : Calls Tryd.prog 10 #[] w fun e w' => e = .returned (.bool true) ∧ Below w.heap.size w w' := by
  obtain ⟨A, hA⟩ : ∃ a, a = acc0 := ⟨_, rfl⟩
  have eA : binOp .eql 9 (S A) (.string ⟨#[115, 51, 112, 80, 76, 77, 66, 105, 84, 120, 97, 81, 57, 107, 89, 71, 122, 122, 104, 90, 82, 98, 75, 43, 120, 79, 111, 61]⟩) = pure (.bool true) := by rw [hA]; exact (eql_S 9 acc0 acc0).trans (by simp)
  have gA : ∀ x y, eqGuard .eql 9 x y (S A) (.string ⟨#[115, 51, 112, 80, 76, 77, 66, 105, 84, 120, 97, 81, 57, 107, 89, 71, 122, 122, 104, 90, 82, 98, 75, 43, 120, 79, 111, 61]⟩) = pure () := fun x y => rfl
  have eB : binOp .eql 9 (S A) (S A) = pure (.bool true) := (eql_S 9 A A).trans (by simp)
  have gB : ∀ x y, eqGuard .eql 9 x y (S A) (S A) = pure () := fun x y => rfl
  obtain ⟨RQ, hRQ⟩ : ∃ f : Value → Value, f = fun V => rqV17 getD wsP [] 11 V [] false := ⟨_, rfl⟩
  have HAs : Hid (∀ W, Calls Tryd.prog 19 #[] W fun e w' => ∃ V, e = .returned (RQ V) ∧ w'.ownsRow W.heap.size 37 2 V 5 (fcells asksF) ∧ Below W.heap.size W w') := Lib.hid fun W => by rw [hRQ]; exact asks_any W
  have HCk : Hid (∀ W V base, Below w.heap.size w W → W.ownsRow base 37 2 V 5 (fcells asksF) → Calls Tryd.prog 11 #[RQ V] W fun e w' => e = .returned (.tuple #[S A, .int .i64 101]) ∧ Below W.heap.size W w') := Lib.hid fun W V base hb hO => by
    obtain ⟨g, hg, -⟩ := flds_at (fs := asksF) hO
    have := C.check getD wsP [] 11 V [] false asksF g 0 W hb hg.fa small_asks
    rw [check_asks] at this
    rw [hRQ, hA]; exact this
  have HAn : Hid (∀ W V base, Below w.heap.size w W → W.ownsRow base 37 2 V 5 (fcells asksF) → Calls Tryd.prog 13 #[RQ V] W fun e w' => ∃ ad cp, e = .returned (.tuple #[.agg #[.int .i64 101, .slice ad 3 cp, .string ⟨#[]⟩], .bool true]) ∧ Below W.heap.size W w') := Lib.hid fun W V base hb hO => by
    obtain ⟨g, hg, -⟩ := flds_at (fs := asksF) hO
    have := C.answer getD wsP [] 11 V [] false asksF g 0 W hb hg.fa small_asks
    rw [check_asks] at this
    rw [hRQ]
    refine this.mono ?_
    rintro e w' ⟨V', he, hO', hB⟩
    obtain ⟨g', hg', -⟩ := flds_at hO'
    obtain ⟨ad, cp, rfl⟩ := hg'.form
    exact ⟨ad, cp, he, hB⟩
  have HPo : Hid (∀ W, Below w.heap.size w W → Calls Tryd.prog 11 #[.agg #[.string ⟨#[80, 79, 83, 84]⟩, .string ⟨#[]⟩, .string ⟨#[]⟩, .int .i64 0, .slice none 0 0, .string ⟨#[]⟩, .bool false]] W fun e w' => e = .returned (.tuple #[.string ⟨#[]⟩, .int .i64 400]) ∧ Below W.heap.size W w') := Lib.hid fun W hb => by
    have := C.check [80, 79, 83, 84] [] [] 0 (.slice none 0 0) [] false [] 0 0 W hb (flds_nil W 0).fa ⟨by decide, fun f hf => by cases hf⟩
    rw [check_post] at this
    exact this
  have HAc : Hid (∀ W, Below w.heap.size w W → Calls Tryd.prog 16 #[.string ⟨#[100, 71, 104, 108, 73, 72, 78, 104, 98, 88, 66, 115, 90, 83, 66, 117, 98, 50, 53, 106, 90, 81, 61, 61]⟩] W fun e w' => e = .returned (S A) ∧ Below W.heap.size W w') := Lib.hid fun W hb => by
    have := C.accept keyV W hb (by decide)
    rw [acc_key, ← hA] at this
    exact this
  clear hA hRQ C
  go_enter Tryd.func10, Tryd.ntmps10
  go_wp2_with fail
  refine (HAs.out w).mono ?_
  rintro e W1 ⟨V1, rfl, hO, hB⟩
  have B1 := Lib.hid (And.intro hB hO)
  clear hO hB
  go_wp2_with fail
  refine (HCk.out W1 V1 _ B1.out.1 B1.out.2).mono ?_
  rintro e W2 ⟨rfl, hB⟩
  have B2 := Lib.hid (B1.out.1.trans (hB.mono B1.out.1.size))
  clear hB B1 HCk
  go_wp2_with fail
  refine (HAs.out W2).mono ?_
  rintro e W3 ⟨V3, rfl, hO, hB⟩
  have B3 := Lib.hid (And.intro (B2.out.trans (hB.mono B2.out.size)) hO)
  clear hO hB B2 HAs
  go_wp2_with fail
  refine (HAn.out W3 V3 _ B3.out.1 B3.out.2).mono ?_
  rintro e W4 ⟨ad, cp, rfl, hB⟩
  have hb4 := B3.out.1.trans (hB.mono B3.out.1.size)
  obtain ⟨W5, hW5⟩ : ∃ W, W = W4.alloc (.cells #[.int .i64 101, .slice ad 3 cp, .string ⟨#[]⟩] 30) := ⟨_, rfl⟩
  have B5 : Hid (Below w.heap.size w W5 ∧ Row W5 W4.heap.size #[.int .i64 101, .slice ad 3 cp, .string ⟨#[]⟩] 30) := Lib.hid (by rw [hW5]; exact ⟨hb4.alloc hb4.size _, row_new _ _ _⟩)
  clear hB hb4 B3 HAn
  go_wp2_with fail
  rw [← hW5]
  clear hW5
  refine (HPo.out W5 B5.out.1).mono ?_
  rintro e W6 ⟨rfl, hB⟩
  have hr6 := B5.out.2.below hB B5.out.2.lt
  have B6 := Lib.hid (And.intro (B5.out.1.trans (hB.mono B5.out.1.size)) hr6)
  have c0 : W6.cell? ⟨W4.heap.size, 0, none⟩ = some (.int .i64 101) := cell_of_row W6 _ 0 _ _ (0, 0) hr6
  have c1 : W6.cell? ⟨W4.heap.size, 1, none⟩ = some (.slice ad 3 cp) := cell_of_row W6 _ 1 _ _ (0, 0) hr6
  clear hB B5 HPo hr6
  go_wp2_with fail
  refine (HAc.out W6 B6.out.1).mono ?_
  rintro e W7 ⟨rfl, hB⟩
  have B7 := Lib.hid (B6.out.1.trans (hB.mono B6.out.1.size))
  clear hB B6 HAc c0 c1
  go_wp2
  go_ret
  exact ⟨rfl, B7.out⟩
set_option maxRecDepth 100000 in
set_option maxHeartbeats 1000000 in
theorem accepts17_any {w : World} (C : HandI w) (s : DTx) : Calls Tryd.prog 4 #[S s] w fun e w' => e = .returned (.bool true) ∧ Below w.heap.size w w' := by
  have HW := Lib.hid fun (W : World) (hb : Below w.heap.size w W) => wakes17_any (C.up hb)
  have hlS := run_len_S (P := Tryd.prog) Tryd.underlying9 3 s
  obtain ⟨u, hu⟩ : ∃ x, x = s.take 3000 := ⟨_, rfl⟩
  have hul : u.length ≤ 3000 := by rw [hu, List.length_take]; omega
  obtain ⟨a, ha⟩ : ∃ x, x = accF u := ⟨_, rfl⟩
  have H1 : Hid (∀ W, Below w.heap.size w W → Calls Tryd.prog 16 #[S u] W fun e w' => e = .returned (S a) ∧ Below W.heap.size W w') := Lib.hid fun W hb => by rw [ha]; exact C.accept u W hb hul
  have H2 : Hid (∀ W, Calls Tryd.prog 17 #[S u] W fun e w' => e = .returned (S a) ∧ Below W.heap.size W w') := Lib.hid fun W => by rw [ha]; exact raccept_any u (by omega) W
  obtain ⟨N, hN⟩ : ∃ n, n = s.length := ⟨_, rfl⟩
  rw [← hN] at hlS
  have e1 : binOp .eql 9 (S a) (S a) = pure (.bool true) := by rw [eql_S]; simp
  have n1 : ∀ x y, eqGuard .eql 9 x y (S a) (S a) = pure () := fun _ _ => rfl
  have HU := Lib.hid (And.intro hu hN)
  clear C ha hul hu hN
  by_cases hbig : 3000 < N
  · have g1 : decide ((3000 : Int) < (N : Int)) = true := decide_eq_true (by omega)
    have g1' : decide ((N : Int) > 3000) = true := g1
    have hst : ∀ W, (Instr.slice 9 (S s) none (some (.int .i64 3000)) none).run Tryd.prog W = .ok (S u) W := fun W => by rw [HU.out.1]; exact slice_take (P := Tryd.prog) Tryd.underlying9 s 3000 (by have := HU.out.2; omega) W
    clear hbig
    go_enter Tryd.func4, Tryd.ntmps4
    go_wp2_with fail
    refine (H1.out w (Below.refl _ _)).mono ?_
    rintro e W1 ⟨rfl, hB⟩
    have B1 := Lib.hid hB
    clear hB
    go_wp2_with fail
    refine (H2.out W1).mono ?_
    rintro e W2 ⟨rfl, hB⟩
    have B2 := Lib.hid (B1.out.trans (hB.mono B1.out.size))
    clear hB
    go_wp2_with fail
    refine (HW.out W2 B2.out).mono ?_
    rintro e W3 ⟨rfl, hB⟩
    have B3 := Lib.hid (B2.out.trans (hB.mono B2.out.size))
    clear hB
    go_wp2
    go_ret
    exact ⟨rfl, B3.out⟩
  · have g1 : decide ((3000 : Int) < (N : Int)) = false := decide_eq_false (by omega)
    have g1' : decide ((N : Int) > 3000) = false := g1
    obtain rfl : u = s := by rw [HU.out.1]; exact List.take_of_length_le (by have := HU.out.2; omega)
    clear hbig
    go_enter Tryd.func4, Tryd.ntmps4
    go_wp2_with fail
    refine (H1.out w (Below.refl _ _)).mono ?_
    rintro e W1 ⟨rfl, hB⟩
    have B1 := Lib.hid hB
    clear hB
    go_wp2_with fail
    refine (H2.out W1).mono ?_
    rintro e W2 ⟨rfl, hB⟩
    have B2 := Lib.hid (B1.out.trans (hB.mono B1.out.size))
    clear hB
    go_wp2_with fail
    refine (HW.out W2 B2.out).mono ?_
    rintro e W3 ⟨rfl, hB⟩
    have B3 := Lib.hid (B2.out.trans (hB.mono B2.out.size))
    clear hB
    go_wp2
    go_ret
    exact ⟨rfl, B3.out⟩
end Go.Proofs.YtnaekjmlikhglaaDoor
