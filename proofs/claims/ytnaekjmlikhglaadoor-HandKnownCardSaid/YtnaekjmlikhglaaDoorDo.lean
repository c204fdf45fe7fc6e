/- HandKnown over any package of hands (stage 17). (mkdo.py writes it.) -/
import Derived.Test.YtnaekjmlikhglaaDoorDn
import Derived.Test.YtnaekjmlikhglaaDoorDg
namespace Go.Proofs.YtnaekjmlikhglaaDoor
open Go.RowKit
attribute [local go_sem] store_one B_match B_store S_match S_store

def tfK : Nat → Nat
  | 0 => 21
  | 1 => 22
  | 2 => 23
  | 3 => 24
  | 4 => 25
  | 5 => 26
  | 6 => 27
  | 7 => 28
  | 8 => 29
  | 9 => 30
  | 10 => 31
  | 11 => 32
  | 12 => 33
  | _ => 34
def rowsC : Array Value := #[.func (.func 21) #[] #[], .int .i64 101, .func (.func 22) #[] #[], .int .i64 426, .func (.func 23) #[] #[], .int .i64 400, .func (.func 24) #[] #[], .int .i64 400, .func (.func 25) #[] #[], .int .i64 400, .func (.func 26) #[] #[], .int .i64 400, .func (.func 27) #[] #[], .int .i64 400, .func (.func 28) #[] #[], .int .i64 400, .func (.func 29) #[] #[], .int .i64 101, .func (.func 30) #[] #[], .int .i64 400, .func (.func 31) #[] #[], .int .i64 400, .func (.func 32) #[] #[], .int .i64 400, .func (.func 33) #[] #[], .int .i64 101, .func (.func 34) #[] #[], .int .i64 400]
theorem lt14 {k : Nat} (h : k < 14) : k = 0 ∨ k = 1 ∨ k = 2 ∨ k = 3 ∨ k = 4 ∨ k = 5 ∨ k = 6 ∨ k = 7 ∨ k = 8 ∨ k = 9 ∨ k = 10 ∨ k = 11 ∨ k = 12 ∨ k = 13 := by omega
theorem rowsC_get {k : Nat} (h : k < 14) : rowsC[k * 2]? = some (.func (.func (tfK k)) #[] #[]) ∧ rowsC[k * 2 + 1]? = some (.int .i64 ((rwK k).code : Int)) := by
  rcases lt14 h with rfl | rfl | rfl | rfl | rfl | rfl | rfl | rfl | rfl | rfl | rfl | rfl | rfl | rfl <;> exact ⟨rfl, rfl⟩
theorem turnK_any {W : World} {b g k : Nat} (h : k < 14) (hb : Row W b #[.string ⟨#[71, 69, 84]⟩, .string ⟨#[47, 119, 115]⟩, .string ⟨#[]⟩, .int .i64 11, .slice (some ⟨g, 0, none⟩) 5 5, .string ⟨#[]⟩, .bool false] 24) (hg : Row W g askC 37) (hne : b ≠ g) : Calls Tryd.prog (tfK k) #[.pointer (some ⟨b, 0, none⟩)] W (Trn W b g k) := by
  rcases lt14 h with rfl | rfl | rfl | rfl | rfl | rfl | rfl | rfl | rfl | rfl | rfl | rfl | rfl | rfl
  · exact turn_0 hb hg hne
  · exact turn_1 hb hg hne
  · exact turn_2 hb hg hne
  · exact turn_3 hb hg hne
  · exact turn_4 hb hg hne
  · exact turn_5 hb hg hne
  · exact turn_6 hb hg hne
  · exact turn_7 hb hg hne
  · exact turn_8 hb hg hne
  · exact turn_9 hb hg hne
  · exact turn_10 hb hg hne
  · exact turn_11 hb hg hne
  · exact turn_12 hb hg hne
  · exact turn_13 hb hg hne
theorem enterK {k : Nat} (h : k < 14) : ∀ args W, (callFunc (tfK k) args).run Tryd.prog W = .ok (.enter (tfK k) args) W := by
  rcases lt14 h with rfl | rfl | rfl | rfl | rfl | rfl | rfl | rfl | rfl | rfl | rfl | rfl | rfl | rfl
  · exact enters_of Tryd.func21 (by kernel_rfl) rfl
  · exact enters_of Tryd.func22 (by kernel_rfl) rfl
  · exact enters_of Tryd.func23 (by kernel_rfl) rfl
  · exact enters_of Tryd.func24 (by kernel_rfl) rfl
  · exact enters_of Tryd.func25 (by kernel_rfl) rfl
  · exact enters_of Tryd.func26 (by kernel_rfl) rfl
  · exact enters_of Tryd.func27 (by kernel_rfl) rfl
  · exact enters_of Tryd.func28 (by kernel_rfl) rfl
  · exact enters_of Tryd.func29 (by kernel_rfl) rfl
  · exact enters_of Tryd.func30 (by kernel_rfl) rfl
  · exact enters_of Tryd.func31 (by kernel_rfl) rfl
  · exact enters_of Tryd.func32 (by kernel_rfl) rfl
  · exact enters_of Tryd.func33 (by kernel_rfl) rfl
  · exact enters_of Tryd.func34 (by kernel_rfl) rfl
def wantF : DFds := (replyF (acc0, 101)).1
theorem check_zero17 : checkF [] 0 [] = ([], 400) := check_no (by decide +kernel)
set_option maxRecDepth 100000 in
set_option maxHeartbeats 2000000 in
theorem known17_any {w : World} (C : HandI w) : Calls Tryd.prog 8 #[] w fun e w' => e = .returned (.bool true) ∧ Below w.heap.size w w' := by
  have HW := Lib.hid fun (W : World) (hb : Below w.heap.size w W) => wakes17_any (C.up hb)
  have HC := Lib.hid C
  clear C
  obtain ⟨W1, hW1⟩ : ∃ W, W = w.alloc (.cells #[.func (.func 21) #[] #[], .int .i64 101, .func (.func 22) #[] #[], .int .i64 426, .func (.func 23) #[] #[], .int .i64 400, .func (.func 24) #[] #[], .int .i64 400, .func (.func 25) #[] #[], .int .i64 400, .func (.func 26) #[] #[], .int .i64 400, .func (.func 27) #[] #[], .int .i64 400, .func (.func 28) #[] #[], .int .i64 400, .func (.func 29) #[] #[], .int .i64 101, .func (.func 30) #[] #[], .int .i64 400, .func (.func 31) #[] #[], .int .i64 400, .func (.func 32) #[] #[], .int .i64 400, .func (.func 33) #[] #[], .int .i64 101, .func (.func 34) #[] #[], .int .i64 400] 47) := ⟨_, rfl⟩
  obtain ⟨br, hbr⟩ : ∃ b, b = w.heap.size := ⟨_, rfl⟩
  have H1 : Hid (Below w.heap.size w W1 ∧ Row W1 br rowsC 47) := Lib.hid (by
    rw [hW1, hbr]; exact ⟨(Below.refl _ _).alloc (Nat.le_refl _) _, row_new _ _ _⟩)
  have HBR := Lib.hid hbr
  go_enter Tryd.func8, Tryd.ntmps8
  go_wp2_with fail
  rw [← hW1, ← hbr]
  clear hW1 hbr
  go_loopw [2] (fun iv wr => ∃ k : Nat, k ≤ 14 ∧ iv = .int .i64 (k : Int) ∧ Hid (Below w.heap.size w wr ∧ Row wr br rowsC 47)) (fun iv _ => 14 - (intOf iv).toNat)
  case atStart => exact ⟨0, Nat.zero_le _, rfl, H1⟩
  case round =>
    obtain ⟨k, hk, rfl, HK⟩ := hrel
    by_cases hk14 : k < 14
    · have g1 : decide ((k : Int) < 14) = true := decide_eq_true (by omega)
      have hwk : IntKind.i64.wrap ((k : Int) + 1) = (k : Int) + 1 := by rw [IntKind.wrap_i64]; omega
      have hix : ∀ W, (Instr.indexAt 48 (.slice (some ⟨br, 0, none⟩) 14 14) (.int .i64 (k : Int))).run Tryd.prog W = .ok (.pointer (some ⟨br, k * 2, none⟩)) W := fun W => by
        have := run_index_at (P := Tryd.prog) Tryd.underlying48 (fun w => Tryd.sizeOf47 w) br 0 14 14 k hk14 W
        rwa [Nat.zero_add] at this
      have HT := Lib.hid fun (W : World) (b g : Nat) hb hg hne => turnK_any (W := W) (b := b) (g := g) hk14 hb hg hne
      have heg := enterK hk14
      have HGET := Lib.hid (rowsC_get hk14)
      have hck := rwK_check k
      have hsm := rwK_small k
      have hcd : ((rwK k).code : Int) ≤ 1000 ∧ (rwK k).code ≤ 1000 := by
        rcases lt14 hk14 with rfl | rfl | rfl | rfl | rfl | rfl | rfl | rfl | rfl | rfl | rfl | rfl | rfl | rfl <;> decide
      obtain ⟨tk, htk⟩ : ∃ t, t = tfK k := ⟨_, rfl⟩
      rw [← htk] at heg HT HGET
      obtain ⟨m, hm⟩ : ∃ m, m = (rwK k).m := ⟨_, rfl⟩
      obtain ⟨v, hv⟩ : ∃ v, v = (rwK k).v := ⟨_, rfl⟩
      obtain ⟨fs, hfs⟩ : ∃ f, f = (rwK k).fs := ⟨_, rfl⟩
      obtain ⟨cd, hcd0⟩ : ∃ c, c = (rwK k).code := ⟨_, rfl⟩
      rw [← hcd0] at HGET hck hcd
      rw [← hm, ← hv, ← hfs] at hck
      rw [← hfs] at hsm
      obtain ⟨x1, bA, hx, eA, q101⟩ : ∃ (x1 : DTx) (bA : Bool), checkF m v fs = (x1, cd) ∧ binOp .eql 9 (S x1) (.string ⟨#[115, 51, 112, 80, 76, 77, 66, 105, 84, 120, 97, 81, 57, 107, 89, 71, 122, 122, 104, 90, 82, 98, 75, 43, 120, 79, 111, 61]⟩) = pure (.bool bA) ∧ ((cd : Int) == 101) = bA := by
        by_cases h101 : cd = 101
        · rw [if_pos h101] at hck
          refine ⟨acc0, true, by rw [hck, h101], (eql_S 9 acc0 acc0).trans (by simp), by rw [h101]; rfl⟩
        · rw [if_neg h101] at hck
          refine ⟨[], false, hck, (eql_S 9 [] acc0).trans (by simp [acc0]), by rw [beq_eq_false_iff_ne]; omega⟩
      have gA : ∀ x y, eqGuard .eql 9 x y (S x1) (.string ⟨#[115, 51, 112, 80, 76, 77, 66, 105, 84, 120, 97, 81, 57, 107, 89, 71, 122, 122, 104, 90, 82, 98, 75, 43, 120, 79, 111, 61]⟩) = pure () := fun x y => rfl
      have HCK : Hid (∀ W V gb go, Below w.heap.size w W → FA W V fs gb go → Calls Tryd.prog 11 #[.agg #[S m, .string ⟨#[47, 119, 115]⟩, .string ⟨#[]⟩, .int .i64 v, V, .string ⟨#[]⟩, .bool false]] W fun e w' => e = .returned (.tuple #[S x1, .int .i64 (cd : Int)]) ∧ Below W.heap.size W w') := Lib.hid fun W V gb go hb hf => by
        have := HC.out.check m wsP [] v V [] false fs gb go W hb hf hsm
        rw [hx] at this
        exact this
      have hcc : ((cd : Int) == (cd : Int)) = true := beq_self_eq_true _
      have hcn : ((cd : Int) != (cd : Int)) = false := by rw [bne_eq_false_iff_eq]
      have HREQ : Hid (∀ W b g e w', Trn W b g k e w' → e = .returned (.tuple #[]) ∧ ∃ V gb go, Row w' b #[S m, .string ⟨#[47, 119, 115]⟩, .string ⟨#[]⟩, .int .i64 v, V, .string ⟨#[]⟩, .bool false] 24 ∧ FA w' V fs gb go) := Lib.hid fun W b g e w' h => by
        obtain ⟨h1, ⟨V, gb, go, h2, h3⟩, h4⟩ := h
        rw [← hm, ← hv] at h2
        rw [← hfs] at h3
        exact ⟨h1, V, gb, go, h2, h3⟩
      have HK14 := Lib.hid hk14
      clear hck hsm hcd hcd0 hm hv hfs htk hx hk14 hk
      go_wp2_with fail
      refine (asks_lit wr).mono ?_
      rintro e W2 ⟨g, rfl, hga, hgl, hB2⟩
      obtain ⟨W3, hW3⟩ : ∃ W, W = W2.alloc (.cells #[.string ⟨#[71, 69, 84]⟩, .string ⟨#[47, 119, 115]⟩, .string ⟨#[]⟩, .int .i64 11, .slice (some ⟨g, 0, none⟩) 5 5, .string ⟨#[]⟩, .bool false] 24) := ⟨_, rfl⟩
      obtain ⟨b3, hb3⟩ : ∃ b, b = W2.heap.size := ⟨_, rfl⟩
      have hB23 : Below W2.heap.size W2 W3 := by rw [hW3]; exact (Below.refl _ _).alloc (Nat.le_refl _) _
      have hB13 : Below w.heap.size w W3 := (HK.out.1.trans (hB2.mono HK.out.1.size)).trans (hB23.mono (Nat.le_trans HK.out.1.size hB2.size))
      have hr3 : Row W3 br rowsC 47 := (HK.out.2.below hB2 HK.out.2.lt).below hB23 (HK.out.2.below hB2 HK.out.2.lt).lt
      have hb3r : Row W3 b3 #[.string ⟨#[71, 69, 84]⟩, .string ⟨#[47, 119, 115]⟩, .string ⟨#[]⟩, .int .i64 11, .slice (some ⟨g, 0, none⟩) 5 5, .string ⟨#[]⟩, .bool false] 24 := by rw [hW3, hb3]; exact row_new _ _ _
      have hg3 : Row W3 g askC 37 := hga.below hB23 hga.lt
      have cT : W3.cell? ⟨br, k * 2, none⟩ = some (.func (.func tk) #[] #[]) := by rw [cell_of_row W3 br (k * 2) _ _ (0, 0) hr3]; exact HGET.out.1
      have H3 : Hid (Below w.heap.size w W3 ∧ Row W3 br rowsC 47 ∧ Row W3 b3 #[.string ⟨#[71, 69, 84]⟩, .string ⟨#[47, 119, 115]⟩, .string ⟨#[]⟩, .int .i64 11, .slice (some ⟨g, 0, none⟩) 5 5, .string ⟨#[]⟩, .bool false] 24 ∧ Row W3 g askC 37 ∧ b3 ≠ g ∧ br < b3 ∧ br < g ∧ w.heap.size ≤ b3 ∧ w.heap.size ≤ g) := Lib.hid ⟨hB13, hr3, hb3r, hg3, by rw [hb3]; exact Nat.ne_of_gt hga.lt, by rw [hb3]; have := HK.out.2.lt; have := hB2.size; omega, by have := HK.out.2.lt; omega, by rw [hb3]; have := HK.out.1.size; have := hB2.size; omega, by have := HK.out.1.size; omega⟩
      rw [hW3] at cT
      clear hga hgl hB2 hB23 hB13 hr3 hb3r hg3 HK
      go_wp2_with fail
      rw [← hW3, ← hb3]
      clear hW3 hb3 cT hix
      refine (HT.out W3 b3 g H3.out.2.2.1 H3.out.2.2.2.1 H3.out.2.2.2.2.1).mono ?_
      rintro e W4 hTr
      obtain ⟨rfl, V, gb, go, hrq, hfa⟩ := HREQ.out _ _ _ _ _ hTr
      have hkeep := hTr.keep
      have hB4 : Below w.heap.size w W4 := H3.out.1.trans (hkeep.below (fun x hx => by
        rcases hx with e | e
        · rw [e]; exact H3.out.2.2.2.2.2.2.2.1
        · rw [e]; exact H3.out.2.2.2.2.2.2.2.2) H3.out.1.size)
      have hr4 : Row W4 br rowsC 47 := H3.out.2.1.moves hkeep (fun e => by
        have h1 := H3.out.2.2.2.2.2.1
        have h2 := H3.out.2.2.2.2.2.2.1
        rcases e with e | e <;> omega)
      have q0 : W4.cell? ⟨b3, 0, none⟩ = some (S m) := cell_of_row W4 _ 0 _ _ (0, 0) hrq
      have q1 : W4.cell? ⟨b3, 1, none⟩ = some (.string ⟨#[47, 119, 115]⟩) := cell_of_row W4 _ 1 _ _ (0, 0) hrq
      have q2 : W4.cell? ⟨b3, 2, none⟩ = some (.string ⟨#[]⟩) := cell_of_row W4 _ 2 _ _ (0, 0) hrq
      have q3 : W4.cell? ⟨b3, 3, none⟩ = some (.int .i64 v) := cell_of_row W4 _ 3 _ _ (0, 0) hrq
      have q4 : W4.cell? ⟨b3, 4, none⟩ = some V := cell_of_row W4 _ 4 _ _ (0, 0) hrq
      have q5 : W4.cell? ⟨b3, 5, none⟩ = some (.string ⟨#[]⟩) := cell_of_row W4 _ 5 _ _ (0, 0) hrq
      have q6 : W4.cell? ⟨b3, 6, none⟩ = some (.bool false) := cell_of_row W4 _ 6 _ _ (0, 0) hrq
      have H4 := Lib.hid (And.intro hB4 (And.intro hr4 hfa))
      clear hTr hrq hfa hkeep hB4 hr4 H3 HT HREQ
      go_wp2_with fail
      clear q0 q1 q2 q3 q4 q5 q6
      refine (HCK.out W4 V gb go H4.out.1 H4.out.2.2).mono ?_
      rintro e W5 ⟨rfl, hB5⟩
      have hr5 := H4.out.2.1.below hB5 H4.out.2.1.lt
      have hix : ∀ W, (Instr.indexAt 48 (.slice (some ⟨br, 0, none⟩) 14 14) (.int .i64 (k : Int))).run Tryd.prog W = .ok (.pointer (some ⟨br, k * 2, none⟩)) W := fun W => by
        have := run_index_at (P := Tryd.prog) Tryd.underlying48 (fun w => Tryd.sizeOf47 w) br 0 14 14 k HK14.out W
        rwa [Nat.zero_add] at this
      have cC : W5.cell? ⟨br, k * 2 + 1, none⟩ = some (.int .i64 (cd : Int)) := by rw [cell_of_row W5 br (k * 2 + 1) _ _ (0, 0) hr5]; exact HGET.out.2
      have H5 : Hid (Below w.heap.size w W5 ∧ Row W5 br rowsC 47) := Lib.hid ⟨H4.out.1.trans (hB5.mono H4.out.1.size), hr5⟩
      clear hB5 hr5 H4 HCK
      have hbb : (bA != bA) = false := by cases bA <;> rfl
      cases bA
      all_goals
        go_wp2
        exact ⟨⟨k + 1, by have := HK14.out; omega, by go_num, H5⟩, by have := HK14.out; simp [intOf]; omega⟩
    · obtain rfl : k = 14 := by omega
      have HME := Lib.hid HK.out.1
      have g1 : decide (((14 : Nat) : Int) < 14) = false := rfl
      obtain ⟨RQ, hRQ⟩ : ∃ f : Value → Value, f = fun V => rqV17 getD wsP [] 11 V [] false := ⟨_, rfl⟩
      have HAs : Hid (∀ W, Calls Tryd.prog 19 #[] W fun e w' => ∃ V, e = .returned (RQ V) ∧ w'.ownsRow W.heap.size 37 2 V 5 (fcells asksF) ∧ Below W.heap.size W w') := Lib.hid fun W => by rw [hRQ]; exact asks_any W
      have HAn : Hid (∀ W V base, Below w.heap.size w W → W.ownsRow base 37 2 V 5 (fcells asksF) → Calls Tryd.prog 13 #[RQ V] W fun e w' => ∃ ad cp gf, e = .returned (.tuple #[.agg #[.int .i64 101, .slice ad 3 cp, .string ⟨#[]⟩], .bool true]) ∧ FA w' (.slice ad 3 cp) wantF gf 0 ∧ Below W.heap.size W w') := Lib.hid fun W V base hb hO => by
        obtain ⟨g, hg, -⟩ := flds_at (fs := asksF) hO
        have := HC.out.answer getD wsP [] 11 V [] false asksF g 0 W hb hg.fa small_asks
        rw [check_asks] at this
        rw [hRQ]
        refine this.mono ?_
        rintro e w' ⟨V', he, hO', hB⟩
        obtain ⟨g', hg', -⟩ := flds_at hO'
        obtain ⟨ad, cp, rfl⟩ := hg'.form
        exact ⟨ad, cp, g', he, hg'.fa, hB⟩
      have HAz : Hid (∀ W, Below w.heap.size w W → Calls Tryd.prog 13 #[.agg #[.string ⟨#[]⟩, .string ⟨#[]⟩, .string ⟨#[]⟩, .int .i64 0, .slice none 0 0, .string ⟨#[]⟩, .bool false]] W fun e w' => ∃ ad cp gf, e = .returned (.tuple #[.agg #[.int .i64 400, .slice ad 0 cp, .string ⟨#[98, 97, 100, 32, 104, 97, 110, 100, 115, 104, 97, 107, 101]⟩], .bool false]) ∧ FA w' (.slice ad 0 cp) [] gf 0 ∧ Below W.heap.size W w') := Lib.hid fun W hb => by
        have := HC.out.answer [] [] [] 0 (.slice none 0 0) [] false [] 0 0 W hb (flds_nil W 0).fa ⟨by decide, fun f hf => by cases hf⟩
        rw [check_zero17] at this
        refine this.mono ?_
        rintro e w' ⟨V', he, hO', hB⟩
        obtain ⟨g', hg', -⟩ := flds_at hO'
        obtain ⟨ad, cp, rfl⟩ := hg'.form
        exact ⟨ad, cp, g', he, hg'.fa, hB⟩
      clear HC hRQ H1 HK
      go_wp2_with fail
      refine (HAs.out wr).mono ?_
      rintro e W2 ⟨V2, rfl, hO, hB⟩
      have H2 := Lib.hid (And.intro (HME.out.trans (hB.mono HME.out.size)) hO)
      clear hO hB
      go_wp2_with fail
      refine (HAn.out W2 V2 _ H2.out.1 H2.out.2).mono ?_
      rintro e W3 ⟨ad, cp, gf, rfl, hF, hB⟩
      obtain ⟨W4, hW4⟩ : ∃ W, W = W3.alloc (.cells #[.int .i64 101, .slice ad 3 cp, .string ⟨#[]⟩] 30) := ⟨_, rfl⟩
      have hb3 := H2.out.1.trans (hB.mono H2.out.1.size)
      have hB34 : Below W3.heap.size W3 W4 := by rw [hW4]; exact (Below.refl _ _).alloc (Nat.le_refl _) _
      have H4 : Hid (Below w.heap.size w W4 ∧ Row W4 W3.heap.size #[.int .i64 101, .slice ad 3 cp, .string ⟨#[]⟩] 30 ∧ FA W4 (.slice ad 3 cp) wantF gf 0) := Lib.hid ⟨hb3.trans (hB34.mono hb3.size), by rw [hW4]; exact row_new _ _ _, hF.below hB34⟩
      clear hF hB hb3 hB34 H2 HAn HAs
      go_wp2_with fail
      rw [← hW4]
      clear hW4
      obtain ⟨b6, hb6⟩ : ∃ b, b = W3.heap.size := ⟨_, rfl⟩
      rw [← hb6] at H4 ⊢
      clear hb6
      refine (HAz.out W4 H4.out.1).mono ?_
      rintro e W5 ⟨ae, ce, ge, rfl, hFe, hB⟩
      obtain ⟨W6, hW6⟩ : ∃ W, W = (W5.alloc (.cells #[.int .i64 400, .slice ae 0 ce, .string ⟨#[98, 97, 100, 32, 104, 97, 110, 100, 115, 104, 97, 107, 101]⟩] 30)).alloc (.cells #[.string ⟨#[85, 112, 103, 114, 97, 100, 101]⟩, .string ⟨#[119, 101, 98, 115, 111, 99, 107, 101, 116]⟩, .string ⟨#[67, 111, 110, 110, 101, 99, 116, 105, 111, 110]⟩, .string ⟨#[85, 112, 103, 114, 97, 100, 101]⟩, .string ⟨#[83, 101, 99, 45, 87, 101, 98, 83, 111, 99, 107, 101, 116, 45, 65, 99, 99, 101, 112, 116]⟩, .string ⟨#[115, 51, 112, 80, 76, 77, 66, 105, 84, 120, 97, 81, 57, 107, 89, 71, 122, 122, 104, 90, 82, 98, 75, 43, 120, 79, 111, 61]⟩] 37) := ⟨_, rfl⟩
      have hb5 := H4.out.1.trans (hB.mono H4.out.1.size)
      have hB56 : Below W5.heap.size W5 W6 := by rw [hW6]; exact ((Below.refl _ _).alloc (Nat.le_refl _) _).alloc (by rw [alloc_size]; omega) _
      have hw6 : Row W6 (W5.heap.size + 1) #[.string ⟨#[85, 112, 103, 114, 97, 100, 101]⟩, .string ⟨#[119, 101, 98, 115, 111, 99, 107, 101, 116]⟩, .string ⟨#[67, 111, 110, 110, 101, 99, 116, 105, 111, 110]⟩, .string ⟨#[85, 112, 103, 114, 97, 100, 101]⟩, .string ⟨#[83, 101, 99, 45, 87, 101, 98, 83, 111, 99, 107, 101, 116, 45, 65, 99, 99, 101, 112, 116]⟩, .string ⟨#[115, 51, 112, 80, 76, 77, 66, 105, 84, 120, 97, 81, 57, 107, 89, 71, 122, 122, 104, 90, 82, 98, 75, 43, 120, 79, 111, 61]⟩] 37 := by rw [hW6]; have := row_new (W5.alloc (.cells #[.int .i64 400, .slice ae 0 ce, .string ⟨#[98, 97, 100, 32, 104, 97, 110, 100, 115, 104, 97, 107, 101]⟩] 30)) #[.string ⟨#[85, 112, 103, 114, 97, 100, 101]⟩, .string ⟨#[119, 101, 98, 115, 111, 99, 107, 101, 116]⟩, .string ⟨#[67, 111, 110, 110, 101, 99, 116, 105, 111, 110]⟩, .string ⟨#[85, 112, 103, 114, 97, 100, 101]⟩, .string ⟨#[83, 101, 99, 45, 87, 101, 98, 83, 111, 99, 107, 101, 116, 45, 65, 99, 99, 101, 112, 116]⟩, .string ⟨#[115, 51, 112, 80, 76, 77, 66, 105, 84, 120, 97, 81, 57, 107, 89, 71, 122, 122, 104, 90, 82, 98, 75, 43, 120, 79, 111, 61]⟩] 37; rw [alloc_size] at this; exact this
      have hr56 : Row W6 W5.heap.size #[.int .i64 400, .slice ae 0 ce, .string ⟨#[98, 97, 100, 32, 104, 97, 110, 100, 115, 104, 97, 107, 101]⟩] 30 := by rw [hW6]; exact (row_new _ _ _).alloc _
      obtain ⟨W7, hW7⟩ : ∃ W, W = W6.alloc (.cells #[.int .i64 101, .slice (some ⟨W5.heap.size + 1, 0, none⟩) 3 3, .string ⟨#[]⟩] 30) := ⟨_, rfl⟩
      have hB67 : Below W6.heap.size W6 W7 := by rw [hW7]; exact (Below.refl _ _).alloc (Nat.le_refl _) _
      have hB57 : Below W5.heap.size W5 W7 := hB56.trans (hB67.mono hB56.size)
      have hr7 : Row W7 (W5.heap.size + 2) #[.int .i64 101, .slice (some ⟨W5.heap.size + 1, 0, none⟩) 3 3, .string ⟨#[]⟩] 30 := by
        have := row_new W6 #[.int .i64 101, .slice (some ⟨W5.heap.size + 1, 0, none⟩) 3 3, .string ⟨#[]⟩] 30
        rw [← hW7] at this
        rw [show W6.heap.size = W5.heap.size + 2 by rw [hW6]; simp] at this
        exact this
      have x6 : Row W7 b6 #[.int .i64 101, .slice ad 3 cp, .string ⟨#[]⟩] 30 := (H4.out.2.1.below hB H4.out.2.1.lt).below hB57 (H4.out.2.1.below hB H4.out.2.1.lt).lt
      have x8 : Row W7 W5.heap.size #[.int .i64 400, .slice ae 0 ce, .string ⟨#[98, 97, 100, 32, 104, 97, 110, 100, 115, 104, 97, 107, 101]⟩] 30 := hr56.below hB67 hr56.lt
      have H7 : Hid (Below w.heap.size w W7 ∧ FA W7 (.slice ad 3 cp) wantF gf 0 ∧ FA W7 (.slice ae 0 ce) [] ge 0 ∧ FA W7 (.slice (some ⟨W5.heap.size + 1, 0, none⟩) 3 3) wantF (W5.heap.size + 1) 0) := Lib.hid ⟨hb5.trans (hB57.mono hb5.size), (H4.out.2.2.below hB).below hB57, hFe.below hB57, (fa_cells (fs := wantF) (n := 3) (c := 3) hw6 (by rfl) rfl).below hB67⟩
      have a0 : W7.cell? ⟨b6, 0, none⟩ = some (.int .i64 101) := cell_of_row W7 _ 0 _ _ (0, 0) x6
      have a1 : W7.cell? ⟨b6, 1, none⟩ = some (.slice ad 3 cp) := cell_of_row W7 _ 1 _ _ (0, 0) x6
      have a2 : W7.cell? ⟨b6, 2, none⟩ = some (.string ⟨#[]⟩) := cell_of_row W7 _ 2 _ _ (0, 0) x6
      have d0 : W7.cell? ⟨W5.heap.size + 2, 0, none⟩ = some (.int .i64 101) := cell_of_row W7 _ 0 _ _ (0, 0) hr7
      have d1 : W7.cell? ⟨W5.heap.size + 2, 1, none⟩ = some (.slice (some ⟨W5.heap.size + 1, 0, none⟩) 3 3) := cell_of_row W7 _ 1 _ _ (0, 0) hr7
      have d2 : W7.cell? ⟨W5.heap.size + 2, 2, none⟩ = some (.string ⟨#[]⟩) := cell_of_row W7 _ 2 _ _ (0, 0) hr7
      have HX8 := Lib.hid x8
      rw [hW7, hW6] at a0 a1 a2 d0 d1 d2
      clear hb5 hB56 hw6 hr56 hB67 hB57 hr7 x6 x8 hFe hB H4 HAz
      have HS1 := Lib.hid (same17_true 101 [] wantF (.slice ad 3 cp) (.slice (some ⟨W5.heap.size + 1, 0, none⟩) 3 3) gf 0 (W5.heap.size + 1) 0 (by decide) W7 H7.out.2.1 H7.out.2.2.2)
      go_wp2_with fail
      rw [← hW6, ← hW7]
      clear hW6 hW7 a0 a1 a2 d0 d1 d2
      refine HS1.out.mono ?_
      rintro e W8 ⟨rfl, hB⟩
      have hx8 := HX8.out.below hB HX8.out.lt
      have H8 : Hid (Below w.heap.size w W8 ∧ FA W8 (.slice ae 0 ce) [] ge 0) := Lib.hid ⟨H7.out.1.trans (hB.mono H7.out.1.size), H7.out.2.2.1.below hB⟩
      have z0 : W8.cell? ⟨W5.heap.size, 0, none⟩ = some (.int .i64 400) := cell_of_row W8 _ 0 _ _ (0, 0) hx8
      have z1 : W8.cell? ⟨W5.heap.size, 1, none⟩ = some (.slice ae 0 ce) := cell_of_row W8 _ 1 _ _ (0, 0) hx8
      have z2 : W8.cell? ⟨W5.heap.size, 2, none⟩ = some (.string ⟨#[98, 97, 100, 32, 104, 97, 110, 100, 115, 104, 97, 107, 101]⟩) := cell_of_row W8 _ 2 _ _ (0, 0) hx8
      have HS2 := Lib.hid (same17_true 400 [98, 97, 100, 32, 104, 97, 110, 100, 115, 104, 97, 107, 101] [] (.slice ae 0 ce) (.slice none 0 0) ge 0 0 0 (by decide) W8 H8.out.2 (flds_nil W8 0).fa)
      clear hB hx8 H7 HX8 HS1
      go_wp2_with fail
      clear z0 z1 z2
      refine HS2.out.mono ?_
      rintro e W9 ⟨rfl, hB⟩
      have H9 := Lib.hid (H8.out.1.trans (hB.mono H8.out.1.size))
      clear hB H8 HS2
      go_wp2_with fail
      refine (HW.out W9 H9.out).mono ?_
      rintro e W10 ⟨rfl, hB⟩
      have H10 := Lib.hid (H9.out.trans (hB.mono H9.out.size))
      clear hB H9
      go_wp2
      go_ret
      exact ⟨rfl, H10.out⟩
end Go.Proofs.YtnaekjmlikhglaaDoor
