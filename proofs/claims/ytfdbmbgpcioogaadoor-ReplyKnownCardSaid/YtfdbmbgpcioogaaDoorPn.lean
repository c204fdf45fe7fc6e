/- The law's ReplyKnown (stage 10) walked. (mkpn.py writes it.) -/
import Derived.Test.YtfdbmbgpcioogaaDoorJe
import Derived.Test.YtfdbmbgpcioogaaDoorRr
namespace Go.Proofs.YtfdbmbgpcioogaaDoor
open Go.RowKit
attribute [local go_sem] store_one S_match S_store eguard_BN nguard_BN

def kXa : List UInt8 := [72, 84, 84, 80, 47, 49, 46, 49, 32, 49, 48, 49, 32, 83, 119, 105, 116, 99, 104, 105, 110, 103, 32, 80, 114, 111, 116, 111, 99, 111, 108, 115, 13, 10, 85, 112, 103, 114, 97, 100, 101, 58, 32, 119, 101, 98, 115, 111, 99, 107, 101, 116, 13, 10, 67, 111, 110, 110, 101, 99, 116, 105, 111, 110, 58, 32, 85, 112, 103, 114, 97, 100, 101, 13, 10, 13, 10]
def kXb : List UInt8 := [72, 84, 84, 80, 47, 49, 46, 49, 32, 50, 48, 52, 32, 83, 116, 97, 116, 117, 115, 13, 10, 67, 111, 110, 110, 101, 99, 116, 105, 111, 110, 58, 32, 99, 108, 111, 115, 101, 13, 10, 13, 10]
def kL7 : List UInt8 := [72, 84, 84, 80, 47, 49, 46, 49, 32, 50, 48, 48, 32, 79, 75, 13, 10, 13, 10]
def kL8 : List UInt8 := [72, 84, 84, 80, 47, 49, 46, 49, 32, 50, 48, 48, 32, 79, 75, 13, 10, 67, 111, 110, 116, 101, 110, 116, 45, 76, 101, 110, 103, 116, 104, 58, 32, 51, 13, 10, 13, 10, 97, 98]
def kF1 : List Fld := [([85, 112, 103, 114, 97, 100, 101], [119, 101, 98, 115, 111, 99, 107, 101, 116]), ([67, 111, 110, 110, 101, 99, 116, 105, 111, 110], [85, 112, 103, 114, 97, 100, 101])]
theorem kn1 : bytesO 101 kF1 [] false false = some kXa := by
  have h1 : Lib.decDigits (101 : Int).toNat = [49, 48, 49] := (dec3 (by decide) (by decide)).trans (by decide)
  unfold bytesO
  rw [if_pos (by decide)]
  unfold bytesB headB lnsR stL
  rw [h1]; rfl
theorem kn6 : bytesO 204 [] [] false true = some kXb := by
  have h1 : Lib.decDigits (204 : Int).toNat = [50, 48, 52] := (dec3 (by decide) (by decide)).trans (by decide)
  unfold bytesO
  rw [if_pos (by decide)]
  unfold bytesB headB lnsR stL
  rw [h1]; rfl
theorem kn2 : bytesO 101 [] [120] false false = none := by unfold bytesO; rw [if_neg (by decide)]
theorem kn3 : bytesO 200 [([67, 111, 110, 116, 101, 110, 116, 45, 76, 101, 110, 103, 116, 104], [53])] [] false false = none := by unfold bytesO; rw [if_neg (by decide)]
theorem kn4 : bytesO 101 [] [] false true = none := by unfold bytesO; rw [if_neg (by decide)]
theorem kn5 : bytesO 204 [] [120] false false = none := by unfold bytesO; rw [if_neg (by decide)]
theorem kn7 : readF kL7 false = .form := by rfl
theorem kn8 : readF kL8 false = .short := by rfl
theorem kn9 : readF kL8 true = .ok 200 [] [] false 38 := by rfl
theorem knN (n : Nat) : readF (List.replicate n 120) false = if n < 65536 then .short else .form := by
  have h : endF (List.replicate n 120) = none := by
    have := end_skip [] (List.replicate n 120) (fun h => by have := List.eq_of_mem_replicate h; exact absurd this (by decide))
    rw [List.append_nil] at this
    rw [this]; rfl
  unfold readF
  rw [h]
  dsimp only
  rw [List.length_replicate]
theorem kn10 : readF (List.replicate 65536 120) false = .form := by rw [knN, if_neg (by omega)]
theorem kn_e1 : binOp .eql 9 (S kXa) (.string ⟨#[72, 84, 84, 80, 47, 49, 46, 49, 32, 49, 48, 49, 32, 83, 119, 105, 116, 99, 104, 105, 110, 103, 32, 80, 114, 111, 116, 111, 99, 111, 108, 115, 13, 10, 85, 112, 103, 114, 97, 100, 101, 58, 32, 119, 101, 98, 115, 111, 99, 107, 101, 116, 13, 10, 67, 111, 110, 110, 101, 99, 116, 105, 111, 110, 58, 32, 85, 112, 103, 114, 97, 100, 101, 13, 10, 13, 10]⟩) = pure (.bool true) := (eql_S 9 kXa kXa).trans (by rw [show (kXa == kXa) = true from by decide])
theorem kn_g1 : ∀ x y, eqGuard .eql 9 x y (S kXa) (.string ⟨#[72, 84, 84, 80, 47, 49, 46, 49, 32, 49, 48, 49, 32, 83, 119, 105, 116, 99, 104, 105, 110, 103, 32, 80, 114, 111, 116, 111, 99, 111, 108, 115, 13, 10, 85, 112, 103, 114, 97, 100, 101, 58, 32, 119, 101, 98, 115, 111, 99, 107, 101, 116, 13, 10, 67, 111, 110, 110, 101, 99, 116, 105, 111, 110, 58, 32, 85, 112, 103, 114, 97, 100, 101, 13, 10, 13, 10]⟩) = pure () := fun x y => guard_S 9 x y kXa kXa
theorem kn_e6 : binOp .eql 9 (S kXb) (.string ⟨#[72, 84, 84, 80, 47, 49, 46, 49, 32, 50, 48, 52, 32, 83, 116, 97, 116, 117, 115, 13, 10, 67, 111, 110, 110, 101, 99, 116, 105, 111, 110, 58, 32, 99, 108, 111, 115, 101, 13, 10, 13, 10]⟩) = pure (.bool true) := (eql_S 9 kXb kXb).trans (by rw [show (kXb == kXb) = true from by decide])
theorem kn_g6 : ∀ x y, eqGuard .eql 9 x y (S kXb) (.string ⟨#[72, 84, 84, 80, 47, 49, 46, 49, 32, 50, 48, 52, 32, 83, 116, 97, 116, 117, 115, 13, 10, 67, 111, 110, 110, 101, 99, 116, 105, 111, 110, 58, 32, 99, 108, 111, 115, 101, 13, 10, 13, 10]⟩) = pure () := fun x y => guard_S 9 x y kXb kXb
theorem rsn299 : (rsnF 299 == [83, 116, 97, 116, 117, 115]) = true := by decide
set_option maxRecDepth 100000 in
set_option maxHeartbeats 4000000 in
theorem known10_any {w : World} (C : ReplyI w) : Calls Tryd.prog 3 #[] w fun e w' => e = .returned (.bool true) ∧ Below w.heap.size w w' := by
  have HC := Lib.hid C
  clear C
  obtain ⟨RP, hRPq⟩ : ∃ X, X = List.replicate 65536 (120 : UInt8) := ⟨_, rfl⟩
  have H1 : Hid (∀ (W : World) (g : Nat), Below w.heap.size w W → FA W (.slice (some ⟨g, 0, none⟩) 2 2) kF1 g 0 → Calls Tryd.prog 8 #[.agg #[.int .i64 101, .slice (some ⟨g, 0, none⟩) 2 2, .string ⟨#[]⟩], .bool false, .bool false] W fun e w' => e = .returned (.tuple #[S kXa, .int .i64 0]) ∧ Below W.heap.size W w') := Lib.hid fun W g h1 h2 => by
    have h := HC.out.bytes 101 kF1 [] false false (.slice (some ⟨g, 0, none⟩) 2 2) g 0 W h1 h2 (by decide)
    rw [kn1] at h
    exact h
  have H2 : Hid (∀ (W : World) (g : Nat), Below w.heap.size w W → FA W (.slice none 0 0) [] g 0 → Calls Tryd.prog 8 #[.agg #[.int .i64 101, .slice none 0 0, .string ⟨#[120]⟩], .bool false, .bool false] W fun e w' => e = .returned (.tuple #[S [], .int .i64 1]) ∧ Below W.heap.size W w') := Lib.hid fun W g h1 h2 => by
    have h := HC.out.bytes 101 [] [120] false false (.slice none 0 0) g 0 W h1 h2 (by decide)
    rw [kn2] at h
    exact h
  have H3 : Hid (∀ (W : World) (g : Nat), Below w.heap.size w W → FA W (.slice (some ⟨g, 0, none⟩) 1 1) [([67, 111, 110, 116, 101, 110, 116, 45, 76, 101, 110, 103, 116, 104], [53])] g 0 → Calls Tryd.prog 8 #[.agg #[.int .i64 200, .slice (some ⟨g, 0, none⟩) 1 1, .string ⟨#[]⟩], .bool false, .bool false] W fun e w' => e = .returned (.tuple #[S [], .int .i64 1]) ∧ Below W.heap.size W w') := Lib.hid fun W g h1 h2 => by
    have h := HC.out.bytes 200 [([67, 111, 110, 116, 101, 110, 116, 45, 76, 101, 110, 103, 116, 104], [53])] [] false false (.slice (some ⟨g, 0, none⟩) 1 1) g 0 W h1 h2 (by decide)
    rw [kn3] at h
    exact h
  have H4 : Hid (∀ (W : World) (g : Nat), Below w.heap.size w W → FA W (.slice none 0 0) [] g 0 → Calls Tryd.prog 8 #[.agg #[.int .i64 101, .slice none 0 0, .string ⟨#[]⟩], .bool false, .bool true] W fun e w' => e = .returned (.tuple #[S [], .int .i64 1]) ∧ Below W.heap.size W w') := Lib.hid fun W g h1 h2 => by
    have h := HC.out.bytes 101 [] [] false true (.slice none 0 0) g 0 W h1 h2 (by decide)
    rw [kn4] at h
    exact h
  have H5 : Hid (∀ (W : World) (g : Nat), Below w.heap.size w W → FA W (.slice none 0 0) [] g 0 → Calls Tryd.prog 8 #[.agg #[.int .i64 204, .slice none 0 0, .string ⟨#[120]⟩], .bool false, .bool false] W fun e w' => e = .returned (.tuple #[S [], .int .i64 1]) ∧ Below W.heap.size W w') := Lib.hid fun W g h1 h2 => by
    have h := HC.out.bytes 204 [] [120] false false (.slice none 0 0) g 0 W h1 h2 (by decide)
    rw [kn5] at h
    exact h
  have H6 : Hid (∀ (W : World) (g : Nat), Below w.heap.size w W → FA W (.slice none 0 0) [] g 0 → Calls Tryd.prog 8 #[.agg #[.int .i64 204, .slice none 0 0, .string ⟨#[]⟩], .bool false, .bool true] W fun e w' => e = .returned (.tuple #[S kXb, .int .i64 0]) ∧ Below W.heap.size W w') := Lib.hid fun W g h1 h2 => by
    have h := HC.out.bytes 204 [] [] false true (.slice none 0 0) g 0 W h1 h2 (by decide)
    rw [kn6] at h
    exact h
  have H7 : Hid (∀ W, Below w.heap.size w W → Calls Tryd.prog 9 #[.string ⟨#[72, 84, 84, 80, 47, 49, 46, 49, 32, 50, 48, 48, 32, 79, 75, 13, 10, 13, 10]⟩, .bool false] W fun e w' => e = .returned (.tuple #[.agg #[.int .i64 0, .slice none 0 0, .string ⟨#[]⟩], .bool false, .int .i64 0, .int .i64 8]) ∧ Below W.heap.size W w') := Lib.hid fun W h1 => (HC.out.read kL7 false W h1 (by decide)).mono (by
    rintro e w' ⟨hb, hv⟩
    rw [kn7] at hv
    exact ⟨hv, hb⟩)
  have H8 : Hid (∀ W, Below w.heap.size w W → Calls Tryd.prog 9 #[.string ⟨#[72, 84, 84, 80, 47, 49, 46, 49, 32, 50, 48, 48, 32, 79, 75, 13, 10, 67, 111, 110, 116, 101, 110, 116, 45, 76, 101, 110, 103, 116, 104, 58, 32, 51, 13, 10, 13, 10, 97, 98]⟩, .bool false] W fun e w' => e = .returned (.tuple #[.agg #[.int .i64 0, .slice none 0 0, .string ⟨#[]⟩], .bool false, .int .i64 0, .int .i64 7]) ∧ Below W.heap.size W w') := Lib.hid fun W h1 => (HC.out.read kL8 false W h1 (by decide)).mono (by
    rintro e w' ⟨hb, hv⟩
    rw [kn8] at hv
    exact ⟨hv, hb⟩)
  have H10 : Hid (∀ W, Below w.heap.size w W → Calls Tryd.prog 9 #[S RP, .bool false] W fun e w' => e = .returned (.tuple #[.agg #[.int .i64 0, .slice none 0 0, .string ⟨#[]⟩], .bool false, .int .i64 0, .int .i64 8]) ∧ Below W.heap.size W w') := Lib.hid fun W h1 => (HC.out.read RP false W h1 (by rw [hRPq, List.length_replicate]; omega)).mono (by
    rintro e w' ⟨hb, hv⟩
    rw [hRPq, kn10] at hv
    exact ⟨hv, hb⟩)
  have H9 : Hid (∀ W, Below w.heap.size w W → Calls Tryd.prog 9 #[.string ⟨#[72, 84, 84, 80, 47, 49, 46, 49, 32, 50, 48, 48, 32, 79, 75, 13, 10, 67, 111, 110, 116, 101, 110, 116, 45, 76, 101, 110, 103, 116, 104, 58, 32, 51, 13, 10, 13, 10, 97, 98]⟩, .bool true] W fun e w' => ∃ a fc, e = .returned (.tuple #[.agg #[.int .i64 200, .slice a 0 fc, .string ⟨#[]⟩], .bool false, .int .i64 38, .int .i64 0]) ∧ Below W.heap.size W w') := Lib.hid fun W h1 => (HC.out.read kL8 true W h1 (by decide)).mono (by
    rintro e w' ⟨hb, hv⟩
    rw [kn9] at hv
    obtain ⟨V, g, he, hf⟩ := hv
    obtain ⟨a, fc, rfl⟩ := hf.form
    exact ⟨a, fc, he, hb⟩)
  have HRP : Hid (∀ W, Calls Tryd.prog 10 #[.string ⟨#[120]⟩, .int .i64 65536] W fun e w' => e = .returned (S RP) ∧ Below W.heap.size W w') := Lib.hid fun W => by rw [hRPq]; exact rep_any 120 65536 (by omega) W
  clear hRPq
  have e1 := kn_e1
  have g1 := kn_g1
  have e6 := kn_e6
  have g6 := kn_g6
  have eR : binOp .eql 9 (S (rsnF 299)) (.string ⟨#[83, 116, 97, 116, 117, 115]⟩) = pure (.bool true) := (eql_S 9 (rsnF 299) [83, 116, 97, 116, 117, 115]).trans (by rw [rsn299])
  have gR : ∀ x y, eqGuard .eql 9 x y (S (rsnF 299)) (.string ⟨#[83, 116, 97, 116, 117, 115]⟩) = pure () := fun x y => guard_S 9 x y _ [83, 116, 97, 116, 117, 115]
  go_enter Tryd.func3, Tryd.ntmps3
  have hB : Below w.heap.size w (w.alloc (.cells #[.string ⟨#[85, 112, 103, 114, 97, 100, 101]⟩, .string ⟨#[119, 101, 98, 115, 111, 99, 107, 101, 116]⟩, .string ⟨#[67, 111, 110, 110, 101, 99, 116, 105, 111, 110]⟩, .string ⟨#[85, 112, 103, 114, 97, 100, 101]⟩] 26)) := (Below.refl w.heap.size w).alloc (Below.refl w.heap.size w).size _
  go_wp2_with fail
  refine (H1.out _ w.heap.size hB (fa_row (fs := kF1) (row_new w _ _))).mono ?_
  rintro e W1 ⟨rfl, h⟩
  have B1 := Lib.hid (hB.trans (h.mono hB.size))
  clear hB h
  go_wp2_with fail
  refine (H2.out W1 0 B1.out (fa_nil _)).mono ?_
  rintro e W2 ⟨rfl, h⟩
  have B2 := Lib.hid (B1.out.trans (h.mono B1.out.size))
  clear h
  have hB : Below w.heap.size w (W2.alloc (.cells #[.string ⟨#[67, 111, 110, 116, 101, 110, 116, 45, 76, 101, 110, 103, 116, 104]⟩, .string ⟨#[53]⟩] 26)) := B2.out.alloc B2.out.size _
  go_wp2_with fail
  refine (H3.out _ W2.heap.size hB (fa_row (fs := [([67, 111, 110, 116, 101, 110, 116, 45, 76, 101, 110, 103, 116, 104], [53])]) (row_new W2 _ _))).mono ?_
  rintro e W3 ⟨rfl, h⟩
  have B3 := Lib.hid (hB.trans (h.mono hB.size))
  clear hB h
  go_wp2_with fail
  refine (H4.out W3 0 B3.out (fa_nil _)).mono ?_
  rintro e W4 ⟨rfl, h⟩
  have B4 := Lib.hid (B3.out.trans (h.mono B3.out.size))
  clear h
  go_wp2_with fail
  refine (H5.out W4 0 B4.out (fa_nil _)).mono ?_
  rintro e W5 ⟨rfl, h⟩
  have B5 := Lib.hid (B4.out.trans (h.mono B4.out.size))
  clear h
  go_wp2_with fail
  refine (H6.out W5 0 B5.out (fa_nil _)).mono ?_
  rintro e W6 ⟨rfl, h⟩
  have B6 := Lib.hid (B5.out.trans (h.mono B5.out.size))
  clear h
  go_wp2_with fail
  refine (H7.out _ B6.out).mono ?_
  rintro e W7 ⟨rfl, h⟩
  have B7 : Hid (Below w.heap.size w (W7.alloc (.cells #[.int .i64 0, .slice none 0 0, .string ⟨#[]⟩] 29))) := Lib.hid (((B6.out).trans (h.mono (B6.out).size)).alloc ((B6.out).trans (h.mono (B6.out).size)).size _)
  clear h
  go_wp2_with fail
  refine (H8.out _ B7.out).mono ?_
  rintro e W8 ⟨rfl, h⟩
  have B8 : Hid (Below w.heap.size w (W8.alloc (.cells #[.int .i64 0, .slice none 0 0, .string ⟨#[]⟩] 29))) := Lib.hid (((B7.out).trans (h.mono (B7.out).size)).alloc ((B7.out).trans (h.mono (B7.out).size)).size _)
  clear h
  go_wp2_with fail
  refine (H9.out _ B8.out).mono ?_
  rintro e W9 ⟨a, fc, rfl, h⟩
  obtain ⟨b21, hb21⟩ : ∃ b, b = W9.heap.size := ⟨_, rfl⟩
  obtain ⟨Wb, hWb⟩ : ∃ W, W = W9.alloc (.cells #[.int .i64 200, .slice a 0 fc, .string ⟨#[]⟩] 29) := ⟨_, rfl⟩
  have hB9 : Below w.heap.size w W9 := B8.out.trans (h.mono B8.out.size)
  have B9 : Hid (Below w.heap.size w Wb ∧ Row Wb b21 #[.int .i64 200, .slice a 0 fc, .string ⟨#[]⟩] 29) := Lib.hid ⟨by rw [hWb]; exact hB9.alloc hB9.size _, by rw [hWb, hb21]; exact row_new _ _ _⟩
  clear h hB9 B8 B7 B6 B5 B4 B3 B2 B1
  go_wp2_with fail
  rw [← hWb, ← hb21]
  clear hWb hb21
  refine (HRP.out Wb).mono ?_
  rintro e W10 ⟨rfl, h⟩
  have B10 := Lib.hid (And.intro (B9.out.1.trans (h.mono B9.out.1.size)) (B9.out.2.below h B9.out.2.lt))
  clear h B9 HRP
  go_wp2_with fail
  refine (H10.out W10 B10.out.1).mono ?_
  rintro e W11 ⟨rfl, h⟩
  have hB11 := B10.out.1.trans (h.mono B10.out.1.size)
  have hB12 : Below W11.heap.size W11 (W11.alloc (.cells #[.int .i64 0, .slice none 0 0, .string ⟨#[]⟩] 29)) := (Below.refl _ W11).alloc (Nat.le_refl _) _
  have B11 : Hid (Below w.heap.size w (W11.alloc (.cells #[.int .i64 0, .slice none 0 0, .string ⟨#[]⟩] 29)) ∧ Row (W11.alloc (.cells #[.int .i64 0, .slice none 0 0, .string ⟨#[]⟩] 29)) b21 #[.int .i64 200, .slice a 0 fc, .string ⟨#[]⟩] 29) := Lib.hid ⟨hB11.trans (hB12.mono hB11.size), (B10.out.2.below h B10.out.2.lt).alloc _⟩
  clear h hB11 hB12 B10 H1 H2 H3 H4 H5 H6 H7 H8 H9 H10
  go_wp2_with fail
  refine (awake10_any (HC.out.up B11.out.1)).mono ?_
  rintro e W12 ⟨rfl, h⟩
  have B12 := Lib.hid (And.intro (B11.out.1.trans (h.mono B11.out.1.size)) (B11.out.2.below h B11.out.2.lt))
  have c0 : W12.cell? ⟨b21, 0, none⟩ = some (.int .i64 200) := cell_of_row W12 _ 0 _ _ (0, 0) B12.out.2
  have c2 : W12.cell? ⟨b21, 2, none⟩ = some (.string ⟨#[]⟩) := cell_of_row W12 _ 2 _ _ (0, 0) B12.out.2
  clear h B11
  go_wp2_with fail
  clear c0 c2
  refine (HC.out.reason 299 W12 B12.out.1).mono ?_
  rintro e W13 ⟨rfl, h⟩
  have B13 := Lib.hid (B12.out.1.trans (h.mono B12.out.1.size))
  clear h B12
  go_wp2
  go_ret
  exact ⟨rfl, B13.out⟩
end Go.Proofs.YtfdbmbgpcioogaaDoor
