/- The law's ReplyReads (stage 10) walked. -/
import Derived.Test.YtfdbmbgpcioogaaGreatDoorJf
namespace Go.Proofs.YtfdbmbgpcioogaaGreatDoor
open Go.RowKit
attribute [local go_sem] store_one S_match S_store eguard_BN nguard_BN

def rdC : Rd → Int
  | .ok c _ _ _ _ => c
  | _ => 0
def rdF : Rd → List Fld
  | .ok _ fs _ _ _ => fs
  | _ => []
def rdB : Rd → List UInt8
  | .ok _ _ b _ _ => b
  | _ => []
def rdX : Rd → Bool
  | .ok _ _ _ x _ => x
  | _ => false
def rdN : Rd → Int
  | .ok _ _ _ _ n => n
  | _ => 0
def rdK : Rd → Int
  | .ok _ _ _ _ _ => 0
  | .short => 7
  | .form => 8
theorem fa_nil (w : World) : FA w (.slice none 0 0) [] 0 0 :=
  ⟨fun T w' => by simp [Builtin.len_, run_underlying Tryz.underlying22, Result.andThen, goInt], fun i hi => absurd hi (by simp), fun i f hf => (by simp at hf), ⟨none, 0, rfl⟩⟩
/-- What Read hands back, in one form. -/
theorem read_vals {R : Rd} {e : Ending} {w w' : World} (h : ReadV R e w w') : Below w.heap.size w w' ∧ ∃ a fc g, e = .returned (.tuple #[.agg (rpC (rdC R) (.slice a (rdF R).length fc) (rdB R)), .bool (rdX R), .int .i64 (rdN R), .int .i64 (rdK R)]) ∧ FA w' (.slice a (rdF R).length fc) (rdF R) g 0 := by
  obtain ⟨hb, h⟩ := h
  refine ⟨hb, ?_⟩
  cases R with
  | short => exact ⟨none, 0, 0, h, fa_nil w'⟩
  | form => exact ⟨none, 0, 0, h, fa_nil w'⟩
  | ok c fs body close n =>
    obtain ⟨V, g, he, hf⟩ := h
    obtain ⟨a, fc, rfl⟩ := hf.form
    exact ⟨a, fc, g, he, hf.fa⟩
/-- There are not many fields in a text. -/
theorem goP_count (code : Nat) : ∀ (ls : List (List UInt8)) (p q : Ps), goP code p ls = some q → q.fs.length ≤ p.fs.length + ls.length
  | [], p, q, h => by cases h; simp
  | l :: r, p, q, h => by
    rw [goP] at h
    cases hs : stepP code p l with
    | none => rw [hs] at h; cases h
    | some p1 =>
      rw [hs] at h
      have := goP_count code r p1 q h
      have h1 : p1.fs.length ≤ p.fs.length + 1 := by
        unfold stepP at hs
        split at hs
        · cases hs
        · split at hs
          · cases hz : szF (parseF l).2.1 with
            | none => rw [hz] at hs; cases hs
            | some k => rw [hz] at hs; cases hs; simp
          · split at hs
            · split at hs
              · cases hs; simp
              · cases hs
            · cases hs; simp
      rw [List.length_cons]; omega
theorem lnsP_count : ∀ (n : Nat) (s cur : List UInt8), s.length ≤ n → (lnsF cur s).length ≤ s.length + 1
  | _, [], cur, _ => by rw [lnP_end]; simp
  | _, [c], cur, _ => by rw [lnP_last]; simp
  | 0, c :: d :: r, cur, h => by simp at h
  | n + 1, c :: d :: r, cur, h => by
    simp only [List.length_cons] at h
    by_cases hc : c = 13 ∧ d = 10
    · obtain ⟨rfl, rfl⟩ := hc
      rw [lnP_cut]
      have := lnsP_count n r [] (by omega)
      simp only [List.length_cons]
      omega
    · rw [lnP_on hc]
      have := lnsP_count n (d :: r) (cur ++ [c]) (by simp; omega)
      simp only [List.length_cons] at this ⊢
      omega
theorem rd_count (s : List UInt8) (head : Bool) : (rdF (readF s head)).length ≤ s.length + 1 := by
  unfold readF
  cases he : endF s with
  | none => dsimp only; split <;> simp [rdF]
  | some e =>
    dsimp only
    have hl := lnsP_count (s.take (e - 4)).length (s.take (e - 4)) [] (Nat.le_refl _)
    cases hh : headP (lnsF [] (s.take (e - 4))) with
    | none => simp [rdF]
    | some q =>
      obtain ⟨c, p⟩ := q
      dsimp only
      unfold restP
      have hp : p.fs.length ≤ s.length + 1 := by
        unfold headP at hh
        cases hx : lnsF [] (s.take (e - 4)) with
        | nil => rw [hx] at hh; cases hh
        | cons l0 r =>
          rw [hx] at hh hl
          dsimp only at hh
          split at hh
          · cases hh
          · cases hg : goP (statusF l0).1 ⟨[], 0, 0, 0⟩ r with
            | none => rw [hg] at hh; cases hh
            | some q =>
              rw [hg] at hh
              dsimp only at hh
              split at hh
              · cases hh
              · cases hh
                have := goP_count _ r _ _ hg
                simp only [List.length_nil, List.length_cons, List.length_take] at this hl
                omega
      obtain ⟨k0, hk0⟩ : ∃ k0, k0 = (if head = true then 0 else p.n) := ⟨_, rfl⟩
      rw [← hk0]
      split
      · simp [rdF]
      · exact hp
set_option maxRecDepth 100000 in
set_option maxHeartbeats 2000000 in
theorem reads10_any {w : World} (C : ReplyI w) (s : List UInt8) (head : Bool) : Calls Tryz.prog 13 #[S s, .bool head] w fun e w' => e = .returned (.bool true) ∧ Below w.heap.size w w' := by
  have HC := Lib.hid C
  have HAW := Lib.hid (awake10_any C)
  have hlS := run_len_S (P := Tryz.prog) Tryz.underlying9 3 s
  obtain ⟨L, hL⟩ : ∃ L, L = s.length := ⟨_, rfl⟩
  rw [← hL] at hlS
  have HL := Lib.hid hL
  clear C hL
  go_enter Tryz.func13, Tryz.ntmps13
  go_wp2_with fail
  refine HAW.out.mono ?_
  rintro e W1 ⟨rfl, hB⟩
  have H1 := Lib.hid hB
  clear hB HAW
  by_cases h7 : 70000 < L
  · have g1 : decide ((70000 : Int) < (L : Int)) = true := decide_eq_true (by omega)
    clear h7
    go_wp2
    go_ret
    exact ⟨rfl, H1.out⟩
  have g1 : decide ((70000 : Int) < (L : Int)) = false := decide_eq_false (by omega)
  have HL7 := Lib.hid (show s.length ≤ 70000 by have := HL.out; omega)
  clear h7
  obtain ⟨R, hR⟩ : ∃ R, R = readF s head := ⟨_, rfl⟩
  have HCN : Hid ((rdF R).length ≤ 100000) := Lib.hid (by have := rd_count s head; have := HL7.out; rw [hR]; omega)
  have hd1 := fun W => dread_any s head (by have := HL7.out; omega) W
  have hd2 := HC.out.read s head W1 H1.out (by have := HL7.out; omega)
  rw [← hR] at hd1 hd2
  have HD1 := Lib.hid hd1
  have HD2 := Lib.hid hd2
  clear hd1 hd2 hR
  obtain ⟨N, hN⟩ : ∃ N, N = (rdF R).length := ⟨_, rfl⟩
  obtain ⟨c, hc⟩ : ∃ c, c = rdC R := ⟨_, rfl⟩
  obtain ⟨bd, hbd⟩ : ∃ bd, bd = rdB R := ⟨_, rfl⟩
  obtain ⟨x, hx⟩ : ∃ x, x = rdX R := ⟨_, rfl⟩
  obtain ⟨n, hn⟩ : ∃ n, n = rdN R := ⟨_, rfl⟩
  obtain ⟨k, hk⟩ : ∃ k, k = rdK R := ⟨_, rfl⟩
  have HE := Lib.hid (And.intro hN (And.intro hc (And.intro hbd (And.intro hx (And.intro hn hk)))))
  clear hN hc hbd hx hn hk
  go_wp2_with fail
  refine HD2.out.mono ?_
  rintro e W2 hv
  obtain ⟨hB2, a2, fc2, g2, rfl, hF2⟩ := read_vals hv
  unfold rpC
  rw [← HE.out.1] at hF2 ⊢
  rw [← HE.out.2.1, ← HE.out.2.2.1, ← HE.out.2.2.2.1, ← HE.out.2.2.2.2.1, ← HE.out.2.2.2.2.2]
  obtain ⟨b5, hb5⟩ : ∃ b, b = W2.heap.size := ⟨_, rfl⟩
  obtain ⟨W3, hW3⟩ : ∃ W, W = W2.alloc (.cells #[.int .i64 c, .slice a2 N fc2, S bd] 24) := ⟨_, rfl⟩
  have hB3 : Below W2.heap.size W2 W3 := by rw [hW3]; exact (Below.refl _ W2).alloc (Nat.le_refl _) _
  have hB13 : Below w.heap.size w W2 := H1.out.trans (hB2.mono H1.out.size)
  have H3 := Lib.hid (And.intro (hB13.trans (hB3.mono hB13.size)) (And.intro (hF2.below hB3) (show Row W3 b5 #[.int .i64 c, .slice a2 N fc2, S bd] 24 by rw [hW3, hb5]; exact row_new _ _ _)))
  clear hv hB2 hF2 hB3 hB13 HD2 H1
  go_wp2_with fail
  rw [← hW3, ← hb5]
  clear hW3 hb5
  refine (HD1.out W3).mono ?_
  rintro e W4 hv
  obtain ⟨hB4, a4, fc4, g4, rfl, hF4⟩ := read_vals hv
  unfold rpC
  rw [← HE.out.1] at hF4 ⊢
  rw [← HE.out.2.1, ← HE.out.2.2.1, ← HE.out.2.2.2.1, ← HE.out.2.2.2.2.1, ← HE.out.2.2.2.2.2]
  obtain ⟨b9, hb9⟩ : ∃ b, b = W4.heap.size := ⟨_, rfl⟩
  obtain ⟨W5, hW5⟩ : ∃ W, W = W4.alloc (.cells #[.int .i64 c, .slice a4 N fc4, S bd] 24) := ⟨_, rfl⟩
  have hB5 : Below W4.heap.size W4 W5 := by rw [hW5]; exact (Below.refl _ W4).alloc (Nat.le_refl _) _
  have hB35 : Below W3.heap.size W3 W5 := hB4.trans (hB5.mono hB4.size)
  have hr5 := H3.out.2.2.below hB35 H3.out.2.2.lt
  have hr9 : Row W5 b9 #[.int .i64 c, .slice a4 N fc4, S bd] 24 := by rw [hW5, hb9]; exact row_new _ _ _
  have hsame := dsame10_true c bd (rdF R) (.slice a2 N fc2) (.slice a4 N fc4) g2 0 g4 0 (by have := HCN.out; omega) W5 (H3.out.2.1.below hB35) (hF4.below hB5)
  unfold rpC at hsame
  have HS := Lib.hid hsame
  have H5 := Lib.hid (H3.out.1.trans (hB35.mono H3.out.1.size))
  have c0 : W5.cell? ⟨b5, 0, none⟩ = some (.int .i64 c) := cell_of_row W5 _ 0 _ _ (0, 0) hr5
  have c1 : W5.cell? ⟨b5, 1, none⟩ = some (.slice a2 N fc2) := cell_of_row W5 _ 1 _ _ (0, 0) hr5
  have c2 : W5.cell? ⟨b5, 2, none⟩ = some (S bd) := cell_of_row W5 _ 2 _ _ (0, 0) hr5
  have d0 : W5.cell? ⟨b9, 0, none⟩ = some (.int .i64 c) := cell_of_row W5 _ 0 _ _ (0, 0) hr9
  have d1 : W5.cell? ⟨b9, 1, none⟩ = some (.slice a4 N fc4) := cell_of_row W5 _ 1 _ _ (0, 0) hr9
  have d2 : W5.cell? ⟨b9, 2, none⟩ = some (S bd) := cell_of_row W5 _ 2 _ _ (0, 0) hr9
  rw [hW5] at c0 c1 c2 d0 d1 d2
  rw [hb9] at d0 d1 d2
  clear hv hB4 hF4 hB5 hB35 hr5 hr9 hsame HD1 H3
  go_wp2_with fail
  rw [← hW5]
  clear c0 c1 c2 d0 d1 d2 hW5 hb9
  refine HS.out.mono ?_
  rintro e W6 ⟨rfl, hB6⟩
  have H6 := Lib.hid (H5.out.trans (hB6.mono H5.out.size))
  have b0 : ∀ w, (binOp .eql 4 (.bool x) (.bool x)).run Tryz.prog w = .ok (.bool true) w := fun w => by cases x <;> rfl
  have e1 : (n == n) = true := by simp
  have e2 : (k == k) = true := by simp
  clear hB6
  go_wp2
  go_ret
  exact ⟨rfl, H6.out⟩
end Go.Proofs.YtfdbmbgpcioogaaGreatDoor
