/- The law's low (stage 17). (mkdi.py writes it.) -/
import Derived.Test.YtnaekjmlikhglaaDoorMr
import Derived.Test.YtnaekjmlikhglaaDoorQg
namespace Go.Proofs.YtnaekjmlikhglaaDoor
open Go.RowKit
attribute [local go_sem] store_one B_match B_store S_match S_store

def loL (s : List UInt8) (i : Nat) : List UInt8 := (s.take i).map lowB ++ s.drop i
theorem loL_zero (s : List UInt8) : loL s 0 = s := by unfold loL; rw [List.take_zero, List.map_nil, List.nil_append, List.drop_zero]
theorem loL_all (s : List UInt8) : loL s s.length = s.map lowB := by unfold loL; rw [List.take_length, List.drop_length, List.append_nil]
theorem loL_pre {s : List UInt8} {i : Nat} (h : i ≤ s.length) : ((s.take i).map lowB).length = i := by rw [List.length_map, List.length_take]; omega
theorem loL_get {s : List UInt8} {i : Nat} {x : UInt8} (hx : s[i]? = some x) (Z : List UInt8) : (loL s i ++ Z)[i]? = some x := by
  have hlt := (List.getElem?_eq_some_iff.1 hx).1
  have hp := loL_pre (s := s) (i := i) (by omega)
  unfold loL
  rw [List.append_assoc, List.getElem?_append_right (by omega), hp, Nat.sub_self, List.getElem?_append_left (by rw [List.length_drop]; omega), List.getElem?_drop, Nat.add_zero, hx]
theorem loL_next {s : List UInt8} {i : Nat} {x : UInt8} (hx : s[i]? = some x) (Z : List UInt8) : loL s (i + 1) ++ Z = (loL s i ++ Z).set i (lowB x) := by
  have hlt := (List.getElem?_eq_some_iff.1 hx).1
  have hp := loL_pre (s := s) (i := i) (by omega)
  have e1 : loL s i ++ Z = (s.take i).map lowB ++ (s.drop i ++ Z) := by unfold loL; rw [List.append_assoc]
  rw [e1, List.set_append_right _ _ (by omega), hp, Nat.sub_self, List.drop_eq_getElem_cons hlt, List.cons_append, List.set_cons_zero]
  unfold loL
  rw [List.take_add_one, hx, Option.toList_some, List.map_append, List.append_assoc, List.append_assoc]
  rfl
theorem loL_same {s : List UInt8} {i : Nat} {x : UInt8} (hx : s[i]? = some x) (e : lowB x = x) : loL s (i + 1) = loL s i := by
  have hlt := (List.getElem?_eq_some_iff.1 hx).1
  have hg : s[i] = x := by rw [List.getElem?_eq_getElem hlt] at hx; exact Option.some.inj hx
  unfold loL
  rw [List.take_add_one, hx, Option.toList_some, List.map_append, List.append_assoc, List.drop_eq_getElem_cons hlt, hg]
  show List.map lowB (s.take i) ++ ([lowB x] ++ s.drop (i + 1)) = _
  rw [e]; rfl
set_option maxRecDepth 100000 in
set_option maxHeartbeats 1000000 in
theorem low17_any (s : List UInt8) (hl : s.length ≤ 200000) (w : World) : Calls Tryd.prog 18 #[S s] w fun e w' => e = .returned (S (s.map lowB)) ∧ Below w.heap.size w w' := by
  obtain ⟨c, Z, W2, hcv, hR2, hB2⟩ := bytes_row w s
  obtain ⟨N, hN⟩ : ∃ N, N = s.length := ⟨_, rfl⟩
  obtain ⟨b, hb⟩ : ∃ b, b = w.heap.size := ⟨_, rfl⟩
  obtain ⟨fr, hfr⟩ : ∃ fr, fr = (s.length + Z.length, s.length + Z.length + 1) := ⟨_, rfl⟩
  rw [← hfr] at hR2
  rw [← hN] at hcv
  rw [← hb] at hcv hR2
  have hlS : ∀ w', (Builtin.len_ #[42] 3 #[.slice (some ⟨b, 0, none⟩) N c]).run Tryd.prog w' = .ok (.int .i64 (N : Int)) w' := fun w' => by go_simp
  have H2 := Lib.hid (And.intro hR2 (And.intro hB2 (And.intro hN (And.intro hb hl))))
  clear hR2 hB2 hN hb hl hfr
  go_enter Tryd.func18, Tryd.ntmps18
  go_wp2
  go_loopw [4] (fun iv wr => ∃ i : Nat, i ≤ N ∧ iv = .int .i64 (i : Int) ∧ Hid (MRow wr b (loL s i ++ Z) 5 fr ∧ Below w.heap.size w wr)) (fun iv _ => N - (intOf iv).toNat)
  case atStart => exact ⟨0, Nat.zero_le _, rfl, Lib.hid ⟨by rw [loL_zero]; exact H2.out.1, H2.out.2.1⟩⟩
  case round =>
    obtain ⟨i, hi, rfl, HI⟩ := hrel
    by_cases hlt : i < N
    · have g2 : decide ((i : Int) < (N : Int)) = true := decide_eq_true (by omega)
      obtain ⟨x, hx⟩ : ∃ x, s[i]? = some x := ⟨s[i]'(by have := H2.out.2.2.1; omega), List.getElem?_eq_getElem _⟩
      have hix := widx_byte b 0 N c i hlt i (by omega)
      have hc0 := HI.out.1.cell (loL_get hx Z)
      have hf0 := HI.out.1.frozen (List.getElem?_eq_some_iff.1 (loL_get hx Z)).1
      have m5 : IntKind.i64.wrap ((i : Int) + 1) = (i : Int) + 1 := by have := H2.out.2.2.1; have := H2.out.2.2.2.2; rw [IntKind.wrap_i64]; omega
      have h1 := B_geq 5 x 65
      have h2 := B_leq 5 x 90
      by_cases hbig : 65 ≤ x.toNat ∧ x.toNat ≤ 90
      · have h3 := B_add32 5 x hbig.2
        rw [decide_eq_true (by omega)] at h1 h2
        obtain ⟨y, hy⟩ : ∃ y, y = x + 32 := ⟨_, rfl⟩
        rw [← hy] at h3
        have HE : Hid (MRow (wr.setCell ⟨b, i, none⟩ (B y)) b (loL s (i + 1) ++ Z) 5 fr ∧ Below w.heap.size w (wr.setCell ⟨b, i, none⟩ (B y))) := Lib.hid ⟨HI.out.1.set i y (by rw [loL_next hx Z]; unfold lowB; rw [if_pos hbig, hy]), HI.out.2.setCell (by show w.heap.size ≤ b; have := H2.out.2.2.2.1; omega) _⟩
        clear hbig hx hy
        go_wp2
        exact ⟨⟨i + 1, by omega, by go_num, HE⟩, by simp [intOf]; omega⟩
      · have HE : Hid (MRow wr b (loL s (i + 1) ++ Z) 5 fr ∧ Below w.heap.size w wr) := Lib.hid ⟨by rw [loL_same hx (by unfold lowB; rw [if_neg hbig])]; exact HI.out.1, HI.out.2⟩
        by_cases ha : 65 ≤ x.toNat
        · have hb9 : ¬ x.toNat ≤ 90 := fun h => hbig ⟨ha, h⟩
          rw [decide_eq_true (by omega)] at h1
          rw [decide_eq_false (by omega)] at h2
          clear hbig hx ha hb9
          go_wp2
          exact ⟨⟨i + 1, by omega, by go_num, HE⟩, by simp [intOf]; omega⟩
        · rw [decide_eq_false (by omega)] at h1
          clear hbig hx ha h2
          go_wp2
          exact ⟨⟨i + 1, by omega, by go_num, HE⟩, by simp [intOf]; omega⟩
    · obtain rfl : i = N := by omega
      have g2 : decide ((i : Int) < (i : Int)) = false := decide_eq_false (by omega)
      have hR := HI.out.1
      rw [H2.out.2.2.1, loL_all] at hR
      have hcv2 := mrow_text hR c
      rw [List.length_map, ← H2.out.2.2.1] at hcv2
      clear hR hcv
      go_wp2
      go_ret
      exact ⟨rfl, HI.out.2⟩
end Go.Proofs.YtnaekjmlikhglaaDoor
