/- The landed All of tries of strings walked. (mktw.py writes it.) -/
import Derived.Test.YtgoaljnfegaldaaDoorTw9s
namespace Go.Proofs.YtgoaljnfegaldaaDoor
open Go.RowKit
attribute [local go_sem] store_one S_match S_store

theorem elemT9 : Elem Tryd.prog 9 := elem_of (z := .string ⟨#[]⟩) (n := 16) (by kernel_rfl) (by omega) rfl
section
variable {w : World} {F : Nat → Prop} {g : Nat} {max : Int} {l : Ents Txt} {R : Nat → Option Role} {N M E : List Key → Option Nat} {here : List Key → Option (Txt × Txt)} {bs : List Nat} {C : Nat} {av : Value}
set_option maxRecDepth 100000 in
set_option maxHeartbeats 1000000 in
theorem alls_any (h : TrieAt vls w F g max l R N M E here bs C av) : Calls Tryd.prog 11 #[.pointer (some ⟨g, 0, none⟩)] w fun e w' => ∃ V b o, e = .returned V ∧ TA w' V (l.map (·.1)) b o ∧ Below w.heap.size w w' := by
  have hl := own_len h.own 55 52 3 Tryd.underlying55
  rw [List.length_map, h.bsl] at hl
  obtain ⟨ad, hidx, hcell⟩ := own_cells h.own Tryd.underlying55 Tryd.sizeOf52
  rw [List.length_map, h.bsl] at hidx hcell
  obtain ⟨L, hL⟩ : ∃ L, L = l.length := ⟨_, rfl⟩
  rw [← hL] at hl hidx hcell
  have hfew := h.few.2.1
  rw [← hL] at hfew
  have HIX := Lib.hid hidx
  have HAT : Hid (∀ (i : Nat) (e : Txt × Txt), l[i]? = some e → ∃ b, ∀ W, Below w.heap.size w W → W.cell? (ad i) = some (.pointer (some ⟨b, 0, none⟩)) ∧ W.cell? ⟨b, 0, none⟩ = some (S e.1)) := Lib.hid fun i e he => by
    have hi : i < l.length := (List.getElem?_eq_some_iff.1 he).1
    obtain ⟨b, hb⟩ : ∃ b, bs[i]? = some b := ⟨bs[i]'(by rw [h.bsl]; exact hi), List.getElem?_eq_getElem _⟩
    have hE := h.bsE i b e hb he
    have hh : here (keysF (segD e.1)) = some e := (h.keyd.at_ _ e).2 ⟨List.mem_of_getElem? he, rfl⟩
    have hr := h.ents (keysF (segD e.1))
    rw [hE, hh] at hr
    obtain ⟨t, hr⟩ := hr
    have hc := (hcell i (by omega)).2.2.1
    rw [List.getElem?_map, hb] at hc
    refine ⟨b, fun W hB => ⟨?_, cell_of_row W b 0 _ t (0, 0) (hr.below hB hr.lt)⟩⟩
    rw [hB.cell (World.block_lt_of_cell? w _ hc)]
    exact hc
  have HF5 : Hid (∀ W, Below w.heap.size w W → W.cell? ⟨g, 5, none⟩ = some av) := Lib.hid fun W hB => (h.below hB).cells.2.1
  have f5 := h.cells.2.1
  have HL := Lib.hid hL
  clear h hidx hcell hL
  go_enter Tryd.func11, Tryd.ntmps11
  go_wp2_with (first
    | (refine wpList_make Tryd.underlying22 elemT9 rfl (.tmp 12) (by with_reducible rfl) L rfl (by omega) w.heap.size (Nat.le_refl _) ?_; intro v1 W1 o1 g1; have H1 : Hid (Own w.heap.size v1 [] W1 ∧ Below w.heap.size w W1) := Lib.hid ⟨o1, below_grown (Below.refl _ w) g1 (fun _ h => by cases h) (Nat.le_refl _)⟩; have f6 := HF5.out W1 H1.out.2; clear o1 g1)
    | fail)
  go_loopw [3, 19] (fun v iv wr => ∃ (i : Nat), i ≤ L ∧ iv = .int .i64 (i : Int) ∧ Hid (Own w.heap.size v (((l.take i).map (·.1)).map S) wr ∧ Below w.heap.size w wr)) (fun _ iv _ => L - (intOf iv).toNat)
  case atStart => exact ⟨0, Nat.zero_le _, rfl, Lib.hid ⟨by rw [List.take_zero]; exact H1.out.1, H1.out.2⟩⟩
  case round =>
    obtain ⟨i, hi, rfl, HR⟩ := hrel
    by_cases hlt : i < L
    case neg =>
      obtain rfl : i = L := by omega
      have g1 : decide ((i : Int) < (i : Int)) = false := decide_eq_false (by omega)
      have HE := HR.out
      rw [HL.out, List.take_length] at HE
      have HE := Lib.hid HE
      go_wp2
      go_ret
      obtain ⟨b, hb⟩ := ta_own HE.out.1
      exact ⟨_, b, 0, rfl, hb, HE.out.2⟩
    case pos =>
      have g1 : decide ((i : Int) < (L : Int)) = true := decide_eq_true (by omega)
      have hw1 : IntKind.i64.wrap ((i : Int) + 1) = (i : Int) + 1 := by rw [IntKind.wrap_i64]; omega
      obtain ⟨e, he⟩ : ∃ e, l[i]? = some e := ⟨l[i]'(by have := HL.out; omega), List.getElem?_eq_getElem _⟩
      obtain ⟨b, hb⟩ := HAT.out i e he
      obtain ⟨c1, c2⟩ := hb wr HR.out.2
      have hix := HIX.out i hlt
      obtain ⟨p, x⟩ := e
      have htk : ((l.take (i + 1)).map (·.1)).map S = ((l.take i).map (·.1)).map S ++ [S p] := by
        rw [List.take_add_one, he]; simp
      obtain ⟨xs, hxs⟩ : ∃ xs, xs = ((l.take i).map (·.1)).map S := ⟨_, rfl⟩
      have hxl : xs.length ≤ i := by rw [hxs, List.length_map, List.length_map, List.length_take]; omega
      have HO : Hid (Own w.heap.size u3 xs wr) := Lib.hid (by rw [hxs]; exact HR.out.1)
      have HTK : Hid (∀ v W, Own w.heap.size v (xs ++ [S p]) W → Own w.heap.size v (((l.take (i + 1)).map (·.1)).map S) W) := Lib.hid fun v W h => by rw [htk, ← hxs]; exact h
      have HXL := Lib.hid hxl
      have HB := Lib.hid HR.out.2
      obtain ⟨a, ha⟩ : ∃ a, a = ad i := ⟨_, rfl⟩
      rw [← ha] at hix c1
      clear he hb htk hxs hxl ha
      go_wp2_with (first
        | (at_builtin; refine wpList_add rfl 22 9 (.tmp 23) (.tmp 28) rfl Tryd.underlying22 elemT9 w.heap.size wr _ rfl xs HO.out (S p) rfl _ rfl rfl rfl (by have := HXL.out; omega) HB.out.size ?_; intro v5 W5 o5 g5 _; have H5 : Hid (Own w.heap.size v5 (((l.take (i + 1)).map (·.1)).map S) W5 ∧ Below w.heap.size w W5) := Lib.hid ⟨HTK.out v5 W5 o5, below_grown HB.out g5 (fun k hk => (HO.out.lt k hk).1) HB.out.size⟩; clear o5 g5)
        | fail)
      exact ⟨⟨i + 1, by omega, by go_num, H5⟩, by simp [intOf]; omega⟩
end
end Go.Proofs.YtgoaljnfegaldaaDoor
