/- The landed hasPart and isKey walked. -/
import Derived.Test.YtnaekjmlikhglaaDoorDp1
import Derived.Test.YtnaekjmlikhglaaDoorRw4
import Derived.Test.YtnaekjmlikhglaaDoorDw1
namespace Go.Proofs.YtnaekjmlikhglaaDoor
open Go.RowKit
attribute [local go_sem] store_one B_match B_store S_match S_store

set_option maxRecDepth 100000 in
set_option maxHeartbeats 1000000 in
theorem haspart_any (V : Value) (fs : DFds) (b o : Nat) (nm t : DTx) (hnm : nm.length ≤ 100000) (ht : t.length ≤ 100000) (hs : Small17 fs) (w : World) (hV : FA w V fs b o) :
    Calls Tryd.prog 47 #[V, S nm, S t] w fun e w' => e = .returned (.bool (partD fs nm t)) ∧ Below w.heap.size w w' := by
  have hlen := hV.len 3
  obtain ⟨n, hn⟩ : ∃ n, n = fs.length := ⟨_, rfl⟩
  have hfew : n ≤ 100 := by rw [hn]; exact hs.few
  rw [← hn] at hlen
  have HV := Lib.hid (And.intro hV (And.intro hs hn))
  have HNT := Lib.hid (And.intro hnm ht)
  clear hV hnm ht hs hn
  go_enter Tryd.func47, Tryd.ntmps47
  go_wp2
  go_loopw [11] (fun iv wr => ∃ k : Nat, k ≤ n ∧ iv = .int .i64 (k : Int) ∧ Hid (Below w.heap.size w wr ∧ partD (fs.take k) nm t = false)) (fun iv _ => n - (intOf iv).toNat)
  case atStart => exact ⟨0, Nat.zero_le _, rfl, Lib.hid ⟨Below.refl _ _, rfl⟩⟩
  case round =>
    obtain ⟨k, hk, rfl, HR⟩ := hrel
    by_cases hlt : k < n
    · have hVr := HV.out.1.below HR.out.1
      have hkl : k < fs.length := by rw [← HV.out.2.2]; exact hlt
      obtain ⟨⟨nk, vk⟩, hf⟩ : ∃ f, fs[k]? = some f := ⟨fs[k], List.getElem?_eq_getElem hkl⟩
      have hix := hVr.index k hkl
      obtain ⟨c0, c1⟩ := hVr.cell k _ hf
      dsimp only at c0 c1
      have hlk := HV.out.2.1.each _ (List.mem_of_getElem? hf)
      have HA := Lib.hid fun W => alike16_any nk nm (by have := hlk.1; dsimp only at this; omega) HNT.out.1 W
      have HS := Lib.hid fun W => has14_any vk t (by have := hlk.2; dsimp only at this; omega) HNT.out.2 W
      have HG : Hid (partD (fs.take (k + 1)) nm t = (alikeF nk nm && hasF vk t)) := Lib.hid (by
        rw [List.take_add_one, hf]
        have := part_snoc nm t (fs.take k) (nk, vk)
        rw [HR.out.2, Bool.false_or] at this
        exact this)
      clear hf hkl hlk hVr
      generalize o + k * 2 = i2 at *
      obtain ⟨W2, hW2⟩ : ∃ W2, W2 = wr.alloc (.cells #[S nk, S vk] 37) := ⟨_, rfl⟩
      obtain ⟨g, hg⟩ : ∃ g, g = wr.heap.size := ⟨_, rfl⟩
      have hr2 : Row W2 g #[S nk, S vk] 37 := by rw [hW2, hg]; exact row_new wr _ _
      have hB2 : Below w.heap.size w W2 := by rw [hW2]; exact HR.out.1.alloc HR.out.1.size _
      have H2 := Lib.hid (And.intro hr2 hB2)
      clear hr2 hB2
      have hw2 : IntKind.i64.wrap ((k : Int) + 1) = (k : Int) + 1 := by rw [IntKind.wrap_i64]; omega
      go_wp2_with fail
      rw [← hg, ← hW2]
      clear hg hW2 c0 c1 hix
      refine (HA.out W2).mono ?_
      rintro e W3 ⟨rfl, hD⟩
      have hr3 := H2.out.1.below hD.below H2.out.1.lt
      have c3 := cell_of_row W3 _ 1 _ 37 (0, 0) hr3
      have H3 := Lib.hid (H2.out.2.trans (hD.below.mono H2.out.2.size))
      clear hD hr3 H2
      cases hb : alikeF nk nm with
      | true =>
        have HG2 : Hid (partD (fs.take (k + 1)) nm t = hasF vk t) := Lib.hid (by rw [HG.out, hb, Bool.true_and])
        clear hb
        go_wp2_with fail
        refine (HS.out W3).mono ?_
        rintro e W4 ⟨rfl, hD⟩
        have H4 := Lib.hid (H3.out.trans (hD.mono H3.out.size))
        clear hD
        cases hh : hasF vk t with
        | true =>
          have HG3 : Hid (partD fs nm t = true) := Lib.hid (part_of_take (HG2.out.trans hh))
          clear hh
          go_wp2
          go_ret
          exact ⟨by rw [HG3.out]; rfl, H4.out⟩
        | false =>
          have HG3 : Hid (partD (fs.take (k + 1)) nm t = false) := Lib.hid (HG2.out.trans hh)
          clear hh
          go_wp2
          exact ⟨⟨k + 1, by omega, by go_num, Lib.hid ⟨H4.out, HG3.out⟩⟩, by simp [intOf]; omega⟩
      | false =>
        have HG2 : Hid (partD (fs.take (k + 1)) nm t = false) := Lib.hid (by rw [HG.out, hb, Bool.false_and])
        clear hb
        go_wp2
        exact ⟨⟨k + 1, by omega, by go_num, Lib.hid ⟨H3.out, HG2.out⟩⟩, by simp [intOf]; omega⟩
    · obtain rfl : k = n := by omega
      have HS : Hid (partD fs nm t = false) := Lib.hid (by
        have := HR.out.2
        rwa [HV.out.2.2, List.take_length] at this)
      go_wp2
      go_ret
      exact ⟨by rw [HS.out]; rfl, HR.out.1⟩
def okD (d : Option DTx) : Bool := match d with | some t => decide (t.length = 16) | none => false
set_option maxRecDepth 100000 in
set_option maxHeartbeats 1000000 in
theorem iskey_any (k : DTx) (hk : k.length ≤ 10000) (w : World) : Calls Tryd.prog 37 #[S k] w fun e w' => e = .returned (.bool (ok16 k)) ∧ Below w.heap.size w w' := by
  have HD := Lib.hid (bb_ldec k hk w)
  obtain ⟨d, hd⟩ : ∃ d, d = bb.dec k := ⟨_, rfl⟩
  have HK : Hid (ok16 k = okD d) := Lib.hid (by rw [hd]; rfl)
  have HD2 : Hid (Calls Tryd.prog 48 #[S k] w fun e w' => e = .returned (.tuple #[S (d.getD []), .bool d.isSome]) ∧ Below w.heap.size w w') := Lib.hid (by rw [hd]; exact HD.out)
  clear hd HD hk
  go_enter Tryd.func37, Tryd.ntmps37
  go_wp2_with fail
  refine HD2.out.mono ?_
  rintro e W2 ⟨rfl, hB⟩
  have HB := Lib.hid hB
  clear hB HD2
  cases d with
  | none =>
    go_wp2
    go_ret
    exact ⟨by rw [HK.out]; rfl, HB.out⟩
  | some t =>
    have e1 : (some t).getD [] = t := rfl
    have e2 : (some t).isSome = true := rfl
    rw [e1, e2]
    have hlen := run_len_S (P := Tryd.prog) Tryd.underlying9 3 t
    by_cases h16 : t.length = 16
    · have g1 : ((t.length : Int) == 16) = true := by rw [h16]; rfl
      have HR : Hid (ok16 k = true) := Lib.hid (by rw [HK.out]; exact decide_eq_true h16)
      clear h16
      go_wp2
      go_ret
      exact ⟨by rw [HR.out]; first | rfl | (rw [← g1]; rfl), HB.out⟩
    · have g1 : ((t.length : Int) == 16) = false := by rw [beq_eq_false_iff_ne]; omega
      have HR : Hid (ok16 k = false) := Lib.hid (by rw [HK.out]; exact decide_eq_false h16)
      clear h16
      go_wp2
      go_ret
      exact ⟨by rw [HR.out]; first | rfl | (rw [← g1]; rfl), HB.out⟩
end Go.Proofs.YtnaekjmlikhglaaDoor
