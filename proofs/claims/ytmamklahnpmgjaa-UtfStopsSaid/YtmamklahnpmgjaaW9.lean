/- The walks of Runes and of the statements' first check. -/
import Derived.Test.YtmamklahnpmgjaaW7
namespace Go.Proofs.Ytmamklahnpmgjaa
open Go.RowKit

theorem runesFn_any (s : List UInt8) (w : World) : Calls Try.prog 19 #[S s] w fun e w' => e = .returned (.func (.func 24) #[] #[.pointer (some ⟨w.heap.size, 0, none⟩)]) ∧ w' = w.alloc (.cells #[S s] 9) := by
  go_enter Try.func19, Try.ntmps19
  go_wp2
  go_ret
  exact ⟨rfl, rfl⟩

def q1 : Chk := feed Chk.start [206, 186]
def q2 : Chk := feed q1 [225, 189]
def q3 : Chk := feed q2 [185]
theorem q1_says : (!(feed Chk.start [206, 186]).bad) = true := by decide
theorem q2_says : (!(feed q1 [225, 189]).bad) = true ∧ q2.whole = false := by decide
theorem q3_says : (!(feed q2 [185]).bad) = true ∧ q3.whole = true ∧ q3.n = 5 ∧ q3.bad = false := by decide
theorem off_says : textB [192, 128] = false := by decide
theorem q_room : Chk.start.n + [206, 186].length < 1000000000 ∧ q1.n + [225, 189].length < 1000000000 ∧ q2.n + [185].length < 1000000000 := by decide

set_option maxRecDepth 100000 in
set_option maxHeartbeats 1000000 in
theorem awake_any (w : World) : Calls Try.prog 12 #[] w fun e w' => e = .returned (.bool true) ∧ Below w.heap.size w w' := by
  go_enter Try.func12, Try.ntmps12
  go_wp2_with fail
  refine (new_any w).mono ?_
  rintro e W1 ⟨rfl, hC1, hB1⟩
  obtain ⟨g, hg⟩ : ∃ g, g = w.heap.size := ⟨_, rfl⟩
  rw [← hg] at hC1 hB1
  rw [← hg]
  have HG := Lib.hid hg
  have H1 := Lib.hid (And.intro hC1 hB1)
  clear hC1 hB1 hg
  go_wp2_with fail
  refine (feed_any [206, 186] Chk.start g W1 H1.out.1 q_room.1).mono ?_
  rintro e W2 ⟨rfl, hC2, hK2⟩
  rw [q1_says]
  have H2 := Lib.hid (And.intro (show ChkAt W2 g q1 from hC2) hK2)
  clear hC2 hK2
  go_wp2_with fail
  refine (feed_any [225, 189] q1 g W2 H2.out.1 q_room.2.1).mono ?_
  rintro e W3 ⟨rfl, hC3, hK3⟩
  rw [q2_says.1]
  have H3 := Lib.hid (And.intro (show ChkAt W3 g q2 from hC3) hK3)
  clear hC3 hK3
  go_wp2_with fail
  refine (whole_any q2 g W3 H3.out.1).mono ?_
  rintro e W3 ⟨rfl, rfl⟩
  rw [q2_says.2]
  go_wp2_with fail
  refine (feed_any [185] q2 g _ H3.out.1 q_room.2.2).mono ?_
  rintro e W4 ⟨rfl, hC4, hK4⟩
  rw [q3_says.1]
  have H4 := Lib.hid (And.intro (show ChkAt W4 g q3 from hC4) hK4)
  clear hC4 hK4
  go_wp2_with fail
  refine (whole_any q3 g W4 H4.out.1).mono ?_
  rintro e W4 ⟨rfl, rfl⟩
  rw [q3_says.2.1]
  go_wp2_with fail
  refine (at_any q3 g _ H4.out.1).mono ?_
  rintro e W4 ⟨rfl, rfl⟩
  rw [q3_says.2.2.1]
  go_wp2_with fail
  refine (bad_any q3 g _ H4.out.1).mono ?_
  rintro e W4 ⟨rfl, rfl⟩
  rw [q3_says.2.2.2]
  go_wp2_with fail
  refine (valid_any [192, 128] (by decide) _).mono ?_
  rintro e W5 ⟨rfl, hB5⟩
  rw [off_says]
  go_wp2
  go_ret
  refine ⟨rfl, ?_⟩
  have h1 : w.heap.size ≤ W1.heap.size := by have := H1.out.2.size; have := HG.out; have := H1.out.1.lt; omega
  have h2 := H2.out.2.size
  have h3 := H3.out.2.size
  have h4 := H4.out.2.size
  have hg := HG.out
  have b1 : Below w.heap.size w W1 := by rw [← hg]; exact H1.out.2
  exact (((b1.trans (H2.out.2.below h1 (by omega))).trans (H3.out.2.below (by omega) (by omega))).trans (H4.out.2.below (by omega) (by omega))).trans (hB5.mono (by omega))
end Go.Proofs.Ytmamklahnpmgjaa
