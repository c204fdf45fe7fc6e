/- The document's ReadHead (stage 15). (mkef.py writes it.) -/
import Derived.Test.YtlmolmmhkddpaaaEf1
import Derived.Test.YtlmolmmhkddpaaaEf2
import Derived.Test.YtlmolmmhkddpaaaEf3
import Derived.Test.YtlmolmmhkddpaaaEf4
namespace Go.Proofs.Ytlmolmmhkddpaaa
open Go.RowKit
theorem rhead_any (s : List UInt8) (hs : s.length ≤ 1000000) (w : World) : Calls Try.prog 21 #[S s] w fun e w' => e = .returned (hrV (readHeadF s)) ∧ Below w.heap.size w w' := by
  rcases s with _ | ⟨a, _ | ⟨b, t⟩⟩
  · exact rhead_short [] (by simp) w
  · exact rhead_short [a] (by simp) w
  · have ht : t.length ≤ 1000000 := by simp only [List.length_cons] at hs; omega
    have hw : wideN b.toNat = 0 ∨ wideN b.toNat = 2 ∨ wideN b.toNat = 8 := by unfold wideN; split; exact .inr (.inl rfl); split; exact .inr (.inr rfl); exact .inl rfl
    by_cases hm : 128 ≤ b.toNat
    · rcases hw with hw | hw | hw
      · by_cases h2 : t.length < 4
        · exact rhead_0mn2 a b t ht hw hm (Nat.zero_le _) h2 w
        · exact rhead_0m a b t ht hw hm (by omega) w
      · by_cases h1 : t.length < 2
        · exact rhead_2mn1 a b t ht hw hm h1 w
        · by_cases h2 : t.length < 6
          · exact rhead_2mn2 a b t ht hw hm (by omega) h2 w
          · exact rhead_2m a b t ht hw hm (by omega) w
      · by_cases h1 : t.length < 8
        · exact rhead_8mn1 a b t ht hw hm h1 w
        · by_cases h2 : t.length < 12
          · exact rhead_8mn2 a b t ht hw hm (by omega) h2 w
          · exact rhead_8m a b t ht hw hm (by omega) w
    · rcases hw with hw | hw | hw
      · exact rhead_0u a b t ht hw hm (Nat.zero_le _) w
      · by_cases h1 : t.length < 2
        · exact rhead_2un1 a b t ht hw hm h1 w
        · exact rhead_2u a b t ht hw hm (by omega) w
      · by_cases h1 : t.length < 8
        · exact rhead_8un1 a b t ht hw hm h1 w
        · exact rhead_8u a b t ht hw hm (by omega) w
end Go.Proofs.Ytlmolmmhkddpaaa
