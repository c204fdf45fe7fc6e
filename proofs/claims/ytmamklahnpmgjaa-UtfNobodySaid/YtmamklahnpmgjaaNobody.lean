/- UtfNobody returns true for any text: a nil check has read a bad byte, and one that nobody made read nothing. No condition. -/
import Derived.Test.YtmamklahnpmgjaaW9
import Derived.Test.YtmamklahnpmgjaaRows
import Derived.ProofKit
import Derived.Handed
namespace Go.Proofs.Ytmamklahnpmgjaa
open Go.ChangeShapes Go.WideShapes Go.ChangeAt Go.RowKit
open Go.ChangeMaps (open_string shut_string)

theorem start_says : Chk.start.whole = true ∧ Chk.start.bad = false ∧ Chk.start.n = 0 := ⟨rfl, rfl, rfl⟩
theorem readsV_feed (s : List UInt8) : readsV (reads s 0) = .tuple #[.int .i64 ((feed Chk.start s).n : Int), .bool (feed Chk.start s).bad, .bool (feed Chk.start s).whole] := by
  rw [reads_feed]; rfl

set_option maxRecDepth 100000 in
set_option maxHeartbeats 1000000 in
theorem nobody_walk (s : List UInt8) (hs : s.length ≤ 2000) (b v : Bool) (hb : (feed Chk.start s).bad = b) (hv : (feed Chk.start s).whole = v) (w : World) :
    Calls Try.prog 6 #[S s] w fun e w' => e = .returned (.bool true) ∧ Below w.heap.size w w' := by
  have hlenS := run_len_S (P := Try.prog) Try.underlying9 3 s
  have hgt : decide (2000 < (s.length : Int)) = false := decide_eq_false (by omega)
  have hr := readsV_feed s
  rw [hb, hv] at hr
  have HR := Lib.hid (And.intro hr (And.intro hb hv))
  clear hr hb hv
  cases b <;> cases v
  all_goals
    go_enter Try.func6, Try.ntmps6
    go_wp2_with fail
    refine (awake_any w).mono ?_
    rintro e W1 ⟨rfl, hB1⟩
    have HB1 := Lib.hid hB1
    clear hB1
    go_wp2_with fail
    have hC1 : ChkAt (W1.alloc (.cells #[.int .i64 0, .int .i64 0, .int .u8 0, .int .u8 0, .bool false] 40)) W1.heap.size Chk.start := ⟨Chk.Ok.start, 0, 0, row_new _ _ _, rfl, by omega, by omega, fun ab h => by cases h⟩
    have HC1 := Lib.hid hC1
    clear hC1
    refine (whole_any Chk.start W1.heap.size _ HC1.out).mono ?_
    rintro e W2 ⟨rfl, rfl⟩
    rw [start_says.1]
    go_wp2_with fail
    refine (bad_any Chk.start W1.heap.size _ HC1.out).mono ?_
    rintro e W2 ⟨rfl, rfl⟩
    rw [start_says.2.1]
    go_wp2_with fail
    refine (at_any Chk.start W1.heap.size _ HC1.out).mono ?_
    rintro e W2 ⟨rfl, rfl⟩
    rw [start_says.2.2]
    go_wp2_with fail
    refine (feed_any s Chk.start W1.heap.size _ HC1.out (by rw [start_says.2.2]; omega)).mono ?_
    rintro e W3 ⟨rfl, hC3, hK3⟩
    rw [HR.out.2.1]
    have HC3 := Lib.hid (And.intro hC3 hK3)
    clear hC3 hK3
    go_wp2_with fail
    refine (reads_any s (by omega) W3).mono ?_
    rintro e W4 ⟨rfl, hB4⟩
    rw [HR.out.1]
    have HC4 := Lib.hid (And.intro (HC3.out.1.below hB4 HC3.out.1.lt) hB4)
    clear hB4
    go_wp2_with fail
    refine (feed_nil s W4).mono ?_
    rintro e W4 ⟨rfl, rfl⟩
    go_wp2_with fail
    refine (whole_nil _).mono ?_
    rintro e W4 ⟨rfl, rfl⟩
    go_wp2_with fail
    refine (bad_nil _).mono ?_
    rintro e W4 ⟨rfl, rfl⟩
    go_wp2_with fail
    refine (at_nil _).mono ?_
    rintro e W4 ⟨rfl, rfl⟩
    go_wp2_with fail
    refine (whole_any _ W1.heap.size _ HC4.out.1).mono ?_
    rintro e W4 ⟨rfl, rfl⟩
    rw [HR.out.2.2]
    go_wp2
    go_ret
    refine ⟨rfl, ?_⟩
    have h1 := HB1.out.size
    have h3 := HC3.out.2.size
    rw [alloc_size] at h3
    exact ((HB1.out.trans ((Below.refl _ W1).alloc (Nat.le_refl _) _ |>.mono h1)).trans (HC3.out.2.below (by rw [alloc_size]; omega) h1)).trans (HC4.out.2.mono (by omega))
theorem nobody_any (s : List UInt8) (w : World) : Calls Try.prog 6 #[S s] w fun e w' => e = .returned (.bool true) ∧ Below w.heap.size w w' := by
  by_cases hs : s.length ≤ 2000
  · exact nobody_walk s hs _ _ rfl rfl w
  · have hlenS := run_len_S (P := Try.prog) Try.underlying9 3 s
    have hgt : decide (2000 < (s.length : Int)) = true := decide_eq_true (by omega)
    go_enter Try.func6, Try.ntmps6
    go_wp2_with fail
    refine (awake_any w).mono ?_
    rintro e W1 ⟨rfl, hB1⟩
    go_wp2
    go_ret
    exact ⟨rfl, hB1⟩

theorem Try.ownN : ownKnob Try.prog.godebug = none := by kernel_rfl
theorem S_ofN (s : ByteArray) : Value.string s = S s.data.toList := by rw [S]

set_option maxRecDepth 100000 in
theorem nobody_lifted (os : Os) (started : os.Started) (H : Type) (enc : TypeId × Value → H) :
    ReturnsInHanded {} Try.checked os 6 .any (Rows.utfNobodySpec.pre6 enc Try.prog Try.f6 Rows.utfNobodyRow.domain false) (Rows.utfNobodySpec.post enc Try.prog Try.f6 false true false false) := by
  refine returnsInHanded_of_change (C := Try.checked) Try.ownN started (by kernel_rfl) Try.func6
    (ChangeSpec.witness6 (enc := enc) (C := Try.checked) false ⟨#[], #[.string ⟨#[]⟩], []⟩ 8 (by kernel_rfl) (by kernel_rfl) (by kernel_rfl) (by kernel_rfl)) ?_
  intro W base args ds gs before hval0 hW hcnd _
  have hval : ∀ (j : Nat) t v, Try.f6.params[j]? = some t → args[j]? = some v → Value.okWide Try.prog W .any base t v := hval0
  have hW' := hW
  obtain ⟨p, q, hA0, hV, rfl, hfz, hnd⟩ := hW
  have hA : DataW.TrodAll enc Try.prog W 0 (fun _ => true) true Try.f6.params.toList args.toList ds p := hA0
  rw [Try.params6] at hA hval
  obtain ⟨v0, d0, rfl, rfl, h0⟩ := trodAll_one hA
  obtain ⟨rfl, rfl⟩ := trodVars_none hV
  obtain ⟨s0, rfl, rfl, rfl, hs0⟩ := open_string Try.underlying9 (hval 0 9 v0 rfl rfl) h0
  clear hA0 hval0
  rw [S_ofN s0]
  refine (nobody_any s0.data.toList W).mono fun e W' ⟨he, hnx⟩ => ?_
  subst he
  rw [← S_ofN s0]
  exact ⟨_, rfl, _, _, _, [], _, [], hW', trodAll_mk1 (shut_bool Try.underlying4 true),
    trodAll_mk1 (shut_string Try.underlying9 hs0), rfl, hnx.frame _, fun h => by cases h⟩

theorem nobody_holds : Rows.UtfNobodySaid :=
  OpenClaim.holds_of_wide 6 Try.f6 rfl rfl rfl rfl rfl rfl rfl ⟨rfl, rfl, rfl, rfl, rfl⟩ rfl rfl rfl rfl rfl (by kernel_rfl) Try.func6 (by kernel_rfl)
    (of_decide_eq_true (by kernel_rfl)) (by unfold Func.isWrapper; rw [if_neg (of_decide_eq_false (by kernel_rfl))]; exact ⟨rfl, rfl⟩)
    (fun os started H enc _ => nobody_lifted os started H enc)
end Go.Proofs.Ytmamklahnpmgjaa
