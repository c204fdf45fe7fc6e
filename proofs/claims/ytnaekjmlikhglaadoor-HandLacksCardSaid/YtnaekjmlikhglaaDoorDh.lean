/- HandVersions (stage 17) over any package. (mkdh.py writes it.) -/
import Derived.Test.YtnaekjmlikhglaaDoorDg
import Derived.Test.YtnaekjmlikhglaaDoorNbW2
namespace Go.Proofs.YtnaekjmlikhglaaDoor
open Go.RowKit
attribute [local go_sem] store_one B_match B_store S_match S_store

/-- Asks with another key and another version. -/
def askV (e v : DTx) : DFds := [([72, 111, 115, 116], [97]), ([85, 112, 103, 114, 97, 100, 101], [119, 101, 98, 115, 111, 99, 107, 101, 116]), ([67, 111, 110, 110, 101, 99, 116, 105, 111, 110], [107, 101, 101, 112, 45, 97, 108, 105, 118, 101, 44, 32, 85, 112, 103, 114, 97, 100, 101]), ([83, 101, 99, 45, 87, 101, 98, 83, 111, 99, 107, 101, 116, 45, 75, 101, 121], e), ([83, 101, 99, 45, 87, 101, 98, 83, 111, 99, 107, 101, 116, 45, 86, 101, 114, 115, 105, 111, 110], v)]
theorem askV_0 : askV keyV v13D = asksF := rfl
theorem askV_host (e v : DTx) : manyF (askV e v) hostD = [[97]] := by
  unfold askV; rw [many_cons, many_cons, many_cons, many_cons, many_cons, many_nil, if_pos (by dsimp only; decide +kernel), if_neg (by dsimp only; decide +kernel), if_neg (by dsimp only; decide +kernel), if_neg (by dsimp only; decide +kernel), if_neg (by dsimp only; decide +kernel)]; rfl
theorem askV_up (e v : DTx) : manyF (askV e v) upD = [[119, 101, 98, 115, 111, 99, 107, 101, 116]] := by
  unfold askV; rw [many_cons, many_cons, many_cons, many_cons, many_cons, many_nil, if_neg (by dsimp only; decide +kernel), if_pos (by dsimp only; decide +kernel), if_neg (by dsimp only; decide +kernel), if_neg (by dsimp only; decide +kernel), if_neg (by dsimp only; decide +kernel)]; rfl
theorem askV_con (e v : DTx) : manyF (askV e v) conD = [[107, 101, 101, 112, 45, 97, 108, 105, 118, 101, 44, 32, 85, 112, 103, 114, 97, 100, 101]] := by
  unfold askV; rw [many_cons, many_cons, many_cons, many_cons, many_cons, many_nil, if_neg (by dsimp only; decide +kernel), if_neg (by dsimp only; decide +kernel), if_pos (by dsimp only; decide +kernel), if_neg (by dsimp only; decide +kernel), if_neg (by dsimp only; decide +kernel)]; rfl
theorem askV_key (e v : DTx) : manyF (askV e v) keyD = [e] := by
  unfold askV; rw [many_cons, many_cons, many_cons, many_cons, many_cons, many_nil, if_neg (by dsimp only; decide +kernel), if_neg (by dsimp only; decide +kernel), if_neg (by dsimp only; decide +kernel), if_pos (by dsimp only; decide +kernel), if_neg (by dsimp only; decide +kernel)]; rfl
theorem askV_ver (e v : DTx) : manyF (askV e v) verD = [v] := by
  unfold askV; rw [many_cons, many_cons, many_cons, many_cons, many_cons, many_nil, if_neg (by dsimp only; decide +kernel), if_neg (by dsimp only; decide +kernel), if_neg (by dsimp only; decide +kernel), if_neg (by dsimp only; decide +kernel), if_pos (by dsimp only; decide +kernel)]; rfl
theorem ok_enc (k : DTx) (hk : k.length = 16) : ok16 (bb.enc k) = true := by unfold ok16; rw [bb.back k]; exact decide_eq_true hk
theorem ask_askV (k v : DTx) (hk : k.length = 16) : askF getD 11 (askV (bb.enc k) v) = true := by
  unfold askF
  rw [askV_host, askV_up, askV_con, askV_key, askV_ver, show ([bb.enc k] : List DTx).headD [] = bb.enc k from rfl, ok_enc k hk, show hasAny [[119, 101, 98, 115, 111, 99, 107, 101, 116]] wsD = true by decide +kernel, show hasAny [[107, 101, 101, 112, 45, 97, 108, 105, 118, 101, 44, 32, 85, 112, 103, 114, 97, 100, 101]] upD = true by decide +kernel]
  rfl
theorem check_askV (k v : DTx) (hk : k.length = 16) : checkF getD 11 (askV (bb.enc k) v) = if v = v13D then (accF (bb.enc k), 101) else ([], 426) := by
  unfold checkF; rw [if_pos (ask_askV k v hk), askV_ver, askV_key]; rfl
theorem acc_len (e : DTx) : (accF e).length = 28 := by unfold accF; rw [bb.enc_length, sha_len]
theorem askV_small (k v : DTx) (hk : k.length = 16) (hv : v.length ≤ 100) : Small17 (askV (bb.enc k) v) := by
  have he : (bb.enc k).length = 24 := by rw [bb.enc_length, hk]
  refine ⟨by show (5 : Nat) ≤ 100; decide, fun f hf => ?_⟩
  unfold askV at hf
  simp only [List.mem_cons, List.not_mem_nil, or_false] at hf
  rcases hf with rfl | rfl | rfl | rfl | rfl
  · exact ⟨by decide, by decide⟩
  · exact ⟨by decide, by decide⟩
  · exact ⟨by decide, by decide⟩
  · exact ⟨by dsimp only; decide, by show (bb.enc k).length ≤ 200; omega⟩
  · exact ⟨by dsimp only; decide, by show v.length ≤ 200; omega⟩
theorem row_text16 {W : World} {g : Nat} {l : List UInt8} {t : TypeId} (h : Row W g (bcells l) t) (hl : l.length = 16) : (convert 42 9 (.slice (some ⟨g, 0, none⟩) 16 16)).run Tryd.prog W = .ok (S l) W := by
  have := run_convert_bytes_back (P := Tryd.prog) W 42 9 5 ⟨g, 0, none⟩ 16 l Tryd.underlying42 Tryd.underlying5 Tryd.underlying9 fun j hj => by
    rw [Addr.add_mid, Nat.zero_add, h.byte l rfl j hj, List.getElem?_eq_getElem hj]; rfl
  rw [hl] at this
  exact this
def askC : Array Value := #[.string ⟨#[72, 111, 115, 116]⟩, .string ⟨#[97]⟩, .string ⟨#[85, 112, 103, 114, 97, 100, 101]⟩, .string ⟨#[119, 101, 98, 115, 111, 99, 107, 101, 116]⟩, .string ⟨#[67, 111, 110, 110, 101, 99, 116, 105, 111, 110]⟩, .string ⟨#[107, 101, 101, 112, 45, 97, 108, 105, 118, 101, 44, 32, 85, 112, 103, 114, 97, 100, 101]⟩, .string ⟨#[83, 101, 99, 45, 87, 101, 98, 83, 111, 99, 107, 101, 116, 45, 75, 101, 121]⟩, .string ⟨#[100, 71, 104, 108, 73, 72, 78, 104, 98, 88, 66, 115, 90, 83, 66, 117, 98, 50, 53, 106, 90, 81, 61, 61]⟩, .string ⟨#[83, 101, 99, 45, 87, 101, 98, 83, 111, 99, 107, 101, 116, 45, 86, 101, 114, 115, 105, 111, 110]⟩, .string ⟨#[49, 51]⟩]
def askCV (e v : DTx) : Array Value := (fcells (askV e v)).toArray
theorem askC_0 : askC = askCV keyV v13D := rfl
theorem askC_set (e : DTx) : askC.setIfInBounds 7 (S e) = askCV e v13D := rfl
theorem askC_set2 (e v : DTx) : (askCV e v13D).setIfInBounds 9 (S v) = askCV e v := rfl
theorem fa_askV {W : World} {g : Nat} {e v : DTx} (h : Row W g (askCV e v) 37) : FA W (.slice (some ⟨g, 0, none⟩) 5 5) (askV e v) g 0 := by
  have hrow : ∀ j u, (fcells (askV e v))[j]? = some u → W.cell? ⟨g, j, none⟩ = some u := fun j u hu => by
    rw [cell_of_row W g j _ _ (0, 0) h]
    unfold askCV
    simpa using hu
  refine ⟨fun T w' => by simp [Builtin.len_, run_underlying Tryd.underlying22, Result.andThen, goInt, askV], fun i hi w' => run_index_at (P := Tryd.prog) Tryd.underlying22 (fun w => Tryd.sizeOf37 w) g 0 5 5 i hi w', fun i f hf => ?_, ⟨_, _, rfl⟩⟩
  obtain ⟨h1, h2⟩ := fcells_get _ i f hf
  rw [Nat.zero_add]
  exact ⟨hrow _ _ h1, hrow _ _ h2⟩
set_option maxRecDepth 100000 in
set_option maxHeartbeats 1000000 in
theorem asks_lit (w : World) : Calls Tryd.prog 19 #[] w fun e w' => ∃ g, e = .returned (.agg #[.string ⟨#[71, 69, 84]⟩, .string ⟨#[47, 119, 115]⟩, .string ⟨#[]⟩, .int .i64 11, .slice (some ⟨g, 0, none⟩) 5 5, .string ⟨#[]⟩, .bool false]) ∧ Row w' g askC 37 ∧ w.heap.size ≤ g ∧ Below w.heap.size w w' := by
  obtain ⟨g, hg⟩ : ∃ g, g = w.heap.size + 1 := ⟨_, rfl⟩
  obtain ⟨W3, hW3⟩ : ∃ W, W = (w.alloc (.cells #[.string ⟨#[71, 69, 84]⟩, .string ⟨#[47, 119, 115]⟩, .string ⟨#[]⟩, .int .i64 11, .slice (some ⟨g, 0, none⟩) 5 5, .string ⟨#[]⟩, .bool false] 24)).alloc (.cells askC 37) := ⟨_, rfl⟩
  have hr : Row W3 w.heap.size #[.string ⟨#[71, 69, 84]⟩, .string ⟨#[47, 119, 115]⟩, .string ⟨#[]⟩, .int .i64 11, .slice (some ⟨g, 0, none⟩) 5 5, .string ⟨#[]⟩, .bool false] 24 := by rw [hW3]; exact (row_new _ _ _).alloc _
  have HO : Hid (Row W3 (w.heap.size + 1) askC 37) := Lib.hid (by rw [hW3]; have := row_new (w.alloc (.cells #[.string ⟨#[71, 69, 84]⟩, .string ⟨#[47, 119, 115]⟩, .string ⟨#[]⟩, .int .i64 11, .slice (some ⟨g, 0, none⟩) 5 5, .string ⟨#[]⟩, .bool false] 24)) askC 37; rw [alloc_size] at this; exact this)
  have HB : Hid (Below w.heap.size w W3) := Lib.hid (by rw [hW3]; exact ((Below.refl _ _).alloc (Nat.le_refl _) _).alloc (by rw [alloc_size]; omega) _)
  rw [hg] at hW3 hr
  unfold askC at hW3
  have HR := Lib.hid hr
  clear hr hg
  go_enter Tryd.func19, Tryd.ntmps19
  go_wp2
  rw [← hW3]
  refine bodyPost_ret (results_cell_row rfl _ _ w.heap.size 24 _ (0, 0) _ rfl HR.out Tryd.underlying24 rfl infoRq) rfl ?_
  exact ⟨_, rfl, HO.out, by omega, HB.out⟩
set_option maxRecDepth 100000 in
set_option maxHeartbeats 2000000 in
theorem versions17_any {w : World} (C : HandI w) (v k : DTx) (hk : k.length = 16) :
    Calls Tryd.prog 7 #[S v, .agg (bcells k)] w fun e w' => e = .returned (.bool true) ∧ Below w.heap.size w w' := by
  have HW := Lib.hid fun (W : World) (hb : Below w.heap.size w W) => wakes17_any (C.up hb)
  have hl := run_len_S (P := Tryd.prog) Tryd.underlying9 3 v
  obtain ⟨N, hN⟩ : ∃ n, n = v.length := ⟨_, rfl⟩
  rw [← hN] at hl
  obtain ⟨kc, hkc⟩ : ∃ c, c = bcells k := ⟨_, rfl⟩
  have hks : kc.size = 16 := by rw [hkc, bcells_size, hk]
  obtain ⟨ek, hek⟩ : ∃ e, e = bb.enc k := ⟨_, rfl⟩
  obtain ⟨W1, hW1⟩ : ∃ W, W = w.alloc (.cells kc 40) := ⟨_, rfl⟩
  have H1 : Hid (Row W1 w.heap.size kc 40 ∧ Below w.heap.size w W1) := Lib.hid (by rw [hW1]; exact ⟨row_new _ _ _, (Below.refl _ _).alloc (Nat.le_refl _) _⟩)
  have HT : Hid (∀ W : World, Row W w.heap.size kc 40 → (convert 42 9 (.slice (some ⟨w.heap.size, 0, none⟩) 16 16)).run Tryd.prog W = .ok (S k) W) := Lib.hid fun W h => by
    rw [hkc] at h; exact row_text16 h hk
  have HE : Hid (∀ W, Calls Tryd.prog 20 #[S k] W fun e w' => e = .returned (S ek) ∧ Below W.heap.size W w') := Lib.hid fun W => by
    rw [hek]; exact bb.encode_any k (by omega) W
  obtain ⟨x, hx⟩ : ∃ x, x = checkF getD 11 (askV ek v) := ⟨_, rfl⟩
  obtain ⟨rf, hrf⟩ : ∃ y, y = (replyF x).1 := ⟨_, rfl⟩
  obtain ⟨rb, hrb⟩ : ∃ y, y = (replyF x).2 := ⟨_, rfl⟩
  obtain ⟨x1, hx1⟩ : ∃ y, y = x.1 := ⟨_, rfl⟩
  obtain ⟨c, hc⟩ : ∃ y : Int, y = (x.2 : Int) := ⟨_, rfl⟩
  obtain ⟨ok, hok⟩ : ∃ y, y = decide (x.2 = 101) := ⟨_, rfl⟩
  obtain ⟨ak, hal, hx13⟩ : ∃ ak : DTx, ak.length = 28 ∧ (v = v13D → x = (ak, 101)) := ⟨accF ek, acc_len ek, fun h => by rw [hx, hek, check_askV k v hk, if_pos h]⟩
  have HX1 : Hid (v = v13D → x1 ≠ [] ∧ c = 101 ∧ ok = true) := Lib.hid fun h => by
    rw [hx1, hc, hok, hx13 h]
    refine ⟨fun h => ?_, rfl, rfl⟩
    have h' : ak = [] := h
    rw [h'] at hal; cases hal
  have HX2 : Hid (v ≠ v13D → x1 = [] ∧ c = 426 ∧ ok = false ∧ rf = [([83, 101, 99, 45, 87, 101, 98, 83, 111, 99, 107, 101, 116, 45, 86, 101, 114, 115, 105, 111, 110], [49, 51])] ∧ rb = [98, 97, 100, 32, 118, 101, 114, 115, 105, 111, 110]) := Lib.hid fun h => by
    have : x = ([], 426) := by rw [hx, hek, check_askV k v hk, if_neg h]
    rw [hx1, hc, hok, hrf, hrb, this]
    exact ⟨rfl, rfl, rfl, rfl, rfl⟩
  have HCk : Hid (N ≤ 100 → ∀ W g, Below w.heap.size w W → Row W g (askCV ek v) 37 → Calls Tryd.prog 11 #[.agg #[.string ⟨#[71, 69, 84]⟩, .string ⟨#[47, 119, 115]⟩, .string ⟨#[]⟩, .int .i64 11, .slice (some ⟨g, 0, none⟩) 5 5, .string ⟨#[]⟩, .bool false]] W fun e w' => e = .returned (.tuple #[S x1, .int .i64 c]) ∧ Below W.heap.size W w') := Lib.hid fun hn W g hb hr => by
    rw [hx1, hc, hx]; exact C.check getD wsP [] 11 _ [] false _ g 0 W hb (fa_askV hr) (by rw [hek]; exact askV_small k v hk (by omega))
  have HAn : Hid (N ≤ 100 → ∀ W g, Below w.heap.size w W → Row W g (askCV ek v) 37 → Calls Tryd.prog 13 #[.agg #[.string ⟨#[71, 69, 84]⟩, .string ⟨#[47, 119, 115]⟩, .string ⟨#[]⟩, .int .i64 11, .slice (some ⟨g, 0, none⟩) 5 5, .string ⟨#[]⟩, .bool false]] W fun e w' => ∃ ad n cp, e = .returned (.tuple #[.agg #[.int .i64 c, .slice ad n cp, S rb], .bool ok]) ∧ w'.ownsRow W.heap.size 37 2 (.slice ad n cp) rf.length (fcells rf) ∧ Below W.heap.size W w') := Lib.hid fun hn W g hb hr => by
    rw [hok, hrf, hrb, hc, hx]; exact answer_form C getD wsP [] 11 _ [] false _ g 0 W hb (fa_askV hr) (by rw [hek]; exact askV_small k v hk (by omega))
  have e13 := eql_S 9 v [49, 51]
  have g13 : ∀ x y, eqGuard .eql 9 x y (S v) (.string ⟨#[49, 51]⟩) = pure () := fun _ _ => rfl
  have e13' : binOp .eql 9 (S v) (.string ⟨#[49, 51]⟩) = pure (.bool (v == v13D)) := e13
  obtain ⟨is13, h13⟩ : ∃ b, b = (v == v13D) := ⟨_, rfl⟩
  rw [← h13] at e13'
  have H13 : Hid ((is13 = true → v = v13D) ∧ (is13 = false → v ≠ v13D)) := Lib.hid (by rw [h13]; exact ⟨eq_of_beq, fun h he => by rw [he, beq_self_eq_true] at h; cases h⟩)
  rw [← hkc]
  clear hal hx13
  clear C hN hkc hek hx hrf hrb hx1 hc hok e13 h13
  by_cases hbig : 100 < N
  · have g1 : decide ((100 : Int) < (N : Int)) = true := decide_eq_true (by omega)
    have g1' : decide ((N : Int) > 100) = true := g1
    clear hbig
    go_enter Tryd.func7, Tryd.ntmps7
    go_wp2_with fail
    rw [← hW1]
    refine (HW.out W1 H1.out.2).mono ?_
    rintro e W2 ⟨rfl, hB⟩
    have B2 := Lib.hid (H1.out.2.trans (hB.mono H1.out.2.size))
    clear hB
    go_wp2
    go_ret
    exact ⟨rfl, B2.out⟩
  have g1 : decide ((100 : Int) < (N : Int)) = false := decide_eq_false (by omega)
  have g1' : decide ((N : Int) > 100) = false := g1
  have HCk2 := Lib.hid (HCk.out (by omega))
  have HAn2 := Lib.hid (HAn.out (by omega))
  clear hbig HCk HAn
  go_enter Tryd.func7, Tryd.ntmps7
  go_wp2_with fail
  rw [← hW1]
  clear hW1
  refine (asks_lit W1).mono ?_
  rintro e W2 ⟨g, rfl, hr, hg, hB⟩
  obtain ⟨W3, hW3⟩ : ∃ W, W = W2.alloc (.cells #[.string ⟨#[71, 69, 84]⟩, .string ⟨#[47, 119, 115]⟩, .string ⟨#[]⟩, .int .i64 11, .slice (some ⟨g, 0, none⟩) 5 5, .string ⟨#[]⟩, .bool false] 24) := ⟨_, rfl⟩
  obtain ⟨Wd, hWd⟩ : ∃ W, W = W3.drew := ⟨_, rfl⟩
  have hb2 := H1.out.2.trans (hB.mono H1.out.2.size)
  have HD : Hid (Row Wd w.heap.size kc 40 ∧ Row Wd W2.heap.size #[.string ⟨#[71, 69, 84]⟩, .string ⟨#[47, 119, 115]⟩, .string ⟨#[]⟩, .int .i64 11, .slice (some ⟨g, 0, none⟩) 5 5, .string ⟨#[]⟩, .bool false] 24 ∧ Row Wd g askC 37 ∧ Below w.heap.size w Wd) := Lib.hid (by
    rw [hWd, hW3]
    exact ⟨((H1.out.1.below hB H1.out.1.lt).alloc _).drew, (row_new _ _ _).drew, (hr.alloc _).drew, (hb2.alloc hb2.size _).trans ((below_drewN _ 1).mono (hb2.alloc hb2.size _).size)⟩)
  have HD0 : Hid (Row W3 w.heap.size kc 40 ∧ Row W3 W2.heap.size #[.string ⟨#[71, 69, 84]⟩, .string ⟨#[47, 119, 115]⟩, .string ⟨#[]⟩, .int .i64 11, .slice (some ⟨g, 0, none⟩) 5 5, .string ⟨#[]⟩, .bool false] 24) := Lib.hid (by
    rw [hW3]
    exact ⟨(H1.out.1.below hB H1.out.1.lt).alloc _, row_new _ _ _⟩)
  have HG : Hid (w.heap.size < g ∧ g < W2.heap.size) := Lib.hid ⟨by have := H1.out.1.lt; omega, hr.lt⟩
  have HS : Hid (∀ W : World, Row W w.heap.size kc 40 → Row W W2.heap.size #[.string ⟨#[71, 69, 84]⟩, .string ⟨#[47, 119, 115]⟩, .string ⟨#[]⟩, .int .i64 11, .slice (some ⟨g, 0, none⟩) 5 5, .string ⟨#[]⟩, .bool false] 24 → (W.cell? ⟨W2.heap.size, 4, none⟩ = some (.slice (some ⟨g, 0, none⟩) 5 5)) ∧ (convert 42 9 (.slice (some ⟨w.heap.size, 0, none⟩) 16 16)).run Tryd.prog W = .ok (S k) W) := Lib.hid fun W h1 h2 => ⟨cell_of_row W _ 4 _ _ (0, 0) h2, HT.out W h1⟩
  have ix3 : ∀ w', (Instr.indexAt 22 (.slice (some ⟨g, 0, none⟩) 5 5) (.int .i64 3)).run Tryd.prog w' = .ok (.pointer (some ⟨g, 6, none⟩)) w' := run_index_at (P := Tryd.prog) Tryd.underlying22 (fun w => Tryd.sizeOf37 w) g 0 5 5 3 (by decide)
  have ix4 : ∀ w', (Instr.indexAt 22 (.slice (some ⟨g, 0, none⟩) 5 5) (.int .i64 4)).run Tryd.prog w' = .ok (.pointer (some ⟨g, 8, none⟩)) w' := run_index_at (P := Tryd.prog) Tryd.underlying22 (fun w => Tryd.sizeOf37 w) g 0 5 5 4 (by decide)
  clear hr hg hB hb2 HT H1
  go_wp2_with fail
  rw [← hW3]
  refine wp_region_noPanic ?_
  refine wp_region_held_drew (S := fun W => (W.cell? ⟨W2.heap.size, 4, none⟩ = some (.slice (some ⟨g, 0, none⟩) 5 5)) ∧ (convert 42 9 (.slice (some ⟨w.heap.size, 0, none⟩) 16 16)).run Tryd.prog W = .ok (S k) W) (by kernel_rfl) (HS.out _ HD0.out.1 HD0.out.2) (fun _ => ?_)
  rw [← hWd]
  clear hWd hW3
  refine take_at (i := 0) (d := some 16) (v := .pointer (some ⟨W2.heap.size, 4, none⟩)) rfl (by kernel_rfl) (by kernel_rfl) (by kernel_rfl) (fun _ _ _ h => h) (fun oi ho => ?_) (HS.out _ HD.out.1 HD.out.2.1) ?_
  · obtain rfl := Option.some.inj ho
    exact Or.inl ⟨by rfl, fun wx ⟨h4, hcv⟩ => by go_simp⟩
  simp only [Act.put, List.setIfInBounds_toArray, List.set_cons_zero, List.set_cons_succ]
  refine take_at (i := 1) (d := some 17) (v := .slice (some ⟨g, 0, none⟩) 5 5) rfl (by kernel_rfl) (by kernel_rfl) (by kernel_rfl) (fun _ _ _ h => h) (fun oi ho => ?_) (HS.out _ HD.out.1 HD.out.2.1) ?_
  · obtain rfl := Option.some.inj ho
    exact Or.inl ⟨by rfl, fun wx ⟨h4, hcv⟩ => by go_simp⟩
  simp only [Act.put, List.setIfInBounds_toArray, List.set_cons_zero, List.set_cons_succ]
  refine take_at (i := 2) (d := some 18) (v := .slice (some ⟨w.heap.size, 0, none⟩) 16 16) rfl (by kernel_rfl) (by kernel_rfl) (by kernel_rfl) (fun _ _ _ h => h) (fun oi ho => ?_) (HS.out _ HD.out.1 HD.out.2.1) ?_
  · obtain rfl := Option.some.inj ho
    exact Or.inl ⟨by rfl, fun wx ⟨h4, hcv⟩ => by go_simp⟩
  simp only [Act.put, List.setIfInBounds_toArray, List.set_cons_zero, List.set_cons_succ]
  refine take_at (i := 3) (d := some 19) (v := S k) rfl (by kernel_rfl) (by kernel_rfl) (by kernel_rfl) (fun _ _ _ h => h) (fun oi ho => ?_) (HS.out _ HD.out.1 HD.out.2.1) ?_
  · obtain rfl := Option.some.inj ho
    exact Or.inl ⟨by rfl, fun wx ⟨h4, hcv⟩ => by go_simp⟩
  simp only [Act.put, List.setIfInBounds_toArray, List.set_cons_zero, List.set_cons_succ]
  refine ready_call (i := 4) (d := some 20) (f := 20) (args := #[S k]) rfl (by kernel_rfl) (fun oi ho => ?_) ?_
  · obtain rfl := Option.some.inj ho
    exact ⟨by rfl, by go_simp⟩
  refine (HE.out _).mono ?_
  rintro e W5 ⟨rfl, hB⟩
  have hk5 := HD.out.1.below hB HD.out.1.lt
  have hq5 := HD.out.2.1.below hB HD.out.2.1.lt
  have hf5 := HD.out.2.2.1.below hB HD.out.2.2.1.lt
  have hb5 := HD.out.2.2.2.trans (hB.mono HD.out.2.2.2.size)
  have z7 : W5.cell? ⟨g, 7, none⟩ = some (S keyV) := cell_of_row W5 _ 7 _ _ (0, 0) hf5
  have zf7 := Row.frozen hf5 7
  refine ⟨_, rfl, (HS.out _ hk5 hq5), ?_⟩
  simp only [Act.put, List.setIfInBounds_toArray, List.set_cons_zero, List.set_cons_succ]
  refine take_at (i := 5) (d := some 21) (v := .pointer (some ⟨g, 6, none⟩)) rfl (by kernel_rfl) (by kernel_rfl) (by kernel_rfl) (fun _ _ _ h => h) (fun oi ho => ?_) (HS.out _ hk5 hq5) ?_
  · obtain rfl := Option.some.inj ho
    exact Or.inl ⟨by rfl, fun wx ⟨h4, hcv⟩ => by go_simp⟩
  simp only [Act.put, List.setIfInBounds_toArray, List.set_cons_zero, List.set_cons_succ]
  refine take_at (i := 6) (d := some 22) (v := .pointer (some ⟨g, 7, none⟩)) rfl (by kernel_rfl) (by kernel_rfl) (by kernel_rfl) (fun _ _ _ h => h) (fun oi ho => ?_) (HS.out _ hk5 hq5) ?_
  · obtain rfl := Option.some.inj ho
    exact Or.inl ⟨by rfl, fun wx ⟨h4, hcv⟩ => by go_simp⟩
  simp only [Act.put, List.setIfInBounds_toArray, List.set_cons_zero, List.set_cons_succ]
  refine ready_skip (i := 7) (d := none) (w' := W5.setCell ⟨g, 7, none⟩ (S ek)) rfl (by kernel_rfl) (fun oi ho => ?_) (HS.out _ (hk5.other (by have := HG.out; show w.heap.size ≠ g; omega)) (hq5.other (by have := HG.out; show W2.heap.size ≠ g; omega))) ?_
  · obtain rfl := Option.some.inj ho
    exact ⟨by rfl, by go_simp⟩
  refine wpAnyH_done (by kernel_rfl) ?_ _
  refine NoPanic.normal ?_
  try simp only [Act.put]
  obtain ⟨W6, hW6⟩ : ∃ W, W = W5.setCell ⟨g, 7, none⟩ (S ek) := ⟨_, rfl⟩
  have H6 : Hid (Row W6 g (askCV ek v13D) 37 ∧ Row W6 W2.heap.size #[.string ⟨#[71, 69, 84]⟩, .string ⟨#[47, 119, 115]⟩, .string ⟨#[]⟩, .int .i64 11, .slice (some ⟨g, 0, none⟩) 5 5, .string ⟨#[]⟩, .bool false] 24 ∧ Below w.heap.size w W6) := Lib.hid (by
    rw [hW6]
    exact ⟨by rw [← askC_set]; exact hf5.set 7 _, hq5.other (by have := HG.out; show W2.heap.size ≠ g; omega), hb5.setCell (by have := HG.out; show w.heap.size ≤ g; omega) _⟩)
  have y4 : W6.cell? ⟨W2.heap.size, 4, none⟩ = some (.slice (some ⟨g, 0, none⟩) 5 5) := cell_of_row W6 _ 4 _ _ (0, 0) H6.out.2.1
  have y9 : W6.cell? ⟨g, 9, none⟩ = some (S v13D) := cell_of_row W6 _ 9 _ _ (0, 0) H6.out.1
  have yf9 := Row.frozen H6.out.1 9
  rw [← hW6]
  clear hB hk5 hq5 hf5 hb5 z7 zf7 hW6 HD HS HE HD0
  obtain ⟨W7, hW7⟩ : ∃ W, W = W6.setCell ⟨g, 9, none⟩ (S v) := ⟨_, rfl⟩
  have H7 : Hid (Row W7 g (askCV ek v) 37 ∧ Row W7 W2.heap.size #[.string ⟨#[71, 69, 84]⟩, .string ⟨#[47, 119, 115]⟩, .string ⟨#[]⟩, .int .i64 11, .slice (some ⟨g, 0, none⟩) 5 5, .string ⟨#[]⟩, .bool false] 24 ∧ Below w.heap.size w W7) := Lib.hid (by
    rw [hW7]
    exact ⟨by rw [← askC_set2]; exact H6.out.1.set 9 _, H6.out.2.1.other (by have := HG.out; show W2.heap.size ≠ g; omega), H6.out.2.2.setCell (by have := HG.out; show w.heap.size ≤ g; omega) _⟩)
  have q0 : W7.cell? ⟨W2.heap.size, 0, none⟩ = some (.string ⟨#[71, 69, 84]⟩) := cell_of_row W7 _ 0 _ _ (0, 0) H7.out.2.1
  have q1 : W7.cell? ⟨W2.heap.size, 1, none⟩ = some (.string ⟨#[47, 119, 115]⟩) := cell_of_row W7 _ 1 _ _ (0, 0) H7.out.2.1
  have q2 : W7.cell? ⟨W2.heap.size, 2, none⟩ = some (.string ⟨#[]⟩) := cell_of_row W7 _ 2 _ _ (0, 0) H7.out.2.1
  have q3 : W7.cell? ⟨W2.heap.size, 3, none⟩ = some (.int .i64 11) := cell_of_row W7 _ 3 _ _ (0, 0) H7.out.2.1
  have q4 : W7.cell? ⟨W2.heap.size, 4, none⟩ = some (.slice (some ⟨g, 0, none⟩) 5 5) := cell_of_row W7 _ 4 _ _ (0, 0) H7.out.2.1
  have q5 : W7.cell? ⟨W2.heap.size, 5, none⟩ = some (.string ⟨#[]⟩) := cell_of_row W7 _ 5 _ _ (0, 0) H7.out.2.1
  have q6 : W7.cell? ⟨W2.heap.size, 6, none⟩ = some (.bool false) := cell_of_row W7 _ 6 _ _ (0, 0) H7.out.2.1
  rw [hW7] at q0 q1 q2 q3 q4 q5 q6
  go_wp2_with fail
  rw [← hW7]
  clear q0 q1 q2 q3 q4 q5 q6 y4 y9 yf9 hW7 H6
  refine (HCk2.out W7 g H7.out.2.2 H7.out.1).mono ?_
  rintro e W8 ⟨rfl, hB⟩
  have hb8 := H7.out.2.2.trans (hB.mono H7.out.2.2.size)
  have hq8 := H7.out.2.1.below hB H7.out.2.1.lt
  have H8 : Hid (Below w.heap.size w W8 ∧ Row W8 g (askCV ek v) 37) := Lib.hid ⟨hb8, H7.out.1.below hB H7.out.1.lt⟩
  have q0 : W8.cell? ⟨W2.heap.size, 0, none⟩ = some (.string ⟨#[71, 69, 84]⟩) := cell_of_row W8 _ 0 _ _ (0, 0) hq8
  have q1 : W8.cell? ⟨W2.heap.size, 1, none⟩ = some (.string ⟨#[47, 119, 115]⟩) := cell_of_row W8 _ 1 _ _ (0, 0) hq8
  have q2 : W8.cell? ⟨W2.heap.size, 2, none⟩ = some (.string ⟨#[]⟩) := cell_of_row W8 _ 2 _ _ (0, 0) hq8
  have q3 : W8.cell? ⟨W2.heap.size, 3, none⟩ = some (.int .i64 11) := cell_of_row W8 _ 3 _ _ (0, 0) hq8
  have q4 : W8.cell? ⟨W2.heap.size, 4, none⟩ = some (.slice (some ⟨g, 0, none⟩) 5 5) := cell_of_row W8 _ 4 _ _ (0, 0) hq8
  have q5 : W8.cell? ⟨W2.heap.size, 5, none⟩ = some (.string ⟨#[]⟩) := cell_of_row W8 _ 5 _ _ (0, 0) hq8
  have q6 : W8.cell? ⟨W2.heap.size, 6, none⟩ = some (.bool false) := cell_of_row W8 _ 6 _ _ (0, 0) hq8
  clear hB hb8 hq8 H7 HCk2
  go_wp2_with fail
  refine (HAn2.out W8 g H8.out.1 H8.out.2).mono ?_
  rintro e W9 ⟨ad, n, cp, rfl, hO, hB⟩
  obtain ⟨W10, hW10⟩ : ∃ W, W = W9.alloc (.cells #[.int .i64 c, .slice ad n cp, S rb] 30) := ⟨_, rfl⟩
  have hb9 := H8.out.1.trans (hB.mono H8.out.1.size)
  have hbx : Below W9.heap.size W9 W10 := by rw [hW10]; exact (Below.refl _ _).alloc (Nat.le_refl _) _
  have H10 : Hid (Below w.heap.size w W10 ∧ Row W10 W9.heap.size #[.int .i64 c, .slice ad n cp, S rb] 30 ∧ W10.ownsRow W8.heap.size 37 2 (.slice ad n cp) rf.length (fcells rf)) := Lib.hid ⟨by rw [hW10]; exact hb9.alloc hb9.size _, by rw [hW10]; exact row_new _ _ _, own_below hO hbx⟩
  clear hB hO hb9 hbx q0 q1 q2 q3 q4 q5 q6 H8 HAn2
  cases is13 with
  | true =>
    obtain ⟨hx1, hc, hok⟩ := HX1.out (H13.out.1 rfl)
    have hne := neql_S 9 x1 []
    have hne2 : binOp .neq 9 (S x1) (.string ⟨#[]⟩) = pure (.bool true) := hne.trans (by rw [show (x1 != []) = true from by simpa using hx1])
    have hge : ∀ x y, eqGuard .neq 9 x y (S x1) (.string ⟨#[]⟩) = pure () := fun _ _ => rfl
    subst hc
    subst hok
    clear hx1 hne HX1 HX2 H13
    go_wp2_with fail
    rw [← hW10]
    refine (HW.out W10 H10.out.1).mono ?_
    rintro e W11 ⟨rfl, hB⟩
    have B11 := Lib.hid (H10.out.1.trans (hB.mono H10.out.1.size))
    clear hB
    go_wp2
    go_ret
    exact ⟨rfl, B11.out⟩
  | false =>
    obtain ⟨hx1, hc, hok, hrf, hrb⟩ := HX2.out (H13.out.2 rfl)
    have heq : binOp .eql 9 (S x1) (.string ⟨#[]⟩) = pure (.bool true) := (eql_S 9 x1 []).trans (by rw [hx1]; rfl)
    have hge : ∀ x y, eqGuard .eql 9 x y (S x1) (.string ⟨#[]⟩) = pure () := fun _ _ => rfl
    subst hc
    subst hok
    rw [hrb] at hW10 H10 ⊢
    have hs10 : W10.heap.size = W9.heap.size + 1 := by rw [hW10, alloc_size]
    obtain ⟨W11, hW11⟩ : ∃ W, W = W10.alloc (.cells #[.string ⟨#[83, 101, 99, 45, 87, 101, 98, 83, 111, 99, 107, 101, 116, 45, 86, 101, 114, 115, 105, 111, 110]⟩, .string ⟨#[49, 51]⟩] 37) := ⟨_, rfl⟩
    have hw11 : W11.heap.size = W10.heap.size + 1 := by rw [hW11, alloc_size]
    obtain ⟨W12, hW12⟩ : ∃ W, W = W11.alloc (.cells #[.int .i64 426, .slice (some ⟨W9.heap.size + 1, 0, none⟩) 1 1, .string ⟨#[98, 97, 100, 32, 118, 101, 114, 115, 105, 111, 110]⟩] 30) := ⟨_, rfl⟩
    have hbx : Below W10.heap.size W10 W12 := by rw [hW12, hW11]; exact ((Below.refl _ _).alloc (Nat.le_refl _) _).alloc (by rw [alloc_size]; omega) _
    have hr12 : Row W12 (W9.heap.size + 1 + 1) #[.int .i64 426, .slice (some ⟨W9.heap.size + 1, 0, none⟩) 1 1, .string ⟨#[98, 97, 100, 32, 118, 101, 114, 115, 105, 111, 110]⟩] 30 := by rw [hW12, ← hs10, ← hw11]; exact row_new _ _ _
    have hf12 : Row W12 (W9.heap.size + 1) #[.string ⟨#[83, 101, 99, 45, 87, 101, 98, 83, 111, 99, 107, 101, 116, 45, 86, 101, 114, 115, 105, 111, 110]⟩, .string ⟨#[49, 51]⟩] 37 := by rw [← hs10, hW12, hW11]; exact (row_new _ _ _).alloc _
    have hq12 := H10.out.2.1.below hbx H10.out.2.1.lt
    obtain ⟨ga, hga, -⟩ := flds_at (own_below H10.out.2.2 hbx)
    obtain ⟨gb, hgb, -⟩ := flds_at (own_lit (fs := [([83, 101, 99, 45, 87, 101, 98, 83, 111, 99, 107, 101, 116, 45, 86, 101, 114, 115, 105, 111, 110], [49, 51])]) hf12 (Nat.le_refl _) rfl (by decide))
    have hfa := hga.fa
    rw [hrf] at hfa
    have HSm := Lib.hid (same17_true 426 [98, 97, 100, 32, 118, 101, 114, 115, 105, 111, 110] _ _ _ ga 0 gb 0 (by decide) W12 hfa hgb.fa)
    have H12 : Hid (Below w.heap.size w W12) := Lib.hid (H10.out.1.trans (hbx.mono H10.out.1.size))
    have z0 : W12.cell? ⟨W9.heap.size, 0, none⟩ = some (.int .i64 426) := cell_of_row W12 _ 0 _ _ (0, 0) hq12
    have z1 : W12.cell? ⟨W9.heap.size, 1, none⟩ = some (.slice ad n cp) := cell_of_row W12 _ 1 _ _ (0, 0) hq12
    have z2 : W12.cell? ⟨W9.heap.size, 2, none⟩ = some (S [98, 97, 100, 32, 118, 101, 114, 115, 105, 111, 110]) := cell_of_row W12 _ 2 _ _ (0, 0) hq12
    have y0 : W12.cell? ⟨W9.heap.size + 1 + 1, 0, none⟩ = some (.int .i64 426) := cell_of_row W12 _ 0 _ _ (0, 0) hr12
    have y1 : W12.cell? ⟨W9.heap.size + 1 + 1, 1, none⟩ = some (.slice (some ⟨W9.heap.size + 1, 0, none⟩) 1 1) := cell_of_row W12 _ 1 _ _ (0, 0) hr12
    have y2 : W12.cell? ⟨W9.heap.size + 1 + 1, 2, none⟩ = some (S [98, 97, 100, 32, 118, 101, 114, 115, 105, 111, 110]) := cell_of_row W12 _ 2 _ _ (0, 0) hr12
    rw [hW12, hW11] at z0 z1 z2 y0 y1 y2
    rw [hW11] at hW12
    clear hs10 hbx hr12 hf12 hq12 hga hgb hfa hrf hrb hw11 hW11
    clear hx1 HX1 HX2 H13
    go_wp2_with fail
    rw [← hW10]
    rw [← hW12]
    clear hW12 hW10 z0 z1 z2 y0 y1 y2
    refine HSm.out.mono ?_
    rintro e W13 ⟨rfl, hB⟩
    have B13 := Lib.hid (H12.out.trans (hB.mono H12.out.size))
    clear hB
    go_wp2_with fail
    refine (HW.out W13 B13.out).mono ?_
    rintro e W14 ⟨rfl, hB⟩
    have B14 := Lib.hid (B13.out.trans (hB.mono B13.out.size))
    clear hB
    go_wp2
    go_ret
    exact ⟨rfl, B14.out⟩
end Go.Proofs.YtnaekjmlikhglaaDoor
