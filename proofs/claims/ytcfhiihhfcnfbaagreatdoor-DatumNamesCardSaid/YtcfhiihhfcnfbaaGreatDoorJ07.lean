/- Walks of package limb: Of and Small. -/
import Derived.Sort.AtCallIn
import Derived.Sort.QuietIn
import Derived.Test.YtcfhiihhfcnfbaaGreatDoorJ05
import Derived.Test.YtcfhiihhfcnfbaaGreatDoorJ06
import Derived.Test.YtcfhiihhfcnfbaaGreatDoorJ04
import Derived.Test.YtcfhiihhfcnfbaaGreatDoorJ01
namespace Go.Proofs.YtcfhiihhfcnfbaaGreatDoor
open Go.RowKit Go.Shelf
attribute [local go_sem] Oper.semAt_some
namespace LM
attribute [local go_sem] round_fn wide_fn

theorem addr_lt {w : World} {A : Option Addr} {xs : List Nat} (h : Rd w A xs) (hx : 0 < xs.length) : ∀ ad, A = some ad → ad.block < w.heap.size := fun ad e => by
  obtain ⟨b, off, e', hb, _⟩ := h hx
  rw [e'] at e; injection e with e; subst e; exact hb
theorem Rd.trim {w : World} {A : Option Addr} {xs : List Nat} (h : Rd w A xs) : Rd w A (trim xs) := by
  rw [trim_take]; exact h.take _

/-- equal at all these places -/
def EqAt (xt yt : List Nat) (ps : List Nat) : Prop := ∀ j ∈ ps, xt[j]?.getD 0 = yt[j]?.getD 0
theorem mem_downs {n k j : Nat} : j ∈ downs n k ↔ ∃ i, i < k ∧ n - 1 - i = j := by simp [downs]
theorem eq_all {xt yt : List Nat} (hl : xt.length = yt.length) (h : EqAt xt yt (downs xt.length xt.length)) : xt = yt := by
  apply List.ext_getElem hl
  intro i h1 h2
  have := h i (mem_downs.2 ⟨xt.length - 1 - i, by omega, by omega⟩)
  rw [List.getElem?_eq_getElem h1, List.getElem?_eq_getElem h2] at this
  exact this
theorem val_lt_at {xt yt : List Nat} (hx : Lm xt) (hl : xt.length = yt.length) {k : Nat} (hk : k < xt.length) (he : ∀ j, k < j → xt[j]?.getD 0 = yt[j]?.getD 0) (h : xt[k]?.getD 0 < yt[k]?.getD 0) : val xt < val yt := by
  have hd : xt.drop (k + 1) = yt.drop (k + 1) := by
    apply List.ext_getElem (by simp [hl])
    intro i h1 h2
    have := he (k + 1 + i) (by omega)
    rw [List.length_drop] at h1 h2
    rw [List.getElem?_eq_getElem (by omega), List.getElem?_eq_getElem (by omega)] at this
    simpa using this
  have e1 := val_split xt (k + 1)
  have e2 := val_split yt (k + 1)
  rw [hd, Nat.min_eq_left (by omega)] at e1
  rw [Nat.min_eq_left (by omega)] at e2
  rw [val_take_succ] at e1 e2
  have e3 := val_len_lt (hx.take k) (n := k) (by simp; omega)
  generalize xt[k]?.getD 0 = x at *
  generalize yt[k]?.getD 0 = y at *
  generalize 4294967296 ^ (k + 1) * val (yt.drop (k + 1)) = D at *
  have e4 : 4294967296 ^ k * (x + 1) ≤ 4294967296 ^ k * y := Nat.mul_le_mul_left _ h
  rw [Nat.mul_add, Nat.mul_one] at e4
  omega
theorem cmp_at {xt yt : List Nat} (hx : Lm xt) (hy : Lm yt) (hl : xt.length = yt.length) {k : Nat} (hk : k < xt.length) (he : ∀ j, k < j → xt[j]?.getD 0 = yt[j]?.getD 0) (h : xt[k]?.getD 0 ≠ yt[k]?.getD 0) :
    cmpN (xt[k]?.getD 0) (yt[k]?.getD 0) = cmpN (val xt) (val yt) := by
  rcases Nat.lt_or_gt_of_ne h with h1 | h1
  · rw [cmpN_lt h1, cmpN_lt (val_lt_at hx hl hk he h1)]
  · rw [cmpN_gt h1, cmpN_gt (val_lt_at hy hl.symm (by omega) (fun j hj => (he j hj).symm) h1)]
theorem cmp_stop {xt yt : List Nat} (hx : Lm xt) (hy : Lm yt) (hl : xt.length = yt.length) {ini : List (Plc xt.length fun _ _ => True)} {last : Plc xt.length fun _ _ => True} {k : Nat} (hk : k ≤ xt.length) (hp : (ini ++ [last]).map plc = downs xt.length k)
    (he : EqAt xt yt (ini.map plc)) (h : xt[plc last]?.getD 0 ≠ yt[plc last]?.getD 0) : cmpN (xt[plc last]?.getD 0) (yt[plc last]?.getD 0) = cmpN (val xt) (val yt) := by
  obtain ⟨m, rfl⟩ : ∃ m, k = m + 1 := by
    cases k with
    | zero => simp [downs] at hp
    | succ m => exact ⟨m, rfl⟩
  rw [downs_succ, List.map_append] at hp
  obtain ⟨e1, e2⟩ := List.append_inj' hp rfl
  have e3 : plc last = xt.length - 1 - m := by simpa using e2
  refine cmp_at hx hy hl (by omega) (fun j hj => ?_) h
  rcases Nat.lt_or_ge j xt.length with h1 | h1
  · exact he j (by rw [e1]; exact mem_downs.2 ⟨xt.length - 1 - j, by omega, by omega⟩)
  · rw [List.getElem?_eq_none h1, List.getElem?_eq_none (by omega)]

/-- what stands between two rounds -/
def CmI (w : World) (A B : Option Addr) (ca cb : Nat) (xt yt : List Nat) (pre : List (Plc xt.length fun _ _ => True)) (W : World) : Prop :=
  EqAt xt yt (pre.map plc) ∧ W.cell? ⟨w.heap.size, 0, none⟩ = some (.slice A xt.length ca) ∧ W.cell? ⟨w.heap.size + 1, 0, none⟩ = some (.slice B yt.length cb) ∧
    W.cell? ⟨w.heap.size + 1 + 1, 0, none⟩ = some (.int .i64 0) ∧ W.frozen? ⟨w.heap.size + 1 + 1, 0, none⟩ = false
def CmX (w : World) (xt yt : List Nat) (c : Code) (pre : List (Plc xt.length fun _ _ => True)) (W : World) : Prop :=
  c = .ret ∧ ∃ ini last, pre = ini ++ [last] ∧ EqAt xt yt (ini.map plc) ∧ xt[plc last]?.getD 0 ≠ yt[plc last]?.getD 0 ∧ W.cell? ⟨w.heap.size + 1 + 1, 0, none⟩ = some (.int .i64 (cmpN (xt[plc last]?.getD 0) (yt[plc last]?.getD 0)))
theorem CmI.own (w : World) (A B : Option Addr) (ca cb : Nat) (xt yt : List Nat) : Own (CmI w A B ca cb xt yt) := fun _ _ _ _ hs hg hr =>
  ⟨hs.1, cell_kept hs.2.1 hg hr, cell_kept hs.2.2.1 hg hr, cell_kept hs.2.2.2.1 hg hr, (frozen_kept hs.2.2.2.1 hg hr).trans hs.2.2.2.2⟩
theorem CmX.own (w : World) (xt yt : List Nat) (c : Code) : Own (CmX w xt yt c) := fun _ _ _ _ hs hg hr => by
  obtain ⟨e, ini, last, e1, e2, e3, e4⟩ := hs
  exact ⟨e, ini, last, e1, e2, e3, cell_kept e4 hg hr⟩

set_option maxRecDepth 100000 in
set_option maxHeartbeats 1000000 in
theorem cmp_any (A B : Option Addr) (ca cb : Nat) (xs ys : List Nat) (w : World) (ha : Rd w A xs) (hb : Rd w B ys) (hx : Lm xs) (hy : Lm ys) (hca : xs.length ≤ ca) (hcb : ys.length ≤ cb) (hcam : ca ≤ 9223372036854775807) (hcbm : cb ≤ 9223372036854775807) (hxl : xs.length ≤ 1000000) :
    Calls Tryz.prog 119 #[.slice A xs.length ca, .slice B ys.length cb] w fun e w' => e = .returned (.int .i64 (cmpN (val xs) (val ys))) ∧ Below w.heap.size w w' := by
  have hta := ha.trim
  have htb := hb.trim
  have hcx := can_trim hx
  have hcy := can_trim hy
  have hvx := val_trim xs
  have hvy := val_trim ys
  have hlx := trim_length_le xs
  have hly := trim_length_le ys
  have hd1 : ∀ W, Rd W A xs → Calls Tryz.prog 172 #[.slice A xs.length ca] W fun e w' => e = .returned (.slice A (trim xs).length ca) ∧ W = w' := fun W h => trimmed_any _ _ _ _ h hca (by unfold maxLen; omega)
  have hd2 : ∀ W, Rd W B ys → Calls Tryz.prog 172 #[.slice B ys.length cb] W fun e w' => e = .returned (.slice B (trim ys).length cb) ∧ W = w' := fun W h => trimmed_any _ _ _ _ h hcb (by unfold maxLen; omega)
  have ha3 := (((ha.alloc (.cells #[.slice A xs.length ca] 34)).alloc (.cells #[.slice B ys.length cb] 34)).alloc (.cells #[.int .i64 0] 3)).drew
  have hb3 := (((hb.alloc (.cells #[.slice A xs.length ca] 34)).alloc (.cells #[.slice B ys.length cb] 34)).alloc (.cells #[.int .i64 0] 3)).drew
  rw [← hvx, ← hvy]
  generalize trim xs = xt at *
  generalize trim ys = yt at *
  have H1 := Lib.hid hd1
  have H2 := Lib.hid hd2
  clear hd1 hd2 hvx hvy ha hb
  by_cases hne : xt.length = yt.length
  · have HNE := Lib.hid hne
    have hbn : ((xt.length : Int) != (yt.length : Int)) = false := by simp [hne]
    clear hne
    refine (callsIn_wide (n := 3)).1 ?_
    refine callsIn_of_wp_marks Tryz.func119 rfl trivial ?_ rfl
    simp only [Tryz.ntmps119, List.size_toArray, List.length_cons, List.length_nil, Nat.reduceAdd, Nat.reduceSub, Array.replicate_succ, Array.replicate_zero, List.push_toArray, List.append_toArray, List.nil_append, List.cons_append]
    gi_wp2_with fail
    refine Code.wpIn_mono (Q := fun e a' w' => e = .normal ∧ a' = { tmps := #[.slice A xs.length ca, .slice B ys.length cb, .pointer (some ⟨w.heap.size, 0, none⟩), .pointer (some ⟨w.heap.size + 1, 0, none⟩), .pointer (some ⟨w.heap.size + 1 + 1, 0, none⟩), undef, .slice A xs.length ca, .slice A xt.length ca, .slice B ys.length cb, .slice B yt.length cb, undef, undef, undef, undef, undef, undef, undef, undef, undef, undef, undef, undef, undef, undef, undef, undef, undef, undef, undef, undef, undef, undef, undef, undef, undef, undef, undef, undef, undef, undef, undef, undef], defers := [] } ∧
      w' = (((w.alloc (.cells #[.slice A xt.length ca] 34)).alloc (.cells #[.slice B yt.length cb] 34)).alloc (.cells #[.int .i64 0] 3)).drew) ?cont ?reg
    case reg =>
      gi_region_with (first | (gi_at_call_has 172 (Value.slice A xs.length ca); refine (callsIn_wide.2 (H1.out _ ha3)).mono ?_; rintro e w1 ⟨rfl, rfl⟩) | (gi_at_call_has 172 (Value.slice B ys.length cb); refine (callsIn_wide.2 (H2.out _ hb3)).mono ?_; rintro e w1 ⟨rfl, rfl⟩))
      all_goals exact ⟨rfl, rfl, rfl⟩
    case cont =>
      rintro _ _ _ ⟨rfl, rfl, rfl⟩
      gi_wp2_with (gi_at_call 191; refine (backward_in _ _ _ _ _).mono ?_; rintro e w' ⟨rfl, rfl⟩)
      generalize hWL : World.drew _ = WL
      have q0 := (((Boxed.new w 34 (.slice A xt.length ca)).alloc (.cells #[.slice B yt.length cb] 34)).alloc (.cells #[.int .i64 0] 3)).alloc (.cells #[.slice A xt.length ca] 34)
      have q1 := ((Boxed.new (w.alloc (.cells #[.slice A xt.length ca] 34)) 34 (.slice B yt.length cb)).alloc (.cells #[.int .i64 0] 3)).alloc (.cells #[.slice A xt.length ca] 34)
      have q2 := (Boxed.new ((w.alloc (.cells #[.slice A xt.length ca] 34)).alloc (.cells #[.slice B yt.length cb] 34)) 3 (.int .i64 0)).alloc (.cells #[.slice A xt.length ca] 34)
      have q3 := Boxed.new (((w.alloc (.cells #[.slice A xt.length ca] 34)).alloc (.cells #[.slice B yt.length cb] 34)).alloc (.cells #[.int .i64 0] 3)) 34 (.slice A xt.length ca)
      simp only [World.size_alloc] at q1 q2 q3
      have f0 : WL.heap.size = w.heap.size + 4 := by rw [← hWL]; simp
      have f1 : Below w.heap.size w WL := by
        rw [← hWL]; exact (((((Below.refl _ w).alloc (Nat.le_refl _) _).alloc (by simp) _).alloc (by simp; omega) _).alloc (by simp; omega) _).drew
      have f2 : CmI w A B ca cb xt yt [] WL := by
        rw [← hWL]; exact ⟨(fun j h => by cases h), q0.cell, q1.cell, q2.cell, q2.frozen⟩
      have f3 : WL.cell? ⟨w.heap.size + 1 + 1 + 1, 0, none⟩ = some (.slice A xt.length ca) := by rw [← hWL]; exact q3.cell
      clear q0 q1 q2 q3 hWL
      have f4 : BwOk (w.heap.size + 1 + 1 + 1) A xt.length ca (fun _ _ => True) WL := ⟨f3, fun h => by
        obtain ⟨b, off, e, _, hc⟩ := (hta.below f1) h
        exact ⟨b, off, e, fun k hk => ⟨_, trivial, hc k hk⟩⟩⟩
      refine wpIn_rangeFunc_ownG rfl (by decide) (gf := 278) (lb := #[.pointer (some ⟨w.heap.size + 1 + 1 + 1, 0, none⟩)]) rfl trivial (enters_of Tryz.func278 (by kernel_rfl) rfl)
        (backward_stops _ (by decide) (w.heap.size + 1 + 1 + 1) A xt.length ca (by omega) (fun _ _ => True) (fun W W' => BwOk (w.heap.size + 1 + 1 + 1) A xt.length ca (fun _ _ => True) W → BwOk (w.heap.size + 1 + 1 + 1) A xt.length ca (fun _ _ => True) W') (fun _ _ h => h) WL (by omega) (fun h ad e => Nat.lt_of_lt_of_le (addr_lt hta h ad e) (by omega)) f4)
        (fun h k x => k (h x)) (fun W l o o' _ h hc _ hk => hk.kept (grownBy_putObj' W l o') (fun r e => by cases e; exact ⟨o, h, hc⟩)) (Below.refl _ _) (fun _ => rfl)
        (fun pre W => CmI w A B ca cb xt yt pre W ∧ Below w.heap.size w W)
        (fun c pre W => CmX w xt yt c pre W ∧ Below w.heap.size w W)
        (OwnFrom.and ((CmI.own w A B ca cb xt yt).from _) (ownFrom_below (Nat.le_refl _) (by omega)))
        (fun c => OwnFrom.and ((CmX.own w xt yt c).from _) (ownFrom_below (Nat.le_refl _) (by omega)))
        ⟨f2, f1⟩
        (fun x => { tmps := #[.slice A xs.length ca, .slice B ys.length cb, .pointer (some ⟨w.heap.size, 0, none⟩), .pointer (some ⟨w.heap.size + 1, 0, none⟩), .pointer (some ⟨w.heap.size + 1 + 1, 0, none⟩), .int .i64 (x.1.1 : Int), .slice A xs.length ca, .slice A xt.length ca, .slice B ys.length cb, .slice B yt.length cb, .slice A xt.length ca, .int .i64 (xt.length : Int), .slice B yt.length cb, .int .i64 (yt.length : Int), .bool false, undef, undef, undef, undef, undef, .slice A xt.length ca, .func (.func 278) #[] #[.pointer (some ⟨w.heap.size + 1 + 1 + 1, 0, none⟩)], .int .i64 (x.1.1 : Int), .int .u32 (x.1.2 : Int), undef, undef, undef, undef, undef, undef, undef, undef, undef, undef, undef, undef, undef, undef, undef, undef, undef, undef], defers := [] }) ?assign ?body ?done ?stop
      case assign =>
        intro l x W K hK
        gi_wp2
        exact hK
      case body =>
        rintro l pre x W ⟨⟨he, c0, c1, c2, c3⟩, hB⟩ _
        have hr1 := hta.below hB
        have hr2 := htb.below hB
        have hx1 : x.1.1 < xt.length := x.2.1
        have hx2 : x.1.1 < yt.length := by have := HNE.out; omega
        obtain ⟨b1, o1, rfl, _, d1⟩ := hr1.at_ hx1
        obtain ⟨b2, o2, rfl, _, d2⟩ := hr2.at_ hx2
        have hpl : plc x = x.1.1 := rfl
        have hexit : xt[plc x]?.getD 0 ≠ yt[plc x]?.getD 0 → ∀ W', W'.cell? ⟨w.heap.size + 1 + 1, 0, none⟩ = some (.int .i64 (cmpN (xt[x.1.1]?.getD 0) (yt[x.1.1]?.getD 0))) → CmX w xt yt .ret (pre ++ [x]) W' := fun h W' hc => ⟨rfl, pre, x, rfl, he, h, hc⟩
        have hgo : xt[plc x]?.getD 0 = yt[plc x]?.getD 0 → EqAt xt yt ((pre ++ [x]).map plc) := fun h j hj => by
          rw [List.map_append, List.mem_append] at hj
          rcases hj with hj | hj
          · exact he j hj
          · rw [List.map_singleton, List.mem_singleton] at hj; rw [hj]; exact h
        rw [hpl] at hexit hgo
        clear hpl
        generalize x.1.1 = ix at *
        generalize hxe : xt[ix]?.getD 0 = xv at *
        generalize hye : yt[ix]?.getD 0 = yv at *
        clear hxe hye
        have HX := Lib.hid hexit
        have HG := Lib.hid hgo
        have HE := Lib.hid he
        clear hexit hgo he
        by_cases hxy : xv = yv
        · have hnb : ((xv : Int) != (yv : Int)) = false := by simp [hxy]
          have hg := HG.out hxy
          have HGG := Lib.hid hg
          clear hg hxy
          gi_wp2_with fail
          refine wpIn_region_reads (by kernel_rfl) (by kernel_rfl) (by kernel_rfl) ?_
          repeat (gi_big_quiet_step (fail))
          refine wpQuietIn_nil ?_
          intro _ hw'
          obtain ⟨nq, hw''⟩ := hw'
          subst hw''
          gi_wp2
          exact ⟨⟨Nat.le_refl _, fun k o _ hk _ => hk⟩, fun h => h, ⟨HGG.out, c0, c1, c2, c3⟩, below_drewN hB _⟩
        · have hnb : ((xv : Int) != (yv : Int)) = true := by simp; omega
          have hg := HX.out hxy
          have HGG := Lib.hid hg
          clear hg hxy
          gi_wp2_with fail
          refine wpIn_region_reads (by kernel_rfl) (by kernel_rfl) (by kernel_rfl) ?_
          repeat (gi_big_quiet_step (fail))
          refine wpQuietIn_nil ?_
          intro _ hw'
          obtain ⟨nq, hw''⟩ := hw'
          subst hw''
          gi_wp2_with fail
          generalize hW2 : W.drewN nq = W2
          have c0' : W2.cell? ⟨w.heap.size, 0, none⟩ = some (.slice (some ⟨b1, o1, none⟩) xt.length ca) := by rw [← hW2]; exact c0
          have c1' : W2.cell? ⟨w.heap.size + 1, 0, none⟩ = some (.slice (some ⟨b2, o2, none⟩) yt.length cb) := by rw [← hW2]; exact c1
          have c2' : W2.cell? ⟨w.heap.size + 1 + 1, 0, none⟩ = some (.int .i64 0) := by rw [← hW2]; exact c2
          have c3' : W2.frozen? ⟨w.heap.size + 1 + 1, 0, none⟩ = false := by rw [← hW2]; exact c3
          have d1' : W2.cell? ⟨b1, o1 + ix, none⟩ = some (.int .u32 (xv : Int)) := by rw [← hW2]; exact d1
          have d2' : W2.cell? ⟨b2, o2 + ix, none⟩ = some (.int .u32 (yv : Int)) := by rw [← hW2]; exact d2
          have HW2 := Lib.hid hW2
          clear hW2 c0 c1 c2 c3 d1 d2
          refine wpIn_region_reads_tail 9 (by kernel_rfl) (by kernel_rfl) (by kernel_rfl) ?_
          simp only [List.take_succ_cons, List.take_zero, List.drop_succ_cons, List.drop_zero]
          repeat (gi_big_quiet_step ((refine quiet_round l (compare_u32 xv yv _))))
          refine wpQuietIn_nil ?_
          intro _ hw'
          obtain ⟨nq2, hw''⟩ := hw'
          subst hw''
          gi_wp2
          have hk1 : KeepsFrom WL.heap.size W W2 := by rw [← HW2.out]; exact ⟨Nat.le_refl _, fun k o _ hk _ => hk⟩
          have hb1 : Below w.heap.size w W2 := by rw [← HW2.out]; exact below_drewN hB _
          have hs1 : (W2.setCell ⟨w.heap.size + 1 + 1, 0, none⟩ (.int .i64 (cmpN xv yv))).cell? ⟨w.heap.size + 1 + 1, 0, none⟩ = some (.int .i64 (cmpN xv yv)) := World.cell?_setCell_same' _ _ _ (by rw [c2']; rfl)
          have hk2 := hk1.trans ((KeepsOthers.setCell W2 ⟨w.heap.size + 1 + 1, 0, none⟩ (.int .i64 (cmpN xv yv))).from _)
          exact ⟨⟨hk2.size, hk2.same⟩, HGG.out _ hs1, below_drewN (hb1.setCell (p := ⟨w.heap.size + 1 + 1, 0, none⟩) (by simp; omega) _) _⟩
      case done =>
        rintro D ys W hD hds ⟨⟨he, c0, c1, c2, c3⟩, hB⟩ hK
        have HDS := Lib.hid hds
        have HE := Lib.hid he
        clear hds he
        gi_wp2
        have hK' := (KeepsOthers.setCell W ⟨w.heap.size + 1 + 1, 0, none⟩ (.int .i64 0)).same D _ hK rfl
        refine ⟨by simp, .inl ⟨_, _, rfl, run_takeDeferred hK', ?_⟩⟩
        have hc5 := cell_kept (World.cell?_setCell_same' W ⟨w.heap.size + 1 + 1, 0, none⟩ (.int .i64 0) (by rw [c2]; rfl)) (grownBy_putObj' _ D (.deferred none)) (fun r e => by cases e; exact ⟨_, hK', rfl⟩)
        have hfin : xt = yt := eq_all HNE.out (by have h := HE.out; rw [HDS.out] at h; exact h)
        refine ⟨.int .i64 0, by simp [results, Tryz.f119, go_sem, hc5], by rw [cmpN_eq (by rw [hfin])], (hB.setCell (p := ⟨w.heap.size + 1 + 1, 0, none⟩) (by simp; omega) _).trans (belowK_b (w := w) (Nat.le_refl _) _ D _ _ (by omega) hK' rfl rfl)⟩
      case stop =>
        rintro D c pre W hD ⟨k, hk, hp⟩ ⟨⟨rfl, ini, last, e1, e2, e3, hc⟩, hB⟩ hK
        have HP := Lib.hid hp
        have HE1 := Lib.hid e1
        clear hp e1
        gi_wp2
        refine ⟨by simp, .inl ⟨_, _, rfl, run_takeDeferred hK, ?_⟩⟩
        have hc5 := cell_kept hc (grownBy_putObj' _ D (.deferred none)) (fun r e => by cases e; exact ⟨_, hK, rfl⟩)
        have hp := HP.out
        rw [HE1.out] at hp
        have hfin := cmp_stop hcx.1 hcy.1 HNE.out hk hp e2 e3
        rw [hfin] at hc5
        refine ⟨.int .i64 (cmpN (val xt) (val yt)), by simp [results, Tryz.f119, go_sem, hc5], rfl, hB.trans (belowK_b (w := w) (Nat.le_refl _) W D _ _ (by omega) hK rfl rfl)⟩
  · have hbn : ((xt.length : Int) != (yt.length : Int)) = true := by simp; omega
    have hfin : cmpN xt.length yt.length = cmpN (val xt) (val yt) := by
      rcases Nat.lt_or_gt_of_ne hne with h | h
      · rw [cmpN_lt h, cmpN_lt (can_len_lt hcx hcy h)]
      · rw [cmpN_gt h, cmpN_gt (can_len_lt hcy hcx h)]
    rw [← hfin]
    clear hne hfin
    refine (callsIn_wide (n := 3)).1 ?_
    refine callsIn_of_wp_marks Tryz.func119 rfl trivial ?_ rfl
    simp only [Tryz.ntmps119, List.size_toArray, List.length_cons, List.length_nil, Nat.reduceAdd, Nat.reduceSub, Array.replicate_succ, Array.replicate_zero, List.push_toArray, List.append_toArray, List.nil_append, List.cons_append]
    gi_wp2_with fail
    refine Code.wpIn_mono (Q := fun e a' w' => e = .normal ∧ a' = { tmps := #[.slice A xs.length ca, .slice B ys.length cb, .pointer (some ⟨w.heap.size, 0, none⟩), .pointer (some ⟨w.heap.size + 1, 0, none⟩), .pointer (some ⟨w.heap.size + 1 + 1, 0, none⟩), undef, .slice A xs.length ca, .slice A xt.length ca, .slice B ys.length cb, .slice B yt.length cb, undef, undef, undef, undef, undef, undef, undef, undef, undef, undef, undef, undef, undef, undef, undef, undef, undef, undef, undef, undef, undef, undef, undef, undef, undef, undef, undef, undef, undef, undef, undef, undef], defers := [] } ∧
      w' = (((w.alloc (.cells #[.slice A xt.length ca] 34)).alloc (.cells #[.slice B yt.length cb] 34)).alloc (.cells #[.int .i64 0] 3)).drew) ?cont ?reg
    case reg =>
      gi_region_with (first | (gi_at_call_has 172 (Value.slice A xs.length ca); refine (callsIn_wide.2 (H1.out _ ha3)).mono ?_; rintro e w1 ⟨rfl, rfl⟩) | (gi_at_call_has 172 (Value.slice B ys.length cb); refine (callsIn_wide.2 (H2.out _ hb3)).mono ?_; rintro e w1 ⟨rfl, rfl⟩))
      all_goals exact ⟨rfl, rfl, rfl⟩
    case cont =>
      rintro _ _ _ ⟨rfl, rfl, rfl⟩
      gi_wp2_with (gi_at_call 190; refine (callsIn_wide.2 (compare_int xt.length yt.length _)).mono ?_; rintro e w' ⟨rfl, rfl⟩)
      have q2 := Boxed.new ((w.alloc (.cells #[.slice A xt.length ca] 34)).alloc (.cells #[.slice B yt.length cb] 34)) 3 (.int .i64 (cmpN xt.length yt.length))
      simp only [World.size_alloc] at q2
      have hc5 := q2.cell
      refine ⟨.int .i64 (cmpN xt.length yt.length), ?_, rfl, ((((Below.refl _ w).alloc (Nat.le_refl _) _).alloc (by simp) _).alloc (by simp; omega) _).drew⟩
      simp [results, Tryz.f119, go_sem, hc5]

end LM
end Go.Proofs.YtcfhiihhfcnfbaaGreatDoor

namespace Go.Proofs.YtcfhiihhfcnfbaaGreatDoor
open Go.RowKit
namespace LM

/-- too great for 64 limbs -/
def BIG (n : Nat) : Prop := 4294967296 ^ 64 ≤ n
theorem big_iff {xs : List Nat} (h : Can xs) : 64 < xs.length ↔ BIG (val xs) := can_len h 64
theorem big_trim {xs : List Nat} (h : Lm xs) : 64 < (trim xs).length ↔ BIG (val xs) := by rw [big_iff (can_trim h), val_trim]
theorem BIG.mono {a b : Nat} (h : BIG a) (hab : a ≤ b) : BIG b := Nat.le_trans h hab

/-- a slice that reads as this number, without leading zeros -/
def NumV (w : World) (v : Value) (n : Nat) : Prop := ∃ A c r, v = .slice A (List.length r) c ∧ r.length ≤ c ∧ c ≤ 1000000 ∧ Rd w A r ∧ Can r ∧ val r = n
theorem NumV.keep {w w' : World} {v : Value} {n : Nat} (h : NumV w v n) (hb : Below w.heap.size w w') : NumV w' v n := by
  obtain ⟨A, c, r, e, h1, h2, h3, h4, h5⟩ := h
  exact ⟨A, c, r, e, h1, h2, h3.below hb, h4, h5⟩
/-- what a reckoning answers whose outcome may be too great -/
def Ans (w : World) (v : Value) (er : Int) (bad : Prop) (n : Nat) : Prop := (bad ∧ v = .slice none 0 0 ∧ er = 11) ∨ (¬ bad ∧ er = 0 ∧ NumV w v n)
def AnsE (w : World) (bad : Prop) (n : Nat) (e : Ending) (w' : World) : Prop := ∃ v er, e = .returned (.tuple #[v, .int .i64 er]) ∧ Ans w' v er bad n ∧ Below w.heap.size w w'

/-- the last step of such a reckoning, in a block of the call's own -/
theorem bounded_ans {w1 : World} {g N : Nat} {us : List Nat} {bad : Prop} (hB : Blk w1 g (U us)) (hul : us.length = N) (huL : Lm us) (hN : N ≤ 4000) (hbad : bad ↔ BIG (val us)) :
    Calls Tryz.prog 237 #[.slice (some ⟨g, 0, none⟩) N N] w1 fun e w' => (∃ v er, e = .returned (.tuple #[v, .int .i64 er]) ∧ Ans w' v er bad (val us)) ∧ w1 = w' := by
  subst hul
  have hr : Rd w1 (some ⟨g, 0, none⟩) us := by
    have h := Rd.of_blk (w := w1) (g := g) (pre := []) (xs := us) (post := []) (by simpa using hB)
    simpa using h
  by_cases hl : 64 < (trim us).length
  · exact (bounded_big _ _ us w1 hr (Nat.le_refl _) (by unfold maxLen; omega) hl).mono fun e w' ⟨he, hw⟩ => ⟨⟨_, _, he, .inl ⟨hbad.2 ((big_trim huL).1 hl), rfl, rfl⟩⟩, hw⟩
  · exact (bounded_ok _ _ us w1 hr (Nat.le_refl _) (by unfold maxLen; omega) (by omega)).mono fun e w' ⟨he, hw⟩ => by
      subst hw
      exact ⟨⟨_, _, he, .inr ⟨fun h => hl ((big_trim huL).2 (hbad.1 h)), rfl, _, _, trim us, rfl, by have := trim_length_le us; omega, by omega, hr.trim, can_trim huL, val_trim us⟩⟩, rfl⟩

theorem carry_zero {xt yt us : List Nat} {c N : Nat} (hx : Lm xt) (hy : Lm yt) (hN : N = max xt.length yt.length + 1) (hc : c ≤ 1) (h : val us + 4294967296 ^ N * c = val xt + val yt) : c = 0 ∧ val us = val xt + val yt := by
  have e1 := val_len_lt hx (n := max xt.length yt.length) (by omega)
  have e2 := val_len_lt hy (n := max xt.length yt.length) (by omega)
  rw [hN, Nat.pow_succ] at h
  generalize 4294967296 ^ (max xt.length yt.length) = P at *
  generalize val us = u at *
  generalize val xt = x at *
  generalize val yt = y at *
  have h3 : c = 0 ∨ c = 1 := by omega
  rcases h3 with rfl | rfl
  · exact ⟨rfl, by rw [Nat.mul_zero, Nat.add_zero] at h; exact h⟩
  · rw [Nat.mul_one] at h; omega

set_option maxRecDepth 100000 in
set_option maxHeartbeats 1000000 in
theorem add_any (A B : Option Addr) (ca cb : Nat) (xs ys : List Nat) (w : World) (ha : Rd w A xs) (hb : Rd w B ys) (hx : Lm xs) (hy : Lm ys) (hca : xs.length ≤ ca) (hcb : ys.length ≤ cb) (hcam : ca ≤ 9223372036854775807) (hcbm : cb ≤ 9223372036854775807) :
    Calls Tryz.prog 186 #[.slice A xs.length ca, .slice B ys.length cb] w fun e w' => AnsE w (BIG (val xs) ∨ BIG (val ys) ∨ BIG (val xs + val ys)) (val xs + val ys) e w' := by
  have H1 := Lib.hid (trimmed_any A ca xs w ha hca (by unfold maxLen; omega))
  have H2 := Lib.hid (trimmed_any B cb ys w hb hcb (by unfold maxLen; omega))
  have hta := ha.trim
  have htb := hb.trim
  have hcx := can_trim hx
  have hcy := can_trim hy
  rw [← val_trim xs, ← val_trim ys]
  have hlx := trim_length_le xs
  have hly := trim_length_le ys
  generalize trim xs = xt at *
  generalize trim ys = yt at *
  have I1 : ∀ n, n ≤ 9223372036854775807 → ∀ A c W, Calls Tryz.prog 235 #[.slice A n c] W fun e w' => e = .returned (.bool (decide (64 < n))) ∧ W = w' := fun n hn A c W => isBig_any A n c W (by unfold maxLen; omega)
  have HI := Lib.hid I1
  clear I1 ha hb
  by_cases b1 : 64 < xt.length
  · have hd : decide (64 < xt.length) = true := decide_eq_true b1
    go_enter Tryz.func186, Tryz.ntmps186
    go_wp2_with fail
    refine H1.out.mono ?_; rintro e w' ⟨rfl, rfl⟩
    go_wp2_with fail
    refine H2.out.mono ?_; rintro e w' ⟨rfl, rfl⟩
    go_wp2_with fail
    refine (HI.out xt.length (by omega) _ _ _).mono ?_; rintro e w' ⟨rfl, rfl⟩
    go_wp2
    go_ret2
    exact ⟨_, _, rfl, .inl ⟨.inl ((big_iff hcx).1 b1), rfl, rfl⟩, Below.refl _ _⟩
  · have hd : decide (64 < xt.length) = false := decide_eq_false b1
    by_cases b2 : 64 < yt.length
    · have hd2 : decide (64 < yt.length) = true := decide_eq_true b2
      go_enter Tryz.func186, Tryz.ntmps186
      go_wp2_with fail
      refine H1.out.mono ?_; rintro e w' ⟨rfl, rfl⟩
      go_wp2_with fail
      refine H2.out.mono ?_; rintro e w' ⟨rfl, rfl⟩
      go_wp2_with fail
      refine (HI.out xt.length (by omega) _ _ _).mono ?_; rintro e w' ⟨rfl, rfl⟩
      go_wp2_with fail
      refine (HI.out yt.length (by omega) _ _ _).mono ?_; rintro e w' ⟨rfl, rfl⟩
      go_wp2
      go_ret2
      exact ⟨_, _, rfl, .inl ⟨.inr (.inl ((big_iff hcy).1 b2)), rfl, rfl⟩, Below.refl _ _⟩
    · have hd2 : decide (64 < yt.length) = false := decide_eq_false b2
      have nb1 : ¬ BIG (val xt) := fun h => b1 ((big_iff hcx).2 h)
      have nb2 : ¬ BIG (val yt) := fun h => b2 ((big_iff hcy).2 h)
      obtain ⟨N, hN1, hN2⟩ : ∃ N : Nat, N = max xt.length yt.length + 1 ∧ N ≤ 65 := ⟨_, rfl, by omega⟩
      have HN := Lib.hid hN1
      clear hN1
      go_enter Tryz.func186, Tryz.ntmps186
      go_wp2_with fail
      refine H1.out.mono ?_; rintro e w' ⟨rfl, rfl⟩
      go_wp2_with fail
      refine H2.out.mono ?_; rintro e w' ⟨rfl, rfl⟩
      go_wp2_with fail
      refine (HI.out xt.length (by omega) _ _ _).mono ?_; rintro e w' ⟨rfl, rfl⟩
      go_wp2_with fail
      refine (HI.out yt.length (by omega) _ _ _).mono ?_; rintro e w' ⟨rfl, rfl⟩
      go_wp2_with fail
      all_goals
        first
        | rw [show ((xt.length : Int) + 1) = (N : Int) from by have := HN.out; omega]
        | rw [show ((yt.length : Int) + 1) = (N : Int) from by have := HN.out; omega]
        | rw [show (max (xt.length : Int) (yt.length : Int) + 1) = (N : Int) from by have := HN.out; omega]
        refine (widened_any A ca N xt _ hta (by have := HN.out; omega) (by omega)).mono ?_; rintro e w1 ⟨rfl, hB1, hb1⟩
        obtain ⟨zs, hzs⟩ : ∃ zs, xt ++ List.replicate (N - xt.length) 0 = zs := ⟨_, rfl⟩
        have hzl : zs.length = N := by rw [← hzs]; have := HN.out; simp; omega
        have hzL : Lm zs := by rw [← hzs]; exact hcx.1.append (Lm.replicate _)
        have hzv : val zs = val xt := by rw [← hzs, val_append, val_replicate]; simp
        rw [hzs] at hB1
        have h55 := addTo_any w.heap.size N [] zs [] B cb yt w1 (by simpa using hB1) (htb.below hb1) (fun h0 ad e => by have := addr_lt htb h0 ad e; omega) (by have := HN.out; omega) hzL hcy.1 (by omega)
        rw [hzl] at h55
        simp only [List.length_nil, List.nil_append, List.append_nil] at h55
        have H55 := Lib.hid h55
        have HZV := Lib.hid hzv
        clear h55 hzs hzl hzv hB1
        go_wp2_with fail
        refine H55.out.mono ?_; rintro e w2 ⟨us, c, rfl, hc, hul, huL, huv, hB2, hG2⟩
        have HUV := Lib.hid huv
        have HUL := Lib.hid hul
        have hb2 : Below w.heap.size w w2 := below_of_only hb1 hG2 (Nat.le_refl _) hb1.size
        clear huv hul H55
        go_wp2_with fail
        have hsum : c = 0 ∧ val us = val xt + val yt := by
          have h := HUV.out
          rw [HZV.out] at h
          exact carry_zero hcx.1 hcy.1 HN.out hc h
        obtain ⟨rfl, hsum⟩ := hsum
        refine (bounded_ans hB2 HUL.out huL (by omega) (bad := BIG (val xt) ∨ BIG (val yt) ∨ BIG (val xt + val yt)) ?_).mono ?_
        · rw [hsum]; exact ⟨fun h => h.elim (fun h => h.mono (by omega)) fun h => h.elim (fun h => h.mono (by omega)) id, fun h => .inr (.inr h)⟩
        rintro e w3 ⟨⟨v, er, rfl, hans⟩, rfl⟩
        have HANS := Lib.hid hans
        have HSUM := Lib.hid hsum
        clear hans hsum
        go_wp2
        go_ret2
        exact ⟨_, _, rfl, by have h := HANS.out; rw [HSUM.out] at h; exact h, hb2⟩

end LM
end Go.Proofs.YtcfhiihhfcnfbaaGreatDoor

namespace Go.Proofs.YtcfhiihhfcnfbaaGreatDoor
open Go.RowKit
namespace LM

/-- where the loop stands when k limbs of the one are done -/
def MuRel (w : World) (g : Nat) (xt yt : List Nat) (i : Value) (wr : World) : Prop :=
  ∃ (k : Nat) (zs : List Nat), k ≤ yt.length ∧ i = .int .i64 (k : Int) ∧ zs.length = k + xt.length ∧ Lm zs ∧ val zs = val xt * val (yt.take k) ∧
    Blk wr g (U (zs ++ List.replicate (yt.length - k) 0)) ∧ w.grownBy wr (some g) ∧ Below w.heap.size w wr

theorem mul_step {xt yt zs zs' : List Nat} {k c : Nat} (hk : k ≤ zs.length) (hl : zs'.length = xt.length) (h : val zs = val xt * val (yt.take k))
    (h2 : val zs' + 4294967296 ^ xt.length * c = val (zs.drop k) + val xt * yt[k]?.getD 0) :
    val (zs.take k ++ (zs' ++ [c])) = val xt * val (yt.take (k + 1)) := by
  have e := val_split zs k
  rw [Nat.min_eq_left hk] at e
  rw [val_append, val_snoc, val_take_succ, List.length_take, Nat.min_eq_left hk, hl]
  generalize yt[k]?.getD 0 = y at *
  generalize 4294967296 ^ xt.length = Q at *
  generalize 4294967296 ^ k = P at *
  grind

theorem mul_blk {w : World} {g k n m : Nat} {zs zs' : List Nat} (hz : zs.length = k + n) (hz' : zs'.length = n) (hk : k < m) (h : Blk w g (U (zs.take k ++ (zs' ++ (zs.drop k ++ List.replicate (m - k) 0).drop n) ++ []))) :
    Blk w g (U ([] ++ ((zs.take k ++ zs') ++ (List.replicate (m + n) 0).drop (k + n)) ++ [])) := by
  have e : (zs.drop k ++ List.replicate (m - k) (0 : Nat)).drop n = (List.replicate (m + n) 0).drop (k + n) := by
    rw [List.drop_left' (by simp; omega), List.drop_replicate]
    congr 1; omega
  rw [e] at h
  simpa using h
theorem mul_cell {w : World} {g k n m : Nat} {zs zs' : List Nat} (hz : zs.length = k + n) (hz' : zs'.length = n) (hk : k < m) (h : Blk w g (U ([] ++ ((zs.take k ++ zs') ++ (List.replicate (m + n) 0).drop (k + n)) ++ []))) :
    w.cell? ⟨g, k + n, none⟩ = some (.int .u32 0) := by
  have h1 := blk_mid_cell h (by simp; omega) (by simp; omega)
  simpa [List.getElem?_replicate, show k + n < m + n from by omega] using h1
theorem mul_set {w : World} {g k n m : Nat} {zs zs' : List Nat} (hz : zs.length = k + n) (hz' : zs'.length = n) (hk : k < m) (h : Blk w g (U ([] ++ ((zs.take k ++ zs') ++ (List.replicate (m + n) 0).drop (k + n)) ++ []))) (c : Nat) {v : Value} (hv : v = .int .u32 (c : Int)) :
    Blk (w.setCell ⟨g, k + n, none⟩ v) g (U ((zs.take k ++ (zs' ++ [c])) ++ List.replicate (m - (k + 1)) 0)) := by
  have h1 := blk_mid_set h (by simp; omega) (by simp; omega) c hv
  rw [List.drop_replicate, show m + n - (k + n + 1) = m - (k + 1) from by omega] at h1
  simpa using h1

set_option maxRecDepth 100000 in
set_option maxHeartbeats 1000000 in
theorem mul_any (A B : Option Addr) (ca cb : Nat) (xs ys : List Nat) (w : World) (ha : Rd w A xs) (hb : Rd w B ys) (hx : Lm xs) (hy : Lm ys) (hca : xs.length ≤ ca) (hcb : ys.length ≤ cb) (hcam : ca ≤ 9223372036854775807) (hcbm : cb ≤ 9223372036854775807) :
    Calls Tryz.prog 168 #[.slice A xs.length ca, .slice B ys.length cb] w fun e w' => AnsE w (BIG (val xs) ∨ BIG (val ys) ∨ BIG (val xs * val ys)) (val xs * val ys) e w' := by
  have H1 := Lib.hid (trimmed_any A ca xs w ha hca (by unfold maxLen; omega))
  have H2 := Lib.hid (trimmed_any B cb ys w hb hcb (by unfold maxLen; omega))
  have hta := ha.trim
  have htb := hb.trim
  have hcx := can_trim hx
  have hcy := can_trim hy
  rw [← val_trim xs, ← val_trim ys]
  have hlx := trim_length_le xs
  have hly := trim_length_le ys
  generalize trim xs = xt at *
  generalize trim ys = yt at *
  have I1 : ∀ n, n ≤ 9223372036854775807 → ∀ A c W, Calls Tryz.prog 235 #[.slice A n c] W fun e w' => e = .returned (.bool (decide (64 < n))) ∧ W = w' := fun n hn A c W => isBig_any A n c W (by unfold maxLen; omega)
  have HI := Lib.hid I1
  clear I1 ha hb
  by_cases b1 : 64 < xt.length
  · have hd : decide (64 < xt.length) = true := decide_eq_true b1
    go_enter Tryz.func168, Tryz.ntmps168
    go_wp2_with fail
    refine H1.out.mono ?_; rintro e w' ⟨rfl, rfl⟩
    go_wp2_with fail
    refine H2.out.mono ?_; rintro e w' ⟨rfl, rfl⟩
    go_wp2_with fail
    refine (HI.out xt.length (by omega) _ _ _).mono ?_; rintro e w' ⟨rfl, rfl⟩
    go_wp2
    go_ret2
    exact ⟨_, _, rfl, .inl ⟨.inl ((big_iff hcx).1 b1), rfl, rfl⟩, Below.refl _ _⟩
  · have hd : decide (64 < xt.length) = false := decide_eq_false b1
    by_cases b2 : 64 < yt.length
    · have hd2 : decide (64 < yt.length) = true := decide_eq_true b2
      go_enter Tryz.func168, Tryz.ntmps168
      go_wp2_with fail
      refine H1.out.mono ?_; rintro e w' ⟨rfl, rfl⟩
      go_wp2_with fail
      refine H2.out.mono ?_; rintro e w' ⟨rfl, rfl⟩
      go_wp2_with fail
      refine (HI.out xt.length (by omega) _ _ _).mono ?_; rintro e w' ⟨rfl, rfl⟩
      go_wp2_with fail
      refine (HI.out yt.length (by omega) _ _ _).mono ?_; rintro e w' ⟨rfl, rfl⟩
      go_wp2
      go_ret2
      exact ⟨_, _, rfl, .inl ⟨.inr (.inl ((big_iff hcy).1 b2)), rfl, rfl⟩, Below.refl _ _⟩
    · have hd2 : decide (64 < yt.length) = false := decide_eq_false b2
      have nb1 : ¬ BIG (val xt) := fun h => b1 ((big_iff hcx).2 h)
      have nb2 : ¬ BIG (val yt) := fun h => b2 ((big_iff hcy).2 h)
      have hmk := fun W => run_make_row' (P := Tryz.prog) 34 108 (.int .u32 0) 4 Tryz.underlying34 u32_info rfl .i64 .i64 (xt.length + yt.length) (by omega) (by omega) W
      simp only [made_zero] at hmk
      rw [show ((xt.length + yt.length : Nat) : Int) = (xt.length : Int) + (yt.length : Int) from by omega] at hmk
      go_enter Tryz.func168, Tryz.ntmps168
      go_wp2_with fail
      refine H1.out.mono ?_; rintro e w' ⟨rfl, rfl⟩
      go_wp2_with fail
      refine H2.out.mono ?_; rintro e w' ⟨rfl, rfl⟩
      go_wp2_with fail
      refine (HI.out xt.length (by omega) _ _ _).mono ?_; rintro e w' ⟨rfl, rfl⟩
      go_wp2_with fail
      refine (HI.out yt.length (by omega) _ _ _).mono ?_; rintro e w' ⟨rfl, rfl⟩
      go_wp2_with fail
      clear H1 H2 hmk
      go_loopw [26] (fun i wr => MuRel w w.heap.size xt yt i wr) (fun i _ => yt.length - (intOf i).toNat)
      case atStart =>
        refine ⟨0, List.replicate xt.length 0, Nat.zero_le _, rfl, by simp, Lm.replicate _, by simp [val_replicate, val], ?_, only_alloc (only_refl _ _) _, (Below.refl _ _).alloc (Nat.le_refl _) _⟩
        rw [Nat.sub_zero, List.replicate_append_replicate]
        exact Blk.new w _
      case round =>
        obtain ⟨k, zs, hk, rfl, hzl, hzL, hv, hB, hG, hBe⟩ := hrel
        have HV := Lib.hid hv
        clear hv
        by_cases hlt : k < yt.length
        · obtain ⟨b2, o2, rfl, _, hc2⟩ := (htb.below hBe).at_ hlt
          have hyk := hcy.1.get k
          have hw1 : IntKind.i64.wrap ((k : Int) + (xt.length : Int)) = ((k + xt.length : Nat) : Int) := by rw [IntWalk.i64_in _ (by omega)]; omega
          have hB2 : Blk wr w.heap.size (U (zs.take k ++ (zs.drop k ++ List.replicate (yt.length - k) 0) ++ [])) := by
            rw [List.append_nil, ← List.append_assoc, List.take_append_drop]; exact hB
          have hst := fun (zs' : List Nat) (c : Nat) h1 h2 => mul_step (xt := xt) (yt := yt) (zs := zs) (zs' := zs') (k := k) (c := c) (by omega) h1 HV.out h2
          have hc := addTimes_any w.heap.size (xt.length + yt.length - k) (zs.take k) (zs.drop k ++ List.replicate (yt.length - k) 0) [] A ca xt (yt[k]?.getD 0) wr.drew hB2.drew (hta.below hBe).drew (fun h0 ad e => by have := addr_lt hta h0 ad e; omega) (by simp; omega) (hzL.drop k |>.append (Lm.replicate _)) hcx.1 hyk (by simp; omega)
          rw [List.length_take, Nat.min_eq_left (by omega), show (zs.drop k ++ List.replicate (yt.length - k) (0 : Nat)).length = xt.length + yt.length - k from by simp; omega] at hc
          have HC := Lib.hid hc
          have HST := Lib.hid hst
          have HZ := Lib.hid hzl
          generalize hye : yt[k]?.getD 0 = y at *
          clear hc hst hzl hye hB2
          go_wp2_with fail
          go_region_with (go_at_call 236; refine HC.out.mono ?_; rintro e w2 ⟨zs', c, rfl, hc, hzl', hzL', hv', hB3, hG3⟩; have HZ' := Lib.hid hzl'; have HV' := Lib.hid hv'; have hB4 := mul_blk HZ.out hzl' hlt hB3; have hq1 := mul_cell HZ.out hzl' hlt hB4; have hq2 := hB4.frozen (k + xt.length); clear hzl' hv')
          all_goals
            go_wp2
            go_roundw
            case rel =>
              refine ⟨k + 1, zs.take k ++ (zs' ++ [c]), by omega, by go_num, by have := HZ.out; have := HZ'.out; simp; omega, (hzL.take k).append (hzL'.snoc hc), ?_, ?_, ?_, ?_⟩
              · have h := HV'.out
                rw [List.take_left' (by have := HZ.out; simp; omega)] at h
                exact HST.out zs' c HZ'.out h
              · exact mul_set HZ.out HZ'.out hlt hB4 c rfl
              · exact only_setCell (only_trans (only_drew hG) hG3) (.inl rfl) _
              · exact (below_of_only hBe.drew hG3 (Nat.le_refl _) hBe.size).setCell (p := ⟨w.heap.size, _, none⟩) (Nat.le_refl _) _
            case measure => simp [intOf]; omega
        · obtain rfl : k = yt.length := by omega
          have hzv : val zs = val xt * val yt := by
            have h := HV.out
            rwa [List.take_length (l := yt)] at h
          rw [Nat.sub_self, List.replicate_zero, List.append_nil] at hB
          have HZV := Lib.hid hzv
          clear hzv
          go_wp2_with fail
          rw [show xt.length + yt.length = yt.length + xt.length from Nat.add_comm _ _]
          refine (bounded_ans hB hzl hzL (by omega) (bad := BIG (val xt) ∨ BIG (val yt) ∨ BIG (val xt * val yt)) ?_).mono ?_
          · rw [HZV.out]; exact ⟨fun h => h.elim (fun h => absurd h nb1) fun h => h.elim (fun h => absurd h nb2) id, fun h => .inr (.inr h)⟩
          rintro e w3 ⟨⟨v, er, rfl, hans⟩, rfl⟩
          have HANS := Lib.hid hans
          clear hans
          go_wp2
          go_ret2
          exact ⟨_, _, rfl, by have h := HANS.out; rw [HZV.out] at h; exact h, hBe⟩

end LM
end Go.Proofs.YtcfhiihhfcnfbaaGreatDoor

namespace Go.Proofs.YtcfhiihhfcnfbaaGreatDoor
open Go.RowKit
namespace LM

/-- where the loop stands when k limbs are done -/
def SbRel (w : World) (g : Nat) (xt yt : List Nat) (b i : Value) (wr : World) : Prop :=
  ∃ (k : Nat) (zs : List Nat) (br : Nat), k ≤ xt.length ∧ i = .int .i64 (k : Int) ∧ b = .int .u32 (br : Int) ∧ br ≤ 1 ∧ zs.length = k ∧ Lm zs ∧ val zs + val (yt.take k) = val (xt.take k) + 4294967296 ^ k * br ∧
    Blk wr g (U ([] ++ (zs ++ (List.replicate xt.length 0).drop k) ++ [])) ∧ w.grownBy wr (some g)

theorem sub_step {xs ys zs : List Nat} {k br d b' : Nat} (hz : zs.length = k) (h : val zs + val (ys.take k) = val (xs.take k) + 4294967296 ^ k * br)
    (hd : d + ys[k]?.getD 0 + br = xs[k]?.getD 0 + 4294967296 * b') : val (zs ++ [d]) + val (ys.take (k + 1)) = val (xs.take (k + 1)) + 4294967296 ^ (k + 1) * b' := by
  rw [val_snoc, val_take_succ, val_take_succ, hz, Nat.pow_succ]
  generalize xs[k]?.getD 0 = x at *
  generalize ys[k]?.getD 0 = y at *
  generalize 4294967296 ^ k = P at h ⊢
  grind
theorem sub_end {xt yt zs : List Nat} {br : Nat} (hz : zs.length = xt.length) (hzL : Lm zs) (hb : br ≤ 1) (hl : yt.length ≤ xt.length) (hle : val yt ≤ val xt)
    (h : val zs + val (yt.take xt.length) = val (xt.take xt.length) + 4294967296 ^ xt.length * br) : val zs = val xt - val yt := by
  rw [List.take_of_length_le hl, List.take_length] at h
  have e1 := val_lt hzL
  rw [hz] at e1
  generalize 4294967296 ^ xt.length = P at *
  have h3 : br = 0 ∨ br = 1 := by omega
  rcases h3 with rfl | rfl
  · rw [Nat.mul_zero] at h; omega
  · rw [Nat.mul_one] at h; omega
theorem can_le_len {xt yt : List Nat} (hx : Can xt) (hy : Can yt) (h : val yt ≤ val xt) : yt.length ≤ xt.length := by
  rcases Nat.lt_or_ge xt.length yt.length with h1 | h1
  · have := can_len_lt hx hy h1; omega
  · exact h1

def SubE (w : World) (x y : Nat) (e : Ending) (w' : World) : Prop :=
  ∃ v ok, e = .returned (.tuple #[v, .bool ok]) ∧ ((x < y ∧ v = .slice none 0 0 ∧ ok = false) ∨ (y ≤ x ∧ ok = true ∧ NumV w' v (x - y))) ∧ Below w.heap.size w w'

theorem trimmed_num {g N : Nat} {us : List Nat} {w : World} (hB : Blk w g (U us)) (hul : us.length = N) (huL : Lm us) (hN : N ≤ 100000) :
    Calls Tryz.prog 172 #[.slice (some ⟨g, 0, none⟩) N N] w fun e w' => (∃ v, e = .returned v ∧ NumV w' v (val us)) ∧ w = w' := by
  subst hul
  have hr : Rd w (some ⟨g, 0, none⟩) us := by
    have h := Rd.of_blk (w := w) (g := g) (pre := []) (xs := us) (post := []) (by simpa using hB)
    simpa using h
  exact (trimmed_any _ _ us w hr (Nat.le_refl _) (by unfold maxLen; omega)).mono fun e w' ⟨he, hw⟩ => by
    subst hw
    exact ⟨⟨_, he, _, _, trim us, rfl, by have := trim_length_le us; omega, by omega, hr.trim, can_trim huL, val_trim us⟩, rfl⟩

set_option maxRecDepth 100000 in
set_option maxHeartbeats 1000000 in
theorem sub_any (A B : Option Addr) (ca cb : Nat) (xs ys : List Nat) (w : World) (ha : Rd w A xs) (hb : Rd w B ys) (hx : Lm xs) (hy : Lm ys) (hca : xs.length ≤ ca) (hcb : ys.length ≤ cb) (hcam : ca ≤ 9223372036854775807) (hcbm : cb ≤ 9223372036854775807) (hxl : xs.length ≤ 1000) :
    Calls Tryz.prog 187 #[.slice A xs.length ca, .slice B ys.length cb] w fun e w' => SubE w (val xs) (val ys) e w' := by
  have H1 := Lib.hid (trimmed_any A ca xs w ha hca (by unfold maxLen; omega))
  have H2 := Lib.hid (trimmed_any B cb ys w hb hcb (by unfold maxLen; omega))
  have hta := ha.trim
  have htb := hb.trim
  have hcx := can_trim hx
  have hcy := can_trim hy
  rw [← val_trim xs, ← val_trim ys]
  have hlx := trim_length_le xs
  have hly := trim_length_le ys
  generalize trim xs = xt at *
  generalize trim ys = yt at *
  have H3 := Lib.hid (cmp_any A B ca cb xt yt w hta htb hcx.1 hcy.1 (by omega) (by omega) hcam hcbm (by omega))
  clear ha hb
  by_cases hlt : val xt < val yt
  · rw [cmpN_lt hlt] at H3
    go_enter Tryz.func187, Tryz.ntmps187
    go_wp2_with fail
    refine H1.out.mono ?_; rintro e w' ⟨rfl, rfl⟩
    go_wp2_with fail
    refine H2.out.mono ?_; rintro e w' ⟨rfl, rfl⟩
    go_wp2_with fail
    refine H3.out.mono ?_; rintro e w1 ⟨rfl, hb1⟩
    go_wp2
    go_ret2
    exact ⟨_, _, rfl, .inl ⟨hlt, rfl, rfl⟩, hb1⟩
  · have hge : val yt ≤ val xt := by omega
    have hll := can_le_len hcx hcy hge
    obtain ⟨cv, hcv, hcv0⟩ : ∃ cv : Int, cmpN (val xt) (val yt) = cv ∧ 0 ≤ cv := ⟨_, rfl, by unfold cmpN; rw [if_neg hlt]; split <;> decide⟩
    rw [hcv] at H3
    have HGE := Lib.hid hge
    clear hcv hlt hge
    have hmk := fun W => run_make_row' (P := Tryz.prog) 34 108 (.int .u32 0) 4 Tryz.underlying34 u32_info rfl .i64 .i64 xt.length (by omega) (by omega) W
    simp only [made_zero] at hmk
    go_enter Tryz.func187, Tryz.ntmps187
    go_wp2_with fail
    refine H1.out.mono ?_; rintro e w' ⟨rfl, rfl⟩
    go_wp2_with fail
    refine H2.out.mono ?_; rintro e w' ⟨rfl, rfl⟩
    go_wp2_with fail
    refine H3.out.mono ?_; rintro e w1 ⟨rfl, hb1⟩
    go_wp2_with fail
    clear H1 H2 H3 hmk
    go_loopw [7, 22] (fun b i wr => SbRel w1 w1.heap.size xt yt b i wr) (fun _ i _ => xt.length - (intOf i).toNat)
    case atStart => exact ⟨0, [], 0, Nat.zero_le _, rfl, rfl, by decide, rfl, Lm.nil, by simp [val], by simpa using Blk.new w1 _, only_alloc (only_refl _ _) _⟩
    case round =>
      obtain ⟨k, zs, br, hk, rfl, rfl, hbr, hzl, hzL, hv, hB, hG⟩ := hrel
      have HV := Lib.hid hv
      have HZ := Lib.hid hzl
      clear hv
      have hbe : Below w.heap.size w wr := below_of_only hb1 hG hb1.size hb1.size
      by_cases hlt : k < xt.length
      · have hc1 := blk_mid_cell hB hzl (by simpa using hlt)
        have hf1 := hB.frozen k
        simp only [List.length_nil, Nat.zero_add] at hc1
        have hra := hta.below hbe
        have hrb := htb.below hbe
        obtain ⟨b2, o2, rfl, _, hc2⟩ := hra.at_ hlt
        have hxk := hcx.1.get k
        have hyk := hcy.1.get k
        have hst := sub_step (xs := xt) (ys := yt) (d := difLo (xt[k]?.getD 0) (yt[k]?.getD 0) br) (b' := difHi (xt[k]?.getD 0) (yt[k]?.getD 0) br) hzl HV.out (dif_step hxk hyk hbr).1
        generalize hxe : xt[k]?.getD 0 = x at *
        generalize hye : yt[k]?.getD 0 = y at *
        have HST := Lib.hid hst
        have HXE := Lib.hid hxe
        have HYE := Lib.hid hye
        clear hst hxe hye hzl
        go_wp2_with fail
        go_region_with (first | (go_at_call 238; refine (at_nat B cb yt k y _ hrb.drew (by omega) HYE.out).mono ?_; rintro e w2 ⟨rfl, rfl⟩) | (go_at_call 268; refine (sub32_any _ _ _ _ hxk hyk hbr).mono ?_; rintro e w2 ⟨rfl, rfl⟩))
        all_goals
          go_wp2
          go_roundw
          case rel =>
            refine ⟨k + 1, zs ++ [difLo x y br], difHi x y br, by omega, by go_num, rfl, difHi_le _ _ _, by simp [HZ.out], hzL.snoc (difLo_lt _ _ _), HST.out, ?_, ?_⟩
            · have h := blk_mid_set (w := wr.drew) hB.drew HZ.out (by simpa using hlt) (difLo x y br) rfl
              simp only [List.length_nil, Nat.zero_add] at h
              exact h
            · exact only_setCell (only_drew hG) (.inl rfl) _
          case measure => simp [intOf]; omega
      · obtain rfl : k = xt.length := by omega
        have hend := sub_end hzl hzL hbr hll HGE.out HV.out
        have hB1 : Blk wr w1.heap.size (U zs) := by simpa using hB
        have HEND := Lib.hid hend
        clear hend hB
        go_wp2_with fail
        refine (trimmed_num hB1 hzl hzL (by omega)).mono ?_
        rintro e w3 ⟨⟨v, rfl, hn⟩, rfl⟩
        have HN := Lib.hid hn
        clear hn
        go_wp2
        go_ret2
        exact ⟨_, _, rfl, .inr ⟨HGE.out, rfl, by have h := HN.out; rw [HEND.out] at h; exact h⟩, hbe⟩

set_option maxHeartbeats 400000 in
theorem trimUp_any (A : Option Addr) (ca : Nat) (xs : List Nat) (w : World) (ha : Rd w A xs) (hx : Lm xs) (hca : xs.length ≤ ca) (hcam : ca ≤ 9223372036854775807) (hxl : xs.length ≤ 1000) :
    Calls Tryz.prog 97 #[.slice A xs.length ca] w fun e w' => ∃ r, e = .returned (.slice (some ⟨w.heap.size, 0, none⟩) (List.length r) r.length) ∧ Blk w' w.heap.size (U r) ∧ Can r ∧ val r = val xs ∧ r.length ≤ xs.length ∧ Below w.heap.size w w' := by
  have hta := ha.trim
  have hcx := can_trim hx
  have hvx := val_trim xs
  have hlx := trim_length_le xs
  have H1 := Lib.hid (trimmed_any A ca xs w ha hca (by unfold maxLen; omega))
  generalize trim xs = xt at *
  have HV := Lib.hid hvx
  clear hvx ha
  go_enter Tryz.func97, Tryz.ntmps97
  go_wp2_with fail
  refine H1.out.mono ?_; rintro e w' ⟨rfl, rfl⟩
  go_wp2_with fail
  refine (widened_any A ca xt.length xt _ hta (Nat.le_refl _) (by omega)).mono ?_; rintro e w1 ⟨rfl, hB1, hb1⟩
  go_wp2
  go_ret
  exact ⟨xt, rfl, by simpa using hB1, hcx, HV.out, hlx, hb1⟩

end LM
end Go.Proofs.YtcfhiihhfcnfbaaGreatDoor

namespace Go.Proofs.YtcfhiihhfcnfbaaGreatDoor
open Go.RowKit
namespace LM

/-- what a division answers -/
def DivE (w : World) (x y : Nat) (e : Ending) (w' : World) : Prop :=
  ∃ (q r : Value) (er : Int), e = .returned (.tuple #[q, r, .int .i64 er]) ∧ Below w.heap.size w w' ∧
    (((BIG x ∨ BIG y) ∧ q = .slice none 0 0 ∧ r = .slice none 0 0 ∧ er = 11) ∨
     (¬ BIG x ∧ ¬ BIG y ∧ y = 0 ∧ q = .slice none 0 0 ∧ r = .slice none 0 0 ∧ er = 12) ∨
     (¬ BIG x ∧ ¬ BIG y ∧ 0 < y ∧ er = 0 ∧ NumV w' q (x / y) ∧ NumV w' r (x % y)))

theorem numV_nil (w : World) : NumV w (.slice none 0 0) 0 := ⟨none, 0, [], rfl, Nat.le_refl _, by decide, Rd.nil, can_nil, rfl⟩

set_option maxRecDepth 100000 in
set_option maxHeartbeats 1000000 in
theorem div_small (A B : Option Addr) (ca cb : Nat) (xs ys : List Nat) (w : World) (ha : Rd w A xs) (hb : Rd w B ys) (hx : Lm xs) (hy : Lm ys) (hca : xs.length ≤ ca) (hcb : ys.length ≤ cb) (hcam : ca ≤ 9223372036854775807) (hcbm : cb ≤ 9223372036854775807)
    (hs : BIG (val xs) ∨ BIG (val ys) ∨ val ys = 0 ∨ (trim xs).length < (trim ys).length) :
    Calls Tryz.prog 188 #[.slice A xs.length ca, .slice B ys.length cb] w fun e w' => DivE w (val xs) (val ys) e w' := by
  have H1 := Lib.hid (fun W (h : Rd W A xs) => trimmed_any A ca xs W h hca (by unfold maxLen; omega))
  have H2 := Lib.hid (fun W (h : Rd W B ys) => trimmed_any B cb ys W h hcb (by unfold maxLen; omega))
  have hta := ha.trim
  have hcx := can_trim hx
  have hcy := can_trim hy
  rw [← val_trim xs, ← val_trim ys] at hs ⊢
  have hlx := trim_length_le xs
  have hly := trim_length_le ys
  have htt := trim_trim xs
  have ha3 := (ha.alloc (.cells #[.slice B ys.length cb] 34)).drew
  have hb3 := (hb.alloc (.cells #[.slice B ys.length cb] 34)).drew
  generalize trim xs = xt at *
  generalize trim ys = yt at *
  have I1 : ∀ n, n ≤ 9223372036854775807 → ∀ A c W, Calls Tryz.prog 235 #[.slice A n c] W fun e w' => e = .returned (.bool (decide (64 < n))) ∧ W = w' := fun n hn A c W => isBig_any A n c W (by unfold maxLen; omega)
  have HI := Lib.hid I1
  have HS := Lib.hid hs
  have HTT := Lib.hid htt
  clear I1 ha hb hs htt
  by_cases b1 : 64 < xt.length
  · have hd : decide (64 < xt.length) = true := decide_eq_true b1
    go_enter Tryz.func188, Tryz.ntmps188
    go_wp2_with fail
    go_region_with (first | (go_at_call_of 172 (Value.slice A xs.length ca); refine (H1.out _ ha3).mono ?_; rintro e w1 ⟨rfl, rfl⟩) | (go_at_call_of 172 (Value.slice B ys.length cb); refine (H2.out _ hb3).mono ?_; rintro e w1 ⟨rfl, rfl⟩))
    all_goals
      go_wp2_with (go_at_call 235; refine (HI.out xt.length (by omega) _ _ _).mono ?_; rintro e w' ⟨rfl, rfl⟩)
      go_ret3
      exact ⟨_, _, _, rfl, ((Below.refl _ w).alloc (Nat.le_refl _) _).drew, .inl ⟨.inl ((big_iff hcx).1 b1), rfl, rfl, rfl⟩⟩
  · have hd : decide (64 < xt.length) = false := decide_eq_false b1
    have nb1 : ¬ BIG (val xt) := fun h => b1 ((big_iff hcx).2 h)
    by_cases b2 : 64 < yt.length
    · have hd2 : decide (64 < yt.length) = true := decide_eq_true b2
      go_enter Tryz.func188, Tryz.ntmps188
      go_wp2_with fail
      go_region_with (first | (go_at_call_of 172 (Value.slice A xs.length ca); refine (H1.out _ ha3).mono ?_; rintro e w1 ⟨rfl, rfl⟩) | (go_at_call_of 172 (Value.slice B ys.length cb); refine (H2.out _ hb3).mono ?_; rintro e w1 ⟨rfl, rfl⟩))
      all_goals
        go_wp2_with fail
        refine (HI.out xt.length (by omega) _ _ _).mono ?_; rintro e w' ⟨rfl, rfl⟩
        go_wp2_with fail
        refine (HI.out yt.length (by omega) _ _ _).mono ?_; rintro e w' ⟨rfl, rfl⟩
        go_wp2
        go_ret3
        exact ⟨_, _, _, rfl, ((Below.refl _ w).alloc (Nat.le_refl _) _).drew, .inl ⟨.inr ((big_iff hcy).1 b2), rfl, rfl, rfl⟩⟩
    · have hd2 : decide (64 < yt.length) = false := decide_eq_false b2
      have nb2 : ¬ BIG (val yt) := fun h => b2 ((big_iff hcy).2 h)
      rcases Nat.eq_zero_or_pos yt.length with h0 | h0
      · have hyz : yt = [] := List.eq_nil_of_length_eq_zero h0
        have HY := Lib.hid hyz
        have h0' : ((yt.length : Int) == 0) = true := by rw [h0]; rfl
        have h0'' : yt.length = 0 := h0
        clear hyz h0
        go_enter Tryz.func188, Tryz.ntmps188
        go_wp2_with fail
        go_region_with (first | (go_at_call_of 172 (Value.slice A xs.length ca); refine (H1.out _ ha3).mono ?_; rintro e w1 ⟨rfl, rfl⟩) | (go_at_call_of 172 (Value.slice B ys.length cb); refine (H2.out _ hb3).mono ?_; rintro e w1 ⟨rfl, rfl⟩))
        all_goals
          go_wp2_with fail
          refine (HI.out xt.length (by omega) _ _ _).mono ?_; rintro e w' ⟨rfl, rfl⟩
          go_wp2_with fail
          refine (HI.out _ (by omega) _ _ _).mono ?_; rintro e w' ⟨rfl, rfl⟩
          go_wp2
          go_ret3
          exact ⟨_, _, _, rfl, ((Below.refl _ w).alloc (Nat.le_refl _) _).drew, .inr (.inl ⟨nb1, nb2, by rw [HY.out]; rfl, rfl, rfl, rfl⟩)⟩
      · have hlt : xt.length < yt.length := by
          rcases HS.out with h | h | h | h
          · exact absurd h nb1
          · exact absurd h nb2
          · have h2 := trim_nil_iff.2 h
            rw [hcy.2] at h2
            rw [h2] at h0; simp at h0
          · exact h
        have hvlt := can_len_lt hcx hcy hlt
        have HV := Lib.hid hvlt
        clear hvlt
        go_enter Tryz.func188, Tryz.ntmps188
        go_wp2_with fail
        go_region_with (first | (go_at_call_of 172 (Value.slice A xs.length ca); refine (H1.out _ ha3).mono ?_; rintro e w1 ⟨rfl, rfl⟩) | (go_at_call_of 172 (Value.slice B ys.length cb); refine (H2.out _ hb3).mono ?_; rintro e w1 ⟨rfl, rfl⟩))
        all_goals
          go_wp2_with fail
          refine (HI.out xt.length (by omega) _ _ _).mono ?_; rintro e w' ⟨rfl, rfl⟩
          go_wp2_with fail
          refine (HI.out yt.length (by omega) _ _ _).mono ?_; rintro e w' ⟨rfl, rfl⟩
          go_wp2_with fail
          refine (trimUp_any A ca xt _ ((hta.alloc _).drew) hcx.1 (by omega) (by omega) (by omega)).mono ?_
          rintro e w2 ⟨r, rfl, hB, hcr, hvr, hrl, hb2⟩
          have HVR := Lib.hid hvr
          clear hvr
          go_wp2
          go_ret3
          have hvlt := HV.out
          refine ⟨_, _, _, rfl, ?_, .inr (.inr ⟨nb1, nb2, by omega, rfl, ?_, ?_⟩)⟩
          · exact ((Below.refl _ w).alloc (Nat.le_refl _) (.cells #[.slice B yt.length cb] 34)).drew.trans (hb2.mono (by simp))
          · rw [Nat.div_eq_of_lt hvlt]; exact numV_nil _
          · rw [Nat.mod_eq_of_lt hvlt, ← HVR.out]
            have hr := Rd.of_blk (w := w2) (pre := []) (xs := r) (post := []) (by simpa using hB)
            exact ⟨_, _, r, rfl, Nat.le_refl _, by omega, by simpa using hr, hcr, rfl⟩

end LM
end Go.Proofs.YtcfhiihhfcnfbaaGreatDoor

namespace Go.Proofs.YtcfhiihhfcnfbaaGreatDoor
open Go.RowKit
namespace LM

def sameB (xs ys : List Nat) : Bool := decide (xs = ys)

theorem take_succ_eq {xs ys : List Nat} {k : Nat} (h : xs.take k = ys.take k) (hx : k < xs.length) (hy : k < ys.length) (he : xs[k]?.getD 0 = ys[k]?.getD 0) : xs.take (k + 1) = ys.take (k + 1) := by
  rw [List.getElem?_eq_getElem hx, List.getElem?_eq_getElem hy] at he
  have e : xs[k] = ys[k] := he
  rw [List.take_succ_eq_append_getElem hx, List.take_succ_eq_append_getElem hy, h, e]

set_option maxRecDepth 100000 in
set_option maxHeartbeats 400000 in
theorem same_any (A B : Option Addr) (ca cb : Nat) (xs ys : List Nat) (w : World) (ha : Rd w A xs) (hb : Rd w B ys) (hl : xs.length ≤ 1000000) :
    Calls Tryz.prog 117 #[.slice A xs.length ca, .slice B ys.length cb] w fun e w' => e = .returned (.bool (sameB xs ys)) ∧ Below w.heap.size w w' := by
  by_cases hne : xs.length = ys.length
  · have HNE := Lib.hid hne
    have hbn : ((xs.length : Int) != (ys.length : Int)) = false := by simp [hne]
    clear hne
    go_enter Tryz.func117, Tryz.ntmps117
    go_wp2
    go_loopw [13] (fun i wr => ∃ k q : Nat, k ≤ xs.length ∧ i = .int .i64 (k : Int) ∧ Hid (xs.take k = ys.take k) ∧ wr = w.drewN q) (fun i _ => xs.length - (intOf i).toNat)
    case atStart => exact ⟨0, 0, Nat.zero_le _, rfl, Lib.hid rfl, rfl⟩
    case round =>
      obtain ⟨k, q, hk, rfl, HT, hwr⟩ := hrel
      have hra : Rd wr A xs := by rw [hwr]; exact ha.drewN q
      have hrb : Rd wr B ys := by rw [hwr]; exact hb.drewN q
      have HWR := Lib.hid hwr
      clear hwr
      by_cases hlt : k < xs.length
      · have hly : k < ys.length := by have := HNE.out; omega
        obtain ⟨b1, o1, rfl, _, c1⟩ := hra.at_ hlt
        obtain ⟨b2, o2, rfl, _, c2⟩ := hrb.at_ hly
        have hst := fun he => take_succ_eq HT.out hlt hly he
        have hfx : sameB xs ys = true → xs[k]?.getD 0 = ys[k]?.getD 0 := fun h => by rw [of_decide_eq_true h]
        generalize hxe : xs[k]?.getD 0 = x at *
        generalize hye : ys[k]?.getD 0 = y at *
        have HST := Lib.hid hst
        have HFX := Lib.hid hfx
        clear hst hfx hxe hye
        by_cases hxy : x = y
        · have hnb : ((x : Int) != (y : Int)) = false := by simp [hxy]
          have HT2 := Lib.hid (HST.out hxy)
          clear hxy
          go_wp2_with fail
          go_quiet (fail)
          go_wp2
          go_roundw
          case rel => exact ⟨k + 1, q + nq, by omega, by go_num, HT2, by rw [HWR.out, World.drewN_drewN]⟩
          case measure => simp [intOf]; omega
        · have hnb : ((x : Int) != (y : Int)) = true := by simp; omega
          have hf : sameB xs ys = false := by
            cases h : sameB xs ys with
            | false => rfl
            | true => exact absurd (HFX.out h) hxy
          have HF := Lib.hid hf
          clear hxy hf
          go_wp2_with fail
          go_quiet (fail)
          go_wp2
          go_ret
          exact ⟨by rw [HF.out]; rfl, by rw [HWR.out]; exact below_drewN (below_drewN (Below.refl _ _) _) _⟩
      · obtain rfl : k = xs.length := by omega
        have hf : sameB xs ys = true := by
          have h := HT.out
          rw [List.take_length, List.take_of_length_le (by have := HNE.out; omega)] at h
          exact decide_eq_true h
        have HF := Lib.hid hf
        clear hf
        go_wp2
        go_ret
        exact ⟨by rw [HF.out]; rfl, by rw [HWR.out]; exact below_drewN (Below.refl _ _) _⟩
  · have hbn : ((xs.length : Int) != (ys.length : Int)) = true := by simp; omega
    have hf : sameB xs ys = false := decide_eq_false (fun h => hne (by rw [h]))
    rw [hf]
    clear hf hne
    go_enter Tryz.func117, Tryz.ntmps117
    go_wp2
    go_ret
    exact ⟨rfl, Below.refl _ _⟩

end LM
end Go.Proofs.YtcfhiihhfcnfbaaGreatDoor

namespace Go.Proofs.YtcfhiihhfcnfbaaGreatDoor
open Go.RowKit
namespace LM

set_option maxHeartbeats 400000 in
theorem of_any (n : Nat) (w : World) (hn : n < 18446744073709551616) :
    Calls Tryz.prog 164 #[.int .u64 (n : Int)] w fun e w' => (∃ v, e = .returned v ∧ NumV w' v n) ∧ Below w.heap.size w w' := by
  have e1 : (n : Int) % 4294967296 = ((n % 4294967296 : Nat) : Int) := by simp
  have e2 : (n : Int) / 4294967296 = ((n / 4294967296 : Nat) : Int) := by simp
  have l1 : n % 4294967296 < 4294967296 := Nat.mod_lt _ (by decide)
  have l2 : n / 4294967296 < 4294967296 := by omega
  have hv : val [n % 4294967296, n / 4294967296] = n := by simp [val]; omega
  generalize n % 4294967296 = lo at *
  generalize n / 4294967296 = hi at *
  have HV := Lib.hid hv
  clear hv
  go_enter Tryz.func164, Tryz.ntmps164
  go_wp2_with fail
  refine (trimmed_num (N := 2) (us := [lo, hi]) (by simpa [U] using Blk.new w (U [lo, hi])) rfl (Lm.cons l1 (Lm.cons l2 Lm.nil)) (by decide)).mono ?_
  rintro e w1 ⟨⟨v, rfl, hnv⟩, rfl⟩
  rw [HV.out] at hnv
  have HN := Lib.hid hnv
  clear hnv
  go_wp2
  go_ret
  exact ⟨⟨v, rfl, HN.out⟩, (Below.refl _ _).alloc (Nat.le_refl _) _⟩

set_option maxHeartbeats 400000 in
theorem small_any (A : Option Addr) (ca : Nat) (xs : List Nat) (w : World) (ha : Rd w A xs) (hx : Lm xs) (hca : xs.length ≤ ca) (hcam : ca ≤ 9223372036854775807) :
    Calls Tryz.prog 170 #[.slice A xs.length ca] w fun e w' =>
      ((val xs < 18446744073709551616 ∧ e = .returned (.tuple #[.int .u64 ((val xs : Nat) : Int), .bool true])) ∨ (18446744073709551616 ≤ val xs ∧ e = .returned (.tuple #[.int .u64 0, .bool false]))) ∧ w = w' := by
  have H1 := Lib.hid (trimmed_any A ca xs w ha hca (by unfold maxLen; omega))
  have hta := ha.trim
  have hcx := can_trim hx
  rw [← val_trim xs]
  have hlx := trim_length_le xs
  generalize trim xs = xt at *
  clear ha
  by_cases h2 : 2 < xt.length
  · have hb := (can_len hcx 2).1 h2
    have HB : Hid (18446744073709551616 ≤ val xt) := Lib.hid hb
    clear hb
    go_enter Tryz.func170, Tryz.ntmps170
    go_wp2_with fail
    refine H1.out.mono ?_; rintro e w' ⟨rfl, rfl⟩
    go_wp2
    go_ret2
    exact ⟨.inr ⟨HB.out, rfl⟩, rfl⟩
  · have hb : val xt < 18446744073709551616 := val_len_lt hcx.1 (n := 2) (by omega)
    have l0 := hcx.1.get 0
    have l1 := hcx.1.get 1
    have hv : val xt = xt[1]?.getD 0 * 4294967296 + xt[0]?.getD 0 := by
      have e1 := val_take_succ xt 0
      have e2 := val_take_succ xt 1
      rw [List.take_of_length_le (by omega)] at e2
      rw [e2, e1]; simp [val]; omega
    have hoh := or_high l1 l0
    have k1 := fun W h => at_nat A ca xt 1 (xt[1]?.getD 0) W h (by omega) rfl
    have k0 := fun W h => at_nat A ca xt 0 (xt[0]?.getD 0) W h (by omega) rfl
    rw [hv] at hb ⊢
    generalize xt[1]?.getD 0 = y1 at *
    generalize xt[0]?.getD 0 = y0 at *
    have K1 := Lib.hid k1
    have K0 := Lib.hid k0
    have HB := Lib.hid hb
    clear hv k1 k0 hb
    go_enter Tryz.func170, Tryz.ntmps170
    go_wp2_with fail
    refine H1.out.mono ?_; rintro e w' ⟨rfl, rfl⟩
    go_wp2_with fail
    refine (K1.out _ hta).mono ?_; rintro e w' ⟨rfl, rfl⟩
    go_wp2_with fail
    refine (K0.out _ hta).mono ?_; rintro e w' ⟨rfl, rfl⟩
    go_wp2
    go_ret2
    exact ⟨.inl ⟨HB.out, rfl⟩, rfl⟩

end LM
end Go.Proofs.YtcfhiihhfcnfbaaGreatDoor
