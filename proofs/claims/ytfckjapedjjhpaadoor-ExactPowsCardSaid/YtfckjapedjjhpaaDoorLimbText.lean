/- Walks of package limb: Text: the decimal digits of a number. -/
import Derived.Test.YtfckjapedjjhpaaDoorLimbParts
import Derived.Test.YtfckjapedjjhpaaDoorLimbStr
namespace Go.Proofs.YtfckjapedjjhpaaDoor
open Go.RowKit Go.Shelf
attribute [local go_sem] Oper.semAt_some
namespace LM
attribute [local go_sem] round_fn wide_fn

theorem tab_below {P : Program} {w w' : World} {name : String} {k : IntKind} {zs : List Int} (h : Lib.TabIs P w name k zs) (hb : Below w.heap.size w w') : Lib.TabIs P w' name k zs := by
  unfold Lib.TabIs World.var? at *
  cases hg : P.globalNamed name with
  | none => simp [hg] at h
  | some g =>
    simp only [hg, Option.bind_some] at h ⊢
    rcases Nat.lt_or_ge g w.heap.size with hl | hl
    · rw [hb.block g hl]; exact h
    · rw [Array.getElem?_eq_none hl] at h; simp at h

theorem builderAt_kept {T e : TypeId} {B b : Nat} {p : Value} {bs : List Value} {W W' : World} {row : Option Nat} (h : Lib.BuilderAtF T e B b p bs W) (hg : W.grownBy W' row) (hr : ∀ r, row = some r → ∃ o : Obj, W.heap[r]? = some o ∧ o.isCells = false) : Lib.BuilderAtF T e B b p bs W' := by
  obtain ⟨hB, v, hv, hown, hne⟩ := h
  refine ⟨hB, v, heap_kept hv hg hr, hown.kept hg ?_, hne⟩
  rcases hown.2 with ⟨rfl, _⟩ | ⟨g, cap, cur, fz, rfl, _, hgc, _⟩
  · exact .inl rfl
  · refine .inr fun e2 => ?_
    obtain ⟨o, ho, hc⟩ := hr g e2.symm
    rw [hgc] at ho; injection ho with ho; subst ho; cases hc
theorem builder_kept {T e : TypeId} {B b : Nat} {bs : List Value} {W W' : World} {row : Option Nat} (h : Lib.IsBuilderF T e B b bs W) (hg : W.grownBy W' row) (hr : ∀ r, row = some r → ∃ o : Obj, W.heap[r]? = some o ∧ o.isCells = false) : Lib.IsBuilderF T e B b bs W' :=
  h.elim (fun x => .inl (builderAt_kept x hg hr)) (fun x => .inr (builderAt_kept x hg hr))

theorem builder_below {T e : TypeId} {B b : Nat} {bs : List Value} {W W' : World} (h : Lib.IsBuilderF T e B b bs W) (hb : Below W.heap.size W W') : Lib.IsBuilderF T e B b bs W' :=
  builder_kept (row := none) h ⟨hb.os, hb.tape, hb.output, hb.size, fun k hk _ => hb.block k hk⟩ (fun r e => by cases e)

theorem keeps8_below {B : Nat} {W W' : World} (h : Below W.heap.size W W') : Keeps8 B W W' := ⟨h.size, fun k _ _ hk _ => (h.block k (Array.getElem?_eq_some_iff.1 hk).1).trans hk⟩
theorem keeps8_others {B b : Nat} {W W' : World} (h : Lib.OthersKept 5 (some b) W W') (hs : W.heap.size ≤ W'.heap.size) (hb : b < B) : Keeps8 B W W' :=
  ⟨hs, fun k o hB hk ho => h k o hk (fun e => by injection e with e; omega) (fun c fz e => by subst e; cases ho)⟩

/-- what stands between two rounds -/
def TxI (w : World) (pre : List Nat) (W : World) : Prop :=
  Lib.IsBuilderF 76 5 w.heap.size w.heap.size (Lib.byteCells (tx pre)) W ∧ Below w.heap.size w W
theorem TxI.own {w : World} {B : Nat} (hB : w.heap.size ≤ B) : OwnFrom B (TxI w) := fun _ _ _ _ hs hg hr =>
  ⟨builder_kept hs.1 hg (fun r e => (hr r e).2), hs.2.grown hg hs.2.size (fun r e => Nat.le_trans hB (hr r e).1)⟩

set_option maxRecDepth 100000 in
set_option maxHeartbeats 2000000 in
theorem text_main (A : Option Addr) (cap : Nat) (xs : List Nat) (w : World) (ha : Rd w A xs) (hA : ∀ ad, A = some ad → ad.block < w.heap.size) (hx : Lm xs) (hca : xs.length ≤ cap) (hcam : cap ≤ 9223372036854775807) (hnb : ¬ BIG (val xs)) (h0 : 0 < val xs)
    (htab : Lib.TabIs Tryd.prog w "internal/strconv.uint64pow10" .u64 Lib.pow10Tab) :
    Calls Tryd.prog 42 #[.slice A xs.length cap] w fun e w' => e = .returned (.string ⟨(Lib.decDigits (val xs)).toArray⟩) ∧ Below w.heap.size w w' := by
  have H1 := Lib.hid (trimmed_any A cap xs w ha hca (by unfold maxLen; omega))
  have hta := ha.trim
  have hcx := can_trim hx
  have hlx := trim_length_le xs
  rw [← val_trim xs] at hnb h0 ⊢
  generalize trim xs = xt at *
  have b1 : ¬ 64 < xt.length := fun h => hnb ((big_iff hcx).1 h)
  have hd : decide (64 < xt.length) = false := decide_eq_false b1
  have hpl : 0 < xt.length := by
    rcases Nat.eq_zero_or_pos xt.length with h | h
    · rw [List.eq_nil_of_length_eq_zero h] at h0; cases h0
    · exact h
  have hpz : ((xt.length : Int) == 0) = false := by rw [beq_eq_false_iff_ne]; omega
  have I1 : ∀ W, Calls Tryd.prog 63 #[.slice A xt.length cap] W fun e w' => e = .returned (.bool (decide (64 < xt.length))) ∧ W = w' := fun W => isBig_any A xt.length cap W (by unfold maxLen; omega)
  have HI := Lib.hid I1
  have HTAB := Lib.hid htab
  have H0 := Lib.hid h0
  have HNB := Lib.hid hnb
  clear I1 ha htab h0 hnb
  refine (callsIn_wide (n := 10)).1 ?_
  refine callsIn_of_wp_marks Tryd.func42 rfl trivial ?_ rfl
  simp only [Tryd.ntmps42, List.size_toArray, List.length_cons, List.length_nil, Nat.reduceAdd, Nat.reduceSub, Array.replicate_succ, Array.replicate_zero, List.push_toArray, List.append_toArray, List.nil_append, List.cons_append]
  gi_wp2_with fail
  refine (callsIn_wide.2 H1.out).mono ?_; rintro e w1 ⟨rfl, rfl⟩
  gi_wp2_with fail
  refine (callsIn_wide.2 (HI.out _)).mono ?_; rintro e w1 ⟨rfl, rfl⟩
  gi_wp2_with fail
  refine (callsIn_wide.2 (parts_call A xt.length cap _)).mono ?_; rintro e w1 ⟨rfl, rfl⟩
  gi_wp2_with fail
  generalize hWL : World.alloc _ _ = WL
  have f0 : WL.heap.size = w.heap.size + 2 := by rw [← hWL]; simp
  have fI : TxI w [] WL := by
    rw [← hWL]
    exact ⟨(Lib.IsBuilderF.of (Lib.fresh_isBuilder _ _ w)).alloc _, ((Below.refl _ w).alloc (Nat.le_refl _) _).alloc (by simp) _⟩
  have fB : SBox WL (w.heap.size + 1) (.slice A xt.length cap) := by rw [← hWL]; have h := SBox.new (w.alloc (.cells #[.pointer none, .slice none 0 0] 76)) (.slice A xt.length cap); rwa [World.size_alloc] at h
  have hWb := fI.2
  have hlt : ∀ ad, A = some ad → ad.block < WL.heap.size := fun ad e => by have := hA ad e; omega
  clear hWL
  refine range_all rfl (by decide) (gf := 91) (lb := #[.pointer (some ⟨w.heap.size + 1, 0, none⟩)]) rfl trivial (enters_of Tryd.func91 (by kernel_rfl) rfl)
    (parts_all 9 (by decide) (w.heap.size + 1) A cap xt WL fB (hta.below hWb) hlt hcx H0.out HNB.out (by omega) hcam (by omega))
    (Below.refl _ _) (fun _ => rfl) (TxI w) (TxI.own (by omega)) (fun _ _ _ => trivial) fI
    (fun x => { tmps := #[.slice A xt.length cap, undef, .string ⟨#[]⟩, .pointer (some ⟨w.heap.size, 0, none⟩), .int .u32 (x : Int), undef, .slice A xs.length cap, .slice A xt.length cap, .slice A xt.length cap, .bool false, .slice A xt.length cap, .int .i64 (xt.length : Int), .bool false, .slice A xt.length cap, .func (.func 91) #[] #[.pointer (some ⟨w.heap.size + 1, 0, none⟩)], .int .u32 (x : Int), undef, undef, undef, undef, undef, undef, undef, undef, undef, undef, undef, undef, undef], defers := [] }) ?assign ?body ?done
  case assign =>
    intro l2 x W2 K hK
    gi_wp2
    exact hK
  case body =>
    rintro l2 pre x Wb ⟨j1, j2⟩ ⟨hPr, hPl⟩
    have hx9 : x < 1000000000 := by
      refine parts_lt (val xt) x ?_
      have h1 : x ∈ pre ++ [x] := by simp
      rw [hPr] at h1
      exact List.mem_of_mem_take h1
    have hpre : pre = (partsOf (val xt)).take pre.length := by
      have h1 := congrArg (List.take pre.length) hPr
      rw [List.take_left, List.take_take, Nat.min_eq_left (by simp)] at h1
      exact h1
    have hpos : pre ≠ [] → 0 < vp pre := fun hn => by
      rw [hpre] at hn ⊢
      exact parts_take_pos hn
    have hlen : pre.length ≤ 69 := by
      have h1 := parts_few HNB.out
      unfold partsOf at hPl
      rw [List.length_append, List.length_reverse] at hPl
      omega
    have htl : (tx pre).length ≤ 9 * pre.length := tx_len fun y hy => by rw [hpre] at hy; exact parts_lt _ y (List.mem_of_mem_take hy)
    obtain ⟨ds, hds⟩ : ∃ ds : ByteArray, ds = ⟨(Lib.decDigits x).toArray⟩ := ⟨_, rfl⟩
    have hfm := fmt_any x (by omega) Wb (tab_below HTAB.out j2)
    rw [← hds] at hfm
    have hdsz : ds.size = Lib.nDigits x := by rw [hds, ← Lib.decDigits_length]; simp [ByteArray.size]
    have hd9 : ds.size ≤ 9 := by rw [hdsz]; exact nDigits_le (k := 8) (by simpa using hx9)
    have hdc : Lib.strCells ds = Lib.byteCells (Lib.decDigits x) := by rw [hds]; rfl
    obtain ⟨rs, hrs⟩ : ∃ rs : ByteArray, rs = ⟨(Lib.repeatL [48] (9 - ds.size)).toArray⟩ := ⟨_, rfl⟩
    have hrp : ∀ W, Calls Tryd.prog 68 #[.string ⟨#[48]⟩, .int .i64 ((9 - ds.size : Nat) : Int)] W fun e w' => e = .returned (.string rs) ∧ Below W.heap.size W w' := fun W => by
      rw [hrs]
      exact Tryd.strings_Repeat ⟨#[48]⟩ (9 - ds.size) W (by omega) (by show 1 * (9 - ds.size) ≤ _; omega)
    have hrsz : rs.size ≤ 9 := by
      have e : rs.size = (Lib.repeatL [48] (9 - ds.size)).length := by rw [hrs]; rfl
      rw [Lib.repeatL_length, List.length_singleton] at e
      omega
    have hrc : Lib.strCells rs = Lib.byteCells (Lib.repeatL [48] (9 - ds.size)) := by rw [hrs]; rfl
    have hsub : (9 : Int) - (ds.size : Int) = ((9 - ds.size : Nat) : Int) := by omega
    have HFM := Lib.hid hfm
    have HRP := Lib.hid hrp
    have HPOS := Lib.hid hpos
    have HDC := Lib.hid hdc
    have HRC := Lib.hid hrc
    have HDSZ := Lib.hid hdsz
    obtain ⟨L, hL⟩ : ∃ L, (tx pre).length = L := ⟨_, rfl⟩
    rw [hL] at htl
    have HL := Lib.hid hL
    clear hpre hpos hPr hPl hfm hrp hdc hrc hds hrs hdsz hL
    gi_wp2_with fail
    refine (CallsIn.inRound l2 (callsIn_wide.2 HFM.out)).mono ?_
    rintro e W1 ⟨rfl, hb1⟩
    have k1 := builder_below j1 hb1
    have hln := Tryd.Builder_Len_f _ _ _ _ k1
    rw [Lib.byteCells_length, HL.out] at hln
    have hbw1 : w.heap.size ≤ W1.heap.size := Nat.le_trans j2.size hb1.size
    gi_wp2_with fail
    refine (CallsIn.inRound l2 (callsIn_wide.2 hln)).mono ?_
    rintro e W2 ⟨rfl, rfl⟩
    clear hln
    by_cases hp : pre = []
    · have hL0 : L = 0 := by rw [← HL.out, hp]; rfl
      have hd : decide (0 < L) = false := decide_eq_false (by omega)
      have HP := Lib.hid hp
      clear hL0 hp
      gi_wp2_with fail
      refine (CallsIn.inRound l2 (callsIn_wide.2 (wstr_any _ _ _ ds _ k1 (by rw [Lib.byteCells_length, HL.out]; omega) hbw1))).mono ?_
      rintro e W3 ⟨rfl, h3, b3, k3⟩
      gi_wp2
      refine ⟨(keeps8_below hb1).trans (keeps8_others k3 b3.size (by omega)), ?_, (j2.trans (hb1.mono j2.size)).trans b3⟩
      rw [HDC.out, HP.out, tx_nil, ← Lib.byteCells_append, List.nil_append] at h3
      rw [HP.out, tx_first]
      exact .inr h3
    · have hL0 : 0 < L := by rw [← HL.out]; exact tx_len_pos hp
      have hd : decide (0 < L) = true := decide_eq_true hL0
      have HP := Lib.hid hp
      clear hp
      gi_wp2_with fail
      refine (CallsIn.inRound l2 (callsIn_wide.2 (HRP.out _))).mono ?_
      rintro e W3 ⟨rfl, hb3⟩
      have k4 := builder_below k1 hb3
      have hbw3 : w.heap.size ≤ W3.heap.size := Nat.le_trans hbw1 hb3.size
      gi_wp2_with fail
      refine (CallsIn.inRound l2 (callsIn_wide.2 (wstr_any _ _ _ rs _ k4 (by rw [Lib.byteCells_length, HL.out]; omega) hbw3))).mono ?_
      rintro e W4 ⟨rfl, h4, b4, k5⟩
      have hbw4 : w.heap.size ≤ W4.heap.size := Nat.le_trans hbw3 b4.size
      gi_wp2_with fail
      refine (CallsIn.inRound l2 (callsIn_wide.2 (wstr_any _ _ _ ds _ (.inr h4) (by rw [List.length_append, Lib.byteCells_length, Lib.strCells_length, HL.out]; omega) hbw4))).mono ?_
      rintro e W5 ⟨rfl, h5, b5, k6⟩
      gi_wp2
      refine ⟨(((keeps8_below hb1).trans (keeps8_below hb3)).trans (keeps8_others k5 b4.size (by omega))).trans (keeps8_others k6 b5.size (by omega)), ?_, (((j2.trans (hb1.mono j2.size)).trans (hb3.mono hbw1)).trans b4).trans b5⟩
      rw [HDC.out, HRC.out, ← Lib.byteCells_append, ← Lib.byteCells_append, HDSZ.out, List.append_assoc, ← tx_next HP.out (HPOS.out HP.out) hx9] at h5
      exact .inr h5
  case done =>
    rintro D zs Wd hD hS ⟨j1, j2⟩ hK
    have HS := Lib.hid hS
    clear hS
    gi_wp2_with fail
    refine (callsIn_wide.2 (Tryd.Builder_String_any_k _ _ _ _ j1 j2.size)).mono ?_
    rintro e W3 ⟨rfl, _, b3, k3⟩
    have hK3 := k3 D _ hK (fun e => by injection e with e; omega) (fun _ _ e => by cases e)
    gi_wp2
    refine ⟨by simp, .inl ⟨_, _, rfl, run_takeDeferred hK3, ?_⟩⟩
    refine ⟨_, results_tmp rfl _ _ _, ?_, ?_⟩
    · rw [HS.out, tx_parts H0.out]
      rfl
    · exact (j2.trans b3).grown (grownBy_putObj' W3 D _) (by have := j2.size; have := b3.size; omega) (fun r e => by cases e; omega)

/-- what Text answers -/
def TextE (n : Nat) (e : Ending) : Prop := ∃ l : List UInt8, e = .returned (.string ⟨l.toArray⟩) ∧ ((BIG n ∧ l = []) ∨ (¬ BIG n ∧ l = Lib.decDigits n))

set_option maxRecDepth 100000 in
set_option maxHeartbeats 1000000 in
theorem text_any (A : Option Addr) (cap : Nat) (xs : List Nat) (w : World) (ha : Rd w A xs) (hA : ∀ ad, A = some ad → ad.block < w.heap.size) (hx : Lm xs) (hca : xs.length ≤ cap) (hcam : cap ≤ 9223372036854775807)
    (htab : Lib.TabIs Tryd.prog w "internal/strconv.uint64pow10" .u64 Lib.pow10Tab) :
    Calls Tryd.prog 42 #[.slice A xs.length cap] w fun e w' => TextE (val xs) e ∧ Below w.heap.size w w' := by
  rcases Nat.eq_zero_or_pos (val xs) with h0 | h0
  · have H1 := Lib.hid (trimmed_any A cap xs w ha hca (by unfold maxLen; omega))
    rw [h0]
    have ht := trim_nil_iff.2 h0
    rw [ht] at H1
    have I1 : ∀ W, Calls Tryd.prog 63 #[.slice A ([] : List Nat).length cap] W fun e w' => e = .returned (.bool (decide (64 < ([] : List Nat).length))) ∧ W = w' := fun W => isBig_any A _ cap W (by unfold maxLen; simp)
    have HI := Lib.hid I1
    clear I1 ht h0
    go_enter Tryd.func42, Tryd.ntmps42
    go_wp2_with fail
    refine H1.out.mono ?_; rintro e w1 ⟨rfl, rfl⟩
    go_wp2_with fail
    refine (HI.out _).mono ?_; rintro e w1 ⟨rfl, rfl⟩
    go_wp2
    go_ret
    refine ⟨⟨[48], rfl, .inr ⟨fun h => ?_, by rw [Lib.decDigits_one (by decide)]; rfl⟩⟩, Below.refl _ _⟩
    have := Nat.lt_of_lt_of_le (Nat.pow_pos (show 0 < 4294967296 from by decide)) h
    cases this
  · by_cases hb : BIG (val xs)
    · have H1 := Lib.hid (trimmed_any A cap xs w ha hca (by unfold maxLen; omega))
      have hlx := trim_length_le xs
      have b1 : 64 < (trim xs).length := (big_trim hx).2 hb
      generalize (trim xs).length = m at *
      have hd : decide (64 < m) = true := decide_eq_true b1
      have I1 : ∀ W, Calls Tryd.prog 63 #[.slice A m cap] W fun e w' => e = .returned (.bool (decide (64 < m))) ∧ W = w' := fun W => isBig_any A m cap W (by unfold maxLen; omega)
      have HI := Lib.hid I1
      have HB := Lib.hid hb
      clear I1 hb h0
      go_enter Tryd.func42, Tryd.ntmps42
      go_wp2_with fail
      refine H1.out.mono ?_; rintro e w1 ⟨rfl, rfl⟩
      go_wp2_with fail
      refine (HI.out _).mono ?_; rintro e w1 ⟨rfl, rfl⟩
      go_wp2
      go_ret
      exact ⟨⟨[], rfl, .inl ⟨HB.out, rfl⟩⟩, Below.refl _ _⟩
    · exact (text_main A cap xs w ha hA hx hca hcam hb h0 htab).mono fun e w' ⟨he, hw⟩ => ⟨⟨_, he, .inr ⟨hb, rfl⟩⟩, hw⟩

end LM
end Go.Proofs.YtfckjapedjjhpaaDoor
