/- Walks of package limb: Div: where nothing is divided: an argument too great, a divisor that is nothing, a number below the divisor. -/
import Derived.Test.YtpoojlnndgoeoaaGreatDoorLimbA
import Derived.Test.YtpoojlnndgoeoaaGreatDoorLimbDv
import Derived.Test.YtpoojlnndgoeoaaGreatDoorLimbF
import Derived.Maps.AppendAt
import Derived.Test.YtpoojlnndgoeoaaGreatDoorShelf
import Derived.Lib.OthersKept
import Derived.Test.YtpoojlnndgoeoaaGreatDoorFloTab
import Derived.Test.YtpoojlnndgoeoaaGreatDoorFloB
import Derived.Test.YtpoojlnndgoeoaaGreatDoorLimbO
namespace Go.Proofs.YtpoojlnndgoeoaaGreatDoor
open Go Go.RowKit
namespace LM

theorem round_any {n m : Nat} {P : Program} {l l2 : Nat} {f : FuncId} {tmps : Array Value} {assign body : Code} {w : World} {R : Ending → World → Prop} (h : RoundIn Fence.wide n P l f tmps assign body w R) :
    RoundIn (Fence.wide.inRound l2) m P l f tmps assign body w R := ⟨h.1, fun c cs _ => h.2 c cs (fun _ h => by cases h)⟩

theorem top_lt : 4294967296 ^ 64 ≤ 1000000000 ^ 69 := by decide +kernel
theorem parts_few {n : Nat} (hn : ¬ BIG n) : (lowP n).length ≤ 69 := lowP_len 69 n (Nat.lt_of_lt_of_le (Nat.lt_of_not_le hn) top_lt)

/-- where the first loop stands: what is left is divided on; the parts that are there are the lowest -/
def PmRel (W0 : World) (n g cap B0 yb : Nat) (yv : Value) (lv rv : Value) (wr : World) : Prop :=
  ∃ (xs post low : List Nat), rv = .slice (some ⟨g, 0, none⟩) xs.length cap ∧ Blk wr g (U (xs ++ post)) ∧ Can xs ∧ xs.length ≤ cap ∧
    wr.ownsRow B0 88 1 lv low.length (U low) ∧ low ++ lowP (val xs) = lowP n ∧
    wr.heap[yb]? = some (.cells #[yv] 161 (0, 0)) ∧ Below W0.heap.size W0 wr

/-- the length of a slice -/
def lenOf : Value → Nat
  | .slice _ n _ => n
  | _ => 0

/-- what has come, by the places -/
theorem downs_take {m : Nat} {low : List Nat} (hm : low.length = m) (ys : List (Plc m fun j v => low[j]? = some v)) (h : Downs ys) : ys.map (fun x => x.1.2) = low.reverse.take ys.length := by
  obtain ⟨h1, h2⟩ := h
  have e : ys.map (fun x => x.1.2) = (ys.map plc).map fun j => low[j]?.getD 0 := by
    rw [List.map_map]
    refine List.map_congr_left fun x _ => ?_
    have := x.2.2
    simp only [Function.comp, plc]
    rw [this]; rfl
  rw [e, h1]
  generalize ys.length = k at *
  clear e h1
  refine List.ext_getElem? fun i => ?_
  rw [List.getElem?_take]
  by_cases hi : i < k
  · rw [if_pos hi]
    simp only [downs, List.map_map, List.getElem?_map, List.getElem?_range hi, Option.map_some, Function.comp]
    rw [List.getElem?_reverse (by omega), hm, List.getElem?_eq_getElem (by omega)]
    rfl
  · rw [if_neg hi]
    rw [List.getElem?_eq_none (by simp [downs]; omega)]

theorem downs_all {m : Nat} {low : List Nat} (hm : low.length = m) (ys : List (Plc m fun j v => low[j]? = some v)) (h : ys.map plc = downs m m) : ys.map (fun x => x.1.2) = low.reverse := by
  have hl : ys.length = m := by
    have h1 := congrArg List.length h
    rwa [List.length_map, downs_len] at h1
  have := downs_take hm ys ⟨by rw [hl]; exact h, by omega⟩
  rw [this, List.take_of_length_le (by simp; omega)]

end LM
end Go.Proofs.YtpoojlnndgoeoaaGreatDoor

namespace Go.Proofs.YtpoojlnndgoeoaaGreatDoor
open Go.RowKit Go.Shelf
attribute [local go_sem] Oper.semAt_some
namespace LM
attribute [local go_sem] round_fn wide_fn

theorem heap_kept {W W' : World} {row : Option Nat} {k : Nat} {cs : Array Value} {t : TypeId} {fz : Nat × Nat} (h : W.heap[k]? = some (.cells cs t fz)) (hg : W.grownBy W' row) (hr : ∀ r, row = some r → ∃ o : Obj, W.heap[r]? = some o ∧ o.isCells = false) : W'.heap[k]? = some (.cells cs t fz) :=
  (hg.block k (Array.getElem?_eq_some_iff.1 h).1 (fun e => by
    obtain ⟨o, ho, hc⟩ := hr k e.symm
    rw [h] at ho; injection ho with ho; subst ho; cases hc)).trans h

theorem own_len {w : World} {base : Nat} {v : Value} {n : Nat} {xs : List Value} (h : w.ownsRow base 88 1 v n xs) : lenOf v = n := by
  obtain ⟨_, h | ⟨g, cap, cur, rfl, _⟩⟩ := h
  · rw [h.1, h.2]; rfl
  · rfl

/-- what stands between two rounds of the second loop -/
def PtI (J : List Nat → World → Prop) (low : List Nat) (rest : List Value) (yb : Nat) (yv : Value) (h cap bs : Nat) (pre : List (Plc low.length fun j v => low[j]? = some v)) (wr : World) : Prop :=
  J (pre.map fun x => x.1.2) wr ∧ wr.heap[yb]? = some (.cells #[yv] 161 (0, 0)) ∧ SBox wr bs (.slice (some ⟨h, 0, none⟩) low.length cap) ∧ Blk wr h (U low ++ rest)

theorem PtI.own {J : List Nat → World → Prop} {low : List Nat} {rest : List Value} {yb : Nat} {yv : Value} {h cap bs B B0 : Nat} (hJ : OwnFrom B0 J) (hB : B0 ≤ B) : OwnFrom B (PtI J low rest yb yv h cap bs) := fun s A C row hs hg hr => by
  obtain ⟨a1, a2, a3, a4⟩ := hs
  have hr2 := fun r e => (hr r e).2
  exact ⟨hJ _ _ _ _ a1 hg (fun r e => ⟨Nat.le_trans hB (hr r e).1, (hr r e).2⟩), heap_kept a2 hg hr2, a3.kept hg hr2, a4.kept hg hr2⟩
theorem PtI.bw {J : List Nat → World → Prop} {low : List Nat} {rest : List Value} {yb : Nat} {yv : Value} {h cap bs : Nat} {pre : List (Plc low.length fun j v => low[j]? = some v)} {wr : World} (hs : PtI J low rest yb yv h cap bs pre wr) :
    BwOk bs (some ⟨h, 0, none⟩) low.length cap (fun j v => low[j]? = some v) wr := by
  obtain ⟨a1, a2, a3, a4⟩ := hs
  exact ⟨a3.cell, fun _ => ⟨h, 0, rfl, fun k hk => ⟨low[k], List.getElem?_eq_getElem hk, by
    rw [Nat.zero_add, a4.cell, List.getElem?_append_left (by rw [U_len]; exact hk), U_get _ _ hk, List.getElem?_eq_getElem hk]; rfl⟩⟩⟩

end LM
end Go.Proofs.YtpoojlnndgoeoaaGreatDoor

namespace Go.Proofs.YtpoojlnndgoeoaaGreatDoor
open Go Go.Shelf Go.RowKit Go.Sort Go.Lib
namespace LM

/-- what has grown by new blocks -/
theorem below_grow (w : World) (k : Nat) (os : Array Obj) : Below w.heap.size w (grow (w.drewN k) os) :=
  ⟨rfl, rfl, rfl, by simp [grow], fun i hi => by
    show (w.heap ++ os)[i]? = w.heap[i]?
    rw [Array.getElem?_append_left hi]⟩

theorem holds_zero0 (w : World) (T : TypeId) (nd : Nat) (hs : nd ≤ 24) : Holds (fun (b : UInt8) => Value.int .u8 (b.toNat : Int)) (w.alloc (.cells zeros24 T)) w.heap.size 0 (Array.replicate nd (0 : UInt8)) := fun j hj => by
  have hj' : j < nd := by simpa using hj
  refine ⟨?_, World.frozen?_alloc_new _ _ _ _⟩
  rw [World.cell?_alloc_new, zeros24_at _ (by omega), getElem!_pos _ j hj]
  simp
theorem fin_new (w : World) (o : Obj) (dk : Array UInt8) (k : Nat) : ∃ os, (putRow (fun (b : UInt8) => Value.int .u8 (b.toNat : Int)) (w.alloc o) w.heap.size 0 dk).drewN k = grow (w.drewN k) os := by
  rw [alloc_eq_grow]
  obtain ⟨os', _, e⟩ := putRow_grow_new (fun (b : UInt8) => Value.int .u8 (b.toNat : Int)) w #[o] w.heap.size 0 dk (Nat.le_refl _)
  exact ⟨os', by rw [e]; rfl⟩

end LM
end Go.Proofs.YtpoojlnndgoeoaaGreatDoor

namespace Go.Proofs.YtpoojlnndgoeoaaGreatDoor
open Go.RowKit Go.Shelf
attribute [local go_sem] Oper.semAt_some
namespace LM
attribute [local go_sem] round_fn wide_fn

theorem tab_below {P : Program} {w w' : World} {name : String} {k : IntKind} {zs : List Int} (h : Lib.TabIs P w name k zs) (hb : Below w.heap.size w w') : Lib.TabIs P w' name k zs := by
  unfold Lib.TabIs World.var? at *
  cases hg : P.globalNamed name with
  | none => simp [hg] at h
  | some g =>
    simp only [hg, Option.bind_some] at h ⊢
    rcases Nat.lt_or_ge g w.heap.size with hl | hl
    · rw [hb.block g hl]; exact h
    · rw [Array.getElem?_eq_none hl] at h; simp at h

theorem builderAt_kept {T e : TypeId} {B b : Nat} {p : Value} {bs : List Value} {W W' : World} {row : Option Nat} (h : Lib.BuilderAtF T e B b p bs W) (hg : W.grownBy W' row) (hr : ∀ r, row = some r → ∃ o : Obj, W.heap[r]? = some o ∧ o.isCells = false) : Lib.BuilderAtF T e B b p bs W' := by
  obtain ⟨hB, v, hv, hown, hne⟩ := h
  refine ⟨hB, v, heap_kept hv hg hr, hown.kept hg ?_, hne⟩
  rcases hown.2 with ⟨rfl, _⟩ | ⟨g, cap, cur, fz, rfl, _, hgc, _⟩
  · exact .inl rfl
  · refine .inr fun e2 => ?_
    obtain ⟨o, ho, hc⟩ := hr g e2.symm
    rw [hgc] at ho; injection ho with ho; subst ho; cases hc
theorem builder_kept {T e : TypeId} {B b : Nat} {bs : List Value} {W W' : World} {row : Option Nat} (h : Lib.IsBuilderF T e B b bs W) (hg : W.grownBy W' row) (hr : ∀ r, row = some r → ∃ o : Obj, W.heap[r]? = some o ∧ o.isCells = false) : Lib.IsBuilderF T e B b bs W' :=
  h.elim (fun x => .inl (builderAt_kept x hg hr)) (fun x => .inr (builderAt_kept x hg hr))

theorem builder_below {T e : TypeId} {B b : Nat} {bs : List Value} {W W' : World} (h : Lib.IsBuilderF T e B b bs W) (hb : Below W.heap.size W W') : Lib.IsBuilderF T e B b bs W' :=
  builder_kept (row := none) h ⟨hb.os, hb.tape, hb.output, hb.size, fun k hk _ => hb.block k hk⟩ (fun r e => by cases e)

theorem keeps8_below {B : Nat} {W W' : World} (h : Below W.heap.size W W') : Keeps8 B W W' := ⟨h.size, fun k _ _ hk _ => (h.block k (Array.getElem?_eq_some_iff.1 hk).1).trans hk⟩
theorem keeps8_others {B b : Nat} {W W' : World} (h : Lib.OthersKept 5 (some b) W W') (hs : W.heap.size ≤ W'.heap.size) (hb : b < B) : Keeps8 B W W' :=
  ⟨hs, fun k o hB hk ho => h k o hk (fun e => by injection e with e; omega) (fun c fz e => by subst e; cases ho)⟩

/-- what Text answers -/
def TextE (n : Nat) (e : Ending) : Prop := ∃ l : List UInt8, e = .returned (.string ⟨l.toArray⟩) ∧ ((BIG n ∧ l = []) ∨ (¬ BIG n ∧ l = Lib.decDigits n))

end LM
end Go.Proofs.YtpoojlnndgoeoaaGreatDoor

namespace Go.Proofs.YtpoojlnndgoeoaaGreatDoor
open Go Go.Shelf Go.RowKit Go.Sort Go.Lib
namespace LM
set_option linter.unusedVariables false

/-- the library's powers of ten as floating numbers -/
def f64Rows : List Nat := [4607182418800017408, 4621819117588971520, 4636737291354636288, 4652007308841189376, 4666723172467343360, 4681608360884174848, 4696837146684686336, 4711630319722168320, 4726483295884279808, 4741671816366391296, 4756540486875873280, 4771362005757984768, 4786511204640096256, 4801453603149578240, 4816244402031689728, 4831355200913801216, 4846369599423283200, 4861130398305394688, 4876203697187506176, 4891288408196988160, 4906019910204099648, 4921056587992461136, 4936209963552724370]
/-- what the package variables hold -/
structure FV (w : World) : Prop where
  pow : PTab w
  tab : Lib.TabIs Tryz.prog w "internal/strconv.uint64pow10" .u64 Lib.pow10Tab
  info : w.cell? ⟨6, 0, none⟩ = some (.int .u64 52)
  opt : w.cell? ⟨3, 0, none⟩ = some (.bool true)
  f64 : ∃ b n c, w.cell? ⟨10, 0, none⟩ = some (.slice (some ⟨b, n, none⟩) 23 c) ∧ b < w.heap.size ∧ ∀ j x, f64Rows[j]? = some x → w.cell? ⟨b, n + j, none⟩ = some (.float .f64 x)
  size : 6 < w.heap.size ∧ 3 < w.heap.size ∧ 10 < w.heap.size ∧ 11 < w.heap.size

theorem FV.below {w w' : World} (h : FV w) (hb : Below w.heap.size w w') : FV w' := by
  have hc : ∀ g i v, g < w.heap.size → w.cell? ⟨g, i, none⟩ = some v → w'.cell? ⟨g, i, none⟩ = some v := fun g i v hg hv =>
    (World.cell?_of_block (a := ⟨g, i, none⟩) (hb.block g hg)).trans hv
  obtain ⟨b, n, c, h1, h2, h3⟩ := h.f64
  refine ⟨fun i x hx => ⟨hc _ _ _ h.size.2.2.2 (h.pow i x hx).1, hc _ _ _ h.size.2.2.2 (h.pow i x hx).2⟩, tab_below h.tab hb, hc _ _ _ h.size.1 h.info, hc _ _ _ h.size.2.1 h.opt,
    ⟨b, n, c, hc _ _ _ h.size.2.2.1 h1, Nat.lt_of_lt_of_le h2 hb.size, fun j x hx => hc _ _ _ h2 (h3 j x hx)⟩, ?_⟩
  have := hb.size
  obtain ⟨a1, a2, a3, a4⟩ := h.size
  exact ⟨by omega, by omega, by omega, by omega⟩
theorem FV.drewN {w : World} (h : FV w) (n : Nat) : FV (w.drewN n) := h.below (below_drewN (Below.refl _ w) n)

set_option maxRecDepth 100000 in
set_option maxHeartbeats 2000000 in
theorem atof_15 (s : ByteArray) (w : World) (h : s.data.toList = [45, 49, 46, 53, 101, 50]) (hv : FV w) :
    Calls Tryz.prog 133 #[.string s] w fun e w' => e = .returned (.tuple #[.float .f64 13862853709232340992, .int .i64 6, .nilIface]) ∧ ∃ k, w' = w.drewN k := by
  have S1 := Lib.hid fun W => special_15 s W h
  have R1 := Lib.hid fun W => read_15 s W h
  have B1 := Lib.hid (bool2_u64 true)
  have o1 : ∀ k, (w.drewN k).cell? ⟨3, 0, none⟩ = some (.bool true) := fun k => hv.opt
  have EX : Hid (∀ k, Calls Tryz.prog 174 #[.int .u64 15, .int .i64 1, .bool true] (w.drewN k) fun e w' => e = .returned (.tuple #[.float .f64 13862853709232340992, .bool true]) ∧ ∃ k2, w' = (w.drewN k).drewN k2) := Lib.hid fun k => by
    obtain ⟨b, n, c, h1, h2, h3⟩ := hv.f64
    exact exact_15 (w.drewN k) hv.info b n c h1 (h3 1 _ rfl)
  clear h hv
  go_enter Tryz.func133, Tryz.ntmps133
  go_wp2_with (fail)
  refine (S1.out _).mono ?_
  rintro e w' ⟨rfl, rfl⟩
  go_wp2_with (fail)
  refine (R1.out _).mono ?_
  rintro e w1 ⟨rfl, k, rfl⟩
  have o2 := o1 k
  go_wp2_with (fail)
  refine (B1.out _).mono ?_
  rintro e w1 ⟨rfl, rfl⟩
  go_wp2_with (fail)
  refine (EX.out k).mono ?_
  rintro e w1 ⟨rfl, k2, rfl⟩
  go_wp2_with (fail)
  go_returns
  exact ⟨rfl, _, rfl⟩

set_option maxRecDepth 100000 in
set_option maxHeartbeats 2000000 in
theorem parsePrefix_15 (s : ByteArray) (w : World) (h : s.data.toList = [45, 49, 46, 53, 101, 50]) (hv : FV w) :
    Calls Tryz.prog 104 #[.string s, .int .i64 64] w fun e w' => e = .returned (.tuple #[.float .f64 13862853709232340992, .int .i64 6, .nilIface]) ∧ ∃ k, w' = w.drewN k := by
  have HA := Lib.hid (atof_15 s w h hv)
  clear h hv
  go_enter Tryz.func104, Tryz.ntmps104
  go_wp2_with (fail)
  refine HA.out.mono ?_
  rintro e w' ⟨rfl, k, rfl⟩
  go_wp2
  go_returns
  exact ⟨rfl, k, rfl⟩
set_option maxRecDepth 100000 in
set_option maxHeartbeats 2000000 in
theorem iparse_15 (s : ByteArray) (w : World) (h : s.data.toList = [45, 49, 46, 53, 101, 50]) (hv : FV w) :
    Calls Tryz.prog 72 #[.string s, .int .i64 64] w fun e w' => e = .returned (.tuple #[.float .f64 13862853709232340992, .nilIface]) ∧ ∃ k, w' = w.drewN k := by
  have HA := Lib.hid (parsePrefix_15 s w h hv)
  have hz : s.size = 6 := by rw [Lib.size_eq, h]; rfl
  clear h hv
  go_enter Tryz.func72, Tryz.ntmps72
  go_wp2_with (fail)
  refine HA.out.mono ?_
  rintro e w' ⟨rfl, k, rfl⟩
  go_wp2
  go_returns
  exact ⟨rfl, k, rfl⟩
set_option maxRecDepth 100000 in
set_option maxHeartbeats 2000000 in
theorem parse_15 (s : ByteArray) (w : World) (h : s.data.toList = [45, 49, 46, 53, 101, 50]) (hv : FV w) :
    Calls Tryz.prog 38 #[.string s, .int .i64 64] w fun e w' => e = .returned (.tuple #[.float .f64 13862853709232340992, .nilIface]) ∧ ∃ k, w' = w.drewN k := by
  have HA := Lib.hid (iparse_15 s w h hv)
  clear h hv
  go_enter Tryz.func38, Tryz.ntmps38
  go_wp2_with (fail)
  refine HA.out.mono ?_
  rintro e w' ⟨rfl, k, rfl⟩
  go_wp2
  go_returns
  exact ⟨rfl, k, rfl⟩

end LM
end Go.Proofs.YtpoojlnndgoeoaaGreatDoor

namespace Go.Proofs.YtpoojlnndgoeoaaGreatDoor
open Go.RowKit
namespace LM

/-- what a division answers -/
def DivE (w : World) (x y : Nat) (e : Ending) (w' : World) : Prop :=
  ∃ (q r : Value) (er : Int), e = .returned (.tuple #[q, r, .int .i64 er]) ∧ Below w.heap.size w w' ∧
    (((BIG x ∨ BIG y) ∧ q = .slice none 0 0 ∧ r = .slice none 0 0 ∧ er = 11) ∨
     (¬ BIG x ∧ ¬ BIG y ∧ y = 0 ∧ q = .slice none 0 0 ∧ r = .slice none 0 0 ∧ er = 12) ∨
     (¬ BIG x ∧ ¬ BIG y ∧ 0 < y ∧ er = 0 ∧ NumV w' q (x / y) ∧ NumV w' r (x % y)))

theorem numV_nil (w : World) : NumV w (.slice none 0 0) 0 := ⟨none, 0, [], rfl, Nat.le_refl _, by decide, Rd.nil, can_nil, rfl⟩

end LM
end Go.Proofs.YtpoojlnndgoeoaaGreatDoor
