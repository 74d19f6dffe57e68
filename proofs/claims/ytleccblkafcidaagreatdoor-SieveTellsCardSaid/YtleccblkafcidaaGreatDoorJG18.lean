/- Joined texts: Contracts of the library, laid over this dump's numbers.; package sieve: the comparers of the sorts; package sieve: sortBy at ints; package sieve: sortBy at Falls; one word, one rest; the reference's Alike at any two lists; package sieve: restsOf. -/
import Derived.Shelf.SlSortCmp.WholeK
import Derived.Shelf.Small.Bits
import Derived.Shelf.Small.Wraps
import Derived.Shelf.Strconv.Atoi
import Derived.Shelf.Strconv.Itoa0
import Derived.Shelf.Strconv.Itoa1
import Derived.Shelf.LaysM
import Derived.Shelf.Strconv.Itoa2
import Derived.Shelf.Strconv.Itoa3
import Derived.Shelf.Strconv.Itoa4
import Derived.Shelf.Strconv.AtoiErrFast
import Derived.Shelf.Strconv.ParseIntEmpty
import Derived.Shelf.Strconv.AtoiFail
import Derived.Shelf.Strconv.Clone
import Derived.Shelf.Strconv.SyntaxError
import Derived.Shelf.LaysC
import Derived.Shelf.Strconv.ToError
import Derived.Shelf.Strconv.Lower
import Derived.Shelf.Strconv.ParseUint10
import Derived.Shelf.Strconv.ParseUint10Empty
import Derived.Shelf.Strconv.ParseUint10Any
import Derived.Shelf.Strconv.ParseInt10
import Derived.Shelf.Strconv.AtoiLong
import Derived.Shelf.Strconv.AtoiInnerAll
import Derived.Shelf.Strconv.RangeError
import Derived.Shelf.Strconv.ToErrorRange
import Derived.Shelf.Strconv.AtoiAll
import Derived.Shelf.Strconv.ParseUintEmpty
import Derived.Shelf.Strconv.ParseUint10b64
import Derived.Shelf.Strconv.ParseUint10b32
import Derived.Shelf.Strconv.ParseUint10b16
import Derived.Shelf.Strconv.ParseUint10b8
import Derived.Shelf.Strconv.ParseUint10At
import Derived.Shelf.Strconv.ParseInt10At64
import Derived.Shelf.Strconv.ParseInt10At32
import Derived.Shelf.Strconv.ParseInt10At16
import Derived.Shelf.Strconv.ParseInt10At8
import Derived.Shelf.Strconv.ParseInt10All
import Derived.Shelf.Strconv.ParseIntPublic10
import Derived.Shelf.Strconv.AppendUint10
import Derived.Shelf.Strconv.AppendInt10
import Derived.Shelf.Strings.Prefix
import Derived.Ground.Names2Prog
import Derived.Shelf.Slices.SearchI
import Derived.Ground.SlsfProg
import Derived.Shelf.SlSortCmp.Insertion
import Derived.Shelf.SlSortCmp.SiftDown1
import Derived.Shelf.SlSortCmp.HeapSort1
import Derived.Shelf.SlSortCmp.Insertion1
import Derived.Shelf.SlSortCmp.Median1
import Derived.Shelf.SlSortCmp.Pivot1
import Derived.Shelf.SlSortCmp.ReverseRange1
import Derived.Shelf.SlSortCmp.PartialInsertion1
import Derived.Shelf.SlSortCmp.PartitionEqual1
import Derived.Shelf.SlSortCmp.Partition1
import Derived.Shelf.SlSortCmp.Pdq1
import Derived.Shelf.SlSortCmp.Whole1
import Derived.Shelf.SlSortCmp.NoneTotal
import Derived.Test.YtleccblkafcidaaGreatDoorProg
import Derived.Test.YtleccblkafcidaaGreatDoorJG17
import Derived.Test.YtleccblkafcidaaGreatDoorJG15
set_option linter.unusedSimpArgs false
set_option linter.unusedVariables false
/- Contracts of the library, laid over this dump's numbers. -/
namespace Go.Proofs.YtleccblkafcidaaGreatDoor.ShelfC
open Go.Shelf Go.Proofs
def l_lays122_ren : Go.Shelf.Ren := ⟨fun | 122 => 112 | 215 => 140 | n => n, fun | 3 => 3 | 4 => 4 | n => n, fun | n => n⟩
theorem l_lays122 : Go.Proofs.Lays.n122 Tryz.prog l_lays122_ren := {
  mixed := by kernel_rfl
  f122 := Tryz.func112.trans (congrArg some (by kernel_rfl))
  f215 := Tryz.func140.trans (congrArg some (by kernel_rfl))
  t3 := Tryz.underlying3
  a3 := Tryz.isAgg3
  z3 := Tryz.sizeOf3
  v3 := Tryz.zeroValue3
  t4 := Tryz.underlying4
  a4 := Tryz.isAgg4
  z4 := Tryz.sizeOf4
  v4 := Tryz.zeroValue4 }
open Go.RowKit in
theorem l_cmp_Compare_int (x y : Int) (w : World) :
    Calls Tryz.prog 112 #[.int .i64 x, .int .i64 y] w fun e w' => e = .returned (.int .i64 (Lib.compareInt x y)) ∧ w' = w := Any.cmp_Compare_int l_lays122 x y w
def l_laysSlF06_f113_ren : Go.Shelf.Ren := ⟨fun | 6 => 113 | 15 => 134 | 14 => 141 | 28 => 174 | 29 => 175 | 20 => 185 | 21 => 186 | 22 => 187 | 23 => 188 | 24 => 189 | 25 => 190 | 26 => 191 | 27 => 192 | 46 => 221 | 47 => 210 | 48 => 211 | 49 => 222 | 50 => 223 | 57 => 237 | n => n, fun | 22 => 22 | 24 => 3 | 25 => 90 | 3 => 3 | 39 => 182 | 0 => 0 | 53 => 222 | 55 => 160 | 4 => 4 | 46 => 215 | 45 => 214 | 50 => 219 | 5 => 5 | 9 => 9 | 66 => 247 | 70 => 251 | 76 => 264 | 77 => 265 | n => n, fun | n => n⟩
theorem l_laysSlF06_f113 : Go.Proofs.SlLaysF0.n6 Tryz.prog l_laysSlF06_f113_ren := {
  mixed := by kernel_rfl
  f6 := ⟨Tryz.f113.name, by decide, Tryz.func113.trans (congrArg some (by kernel_rfl))⟩
  f14 := ⟨Tryz.f141.name, by decide, Tryz.func141.trans (congrArg some (by kernel_rfl))⟩
  f15 := Tryz.func134.trans (congrArg some (by kernel_rfl))
  f20 := ⟨Tryz.f185.name, by decide, Tryz.func185.trans (congrArg some (by kernel_rfl))⟩
  f21 := ⟨Tryz.f186.name, by decide, Tryz.func186.trans (congrArg some (by kernel_rfl))⟩
  f22 := ⟨Tryz.f187.name, by decide, Tryz.func187.trans (congrArg some (by kernel_rfl))⟩
  f23 := ⟨Tryz.f188.name, by decide, Tryz.func188.trans (congrArg some (by kernel_rfl))⟩
  f24 := ⟨Tryz.f189.name, by decide, Tryz.func189.trans (congrArg some (by kernel_rfl))⟩
  f25 := ⟨Tryz.f190.name, by decide, Tryz.func190.trans (congrArg some (by kernel_rfl))⟩
  f26 := ⟨Tryz.f191.name, by decide, Tryz.func191.trans (congrArg some (by kernel_rfl))⟩
  f27 := ⟨Tryz.f192.name, by decide, Tryz.func192.trans (congrArg some (by kernel_rfl))⟩
  f28 := Tryz.func174.trans (congrArg some (by kernel_rfl))
  f29 := Tryz.func175.trans (congrArg some (by kernel_rfl))
  f46 := ⟨Tryz.f221.name, by decide, Tryz.func221.trans (congrArg some (by kernel_rfl))⟩
  f47 := Tryz.func210.trans (congrArg some (by kernel_rfl))
  f48 := Tryz.func211.trans (congrArg some (by kernel_rfl))
  f49 := ⟨Tryz.f222.name, by decide, Tryz.func222.trans (congrArg some (by kernel_rfl))⟩
  f50 := ⟨Tryz.f223.name, by decide, Tryz.func223.trans (congrArg some (by kernel_rfl))⟩
  f57 := ⟨Tryz.f237.name, by decide, Tryz.func237.trans (congrArg some (by kernel_rfl))⟩
  t0 := Tryz.underlying0
  a0 := Tryz.isAgg0
  z0 := Tryz.sizeOf0
  v0 := Tryz.zeroValue0
  t3 := Tryz.underlying3
  a3 := Tryz.isAgg3
  z3 := Tryz.sizeOf3
  v3 := Tryz.zeroValue3
  t4 := Tryz.underlying4
  a4 := Tryz.isAgg4
  z4 := Tryz.sizeOf4
  v4 := Tryz.zeroValue4
  t5 := Tryz.underlying5
  a5 := Tryz.isAgg5
  z5 := Tryz.sizeOf5
  v5 := Tryz.zeroValue5
  t9 := Tryz.underlying9
  a9 := Tryz.isAgg9
  z9 := Tryz.sizeOf9
  v9 := Tryz.zeroValue9
  t22 := Tryz.underlying22
  a22 := Tryz.isAgg22
  z22 := Tryz.sizeOf22
  v22 := Tryz.zeroValue22
  t25 := Tryz.underlying90
  a25 := Tryz.isAgg90
  z25 := Tryz.sizeOf90
  v25 := Tryz.zeroValue90
  t39 := Tryz.underlying182
  a39 := Tryz.isAgg182
  z39 := Tryz.sizeOf182
  v39 := Tryz.zeroValue182
  t45 := Tryz.underlying214
  a45 := Tryz.isAgg214
  z45 := Tryz.sizeOf214
  v45 := Tryz.zeroValue214
  t46 := Tryz.underlying215
  a46 := Tryz.isAgg215
  z46 := Tryz.sizeOf215
  v46 := Tryz.zeroValue215
  t50 := Tryz.underlying219
  a50 := Tryz.isAgg219
  z50 := Tryz.sizeOf219
  v50 := Tryz.zeroValue219
  t53 := Tryz.underlying222
  a53 := Tryz.isAgg222
  z53 := Tryz.sizeOf222
  v53 := Tryz.zeroValue222
  t55 := Tryz.underlying160
  a55 := Tryz.isAgg160
  z55 := Tryz.sizeOf160
  v55 := Tryz.zeroValue160
  t66 := Tryz.underlying247
  a66 := Tryz.isAgg247
  z66 := Tryz.sizeOf247
  v66 := Tryz.zeroValue247
  t70 := Tryz.underlying251
  a70 := Tryz.isAgg251
  z70 := Tryz.sizeOf251
  v70 := Tryz.zeroValue251
  t76 := Tryz.underlying264
  a76 := Tryz.isAgg264
  z76 := Tryz.sizeOf264
  v76 := Tryz.zeroValue264
  t77 := Tryz.underlying265
  a77 := Tryz.isAgg265
  z77 := Tryz.sizeOf265
  v77 := Tryz.zeroValue265 }
open Go.RowKit Go.Lib Go.Sort in
theorem l_slices_SortFunc_none {α : Type} [Inhabited α] (p : Option Addr) (cap : Nat) (fv : Value) (w : World) :
    Calls Tryz.prog 113 #[.slice p 0 cap, fv] w fun e w' => e = .returned (.tuple #[]) ∧ w' = w := AnyF.slices_SortFunc_none l_laysSlF06_f113 p cap fv w
def l_laysSlF6_f113_ren : Go.Shelf.Ren := ⟨fun | 6 => 113 | 15 => 134 | 14 => 141 | 28 => 174 | 29 => 175 | 20 => 185 | 21 => 186 | 22 => 187 | 23 => 188 | 24 => 189 | 25 => 190 | 26 => 191 | 27 => 192 | 46 => 221 | 47 => 210 | 48 => 211 | 49 => 222 | 50 => 223 | 57 => 237 | n => n, fun | 22 => 22 | 24 => 3 | 25 => 90 | 3 => 3 | 39 => 182 | 0 => 0 | 53 => 222 | 55 => 160 | 4 => 4 | 46 => 215 | 45 => 214 | 50 => 219 | 5 => 5 | 9 => 9 | 66 => 247 | 70 => 251 | 76 => 264 | 77 => 265 | n => n, fun | n => n⟩
theorem l_laysSlF6_f113 : Go.Proofs.SlLaysF.n6 Tryz.prog l_laysSlF6_f113_ren := {
  mixed := by kernel_rfl
  f6 := ⟨Tryz.f113.name, by decide, Tryz.func113.trans (congrArg some (by kernel_rfl))⟩
  f14 := ⟨Tryz.f141.name, by decide, Tryz.func141.trans (congrArg some (by kernel_rfl))⟩
  f15 := Tryz.func134.trans (congrArg some (by kernel_rfl))
  f20 := ⟨Tryz.f185.name, by decide, Tryz.func185.trans (congrArg some (by kernel_rfl))⟩
  f21 := ⟨Tryz.f186.name, by decide, Tryz.func186.trans (congrArg some (by kernel_rfl))⟩
  f22 := ⟨Tryz.f187.name, by decide, Tryz.func187.trans (congrArg some (by kernel_rfl))⟩
  f23 := ⟨Tryz.f188.name, by decide, Tryz.func188.trans (congrArg some (by kernel_rfl))⟩
  f24 := ⟨Tryz.f189.name, by decide, Tryz.func189.trans (congrArg some (by kernel_rfl))⟩
  f25 := ⟨Tryz.f190.name, by decide, Tryz.func190.trans (congrArg some (by kernel_rfl))⟩
  f26 := ⟨Tryz.f191.name, by decide, Tryz.func191.trans (congrArg some (by kernel_rfl))⟩
  f27 := ⟨Tryz.f192.name, by decide, Tryz.func192.trans (congrArg some (by kernel_rfl))⟩
  f28 := Tryz.func174.trans (congrArg some (by kernel_rfl))
  f29 := Tryz.func175.trans (congrArg some (by kernel_rfl))
  f46 := ⟨Tryz.f221.name, by decide, Tryz.func221.trans (congrArg some (by kernel_rfl))⟩
  f47 := Tryz.func210.trans (congrArg some (by kernel_rfl))
  f48 := Tryz.func211.trans (congrArg some (by kernel_rfl))
  f49 := ⟨Tryz.f222.name, by decide, Tryz.func222.trans (congrArg some (by kernel_rfl))⟩
  f50 := ⟨Tryz.f223.name, by decide, Tryz.func223.trans (congrArg some (by kernel_rfl))⟩
  f57 := ⟨Tryz.f237.name, by decide, Tryz.func237.trans (congrArg some (by kernel_rfl))⟩
  t0 := Tryz.underlying0
  a0 := Tryz.isAgg0
  z0 := Tryz.sizeOf0
  v0 := Tryz.zeroValue0
  t3 := Tryz.underlying3
  a3 := Tryz.isAgg3
  z3 := Tryz.sizeOf3
  v3 := Tryz.zeroValue3
  t4 := Tryz.underlying4
  a4 := Tryz.isAgg4
  z4 := Tryz.sizeOf4
  v4 := Tryz.zeroValue4
  t5 := Tryz.underlying5
  a5 := Tryz.isAgg5
  z5 := Tryz.sizeOf5
  v5 := Tryz.zeroValue5
  t9 := Tryz.underlying9
  a9 := Tryz.isAgg9
  z9 := Tryz.sizeOf9
  v9 := Tryz.zeroValue9
  t22 := Tryz.underlying22
  a22 := Tryz.isAgg22
  z22 := Tryz.sizeOf22
  v22 := Tryz.zeroValue22
  a24 := Tryz.isAgg3
  z24 := Tryz.sizeOf3
  t25 := Tryz.underlying90
  a25 := Tryz.isAgg90
  z25 := Tryz.sizeOf90
  v25 := Tryz.zeroValue90
  t39 := Tryz.underlying182
  a39 := Tryz.isAgg182
  z39 := Tryz.sizeOf182
  v39 := Tryz.zeroValue182
  t45 := Tryz.underlying214
  a45 := Tryz.isAgg214
  z45 := Tryz.sizeOf214
  v45 := Tryz.zeroValue214
  t46 := Tryz.underlying215
  a46 := Tryz.isAgg215
  z46 := Tryz.sizeOf215
  v46 := Tryz.zeroValue215
  t50 := Tryz.underlying219
  a50 := Tryz.isAgg219
  z50 := Tryz.sizeOf219
  v50 := Tryz.zeroValue219
  t53 := Tryz.underlying222
  a53 := Tryz.isAgg222
  z53 := Tryz.sizeOf222
  v53 := Tryz.zeroValue222
  t55 := Tryz.underlying160
  a55 := Tryz.isAgg160
  z55 := Tryz.sizeOf160
  v55 := Tryz.zeroValue160
  t66 := Tryz.underlying247
  a66 := Tryz.isAgg247
  z66 := Tryz.sizeOf247
  v66 := Tryz.zeroValue247
  t70 := Tryz.underlying251
  a70 := Tryz.isAgg251
  z70 := Tryz.sizeOf251
  v70 := Tryz.zeroValue251
  t76 := Tryz.underlying264
  a76 := Tryz.isAgg264
  z76 := Tryz.sizeOf264
  v76 := Tryz.zeroValue264
  t77 := Tryz.underlying265
  a77 := Tryz.isAgg265
  z77 := Tryz.sizeOf265
  v77 := Tryz.zeroValue265 }
open Go.RowKit Go.Lib Go.Sort in
theorem l_slices_SortFunc_total {α : Type} [Inhabited α] (enc : α → Value) (h1 : OneCell enc) (cf : α → α → Int) (hO : SWO (ltOf cf)) (g : Nat) (cb : Array Value) (blk off cap : Nat) (d : Array α) (w : World) (eg : ∀ args w, (callFunc g args).run Tryz.prog w = .ok (.enter g args) w) (hcmp : CmpLays1 Tryz.prog g cb enc cf blk off d.size w) (hH : Holds enc w blk off d) (hblk : blk < w.heap.size) (hsz : d.size < 4611686018427387904) (hT : ∀ x y, (ltOf cf) x y = false → (ltOf cf) y x = false → x = y) :
    Calls Tryz.prog 113 #[.slice (some ⟨blk, off, none⟩) d.size cap, .func (.func g) #[] cb] w fun e w' =>
      e = .returned (.tuple #[]) ∧ ∃ n os, w' = sortWorld enc w blk off n (d.toList.mergeSort fun x y => !(ltOf cf) y x).toArray os := Any.slices_SortFunc_total l_laysSlF6_f113 enc h1 cf hO g cb blk off cap d w eg hcmp hH hblk hsz hT
def l_laysFall_ren : Go.Shelf.Ren := ⟨fun | 6 => 110 | 15 => 134 | 14 => 139 | 28 => 174 | 29 => 175 | 20 => 177 | 21 => 178 | 22 => 179 | 23 => 180 | 24 => 181 | 25 => 182 | 26 => 183 | 27 => 184 | 46 => 218 | 47 => 210 | 48 => 211 | 49 => 219 | 50 => 220 | 57 => 236 | n => n, fun | 22 => 26 | 24 => 40 | 25 => 150 | 3 => 3 | 39 => 182 | 0 => 0 | 53 => 222 | 55 => 160 | 4 => 4 | 46 => 215 | 45 => 214 | 50 => 219 | 5 => 5 | 9 => 9 | 66 => 247 | 70 => 251 | 76 => 264 | 77 => 265 | n => n, fun | n => n⟩
theorem l_laysFall : Go.Proofs.SlLaysF0.n6 Tryz.prog l_laysFall_ren := {
  mixed := by kernel_rfl
  f6 := ⟨Tryz.f110.name, by decide, Tryz.func110.trans (congrArg some (by kernel_rfl))⟩
  f14 := ⟨Tryz.f139.name, by decide, Tryz.func139.trans (congrArg some (by kernel_rfl))⟩
  f15 := Tryz.func134.trans (congrArg some (by kernel_rfl))
  f20 := ⟨Tryz.f177.name, by decide, Tryz.func177.trans (congrArg some (by kernel_rfl))⟩
  f21 := ⟨Tryz.f178.name, by decide, Tryz.func178.trans (congrArg some (by kernel_rfl))⟩
  f22 := ⟨Tryz.f179.name, by decide, Tryz.func179.trans (congrArg some (by kernel_rfl))⟩
  f23 := ⟨Tryz.f180.name, by decide, Tryz.func180.trans (congrArg some (by kernel_rfl))⟩
  f24 := ⟨Tryz.f181.name, by decide, Tryz.func181.trans (congrArg some (by kernel_rfl))⟩
  f25 := ⟨Tryz.f182.name, by decide, Tryz.func182.trans (congrArg some (by kernel_rfl))⟩
  f26 := ⟨Tryz.f183.name, by decide, Tryz.func183.trans (congrArg some (by kernel_rfl))⟩
  f27 := ⟨Tryz.f184.name, by decide, Tryz.func184.trans (congrArg some (by kernel_rfl))⟩
  f28 := Tryz.func174.trans (congrArg some (by kernel_rfl))
  f29 := Tryz.func175.trans (congrArg some (by kernel_rfl))
  f46 := ⟨Tryz.f218.name, by decide, Tryz.func218.trans (congrArg some (by kernel_rfl))⟩
  f47 := Tryz.func210.trans (congrArg some (by kernel_rfl))
  f48 := Tryz.func211.trans (congrArg some (by kernel_rfl))
  f49 := ⟨Tryz.f219.name, by decide, Tryz.func219.trans (congrArg some (by kernel_rfl))⟩
  f50 := ⟨Tryz.f220.name, by decide, Tryz.func220.trans (congrArg some (by kernel_rfl))⟩
  f57 := ⟨Tryz.f236.name, by decide, Tryz.func236.trans (congrArg some (by kernel_rfl))⟩
  t0 := Tryz.underlying0
  a0 := Tryz.isAgg0
  z0 := Tryz.sizeOf0
  v0 := Tryz.zeroValue0
  t3 := Tryz.underlying3
  a3 := Tryz.isAgg3
  z3 := Tryz.sizeOf3
  v3 := Tryz.zeroValue3
  t4 := Tryz.underlying4
  a4 := Tryz.isAgg4
  z4 := Tryz.sizeOf4
  v4 := Tryz.zeroValue4
  t5 := Tryz.underlying5
  a5 := Tryz.isAgg5
  z5 := Tryz.sizeOf5
  v5 := Tryz.zeroValue5
  t9 := Tryz.underlying9
  a9 := Tryz.isAgg9
  z9 := Tryz.sizeOf9
  v9 := Tryz.zeroValue9
  t22 := Tryz.underlying26
  a22 := Tryz.isAgg26
  z22 := Tryz.sizeOf26
  v22 := Tryz.zeroValue26
  t25 := Tryz.underlying150
  a25 := Tryz.isAgg150
  z25 := Tryz.sizeOf150
  v25 := Tryz.zeroValue150
  t39 := Tryz.underlying182
  a39 := Tryz.isAgg182
  z39 := Tryz.sizeOf182
  v39 := Tryz.zeroValue182
  t45 := Tryz.underlying214
  a45 := Tryz.isAgg214
  z45 := Tryz.sizeOf214
  v45 := Tryz.zeroValue214
  t46 := Tryz.underlying215
  a46 := Tryz.isAgg215
  z46 := Tryz.sizeOf215
  v46 := Tryz.zeroValue215
  t50 := Tryz.underlying219
  a50 := Tryz.isAgg219
  z50 := Tryz.sizeOf219
  v50 := Tryz.zeroValue219
  t53 := Tryz.underlying222
  a53 := Tryz.isAgg222
  z53 := Tryz.sizeOf222
  v53 := Tryz.zeroValue222
  t55 := Tryz.underlying160
  a55 := Tryz.isAgg160
  z55 := Tryz.sizeOf160
  v55 := Tryz.zeroValue160
  t66 := Tryz.underlying247
  a66 := Tryz.isAgg247
  z66 := Tryz.sizeOf247
  v66 := Tryz.zeroValue247
  t70 := Tryz.underlying251
  a70 := Tryz.isAgg251
  z70 := Tryz.sizeOf251
  v70 := Tryz.zeroValue251
  t76 := Tryz.underlying264
  a76 := Tryz.isAgg264
  z76 := Tryz.sizeOf264
  v76 := Tryz.zeroValue264
  t77 := Tryz.underlying265
  a77 := Tryz.isAgg265
  z77 := Tryz.sizeOf265
  v77 := Tryz.zeroValue265 }
open Go.RowKit Go.Lib Go.Sort in
theorem l_sortFall_none {α : Type} [Inhabited α] (p : Option Addr) (cap : Nat) (fv : Value) (w : World) :
    Calls Tryz.prog 110 #[.slice p 0 cap, fv] w fun e w' => e = .returned (.tuple #[]) ∧ w' = w := AnyF.slices_SortFunc_none l_laysFall p cap fv w
open Go.RowKit Go.Lib Go.Sort in
theorem l_sortFall_total {α : Type} [Inhabited α] (k : Nat) (aE : ∀ w, (isAgg 40).run Tryz.prog w = .ok true w) (zE : ∀ w, (Go.sizeOf 40).run Tryz.prog w = .ok k w) (enc : α → List Value) (hk : ∀ x, (enc x).length = k) (h1 : ∀ x, ∀ v ∈ enc x, v.oneCell' = true) (cf : α → α → Int) (hO : SWO (ltOf cf)) (g : Nat) (cb : Array Value) (blk off cap : Nat) (d : Array α) (w : World)
    (eg : ∀ args w, (callFunc g args).run Tryz.prog w = .ok (.enter g args) w) (hcmp : CmpLays Tryz.prog g cb enc k cf blk off d.size w) (hH : HoldsK enc k w blk off d) (hblk : blk < w.heap.size) (hsz : d.size < 4611686018427387904) (hT : ∀ x y, (ltOf cf) x y = false → (ltOf cf) y x = false → x = y) :
    Calls Tryz.prog 110 #[.slice (some ⟨blk, off, none⟩) d.size cap, .func (.func g) #[] cb] w fun e w' =>
      e = .returned (.tuple #[]) ∧ ∃ n os, w' = sortWorldK enc k w blk off n (d.toList.mergeSort fun x y => !(ltOf cf) y x).toArray os := AnyQ.slices_SortFunc_total l_laysFall k aE zE enc hk h1 cf hO g cb blk off cap d w eg hcmp hH hblk hsz hT
end Go.Proofs.YtleccblkafcidaaGreatDoor.ShelfC
/- package sieve: the comparers of the sorts -/
namespace Go.Proofs.YtleccblkafcidaaGreatDoor
open Go.RowKit Go.Sort
/-- a world with draws and new blocks behind it: nothing else -/
def Grw (w w' : World) : Prop := ∃ (q : Nat) (os : Array Obj), w' = grow (w.drewN q) os
theorem Grw.rfl' (w : World) : Grw w w := ⟨0, #[], by rw [grow_empty]; rfl⟩
theorem Grw.drewN {w w1 : World} (h : Grw w w1) (n : Nat) : Grw w (w1.drewN n) := by
  obtain ⟨q, os, rfl⟩ := h
  exact ⟨q + n, os, by rw [← World.drewN_drewN]; rfl⟩
theorem Grw.drew {w w1 : World} (h : Grw w w1) : Grw w w1.drew := h.drewN 1
theorem Grw.alloc {w w1 : World} (h : Grw w w1) (o : Obj) : Grw w (w1.alloc o) := by
  obtain ⟨q, os, rfl⟩ := h
  exact ⟨q, os ++ #[o], by rw [alloc_eq_grow, grow_grow]⟩
theorem Grw.trans {a b c : World} (h : Grw a b) (k : Grw b c) : Grw a c := by
  obtain ⟨q, os, rfl⟩ := h
  obtain ⟨q2, os2, rfl⟩ := k
  refine ⟨q + q2, os ++ os2, ?_⟩
  rw [← grow_grow, ← World.drewN_drewN]
  rfl
theorem Grw.ext {w w' : World} (h : Grw w w') : Ext w w' := by
  obtain ⟨q, os, rfl⟩ := h
  exact ⟨rfl, rfl, rfl, by rw [size_grow]; exact Nat.le_add_right _ _, fun k hk => heap_grow_old (w.drewN q) os hk⟩
theorem cmp_same (x : Int) : Lib.compareInt x x = 0 := by unfold Lib.compareInt; rw [if_neg (by omega), if_neg (by omega)]
theorem cmp_ne {x y : Int} (h : ¬ x = y) : ¬ Lib.compareInt x y = 0 := by
  unfold Lib.compareInt
  split
  · omega
  · split <;> omega
theorem cmp_c (x y : Int) (w : World) {c : Int} (hc : Hid (Lib.compareInt x y = c)) : Calls Tryz.prog 112 #[.int .i64 x, .int .i64 y] w (fun e w' => e = .returned (.int .i64 c) ∧ w' = w) := by
  rw [← hc.out]; exact ShelfC.l_cmp_Compare_int x y w
theorem cmp_g (x y : Int) (w : World) {c : Int} (hc : Hid (Lib.compareInt x y = c)) : Calls Tryz.prog 112 #[.int .i64 x, .int .i64 y] w (fun e w' => e = .returned (.int .i64 c) ∧ Grw w w') :=
  (cmp_c x y w hc).mono fun e w' h => ⟨h.1, by rw [h.2]; exact Grw.rfl' _⟩
theorem key_stepsG (s r : Int) (su sa sd sb : ByteArray) (w : World) : Calls Tryz.prog 71 #[.agg #[.int .i64 s, .int .i64 r, .string su, .string sa, .string sd, .string sb]] w (fun e w' => e = .returned (.int .i64 s) ∧ Grw w w') :=
  (key_steps s r su sa sd sb w).mono fun e w' h => ⟨h.1, by rw [h.2]; exact (Grw.rfl' _).alloc _⟩
theorem key_restG (s r : Int) (su sa sd sb : ByteArray) (w : World) : Calls Tryz.prog 72 #[.agg #[.int .i64 s, .int .i64 r, .string su, .string sa, .string sd, .string sb]] w (fun e w' => e = .returned (.int .i64 r) ∧ Grw w w') :=
  (key_rest s r su sa sd sb w).mono fun e w' h => ⟨h.1, by rw [h.2]; exact (Grw.rfl' _).alloc _⟩
/-- by steps, then by rest -/
def cmpSR (s1 r1 s2 r2 : Int) : Int := if s1 = s2 then Lib.compareInt r1 r2 else Lib.compareInt s1 s2
set_option maxRecDepth 100000 in
set_option maxHeartbeats 6400000 in
theorem cmpFall_any (s1 r1 s2 r2 : Int) (su1 sa1 sd1 sb1 su2 sa2 sd2 sb2 : ByteArray) (HB HK : Nat) (W : World) (hb : W.cell? ⟨HB, 0, none⟩ = some (.slice (some ⟨HK, 0, none⟩) 2 2)) (h0 : W.cell? ⟨HK, 0, none⟩ = some (.func (.func 71) #[] #[])) (h1 : W.cell? ⟨HK, 1, none⟩ = some (.func (.func 72) #[] #[])) (lb : HB < W.heap.size) (lk : HK < W.heap.size) :
    Calls Tryz.prog 111 #[FaV s1 r1 su1 sa1 sd1 sb1, FaV s2 r2 su2 sa2 sd2 sb2, .pointer (some ⟨HB, 0, none⟩)] W (fun e w' => e = .returned (.int .i64 (cmpSR s1 r1 s2 r2)) ∧ Grw W w') := by
  have hg : Grw W ((W.alloc (.cells #[.int .i64 s1, .int .i64 r1, .string su1, .string sa1, .string sd1, .string sb1] 40)).alloc (.cells #[.int .i64 s2, .int .i64 r2, .string su2, .string sa2, .string sd2, .string sb2] 40)) := ((Grw.rfl' W).alloc _).alloc _
  have q1 : Row ((W.alloc (.cells #[.int .i64 s1, .int .i64 r1, .string su1, .string sa1, .string sd1, .string sb1] 40)).alloc (.cells #[.int .i64 s2, .int .i64 r2, .string su2, .string sa2, .string sd2, .string sb2] 40)) W.heap.size 40 [.int .i64 s1, .int .i64 r1, .string su1, .string sa1, .string sd1, .string sb1] := (Row.new W _ _).alloc _
  have q2 : Row ((W.alloc (.cells #[.int .i64 s1, .int .i64 r1, .string su1, .string sa1, .string sd1, .string sb1] 40)).alloc (.cells #[.int .i64 s2, .int .i64 r2, .string su2, .string sa2, .string sd2, .string sb2] 40)) (W.heap.size + 1) 40 [.int .i64 s2, .int .i64 r2, .string su2, .string sa2, .string sd2, .string sb2] := by
    have := Row.new (W.alloc (.cells #[.int .i64 s1, .int .i64 r1, .string su1, .string sa1, .string sd1, .string sb1] 40)) 40 [.int .i64 s2, .int .i64 r2, .string su2, .string sa2, .string sd2, .string sb2]
    rwa [World.size_alloc] at this
  have hcb : ((W.alloc (.cells #[.int .i64 s1, .int .i64 r1, .string su1, .string sa1, .string sd1, .string sb1] 40)).alloc (.cells #[.int .i64 s2, .int .i64 r2, .string su2, .string sa2, .string sd2, .string sb2] 40)).cell? ⟨HB, 0, none⟩ = some (.slice (some ⟨HK, 0, none⟩) 2 2) := by rw [hg.ext.cell lb, hb]
  have hc0 : ((W.alloc (.cells #[.int .i64 s1, .int .i64 r1, .string su1, .string sa1, .string sd1, .string sb1] 40)).alloc (.cells #[.int .i64 s2, .int .i64 r2, .string su2, .string sa2, .string sd2, .string sb2] 40)).cell? ⟨HK, 0, none⟩ = some (.func (.func 71) #[] #[]) := by rw [hg.ext.cell lk, h0]
  have hc1 : ((W.alloc (.cells #[.int .i64 s1, .int .i64 r1, .string su1, .string sa1, .string sd1, .string sb1] 40)).alloc (.cells #[.int .i64 s2, .int .i64 r2, .string su2, .string sa2, .string sd2, .string sb2] 40)).cell? ⟨HK, 1, none⟩ = some (.func (.func 72) #[] #[]) := by rw [hg.ext.cell lk, h1]
  have hlb : HB < ((W.alloc (.cells #[.int .i64 s1, .int .i64 r1, .string su1, .string sa1, .string sd1, .string sb1] 40)).alloc (.cells #[.int .i64 s2, .int .i64 r2, .string su2, .string sa2, .string sd2, .string sb2] 40)).heap.size := Nat.lt_of_lt_of_le lb hg.ext.size
  have hlk : HK < ((W.alloc (.cells #[.int .i64 s1, .int .i64 r1, .string su1, .string sa1, .string sd1, .string sb1] 40)).alloc (.cells #[.int .i64 s2, .int .i64 r2, .string su2, .string sa2, .string sd2, .string sb2] 40)).heap.size := Nat.lt_of_lt_of_le lk hg.ext.size
  unfold FaV
  obtain ⟨w2, hw2⟩ : ∃ w2, ((W.alloc (.cells #[.int .i64 s1, .int .i64 r1, .string su1, .string sa1, .string sd1, .string sb1] 40)).alloc (.cells #[.int .i64 s2, .int .i64 r2, .string su2, .string sa2, .string sd2, .string sb2] 40)) = w2 := ⟨_, rfl⟩
  rw [hw2] at hg q1 q2 hcb hc0 hc1 hlb hlk
  have HW2 := hid hw2
  have W0 := hid hg
  have RA := hid q1
  have RB := hid q2
  have HSC : Hid (∀ W', Grw w2 W' → W'.cell? ⟨HB, 0, none⟩ = some (.slice (some ⟨HK, 0, none⟩) 2 2) ∧ W'.cell? ⟨HK, 0, none⟩ = some (.func (.func 71) #[] #[]) ∧ W'.cell? ⟨HK, 1, none⟩ = some (.func (.func 72) #[] #[])) := hid (fun W' e => ⟨by rw [e.ext.cell hlb, hcb], by rw [e.ext.cell hlk, hc0], by rw [e.ext.cell hlk, hc1]⟩)
  clear hw2 hg q1 q2 hb h0 h1 lb lk hc0 hc1 hlb hlk
  go_enter Tryz.func111, Tryz.ntmps111
  go_upto_region 1 with fail
  rw [HW2.out]
  go_wp2_with fail
  go_loopw [11] (fun iz wr => ∃ j : Nat, j ≤ 2 ∧ iz = .int .i64 (j : Int) ∧ Hid ((1 ≤ j → s1 = s2) ∧ (2 ≤ j → r1 = r2)) ∧ Grw w2 wr) (fun iz _ => 2 - (intOf iz).toNat)
  case atStart => exact ⟨0, by omega, rfl, hid ⟨fun h => absurd h (by omega), fun h => absurd h (by omega)⟩, Grw.rfl' _⟩
  case round =>
    clear hcb
    obtain ⟨j, hj, rfl, HJ, hx⟩ := hrel
    have EX := hid hx
    obtain ⟨k0, k1, k2⟩ := HSC.out _ hx
    have HS : Hid (∀ W', Grw wr W' → W'.cell? ⟨W.heap.size, 0, none⟩ = some (.int .i64 s1) ∧ W'.cell? ⟨W.heap.size, 1, none⟩ = some (.int .i64 r1) ∧ W'.cell? ⟨W.heap.size, 2, none⟩ = some (.string su1) ∧ W'.cell? ⟨W.heap.size, 3, none⟩ = some (.string sa1) ∧ W'.cell? ⟨W.heap.size, 4, none⟩ = some (.string sd1) ∧ W'.cell? ⟨W.heap.size, 5, none⟩ = some (.string sb1) ∧ W'.cell? ⟨W.heap.size + 1, 0, none⟩ = some (.int .i64 s2) ∧ W'.cell? ⟨W.heap.size + 1, 1, none⟩ = some (.int .i64 r2) ∧ W'.cell? ⟨W.heap.size + 1, 2, none⟩ = some (.string su2) ∧ W'.cell? ⟨W.heap.size + 1, 3, none⟩ = some (.string sa2) ∧ W'.cell? ⟨W.heap.size + 1, 4, none⟩ = some (.string sd2) ∧ W'.cell? ⟨W.heap.size + 1, 5, none⟩ = some (.string sb2)) := hid (by
      intro W' e
      obtain ⟨⟨a0, a1, a2, a3, a4, a5⟩, -⟩ := row_facts6 (RA.out.ext (EX.out.trans e).ext)
      obtain ⟨⟨b0, b1, b2, b3, b4, b5⟩, -⟩ := row_facts6 (RB.out.ext (EX.out.trans e).ext)
      exact ⟨a0, a1, a2, a3, a4, a5, b0, b1, b2, b3, b4, b5⟩)
    clear hx
    match j, hj, HJ with
    | 0, hj, HJ =>
      -- key 0
      obtain ⟨c, hc⟩ : ∃ c, Lib.compareInt s1 s2 = c := ⟨_, rfl⟩
      have HC := hid hc
      have hcur : Grw wr wr := Grw.rfl' _
      clear hc
      go_upto_region 4 with fail
      go_cut [8] (fun sx wx => sx = .int .i64 c ∧ Grw wr wx)
      case first =>
        go_region_held3 (fun W' => W'.cell? ⟨W.heap.size, 0, none⟩ = some (.int .i64 s1) ∧ W'.cell? ⟨W.heap.size, 1, none⟩ = some (.int .i64 r1) ∧ W'.cell? ⟨W.heap.size, 2, none⟩ = some (.string su1) ∧ W'.cell? ⟨W.heap.size, 3, none⟩ = some (.string sa1) ∧ W'.cell? ⟨W.heap.size, 4, none⟩ = some (.string sd1) ∧ W'.cell? ⟨W.heap.size, 5, none⟩ = some (.string sb1) ∧ W'.cell? ⟨W.heap.size + 1, 0, none⟩ = some (.int .i64 s2) ∧ W'.cell? ⟨W.heap.size + 1, 1, none⟩ = some (.int .i64 r2) ∧ W'.cell? ⟨W.heap.size + 1, 2, none⟩ = some (.string su2) ∧ W'.cell? ⟨W.heap.size + 1, 3, none⟩ = some (.string sa2) ∧ W'.cell? ⟨W.heap.size + 1, 4, none⟩ = some (.string sd2) ∧ W'.cell? ⟨W.heap.size + 1, 5, none⟩ = some (.string sb2))
          (first | (with_reducible exact HS.out _ hcur) | (with_reducible exact HS.out _ hcur.drew) | go_keep)
          (first
            | (go_at_call_of 71 (Value.string su1); refine (key_stepsG s1 r1 su1 sa1 sd1 sb1 _).mono ?_; rintro e w10 ⟨rfl, hx⟩; have hcur := Grw.trans hcur (by first | exact hx | exact Grw.trans ((Grw.rfl' _).drew) hx))
            | (go_at_call_of 71 (Value.string su2); refine (key_stepsG s2 r2 su2 sa2 sd2 sb2 _).mono ?_; rintro e w20 ⟨rfl, hx⟩; have hcur := Grw.trans hcur (by first | exact hx | exact Grw.trans ((Grw.rfl' _).drew) hx))
            | (go_at_call 112; refine (cmp_g s1 s2 _ HC).mono ?_; rintro e w30 ⟨rfl, hx⟩; have hcur := Grw.trans hcur (by first | exact hx | exact Grw.trans ((Grw.rfl' _).drew) hx)))
        all_goals
          go_wp2_with fail
          go_meet
          exact ⟨rfl, hcur⟩
      case rest =>
        obtain ⟨rfl, hx⟩ := hcut
        clear hcur
        have EX2 := hid (EX.out.trans hx)
        by_cases he : s1 = s2
        · obtain rfl : c = 0 := by rw [← HC.out, he]; exact cmp_same _
          go_wp2_with fail
          go_roundw
          case rel => exact ⟨1, by omega, rfl, hid ⟨fun _ => he, fun h => absurd h (by omega)⟩, EX2.out⟩
          case measure => first | (simp [intOf]; done) | (simp [intOf]; omega)
        · have q0 : ¬ c = 0 := by rw [← HC.out]; exact cmp_ne he
          have q1 : (c == 0) = false := beq_eq_false_iff_ne.2 q0
          have q2 : (c != 0) = true := by rw [bne, q1]; rfl
          have HF : Hid (.returned (.int .i64 c) = Ending.returned (.int .i64 (cmpSR s1 r1 s2 r2)) ∧ Grw W wc) := hid ⟨by rw [← HC.out]; rw [cmpSR, if_neg he], (W0.out.trans EX2.out)⟩
          go_wp2_with fail
          go_ret
          exact HF.out
    | 1, hj, HJ =>
      -- key 1
      obtain ⟨c, hc⟩ : ∃ c, Lib.compareInt r1 r2 = c := ⟨_, rfl⟩
      have HC := hid hc
      have hcur : Grw wr wr := Grw.rfl' _
      clear hc
      go_upto_region 4 with fail
      go_cut [8] (fun sx wx => sx = .int .i64 c ∧ Grw wr wx)
      case first =>
        go_region_held3 (fun W' => W'.cell? ⟨W.heap.size, 0, none⟩ = some (.int .i64 s1) ∧ W'.cell? ⟨W.heap.size, 1, none⟩ = some (.int .i64 r1) ∧ W'.cell? ⟨W.heap.size, 2, none⟩ = some (.string su1) ∧ W'.cell? ⟨W.heap.size, 3, none⟩ = some (.string sa1) ∧ W'.cell? ⟨W.heap.size, 4, none⟩ = some (.string sd1) ∧ W'.cell? ⟨W.heap.size, 5, none⟩ = some (.string sb1) ∧ W'.cell? ⟨W.heap.size + 1, 0, none⟩ = some (.int .i64 s2) ∧ W'.cell? ⟨W.heap.size + 1, 1, none⟩ = some (.int .i64 r2) ∧ W'.cell? ⟨W.heap.size + 1, 2, none⟩ = some (.string su2) ∧ W'.cell? ⟨W.heap.size + 1, 3, none⟩ = some (.string sa2) ∧ W'.cell? ⟨W.heap.size + 1, 4, none⟩ = some (.string sd2) ∧ W'.cell? ⟨W.heap.size + 1, 5, none⟩ = some (.string sb2))
          (first | (with_reducible exact HS.out _ hcur) | (with_reducible exact HS.out _ hcur.drew) | go_keep)
          (first
            | (go_at_call_of 72 (Value.string su1); refine (key_restG s1 r1 su1 sa1 sd1 sb1 _).mono ?_; rintro e w10 ⟨rfl, hx⟩; have hcur := Grw.trans hcur (by first | exact hx | exact Grw.trans ((Grw.rfl' _).drew) hx))
            | (go_at_call_of 72 (Value.string su2); refine (key_restG s2 r2 su2 sa2 sd2 sb2 _).mono ?_; rintro e w20 ⟨rfl, hx⟩; have hcur := Grw.trans hcur (by first | exact hx | exact Grw.trans ((Grw.rfl' _).drew) hx))
            | (go_at_call 112; refine (cmp_g r1 r2 _ HC).mono ?_; rintro e w30 ⟨rfl, hx⟩; have hcur := Grw.trans hcur (by first | exact hx | exact Grw.trans ((Grw.rfl' _).drew) hx)))
        all_goals
          go_wp2_with fail
          go_meet
          exact ⟨rfl, hcur⟩
      case rest =>
        obtain ⟨rfl, hx⟩ := hcut
        clear hcur
        have EX2 := hid (EX.out.trans hx)
        by_cases he : r1 = r2
        · obtain rfl : c = 0 := by rw [← HC.out, he]; exact cmp_same _
          go_wp2_with fail
          go_roundw
          case rel => exact ⟨2, by omega, rfl, hid ⟨fun _ => HJ.out.1 (by omega), fun _ => he⟩, EX2.out⟩
          case measure => first | (simp [intOf]; done) | (simp [intOf]; omega)
        · have q0 : ¬ c = 0 := by rw [← HC.out]; exact cmp_ne he
          have q1 : (c == 0) = false := beq_eq_false_iff_ne.2 q0
          have q2 : (c != 0) = true := by rw [bne, q1]; rfl
          have HF : Hid (.returned (.int .i64 c) = Ending.returned (.int .i64 (cmpSR s1 r1 s2 r2)) ∧ Grw W wc) := hid ⟨by rw [← HC.out]; rw [cmpSR, if_pos (HJ.out.1 (by omega))], (W0.out.trans EX2.out)⟩
          go_wp2_with fail
          go_ret
          exact HF.out
    | 2, hj, HJ =>
      have HF : Hid (.returned (.int .i64 0) = Ending.returned (.int .i64 (cmpSR s1 r1 s2 r2)) ∧ Grw W wr) := hid ⟨by rw [cmpSR, if_pos (HJ.out.1 (by omega)), HJ.out.2 (by omega), cmp_same], W0.out.trans EX.out⟩
      go_wp2_with fail
      go_ret
      exact HF.out
    | j + 3, hj, HJ => exact absurd hj (by omega)
set_option maxRecDepth 100000 in
set_option maxHeartbeats 3200000 in
theorem cmpInt_any (x y : Int) (HB HK : Nat) (W : World) (hb : W.cell? ⟨HB, 0, none⟩ = some (.slice (some ⟨HK, 0, none⟩) 1 1)) (h0 : W.cell? ⟨HK, 0, none⟩ = some (.func (.func 74) #[] #[])) :
    Calls Tryz.prog 114 #[.int .i64 x, .int .i64 y, .pointer (some ⟨HB, 0, none⟩)] W (fun e w' => e = .returned (.int .i64 (Lib.compareInt x y)) ∧ w' = W) := by
  obtain ⟨c, hc⟩ : ∃ c, Lib.compareInt x y = c := ⟨_, rfl⟩
  rw [hc]
  have HC := hid hc
  clear hc
  go_enter Tryz.func114, Tryz.ntmps114
  go_wp2_with fail
  go_loopw [11] (fun iz wr => ∃ j : Nat, j ≤ 1 ∧ iz = .int .i64 (j : Int) ∧ Hid (1 ≤ j → c = 0) ∧ wr = W) (fun iz _ => 1 - (intOf iz).toNat)
  case atStart => exact ⟨0, by omega, rfl, hid (fun h => absurd h (by omega)), rfl⟩
  case round =>
    obtain ⟨j, hj, rfl, HJ, rfl⟩ := hrel
    match j, hj, HJ with
    | 0, hj, HJ =>
      go_wp2_with fail
      refine (key_int x _).mono ?_
      rintro e w1 ⟨rfl, rfl⟩
      go_wp2_with fail
      refine (key_int y _).mono ?_
      rintro e w1 ⟨rfl, rfl⟩
      by_cases he : c = 0
      · subst he
        go_wp2_with fail
        refine (cmp_c x y _ HC).mono ?_
        rintro e w1 ⟨rfl, rfl⟩
        go_wp2
        go_roundw
        case rel => exact ⟨1, by omega, rfl, hid (fun _ => by trivial), by trivial⟩
        case measure => first | (simp [intOf]; done) | (simp [intOf]; omega)
      · have q1 : (c == 0) = false := beq_eq_false_iff_ne.2 he
        have q2 : (c != 0) = true := by rw [bne, q1]; rfl
        go_wp2_with fail
        refine (cmp_c x y _ HC).mono ?_
        rintro e w1 ⟨rfl, rfl⟩
        go_wp2
        go_ret
        exact ⟨rfl, rfl⟩
    | 1, hj, HJ =>
      have HF : Hid (c = 0) := hid (HJ.out (by omega))
      go_wp2_with fail
      go_ret
      exact ⟨by rw [HF.out]; rfl, rfl⟩
    | j + 2, hj, HJ => exact absurd hj (by omega)
end Go.Proofs.YtleccblkafcidaaGreatDoor
/- package sieve: sortBy at ints -/
namespace Go.Proofs.YtleccblkafcidaaGreatDoor
open Go.RowKit Go.Sort
theorem putCells_take {α : Type} [Inhabited α] (enc : α → Value) (d : Array α) (c : Array Value) (h : d.size ≤ c.size) : (putCells enc 0 d c).toList.take d.size = d.toList.map enc := by
  apply List.ext_getElem?
  intro i
  rw [List.getElem?_take]
  split
  · rename_i hi
    have h2 : i < c.size := by omega
    rw [Array.getElem?_toList, putCells, Array.getElem?_mapIdx, Array.getElem?_eq_getElem h2]
    simp only [Option.map_some]
    rw [if_pos ⟨by omega, by omega⟩, Nat.sub_zero, getElem!_pos _ i hi]
    simp [hi]
  · rename_i hi
    rw [List.getElem?_eq_none (by simp; omega)]
theorem putCells_size {α : Type} [Inhabited α] (enc : α → Value) (off : Nat) (d : Array α) (c : Array Value) : (putCells enc off d c).size = c.size := by simp [putCells]
/-- the block of the row after the sort -/
theorem sortWorld_row {α : Type} [Inhabited α] (enc : α → Value) (w : World) (g q : Nat) (d : Array α) (os : Array Obj) {cur : Array Value} {e : TypeId} {fr : Nat × Nat} (h : w.heap[g]? = some (.cells cur e fr)) : (sortWorld enc w g 0 q d os).heap[g]? = some (.cells (putCells enc 0 d cur) e fr) := by
  have hg : g < w.heap.size := by
    rcases Nat.lt_or_ge g w.heap.size with h1 | h1
    · exact h1
    · rw [Array.getElem?_eq_none h1] at h; cases h
  unfold sortWorld
  rw [heap_grow_old _ _ (by simp [putRow, mapBlock, ahead]; exact hg)]
  simp only [putRow, mapBlock, Array.getElem?_modify, if_pos]
  rw [show (Go.Sort.ahead w q).heap[g]? = some (.cells cur e fr) from h]
  rfl
theorem sortWorld_grown {α : Type} [Inhabited α] (enc : α → Value) (w : World) (g q : Nat) (d : Array α) (os : Array Obj) : w.grownBy (sortWorld enc w g 0 q d os) (some g) where
  os := rfl
  tape := rfl
  output := rfl
  size := by simp [sortWorld, putRow, mapBlock, ahead]
  block := fun k hk hne => by
    unfold sortWorld
    rw [heap_grow_old _ _ (by simp [putRow, mapBlock, ahead]; exact hk)]
    simp only [putRow, mapBlock, Array.getElem?_modify]
    rw [if_neg (fun e => hne (by rw [e]))]
    rfl
theorem own_holds {α : Type} [Inhabited α] (enc : α → Value) {w : World} {g n : Nat} {cur : Array Value} {e : TypeId} (d : Array α) (hg : w.heap[g]? = some (.cells cur e (0, 0))) (hd : d.size = n) (hc : n ≤ cur.size) (ht : cur.toList.take n = d.toList.map enc) : Holds enc w g 0 d := by
  intro j hj
  have h1 : (cur.toList.take n)[j]? = some (enc d[j]!) := by
    rw [ht, getElem!_pos _ j hj]
    simp [hj]
  rw [List.getElem?_take, if_pos (by omega), Array.getElem?_toList] at h1
  refine ⟨?_, ?_⟩
  · simp only [World.cell?, Nat.zero_add, hg]
    exact h1
  · simp [World.frozen?, hg]
/-- the order of Go's cmp.Compare -/
theorem lt_int (x y : Int) : ltOf Lib.compareInt x y = decide (x < y) := by
  unfold ltOf Lib.compareInt
  by_cases h : x < y
  · rw [if_pos h, decide_eq_true h]; rfl
  · rw [if_neg h, decide_eq_false h]
    by_cases h2 : x > y
    · rw [if_pos h2]; rfl
    · rw [if_neg h2]; rfl
theorem swo_int : SWO (ltOf Lib.compareInt) where
  irrefl := fun x => by rw [lt_int]; simp
  trans := fun x y z h1 h2 => by
    rw [lt_int] at *
    simp only [decide_eq_true_eq] at *
    omega
  ntrans := fun x y z h1 h2 => by
    rw [lt_int] at *
    simp only [decide_eq_false_iff_not] at *
    omega
theorem tot_int : ∀ x y : Int, ltOf Lib.compareInt x y = false → ltOf Lib.compareInt y x = false → x = y := by
  intro x y h1 h2
  rw [lt_int] at *
  simp only [decide_eq_false_iff_not] at *
  omega
def encInt (x : Int) : Value := .int .i64 x
/-- the ints in order -/
def srtI (xs : List Int) : List Int := xs.mergeSort fun x y => !(ltOf Lib.compareInt) y x
set_option maxRecDepth 100000 in
set_option maxHeartbeats 3200000 in
theorem sortInts_any (v : Value) (n : Nat) (xs : List Int) (base HK : Nat) (w : World) (hown : w.ownsRow base 3 1 v n (Is xs)) (hk : w.cell? ⟨HK, 0, none⟩ = some (.func (.func 74) #[] #[])) (lk : HK < w.heap.size) (hne : ∀ g, v.ownBlock = some g → HK ≠ g) (hn : n < 4611686018427387904) :
    Calls Tryz.prog 73 #[v, .slice (some ⟨HK, 0, none⟩) 1 1] w (fun e w' => e = .returned (.tuple #[]) ∧ w'.ownsRow base 3 1 v n (Is (srtI xs)) ∧ w.grownBy w' v.ownBlock) := by
  obtain ⟨w1, hw1⟩ : ∃ w1, w.alloc (.cells #[.slice (some ⟨HK, 0, none⟩) 1 1] 151) = w1 := ⟨_, rfl⟩
  have hx : Ext w w1 := by rw [← hw1]; exact (Ext.rfl' w).alloc' _
  have hr : Row w1 w.heap.size 151 [.slice (some ⟨HK, 0, none⟩) 1 1] := by rw [← hw1]; exact Row.new w _ _
  have hk1 : w1.cell? ⟨HK, 0, none⟩ = some (.func (.func 74) #[] #[]) := by rw [hx.cell lk, hk]
  have hsz : w1.heap.size = w.heap.size + 1 := by rw [← hw1]; simp
  have hbx : w1.cell? ⟨w.heap.size, 0, none⟩ = some (.slice (some ⟨HK, 0, none⟩) 1 1) := hr.cell 0
  have HW := hid hw1
  obtain ⟨hl, h⟩ := hown
  have hlx : xs.length = n := by simpa using hl
  rcases h with ⟨rfl, rfl⟩ | ⟨g, cap, cur, rfl, hb, hg, hnc, hcm, hcs, hct⟩
  · have hxs : xs = [] := List.eq_nil_of_length_eq_zero hlx
    have HF : Hid (w1.ownsRow base 3 1 (.slice none 0 0) 0 (Is (srtI xs)) ∧ w.grownBy w1 (Value.ownBlock (.slice none 0 0))) := hid ⟨by rw [hxs, show Is (srtI []) = [] by simp [srtI]]; exact World.ownsRow_nil _ _ _ _, ⟨hx.os, hx.tape, hx.output, hx.size, fun k hk _ => hx.block k hk⟩⟩
    clear hl hx hr hk1 hk hbx hlx hxs hne hw1
    go_enter Tryz.func73, Tryz.ntmps73
    go_upto_region 1 with fail
    rw [HW.out]
    go_wp2_with fail
    refine (ShelfC.l_slices_SortFunc_none (α := Int) none 0 _ w1).mono ?_
    rintro e w' ⟨rfl, rfl⟩
    go_wp2
    go_end0
    exact ⟨rfl, HF.out⟩
  · have hgw : g < w.heap.size := by
      rcases Nat.lt_or_ge g w.heap.size with h1 | h1
      · exact h1
      · rw [Array.getElem?_eq_none h1] at hg; cases hg
    have hg1 : w1.heap[g]? = some (.cells cur 3 (0, 0)) := by rw [hx.block g hgw, hg]
    have hH : Holds encInt w1 g 0 xs.toArray := own_holds encInt xs.toArray hg1 (by simpa using hlx) (by omega) (show cur.toList.take n = Is xs by simpa using hct)
    have hcmp : CmpLays1 Tryz.prog 114 #[.pointer (some ⟨w.heap.size, 0, none⟩)] encInt Lib.compareInt g 0 xs.toArray.size w1 := by
      intro m os dk hs x y
      have hother : ∀ b, b < w1.heap.size → b ≠ g → (sortWorld encInt w1 g 0 m dk os).heap[b]? = w1.heap[b]? := fun b h1 h2 => (sortWorld_grown encInt w1 g m dk os).block b h1 (fun e => h2 (by cases e; rfl))
      refine (cmpInt_any x y w.heap.size HK _ ?_ ?_).mono ?_
      · rw [World.cell?_of_block (hother _ (by show w.heap.size < _; omega) (by show w.heap.size ≠ g; omega)), hbx]
      · rw [World.cell?_of_block (hother _ (by show HK < _; omega) (by show HK ≠ g; exact hne g rfl)), hk1]
      · rintro e w' ⟨rfl, rfl⟩
        exact ⟨rfl, 0, #[], by rw [grow_empty]; rfl⟩
    have hcon := ShelfC.l_slices_SortFunc_total encInt (fun x => rfl) Lib.compareInt swo_int 114 #[.pointer (some ⟨w.heap.size, 0, none⟩)] g 0 cap xs.toArray w1 (enters_of Tryz.func114 (by kernel_rfl) rfl) hcmp hH (by omega) (by simpa using (by omega : xs.length < 4611686018427387904)) tot_int
    have hsn : xs.toArray.size = n := by simpa using hlx
    rw [hsn] at hcon
    have HF : Hid (∀ (q : Nat) (os : Array Obj), (sortWorld encInt w1 g 0 q (srtI xs).toArray os).ownsRow base 3 1 (.slice (some ⟨g, 0, none⟩) n cap) n (Is (srtI xs)) ∧ w.grownBy (sortWorld encInt w1 g 0 q (srtI xs).toArray os) (some g)) := hid (by
      intro q os
      have hln : (srtI xs).toArray.size = n := by simp [srtI, hlx]
      refine ⟨⟨by simp [srtI, hlx], .inr ⟨g, cap, _, rfl, hb, sortWorld_row encInt w1 g q _ os hg1, hnc, hcm, by rw [putCells_size, hcs], ?_⟩⟩, ?_⟩
      · have := putCells_take encInt (srtI xs).toArray cur (by rw [hln]; omega)
        rw [hln] at this
        rw [Nat.mul_one, this]
        exact rfl
      · have h1 := sortWorld_grown encInt w1 g q (srtI xs).toArray os
        exact ⟨h1.os.trans hx.os, h1.tape.trans hx.tape, h1.output.trans hx.output, Nat.le_trans hx.size h1.size, fun k hk hne => (h1.block k (by omega) hne).trans (hx.block k hk)⟩)
    have HC := hid hcon
    clear hl hx hr hk1 hk hbx hlx hne hw1 hH hcmp hcon hg1 hg hct hcs hcm
    go_enter Tryz.func73, Tryz.ntmps73
    go_upto_region 1 with fail
    rw [HW.out]
    go_wp2_with fail
    refine HC.out.mono ?_
    rintro e w' ⟨rfl, q, os, rfl⟩
    go_wp2
    go_end0
    exact ⟨rfl, HF.out q os⟩
end Go.Proofs.YtleccblkafcidaaGreatDoor
/- package sieve: sortBy at Falls -/
namespace Go.Proofs.YtleccblkafcidaaGreatDoor
open Go.RowKit Go.Sort
theorem flat_at {α : Type} [Inhabited α] (enc : α → List Value) {k : Nat} (hk : 0 < k) (hl : ∀ x, (enc x).length = k) : ∀ (xs : List α) (i : Nat), (xs.flatMap enc)[i]? = if i < xs.length * k then some ((enc xs[i / k]!)[i % k]!) else none
  | [], i => by simp
  | x :: xs, i => by
    rw [List.flatMap_cons, List.getElem?_append, hl]
    by_cases h : i < k
    · rw [if_pos h, if_pos (by rw [List.length_cons, Nat.succ_mul]; omega), Nat.div_eq_of_lt h, Nat.mod_eq_of_lt h]
      have h2 : i < (enc x).length := by rw [hl]; exact h
      rw [List.getElem?_eq_getElem h2, getElem!_pos (x :: xs) 0 (by simp), List.getElem_cons_zero, getElem!_pos (enc x) i h2]
    · rw [if_neg h, flat_at enc hk hl xs (i - k)]
      obtain ⟨j, rfl⟩ : ∃ j, i = j + k := ⟨i - k, by omega⟩
      rw [Nat.add_sub_cancel, Nat.add_div_right _ hk, Nat.add_mod_right, List.length_cons, Nat.succ_mul]
      by_cases h3 : j < xs.length * k
      · rw [if_pos h3, if_pos (by omega)]
        have h4 : j / k < xs.length := (Nat.div_lt_iff_lt_mul hk).2 h3
        rw [getElem!_pos xs _ h4, getElem!_pos (x :: xs) _ (by simp; omega), List.getElem_cons_succ]
      · rw [if_neg h3, if_neg (by omega)]
theorem flatK_list {α : Type} [Inhabited α] (enc : α → List Value) {k : Nat} (hk : 0 < k) (hl : ∀ x, (enc x).length = k) (xs : List α) : (flatK enc k xs.toArray).toList = xs.flatMap enc := by
  apply List.ext_getElem?
  intro i
  rw [flat_at enc hk hl]
  by_cases h : i < xs.length * k
  · rw [if_pos h]
    simp [flatK, h]
  · rw [if_neg h, List.getElem?_eq_none (by simp [flatK]; omega)]
/-- the six cells of a fall by its steps and its rest; its texts hang on these -/
def encF (f : Int × Int → ByteArray × ByteArray × ByteArray × ByteArray) (p : Int × Int) : List Value := [.int .i64 p.1, .int .i64 p.2, .string (f p).1, .string (f p).2.1, .string (f p).2.2.1, .string (f p).2.2.2]
/-- by steps, then by rest -/
def cmpP (p q : Int × Int) : Int := cmpSR p.1 p.2 q.1 q.2
theorem lt_P (p q : Int × Int) : ltOf cmpP p q = decide (p.1 < q.1 ∨ p.1 = q.1 ∧ p.2 < q.2) := by
  have h1 := lt_int p.1 q.1
  have h2 := lt_int p.2 q.2
  unfold ltOf at *
  unfold cmpP cmpSR
  by_cases h : p.1 = q.1
  · rw [if_pos h, h2]
    exact decide_eq_decide.2 ⟨fun k => .inr ⟨h, k⟩, fun k => by rcases k with k | k; omega; exact k.2⟩
  · rw [if_neg h, h1]
    exact decide_eq_decide.2 ⟨fun k => .inl k, fun k => by rcases k with k | k; exact k; exact absurd k.1 h⟩
theorem swo_P : SWO (ltOf cmpP) where
  irrefl := fun x => by rw [lt_P]; simp
  trans := fun x y z h1 h2 => by
    rw [lt_P] at *
    simp only [decide_eq_true_eq] at *
    omega
  ntrans := fun x y z h1 h2 => by
    rw [lt_P] at *
    simp only [decide_eq_false_iff_not] at *
    omega
theorem tot_P : ∀ x y : Int × Int, ltOf cmpP x y = false → ltOf cmpP y x = false → x = y := by
  intro x y h1 h2
  rw [lt_P] at *
  simp only [decide_eq_false_iff_not] at *
  exact Prod.ext (by omega) (by omega)
/-- the falls in order -/
def srtF (ps : List (Int × Int)) : List (Int × Int) := ps.mergeSort fun x y => !(ltOf cmpP) y x
set_option maxRecDepth 100000 in
set_option maxHeartbeats 3200000 in
theorem sortFalls_any (f : Int × Int → ByteArray × ByteArray × ByteArray × ByteArray) (v : Value) (n : Nat) (ps : List (Int × Int)) (base HK : Nat) (w : World) (hown : w.ownsRow base 40 6 v n (ps.flatMap (encF f))) (hk : w.cell? ⟨HK, 0, none⟩ = some (.func (.func 71) #[] #[])) (hkk : w.cell? ⟨HK, 1, none⟩ = some (.func (.func 72) #[] #[])) (lk : HK < w.heap.size) (hne : ∀ g, v.ownBlock = some g → HK ≠ g) (hn : n < 4611686018427387904) :
    Calls Tryz.prog 70 #[v, .slice (some ⟨HK, 0, none⟩) 2 2] w (fun e w' => e = .returned (.tuple #[]) ∧ w'.ownsRow base 40 6 v n ((srtF ps).flatMap (encF f)) ∧ w.grownBy w' v.ownBlock) := by
  have hlen : ∀ x, (encF f x).length = 6 := fun x => rfl
  obtain ⟨w1, hw1⟩ : ∃ w1, w.alloc (.cells #[.slice (some ⟨HK, 0, none⟩) 2 2] 148) = w1 := ⟨_, rfl⟩
  have hx : Ext w w1 := by rw [← hw1]; exact (Ext.rfl' w).alloc' _
  have hr : Row w1 w.heap.size 148 [.slice (some ⟨HK, 0, none⟩) 2 2] := by rw [← hw1]; exact Row.new w _ _
  have hk1 : w1.cell? ⟨HK, 0, none⟩ = some (.func (.func 71) #[] #[]) := by rw [hx.cell lk, hk]
  have hk2 : w1.cell? ⟨HK, 1, none⟩ = some (.func (.func 72) #[] #[]) := by rw [hx.cell lk, hkk]
  have hsz : w1.heap.size = w.heap.size + 1 := by rw [← hw1]; simp
  have hbx : w1.cell? ⟨w.heap.size, 0, none⟩ = some (.slice (some ⟨HK, 0, none⟩) 2 2) := hr.cell 0
  have HW := hid hw1
  obtain ⟨hl, h⟩ := hown
  have hfl : ∀ qs : List (Int × Int), (qs.flatMap (encF f)).length = qs.length * 6 := fun qs => by
    induction qs with
    | nil => rfl
    | cons q r ih => rw [List.flatMap_cons, List.length_append, ih, hlen, List.length_cons]; omega
  have hlx : ps.length = n := by rw [hfl] at hl; omega
  rcases h with ⟨rfl, rfl⟩ | ⟨g, cap, cur, rfl, hb, hg, hnc, hcm, hcs, hct⟩
  · have hxs : ps = [] := List.eq_nil_of_length_eq_zero hlx
    have HF : Hid (w1.ownsRow base 40 6 (.slice none 0 0) 0 ((srtF ps).flatMap (encF f)) ∧ w.grownBy w1 (Value.ownBlock (.slice none 0 0))) := hid ⟨by rw [hxs, show (srtF []).flatMap (encF f) = [] by simp [srtF]]; exact World.ownsRow_nil _ _ _ _, ⟨hx.os, hx.tape, hx.output, hx.size, fun k hk _ => hx.block k hk⟩⟩
    clear hl hx hr hk1 hk2 hk hkk hbx hlx hxs hne hw1
    go_enter Tryz.func70, Tryz.ntmps70
    go_upto_region 1 with fail
    rw [HW.out]
    go_wp2_with fail
    refine (ShelfC.l_sortFall_none (α := Int) none 0 _ w1).mono ?_
    rintro e w' ⟨rfl, rfl⟩
    go_wp2
    go_end0
    exact ⟨rfl, HF.out⟩
  · have hgw : g < w.heap.size := by
      rcases Nat.lt_or_ge g w.heap.size with h1 | h1
      · exact h1
      · rw [Array.getElem?_eq_none h1] at hg; cases hg
    have hg1 : w1.heap[g]? = some (.cells cur 40 (0, 0)) := by rw [hx.block g hgw, hg]
    have hfs : ∀ qs : List (Int × Int), (flatK (encF f) 6 qs.toArray).size = qs.length * 6 := fun qs => by simp [flatK]
    have hH : HoldsK (encF f) 6 w1 g 0 ps.toArray := own_holds id (flatK (encF f) 6 ps.toArray) (n := n * 6) hg1 (by rw [hfs, hlx]) (by omega) (by rw [hct, flatK_list (encF f) (by omega) hlen, List.map_id])
    have hcmp : CmpLays Tryz.prog 111 #[.pointer (some ⟨w.heap.size, 0, none⟩)] (encF f) 6 cmpP g 0 ps.toArray.size w1 := by
      intro m os dk hs x y
      have hother : ∀ b, b < w1.heap.size → b ≠ g → (sortWorldK (encF f) 6 w1 g 0 m dk os).heap[b]? = w1.heap[b]? := fun b h1 h2 => (sortWorld_grown id w1 g m (flatK (encF f) 6 dk) os).block b h1 (fun e => h2 (by cases e; rfl))
      have hsz2 : w1.heap.size ≤ (sortWorldK (encF f) 6 w1 g 0 m dk os).heap.size := (sortWorld_grown id w1 g m (flatK (encF f) 6 dk) os).size
      refine (cmpFall_any x.1 x.2 y.1 y.2 (f x).1 (f x).2.1 (f x).2.2.1 (f x).2.2.2 (f y).1 (f y).2.1 (f y).2.2.1 (f y).2.2.2 w.heap.size HK _ ?_ ?_ ?_ (by omega) (by omega)).mono ?_
      · rw [World.cell?_of_block (hother _ (by show w.heap.size < _; omega) (by show w.heap.size ≠ g; omega)), hbx]
      · rw [World.cell?_of_block (hother _ (by show HK < _; omega) (by show HK ≠ g; exact hne g rfl)), hk1]
      · rw [World.cell?_of_block (hother _ (by show HK < _; omega) (by show HK ≠ g; exact hne g rfl)), hk2]
      · rintro e w' ⟨rfl, hq⟩
        exact ⟨rfl, hq⟩
    have hcon := ShelfC.l_sortFall_total 6 Tryz.isAgg40 Tryz.sizeOf40 (encF f) hlen (fun x v hv => by simp [encF] at hv; rcases hv with rfl | rfl | rfl | rfl | rfl | rfl <;> rfl) cmpP swo_P 111 #[.pointer (some ⟨w.heap.size, 0, none⟩)] g 0 cap ps.toArray w1 (enters_of Tryz.func111 (by kernel_rfl) rfl) hcmp hH (by omega) (by simpa using (by omega : ps.length < 4611686018427387904)) tot_P
    have hsn : ps.toArray.size = n := by simpa using hlx
    rw [hsn] at hcon
    have HF : Hid (∀ (q : Nat) (os : Array Obj), (sortWorldK (encF f) 6 w1 g 0 q (srtF ps).toArray os).ownsRow base 40 6 (.slice (some ⟨g, 0, none⟩) n cap) n ((srtF ps).flatMap (encF f)) ∧ w.grownBy (sortWorldK (encF f) 6 w1 g 0 q (srtF ps).toArray os) (some g)) := hid (by
      intro q os
      have hln : (srtF ps).length = n := by simp [srtF, hlx]
      refine ⟨⟨by rw [hfl, hln], .inr ⟨g, cap, _, rfl, hb, sortWorld_row id w1 g q (flatK (encF f) 6 (srtF ps).toArray) os hg1, hnc, hcm, by rw [putCells_size, hcs], ?_⟩⟩, ?_⟩
      · have := putCells_take id (flatK (encF f) 6 (srtF ps).toArray) cur (by rw [hfs, hln]; omega)
        rw [hfs, hln, flatK_list (encF f) (by omega) hlen, List.map_id] at this
        exact this
      · have h1 := sortWorld_grown id w1 g q (flatK (encF f) 6 (srtF ps).toArray) os
        exact ⟨h1.os.trans hx.os, h1.tape.trans hx.tape, h1.output.trans hx.output, Nat.le_trans hx.size h1.size, fun k hk hne => (h1.block k (by omega) hne).trans (hx.block k hk)⟩)
    have HC := hid hcon
    clear hl hx hr hk1 hk2 hk hkk hbx hlx hne hw1 hH hcmp hcon hg1 hg hct hcs hcm
    go_enter Tryz.func70, Tryz.ntmps70
    go_upto_region 1 with fail
    rw [HW.out]
    go_wp2_with fail
    refine HC.out.mono ?_
    rintro e w' ⟨rfl, q, os, rfl⟩
    go_wp2
    go_end0
    exact ⟨rfl, HF.out q os⟩
end Go.Proofs.YtleccblkafcidaaGreatDoor
/- one word, one rest; the reference's Alike at any two lists -/
namespace Go.Proofs.YtleccblkafcidaaGreatDoor
open Go.RowKit
theorem dvd_of_cop {m D a : Int} (hc : Nat.gcd a.natAbs m.natAbs = 1) (h : (D * a) % m = 0) : ∃ E, D = E * m := by
  have h1 : m ∣ D * a := Int.dvd_of_emod_eq_zero h
  have h2 : m.natAbs ∣ D.natAbs * a.natAbs := by rw [← Int.natAbs_mul]; exact Int.natAbs_dvd_natAbs.2 h1
  have h3 : m.natAbs ∣ D.natAbs := Nat.Coprime.dvd_of_dvd_mul_right (by unfold Nat.Coprime; rw [Nat.gcd_comm]; exact hc) h2
  obtain ⟨E, hE⟩ := Int.natAbs_dvd_natAbs.1 h3
  exact ⟨E, by rw [hE, Int.mul_comm]⟩
theorem add_emod_zero {o d m : Int} (h : (o + d) % m = o % m) : d % m = 0 := by
  have h2 : (o + d - o) % m = 0 := by
    rw [Int.sub_emod, h, Int.sub_self]; rfl
  rwa [show o + d - o = d by omega] at h2
/-- two numbers of one word -/
theorem word_diff {m : Int} {us ad : List Int} (hM : mapP m us ad) (hR : regB m us = true) (k : Nat) : ∀ (ws : List Int), ws.length = k → (∀ r ∈ ws, 0 ≤ r ∧ r < m) → ∀ x y, IsWord m us ad ws x → IsWord m us ad ws y → ∃ D, y = x + D * m ^ k := by
  have hm : 0 < m := by have := hM.1; omega
  induction k with
  | zero => intro ws _ _ x y _ _; exact ⟨y - x, by rw [Int.pow_zero]; omega⟩
  | succ k ih =>
    intro ws hl hw x y hx hy
    rcases List.eq_nil_or_concat ws with rfl | ⟨p, r, rfl⟩
    · simp at hl
    · rw [List.concat_eq_append] at *
      have hp : p.length = k := by simpa using hl
      have pre : ∀ z, IsWord m us ad (p ++ [r]) z → IsWord m us ad p z := fun z hz i hi => by
        have := hz i (by simp; omega)
        rwa [List.getD_eq_getElem?_getD, List.getElem?_append_left hi, ← List.getD_eq_getElem?_getD] at this
      have lst : ∀ z, IsWord m us ad (p ++ [r]) z → orbN m us ad k z % m = r := fun z hz => by
        have := hz k (by simp; omega)
        rwa [List.getD_eq_getElem?_getD, List.getElem?_append_right (by omega), hp, Nat.sub_self] at this
      obtain ⟨D, hD⟩ := ih p hp (fun s hs => hw s (by simp [hs])) x y (pre x hx) (pre y hy)
      have ho := alike_orb (us := us) (ad := ad) hm k x D k (Nat.le_refl _)
      rw [← hD, Nat.sub_self, Int.pow_zero, Int.mul_one, growN_line k p hp (pre x hx)] at ho
      have hc := (line_cop hM hR p (fun s hs => hw s (by simp [hs]))).1
      have h1 : (orbN m us ad k x + D * (lineI m us ad p).1) % m = orbN m us ad k x % m := by
        rw [← ho, lst y hy, lst x hx]
      obtain ⟨E, hE⟩ := dvd_of_cop hc (add_emod_zero h1)
      exact ⟨E, by rw [hD, hE, Int.pow_succ, Int.mul_assoc, Int.mul_comm m]⟩
theorem word_mod {m : Int} {us ad : List Int} (hm : 0 < m) {ws : List Int} {x D : Int} (h : IsWord m us ad ws x) : IsWord m us ad ws (x + D * m ^ ws.length) := fun i hi => by
  rw [alike_rest hm ws.length x D i hi, h i hi]
/-- Terras -/
theorem word_iff {m : Int} {us ad : List Int} (hM : mapP m us ad) (hR : regB m us = true) {ws : List Int} (hw : ∀ r ∈ ws, 0 ≤ r ∧ r < m) {R : Int} (h0 : 0 ≤ R) (h1 : R < m ^ ws.length) (hI : IsWord m us ad ws R) (x : Int) : IsWord m us ad ws x ↔ x % m ^ ws.length = R := by
  have hm : 0 < m := by have := hM.1; omega
  constructor
  · intro hx
    obtain ⟨D, hD⟩ := word_diff hM hR ws.length ws rfl hw R x hI hx
    rw [hD, Int.add_mul_emod_self_right, Int.emod_eq_of_lt h0 h1]
  · intro hx
    have e : x = R + (x / m ^ ws.length) * m ^ ws.length := by
      have := Int.emod_add_mul_ediv x (m ^ ws.length)
      rw [hx, Int.mul_comm] at this
      exact this.symm
    rw [e]
    exact word_mod hm hI
theorem wordI_iff {m : Int} {us ad : List Int} {ws : List Int} {x : Int} : wordI m us ad ws.length x = ws ↔ IsWord m us ad ws x := by
  constructor
  · intro h i hi
    have h2 : (wordI m us ad ws.length x).getD i 0 = ws.getD i 0 := by rw [h]
    rw [← h2, List.getD_eq_getElem?_getD]
    unfold wordI
    rw [List.getElem?_map, List.getElem?_range hi]; rfl
  · intro h
    refine List.ext_getElem (word_len _ _ _ _ _) fun i h1 h2 => ?_
    have h3 := h i h2
    rw [List.getD_eq_getElem?_getD, List.getElem?_eq_getElem h2] at h3
    simp only [wordI, List.getElem_map, List.getElem_range]
    exact h3
set_option maxRecDepth 100000 in
set_option maxHeartbeats 1600000 in
theorem ralike_any (A B : Option Addr) (n c k d : Nat) (xs ys : List Int) (w : World) (ra : Rd w A (Is xs)) (rb : Rd w B (Is ys)) (hn : xs.length = n) (hk : ys.length = k) (hb : n ≤ 140737488351232) (hb2 : k ≤ 140737488351232) {b : Bool} (hb3 : Hid (b = true ↔ xs = ys)) :
    Calls Tryz.prog 21 #[.slice A n c, .slice B k d] w (fun e w' => e = .returned (.bool b) ∧ Ext w w') := by
  have HN := hid hn
  have HK := hid hk
  have HA := hid ra
  have HB := hid rb
  by_cases hnk : n = k
  case neg =>
    obtain rfl : b = false := by
      cases b with
      | false => rfl
      | true => exact absurd (by rw [← hn, ← hk, hb3.out.1 rfl]) hnk
    have q0 : ¬ ((n : Int) = (k : Int)) := by omega
    have q1 : ((n : Int) == (k : Int)) = false := beq_eq_false_iff_ne.2 q0
    have q2 : ((n : Int) != (k : Int)) = true := by rw [bne, q1]; rfl
    clear hn hk ra rb hb3
    go_enter Tryz.func21, Tryz.ntmps21
    go_wp2_with fail
    go_ret
    exact ⟨rfl, Ext.rfl' _⟩
  case pos =>
    subst hnk
    have hb4 : n ≤ 9223372036854775807 := by omega
    clear hn hk ra rb
    go_enter Tryz.func21, Tryz.ntmps21
    go_wp2_with fail
    go_loopw [5] (fun iz wr => ∃ j : Nat, j ≤ n ∧ iz = .int .i64 (j : Int) ∧ Hid (∀ i, i < j → xs.getD i 0 = ys.getD i 0) ∧ Ext w wr) (fun iz _ => n - (intOf iz).toNat)
    case atStart => exact ⟨0, by omega, rfl, hid (fun i hi => absurd hi (by omega)), Ext.rfl' _⟩
    case round =>
      obtain ⟨j, hj, rfl, HJ, hex⟩ := hrel
      by_cases hlt : j < n
      · obtain ⟨b1, o1, e1, -, hc1⟩ := (HA.out.ext hex).atI (k := j) (by rw [HN.out]; exact hlt)
        obtain ⟨b2, o2, e2, -, hc2⟩ := (HB.out.ext hex).atI (k := j) (by rw [HK.out]; exact hlt)
        subst e1 e2
        obtain ⟨u, hu⟩ : ∃ u, xs.getD j 0 = u := ⟨_, rfl⟩
        obtain ⟨v, hv⟩ : ∃ v, ys.getD j 0 = v := ⟨_, rfl⟩
        rw [hu] at hc1
        rw [hv] at hc2
        have HU := hid hu
        have HV := hid hv
        clear hu hv
        by_cases huv : u = v
        · subst huv
          go_wp2_with fail
          go_quiet (fail)
          have hex2 := hex.drewN nq
          go_wp2
          go_roundw
          case rel => exact ⟨j + 1, by omega, by simp, hid (fun i hi => by
            rcases Nat.lt_or_ge i j with h | h
            · exact HJ.out i h
            · obtain rfl : i = j := by omega
              rw [HU.out, HV.out]), hex2⟩
          case measure => simp [intOf]; omega
        · obtain rfl : b = false := by
            cases b with
            | false => rfl
            | true => exact absurd (by rw [← HU.out, ← HV.out, hb3.out.1 rfl]) huv
          have q1 : (u == v) = false := beq_eq_false_iff_ne.2 huv
          have q2 : (u != v) = true := by rw [bne, q1]; rfl
          go_wp2_with fail
          go_quiet (fail)
          have hex2 := hex.drewN nq
          have HX := hid hex2
          go_wp2
          go_ret
          exact ⟨rfl, HX.out⟩
      · have HX := hid hex
        obtain rfl : j = n := by omega
        obtain rfl : b = true := hb3.out.2 (List.ext_getElem (by rw [HN.out, HK.out]) fun i h1 h2 => by
          have := HJ.out i (by rw [← HN.out]; exact h1)
          rwa [List.getD_eq_getElem?_getD, List.getElem?_eq_getElem h1, List.getD_eq_getElem?_getD, List.getElem?_eq_getElem h2] at this)
        go_wp2
        go_ret
        exact ⟨rfl, HX.out⟩
end Go.Proofs.YtleccblkafcidaaGreatDoor
/- package sieve: restsOf -/
namespace Go.Proofs.YtleccblkafcidaaGreatDoor
open Go.RowKit
/-- the map and k suit a sieve -/
def SuitP (m : Int) (us : List Int) (k : Int) : Prop := regB m us = true ∧ 1 ≤ k ∧ m ^ k.toNat ≤ 65536
/-- what restsOf tells -/
def RestsC (m : Int) (us : List Int) (k wh c : Int) : Prop := (SuitP m us k ∧ wh = m ^ k.toNat ∧ c = 0) ∨ (¬ SuitP m us k ∧ wh = 0 ∧ c = 2)
theorem pow_grow {m : Int} (hm : 2 ≤ m) {i j : Nat} (h : i ≤ j) : m ^ i ≤ m ^ j := by
  obtain ⟨d, rfl⟩ := Nat.exists_eq_add_of_le h
  rw [Int.pow_add]
  have h1 : 0 < m ^ i := Int.pow_pos (by omega)
  have h2 : 0 < m ^ d := Int.pow_pos (by omega)
  have : m ^ i * 1 ≤ m ^ i * m ^ d := Int.mul_le_mul_of_nonneg_left (by omega) (by omega)
  omega
set_option maxRecDepth 100000 in
set_option maxHeartbeats 3200000 in
theorem restsOf_any (v : Value) (m : Int) (us ad : List Int) (k : Int) (w : World) (hv : MapV w v m us ad) (hM : Hid (mapP m us ad)) (hk : -9223372036854775808 ≤ k) (hk2 : k ≤ 9223372036854775807) :
    Calls Tryz.prog 62 #[v, .int .i64 k] w (fun e w' => ∃ wh c, e = .returned (.tuple #[.int .i64 wh, .int .i64 c]) ∧ RestsC m us k wh c ∧ Ext w w') := by
  have hm := hM.out.1
  have hm2 := hM.out.2.1
  have HV := hid hv
  obtain ⟨A, n, cc, B, n2, d, rfl, -⟩ := hv
  have hx : Ext w (w.alloc (.cells #[.int .i64 m, .slice A n cc, .slice B n2 d] 24)) := (Ext.rfl' w).alloc' _
  have hr : Row (w.alloc (.cells #[.int .i64 m, .slice A n cc, .slice B n2 d] 24)) w.heap.size 24 [.int .i64 m, .slice A n cc, .slice B n2 d] := Row.new w _ _
  obtain ⟨W1, hW1⟩ : ∃ W1, (w.alloc (.cells #[.int .i64 m, .slice A n cc, .slice B n2 d] 24)) = W1 := ⟨_, rfl⟩
  rw [hW1] at hx hr
  have HX := hid hx
  have HR := hid hr
  have HW1 := hid hW1
  obtain ⟨f0, f1, f2, -, -, -⟩ := row_facts3 hr
  obtain ⟨rb, hrb⟩ : ∃ rb, regB m us = rb := ⟨_, rfl⟩
  have HRB := hid hrb
  have hcon := regular_ok (.agg #[.int .i64 m, .slice A n cc, .slice B n2 d]) m us ad W1 (HV.out.ext hx) hM
  rw [hrb] at hcon
  have HC := hid hcon
  clear hW1 hx hr hrb hcon
  go_enter Tryz.func62, Tryz.ntmps62
  go_upto_region 1 with fail
  rw [HW1.out]
  go_wp2_with fail
  refine HC.out.mono ?_
  rintro e w2 ⟨rfl, hx2⟩
  have HX2 := hid (HX.out.step hx2)
  have H12 := hid hx2
  clear f0 f1 f2 hx2
  cases rb with
  | false =>
    have HN : Hid (RestsC m us k 0 2) := hid (.inr ⟨(fun h => by have e := HRB.out; rw [h.1] at e; cases e), rfl, rfl⟩)
    go_wp2
    go_ret2
    exact ⟨0, 2, rfl, HN.out, HX2.out⟩
  | true =>
    by_cases h1 : k < 1
    · have HN : Hid (RestsC m us k 0 2) := hid (.inr ⟨(fun h => by have := h.2.1; omega), rfl, rfl⟩)
      go_wp2
      go_ret2
      exact ⟨0, 2, rfl, HN.out, HX2.out⟩
    · obtain ⟨q, rfl⟩ : ∃ q : Nat, k = (q : Int) := ⟨k.toNat, by omega⟩
      have HK1 := hid h1
      go_wp2_with fail
      go_loopw [8, 24] (fun wv iv wr => ∃ j : Nat, j ≤ q ∧ wv = .int .i64 (m ^ j) ∧ iv = .int .i64 (j : Int) ∧ Hid (m ^ j ≤ 65536) ∧ Ext w2 wr) (fun _ iv _ => q - (intOf iv).toNat)
      case atStart => exact ⟨0, by omega, by simp, rfl, hid (by simp), Ext.rfl' _⟩
      case round =>
        obtain ⟨j, hj, rfl, rfl, HP, hex⟩ := hrel
        by_cases hlt : j < q
        · obtain ⟨P, hP⟩ : ∃ P, m ^ j = P := ⟨_, rfl⟩
          have hp0 : 0 < m ^ j := Int.pow_pos (by omega)
          rw [hP] at hp0
          have hp1 : P ≤ 65536 := by rw [← hP]; exact HP.out
          have c1 : (P * m).natAbs ≤ 65536 * 12 := by rw [Int.natAbs_mul]; exact Nat.mul_le_mul (by omega) (by omega)
          have W1w : IntKind.i64.wrap (P * m) = P * m := IntWalk.i64_in _ (by omega)
          have HPE := hid hP
          have HEX := hid hex
          rw [hP]
          obtain ⟨f0, f1, f2, -, -, -⟩ := row_facts3 (HR.out.ext (H12.out.step hex))
          clear hP hp0 hp1 c1 hex
          by_cases hg : 65536 < P * m
          · have HN : Hid (RestsC m us (q : Int) 0 2) := hid (.inr ⟨(fun h => by
              have h2 := h.2.2
              rw [Int.toNat_natCast] at h2
              have h3 := pow_grow (m := m) hm (show j + 1 ≤ q by omega)
              rw [Int.pow_succ, HPE.out] at h3
              omega), rfl, rfl⟩)
            have HF := hid (HX2.out.step HEX.out)
            go_wp2
            go_ret2
            exact ⟨0, 2, rfl, HN.out, HF.out⟩
          · have HPN := hid (show m ^ (j + 1) ≤ 65536 by rw [Int.pow_succ, HPE.out]; omega)
            go_wp2
            go_roundw
            case rel => exact ⟨j + 1, by omega, by rw [Int.pow_succ, HPE.out], by simp, HPN, HEX.out⟩
            case measure => first | (simp [intOf]; done) | (simp [intOf]; omega)
        · obtain rfl : j = q := by omega
          have HN : Hid (RestsC m us (j : Int) (m ^ j) 0) := hid (.inl ⟨⟨HRB.out, by have := HK1.out; omega, by rw [Int.toNat_natCast]; exact HP.out⟩, by rw [Int.toNat_natCast], rfl⟩)
          have HF := hid (HX2.out.step hex)
          go_wp2
          go_ret2
          exact ⟨m ^ j, 0, rfl, HN.out, HF.out⟩
end Go.Proofs.YtleccblkafcidaaGreatDoor
