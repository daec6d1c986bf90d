/-
 Texts that are laid as one: KeyH, MathSt, HeldN, StOk.
-/
import Derived.Lib.BufferWrite
import Derived.WideKeyArr2
import Derived.Test.YtiadimhoolekbaaGreatDoorPairs
import Derived.Test.YtiadimhoolekbaaGreatDoorSReadM
namespace Go.Proofs.YtiadimhoolekbaaGreatDoor
open Go.RowKit
set_option linter.unusedVariables false
set_option maxHeartbeats 2000000
set_option maxRecDepth 100000
theorem zu4 (w:World) (g k:Nat) (cs:Array Value) (h:k≠g):(w.setRow g cs).heap[k]? = w.heap[k]? := by
 show (w.heap.modify g _)[k]? = _
 rw[Array.getElem?_modify,if_neg (fun e=>h e.symm)]
theorem below_setRow {B g:Nat} {w0 w:World} (h:Below B w0 w) (hg:B≤g) (cs:Array Value):Below B w0 (w.setRow g cs) :=
 ⟨h.os,h.tape,h.output,by simpa [World.setRow] using h.size,fun k hk=>(zu4 w g k cs (by omega)).trans (h.block k hk)⟩
theorem za4h (l:List UInt8) (zs:Array Value) (hz:zs.size=32) (hl:l.length=32):(zs.toList.take 0 ++ Lib.byteCells (⟨l.toArray⟩:ByteArray).data.toList ++ zs.toList.drop (0+(⟨l.toArray⟩:ByteArray).size)).toArray=(zg l).toArray:=by
 have h1:zs.toList.drop (0+(⟨l.toArray⟩:ByteArray).size)=[]:=List.drop_eq_nil_of_le (by simp[ByteArray.size];omega)
 rw[h1]
 simp[Lib.byteCells,zg]
theorem znb (l:List UInt8) (w:World) (hl:l.length=32) :
 Calls Tryz.prog 51 #[.string ⟨l.toArray⟩] w fun e w'=>e=.returned (.agg (zg l).toArray)∧Below w.heap.size w w':=by
 obtain⟨zs,hzs⟩:∃ zs:Array Value,zs=#[.int .u8 0,.int .u8 0,.int .u8 0,.int .u8 0,.int .u8 0,.int .u8 0,.int .u8 0,.int .u8 0,.int .u8 0,.int .u8 0,.int .u8 0,.int .u8 0,.int .u8 0,.int .u8 0,.int .u8 0,.int .u8 0,.int .u8 0,.int .u8 0,.int .u8 0,.int .u8 0,.int .u8 0,.int .u8 0,.int .u8 0,.int .u8 0,.int .u8 0,.int .u8 0,.int .u8 0,.int .u8 0,.int .u8 0,.int .u8 0,.int .u8 0,.int .u8 0]:=⟨_,rfl⟩
 have hz:zs.size=32:=by rw[hzs];rfl
 have HZS:Hid (#[.int .u8 0,.int .u8 0,.int .u8 0,.int .u8 0,.int .u8 0,.int .u8 0,.int .u8 0,.int .u8 0,.int .u8 0,.int .u8 0,.int .u8 0,.int .u8 0,.int .u8 0,.int .u8 0,.int .u8 0,.int .u8 0,.int .u8 0,.int .u8 0,.int .u8 0,.int .u8 0,.int .u8 0,.int .u8 0,.int .u8 0,.int .u8 0,.int .u8 0,.int .u8 0,.int .u8 0,.int .u8 0,.int .u8 0,.int .u8 0,.int .u8 0,.int .u8 0]=zs):=hzs.symm
 have B0:Hid (Below w.heap.size w ((w.alloc (.cells zs 99)).alloc (.cells zs 99))):=((Below.refl _ _).alloc (Nat.le_refl _) _).alloc (by simp) _
 have X0:Hid (((w.alloc (.cells zs 99)).alloc (.cells zs 99)).heap[w.heap.size]? = some (.cells zs 99 (0,0))):=(Below.heap_alloc _ _ _ (by simp)).trans (heap_alloc_new w _)
 have Y0:Hid (((w.alloc (.cells zs 99)).alloc (.cells zs 99)).heap[w.heap.size+1]? = some (.cells zs 99 (0,0))):=by
  have:=heap_alloc_new (w.alloc (.cells zs 99)) (.cells zs 99)
  rw[show (w.alloc (.cells zs 99)).heap.size=w.heap.size+1 by simp] at this
  exact this
 obtain⟨wa,hwa⟩:∃ wa,wa=(w.alloc (.cells zs 99)).alloc (.cells zs 99):=⟨_,rfl⟩
 rw[←hwa] at B0 X0 Y0
 have HWA:Hid ((w.alloc (.cells zs 99)).alloc (.cells zs 99)=wa):=hwa.symm
 have hcs:(zg l).toArray.size=32:=by simp[zg,hl]
 have h1:(zg l).toArray.all (·.oneCell')=true:=by
  rw[Array.all_eq_true];intro i hi;simp[zg,Value.oneCell']
 have HRUN:Hid (∀ ty,(Builtin.copy_ #[22,9] ty #[.slice (some ⟨w.heap.size+1,0,none⟩) 32 32,.string ⟨l.toArray⟩]).run Tryz.prog wa=.ok (goInt 32) (wa.setRow (w.heap.size+1) (zg l).toArray)):=fun ty=>by
  have:=Lib.run_copy_row_string (P:=Tryz.prog) wa 22 9 ty 5 (w.heap.size+1) 0 32 32 ⟨l.toArray⟩ zs 99 Tryz.underlying22 (by kernel_rfl) Y0.out (by simp[ByteArray.size,hl]) (by simp[ByteArray.size,hl,hz])
  rw[za4h l zs hz hl,show (⟨l.toArray⟩:ByteArray).size=32 by simp[ByteArray.size,hl]] at this
  exact this
 have Y1:Hid ((wa.setRow (w.heap.size+1) (zg l).toArray).heap[w.heap.size+1]? = some (.cells (zg l).toArray 99 (0,0))):=setRow_heap _ _ _ _ _ _ Y0.out
 have X1:Hid ((wa.setRow (w.heap.size+1) (zg l).toArray).heap[w.heap.size]? = some (.cells zs 99 (0,0))):=(zu4 _ _ _ _ (by omega)).trans X0.out
 have B1:Hid (Below w.heap.size w (wa.setRow (w.heap.size+1) (zg l).toArray)):=below_setRow B0.out (by omega) _
 obtain⟨cs,hcd⟩:∃ cs,cs=(zg l).toArray:=⟨_,rfl⟩
 rw[←hcd] at hcs h1 HRUN Y1 X1 B1 ⊢
 have X2:Hid (((wa.setRow (w.heap.size+1) cs).setRow w.heap.size cs).heap[w.heap.size]? = some (.cells cs 99 (0,0))):=setRow_heap _ _ _ _ _ _ X1.out
 have B2:Hid (Below w.heap.size w ((wa.setRow (w.heap.size+1) cs).setRow w.heap.size cs)):=below_setRow B1.out (Nat.le_refl _) _
 have HI:Hid ((Tryz.prog.info? 99).map (·.size)=some cs.size):=by rw[Hid,hcs];kernel_rfl
 clear hwa hcd hzs
 go_enter Tryz.func51,Tryz.ntmps51
 go_wp2
 rw[HZS.out,HWA.out,HRUN.out 3]
 go_wp2_with (first
  | (refine wpList_load_row rfl 99 _ rfl (w.heap.size+1) rfl 99 cs (0,0) _ Y1.out Tryz.underlying99 rfl HI.out ?_)
  | (refine wpList_store_row rfl 99 _ _ rfl w.heap.size cs rfl rfl 99 zs X1.out HI.out (by rw[hz,hcs]) h1 ?_))
 exact bodyPost_ret (v:=.agg cs) (results_cell_row rfl _ _ w.heap.size 99 _ (0,0) _ rfl X2.out Tryz.underlying99 rfl HI.out) rfl ⟨rfl,B2.out⟩
theorem za4i (b:UInt8):(Lit.int .u8 (b.toNat:Int)).wf=true:=by
 have hb:=b.toNat_lt
 simp[Lit.wf,IntKind.min,IntKind.max,IntKind.signed,IntKind.bits]
 omega
def zn (l:List UInt8):Lit:=.string (keyBytes ((List.range 32).map fun i=>[Lit.int .u8 ((l.getD i 0).toNat:Int)]).flatten)
theorem zu5 {α β:Type} (f:α→Option β) (g:α→β):∀ xs:List α,(∀ i∈xs,f i=some (g i))→xs.mapM f=some (xs.map g)
 | [],_=>rfl
 | x :: xs, h => by
   rw[List.mapM_cons,h x (by simp),zu5 f g xs (fun i hi=>h i (by simp[hi]))]
   rfl
theorem arr32:WideMaps.ArrKey Tryz.prog 99 5 32:=⟨Tryz.underlying99,by kernel_rfl,by kernel_rfl,by kernel_rfl⟩
theorem zda:Maps.Keyed Tryz.prog 99:=Maps.Keyed.of_law arr32.law
theorem zf9 (l:List UInt8) (hl:l.length=32):keyOf Tryz.prog 99 (.agg (zg l).toArray)=some (zn l):=by
 obtain⟨m,hm⟩:∃ m,Tryz.prog.types.size=m+2:=⟨Tryz.prog.types.size - 2,by kernel_rfl⟩
 have hkt:=arr32.keyType ⟨m+1,hm⟩
 have hcs:(zg l).length=32:=by simp[zg,hl]
 unfold keyOf
 simp only[arr32.hu]
 rw[if_pos (by simp[hkt,Value.formed,arr32.hu,arr32.size,hcs]),hm]
 unfold Program.keyLits
 simp only[arr32.hu,Value.cells]
 rw[if_pos (by rw[arr32.size];simpa using hcs)]
 rw[zu5 _ (fun i=>[Lit.int .u8 ((l.getD i 0).toNat:Int)]) _ (fun i hi=>?_)]
 · rfl
 · have hi':i<32:=List.mem_range.1 hi
   have hb:=(l.getD i 0).toNat_lt
   have hg:((zg l).drop (i*1)).take 1=[.int .u8 ((l.getD i 0).toNat:Int)]:=by
    rw[Nat.mul_one,List.drop_eq_getElem_cons (by omega)]
    simp[zg,List.getD,show i<l.length by omega]
   rw[arr32.one]
   simp only[hg]
   unfold Program.keyLits
   rw[Tryz.underlying5]
   simp only
   rw[if_pos ⟨trivial,za4i _⟩]
def stOk (ps:List za) (j:Nat):Bool:=(za6 (zv ps j)).isSome && (sumL (zv ps j) == keyAt ps j) && (decide (j=0) || Op.bytesLess (keyAt ps (j - 1)) (keyAt ps j))
def zu (ps:List za):Bool:=decide (ps.length≤400) && (List.range ps.length).all (stOk ps)
theorem zu6 (ps:List za) (h:¬ ps.length≤400):zu ps=false:=by simp[zu,h]
theorem zu7 (ps:List za) (j:Nat) (h:j<ps.length) (hb:stOk ps j=false):zu ps=false:=by
 have:(List.range ps.length).all (stOk ps)=false:=by
  rw[List.all_eq_false]
  exact⟨j,List.mem_range.2 h,by simp[hb]⟩
 simp[zu,this]
theorem znc (ps:List za) (h400:ps.length≤400) (h:∀ j,j<ps.length→stOk ps j=true):zu ps=true:=by
 simp only[zu,Bool.and_eq_true,decide_eq_true_eq,List.all_eq_true,List.mem_range]
 exact⟨h400,h⟩
theorem zbd {w:World} {b:Nat} {u v:Value} {t:TypeId} (h:w.heap[b]? = some (.cells #[u,v] t (0,0))) :
 w.cell? ⟨b,0,none⟩=some u∧w.cell? ⟨b,1,none⟩=some v∧∀ j,w.frozen? ⟨b,j,none⟩=false:=by
 refine⟨?_,?_,fun j=>frozen_of_row w b j _ t h⟩ <;> simp only[World.cell?,h] <;> rfl
abbrev sq0 : Oper := { dst := some 24, op := Op.move (Operand.tmp 5), type := 4, pos := "l06_nodes.go:79", after := #[], guard := none }
abbrev sq1 : Oper := { dst := some 25, op := Op.unOp UnOp.not 4 (Operand.tmp 24), type := 4, pos := "l06_nodes.go:79", after := #[{ on := 0, ground := Ground.data }], guard := none }
abbrev sq2 : Oper := { dst := some 26, op := Op.move (Operand.tmp 25), type := 4, pos := "l06_nodes.go:79", after := #[{ on := 1, ground := Ground.data }], guard := none }
abbrev sq3 : Oper := { dst := some 27, op := Op.move (Operand.tmp 0), type := 24, pos := "l06_nodes.go:79", after := #[{ on := 2, ground := Ground.guard }], guard := some (2, false) }
abbrev sq4 : Oper := { dst := some 28, op := Op.move (Operand.tmp 3), type := 3, pos := "l06_nodes.go:79", after := #[{ on := 2, ground := Ground.guard }], guard := some (2, false) }
abbrev sq5 : Oper := { dst := some 29, op := Op.indexAddr 24 (Operand.tmp 27) (Operand.tmp 28), type := 0, pos := "l06_nodes.go:79", after := #[{ on := 3, ground := Ground.data }, { on := 4, ground := Ground.data }, { on := 2, ground := Ground.guard }], guard := some (2, false) }
abbrev sq6 : Oper := { dst := some 30, op := Op.fieldAddr 83 (Operand.tmp 29) 1, type := 0, pos := "l06_nodes.go:79", after := #[{ on := 5, ground := Ground.data }, { on := 2, ground := Ground.guard }], guard := some (2, false) }
abbrev sq7 : Oper := { dst := some 31, op := Op.load 9 (Operand.tmp 30), type := 9, pos := "l06_nodes.go:79", after := #[{ on := 6, ground := Ground.data }, { on := 2, ground := Ground.guard }], guard := some (2, false) }
abbrev sq8 : Oper := { dst := some 32, op := Op.call { callee := Callee.value (Operand.func 39), args := #[Operand.tmp 31], argTypes := #[9] }, type := 9, pos := "l06_nodes.go:79", after := #[{ on := 7, ground := Ground.data }, { on := 2, ground := Ground.chain }, { on := 2, ground := Ground.guard }], guard := some (2, false) }
abbrev sq9 : Oper := { dst := some 33, op := Op.move (Operand.tmp 0), type := 24, pos := "l06_nodes.go:79", after := #[{ on := 2, ground := Ground.guard }], guard := some (2, false) }
abbrev sq10 : Oper := { dst := some 34, op := Op.move (Operand.tmp 3), type := 3, pos := "l06_nodes.go:79", after := #[{ on := 2, ground := Ground.guard }], guard := some (2, false) }
abbrev sq11 : Oper := { dst := some 35, op := Op.indexAddr 24 (Operand.tmp 33) (Operand.tmp 34), type := 0, pos := "l06_nodes.go:79", after := #[{ on := 9, ground := Ground.data }, { on := 10, ground := Ground.data }, { on := 2, ground := Ground.guard }], guard := some (2, false) }
abbrev sq12 : Oper := { dst := some 36, op := Op.fieldAddr 83 (Operand.tmp 35) 0, type := 0, pos := "l06_nodes.go:79", after := #[{ on := 11, ground := Ground.data }, { on := 2, ground := Ground.guard }], guard := some (2, false) }
abbrev sq13 : Oper := { dst := some 37, op := Op.load 9 (Operand.tmp 36), type := 9, pos := "l06_nodes.go:79", after := #[{ on := 12, ground := Ground.data }, { on := 2, ground := Ground.guard }], guard := some (2, false) }
abbrev sq14 : Oper := { dst := some 38, op := Op.binOp BinOp.neq 9 (Operand.tmp 32) (Operand.tmp 37) 9, type := 4, pos := "l06_nodes.go:79", after := #[{ on := 8, ground := Ground.data }, { on := 13, ground := Ground.data }, { on := 2, ground := Ground.guard }], guard := some (2, false) }
abbrev sq15 : Oper := { dst := some 39, op := Op.pick (Operand.tmp 26) (Operand.const (Value.bool true)) (Operand.tmp 38), type := 4, pos := "l06_nodes.go:79", after := #[{ on := 2, ground := Ground.data }, { on := 14, ground := Ground.data }], guard := none }
abbrev sq16 : Oper := { dst := some 40, op := Op.move (Operand.tmp 39), type := 4, pos := "l06_nodes.go:79", after := #[{ on := 15, ground := Ground.data }, { on := 8, ground := Ground.chain }], guard := none }
abbrev sq17 : Oper := { dst := some 41, op := Op.move (Operand.tmp 3), type := 3, pos := "l06_nodes.go:79", after := #[{ on := 16, ground := Ground.guard }], guard := some (16, false) }
abbrev sq18 : Oper := { dst := some 42, op := Op.binOp BinOp.gtr 3 (Operand.tmp 41) (Operand.const (Value.int IntKind.i64 0)) 3, type := 4, pos := "l06_nodes.go:79", after := #[{ on := 17, ground := Ground.data }, { on := 16, ground := Ground.guard }], guard := some (16, false) }
abbrev sq19 : Oper := { dst := some 43, op := Op.move (Operand.tmp 42), type := 4, pos := "l06_nodes.go:79", after := #[{ on := 18, ground := Ground.data }, { on := 16, ground := Ground.chain }, { on := 16, ground := Ground.guard }], guard := some (16, false) }
abbrev sq20 : Oper := { dst := some 44, op := Op.move (Operand.tmp 0), type := 24, pos := "l06_nodes.go:79", after := #[{ on := 19, ground := Ground.guard }], guard := some (19, true) }
abbrev sq21 : Oper := { dst := some 45, op := Op.move (Operand.tmp 3), type := 3, pos := "l06_nodes.go:79", after := #[{ on := 19, ground := Ground.guard }], guard := some (19, true) }
abbrev sq22 : Oper := { dst := some 46, op := Op.binOp BinOp.sub 3 (Operand.tmp 45) (Operand.const (Value.int IntKind.i64 1)) 3, type := 3, pos := "l06_nodes.go:79", after := #[{ on := 21, ground := Ground.data }, { on := 19, ground := Ground.guard }], guard := some (19, true) }
abbrev sq23 : Oper := { dst := some 47, op := Op.indexAddr 24 (Operand.tmp 44) (Operand.tmp 46), type := 0, pos := "l06_nodes.go:79", after := #[{ on := 20, ground := Ground.data }, { on := 22, ground := Ground.data }, { on := 19, ground := Ground.guard }], guard := some (19, true) }
abbrev sq24 : Oper := { dst := some 48, op := Op.fieldAddr 83 (Operand.tmp 47) 0, type := 0, pos := "l06_nodes.go:79", after := #[{ on := 23, ground := Ground.data }, { on := 19, ground := Ground.guard }], guard := some (19, true) }
abbrev sq25 : Oper := { dst := some 49, op := Op.load 9 (Operand.tmp 48), type := 9, pos := "l06_nodes.go:79", after := #[{ on := 24, ground := Ground.data }, { on := 19, ground := Ground.guard }], guard := some (19, true) }
abbrev sq26 : Oper := { dst := some 50, op := Op.move (Operand.tmp 0), type := 24, pos := "l06_nodes.go:79", after := #[{ on := 19, ground := Ground.guard }], guard := some (19, true) }
abbrev sq27 : Oper := { dst := some 51, op := Op.move (Operand.tmp 3), type := 3, pos := "l06_nodes.go:79", after := #[{ on := 19, ground := Ground.guard }], guard := some (19, true) }
abbrev sq28 : Oper := { dst := some 52, op := Op.indexAddr 24 (Operand.tmp 50) (Operand.tmp 51), type := 0, pos := "l06_nodes.go:79", after := #[{ on := 26, ground := Ground.data }, { on := 27, ground := Ground.data }, { on := 19, ground := Ground.guard }], guard := some (19, true) }
abbrev sq29 : Oper := { dst := some 53, op := Op.fieldAddr 83 (Operand.tmp 52) 0, type := 0, pos := "l06_nodes.go:79", after := #[{ on := 28, ground := Ground.data }, { on := 19, ground := Ground.guard }], guard := some (19, true) }
abbrev sq30 : Oper := { dst := some 54, op := Op.load 9 (Operand.tmp 53), type := 9, pos := "l06_nodes.go:79", after := #[{ on := 29, ground := Ground.data }, { on := 19, ground := Ground.guard }], guard := some (19, true) }
abbrev sq31 : Oper := { dst := some 55, op := Op.binOp BinOp.geq 9 (Operand.tmp 49) (Operand.tmp 54) 9, type := 4, pos := "l06_nodes.go:79", after := #[{ on := 25, ground := Ground.data }, { on := 30, ground := Ground.data }, { on := 19, ground := Ground.guard }], guard := some (19, true) }
abbrev sq32 : Oper := { dst := some 56, op := Op.pick (Operand.tmp 43) (Operand.tmp 55) (Operand.const (Value.bool false)), type := 4, pos := "l06_nodes.go:79", after := #[{ on := 19, ground := Ground.data }, { on := 31, ground := Ground.data }, { on := 16, ground := Ground.guard }], guard := some (16, false) }
abbrev sq33 : Oper := { dst := some 57, op := Op.pick (Operand.tmp 40) (Operand.const (Value.bool true)) (Operand.tmp 56), type := 4, pos := "l06_nodes.go:79", after := #[{ on := 16, ground := Ground.data }, { on := 32, ground := Ground.data }], guard := none }
theorem tkq {P:Program} {ops:Array Oper} {Q:Exit→Act→World→Prop} {md:Region.Mode} {S:World→Prop} {i:Nat} {oi:Oper} {v:Value} {fuel:Nat} {listed:Array Bool} {a:Act} {w:World} (hi:ops[i]? = some oi) (hy:YieldsIf P ops S oi v a) (hS:S w)
 (h:wpAnyH P md ops Q S fuel (listed.setIfInBounds i true) (a.put oi.dst v) w) (hs:Region.noSelect ops=true:=by kernel_rfl) (hf:Region.free md ops listed i=true:=by kernel_rfl) (hr:(Region.ready md ops listed).contains i=true:=by kernel_rfl)
 (hQ:∀ c a w,Q (.panic c) (a.put oi.dst v) w→Q (.panic c) a w:=by exact fun _ _ _ h=>h):wpAnyH P md ops Q S (fuel+1) listed a w :=
 wpAnyH_take hi hs hf hr hQ hy hS h
theorem znd (a : Option Addr) (cap : Nat) (ps : List za) (w : World) (hl : ps.length ≤ 1048576) (hm : ∀ p ∈ ps, p.1.length ≤ 1048576 ∧ p.2.length ≤ 1048576) (hs : IsPairs w a ps) :
 Calls Tryz.prog 43 #[.slice a ps.length cap] w fun e w'=>e=.returned (.bool (zu ps))∧Below w.heap.size w w':=by
 by_cases h400:ps.length≤400
 · have h400' : (ps.length : Int) ≤ 400 := by omega
   have hm2:∀ j,j<ps.length→(keyAt ps j).length≤1048576∧(zv ps j).length≤1048576:=fun j h=>by rw[za9 ps j h,zaz ps j h];exact hm _ (List.getElem_mem _)
   have HS:Hid (∀ W,Below w.heap.size w W→∀ j,j<ps.length→∃ b off,a=some ⟨b,off,none⟩∧W.cell? ⟨b,off+j*2,none⟩=some (.string ⟨(keyAt ps j).toArray⟩)∧W.cell? ⟨b,off+j*2+1,none⟩=some (.string ⟨(zv ps j).toArray⟩)∧(0<j→W.cell? ⟨b,off+(j - 1)*2,none⟩=some (.string ⟨(keyAt ps (j - 1)).toArray⟩))):=fun W hW j h=>by
    rcases hs.later hW with h' | ⟨b,off,h',hc⟩
    · rw[h'] at h;simp at h
    · refine⟨b,off,h',?_,?_,fun h0=>?_⟩
      · rw[za9 ps j h];exact (hc j h).1
      · rw[zaz ps j h];exact (hc j h).2
      · rw[za9 ps (j - 1) (by omega)];exact (hc (j - 1) (by omega)).1
   obtain⟨r,hr⟩:∃ r,r=zu ps:=⟨_,rfl⟩
   have HBAD:Hid (∀ j,j<ps.length→stOk ps j=false→r=false):=fun j h hb=>by rw[hr];exact zu7 ps j h hb
   have HALL:Hid ((∀ j,j<ps.length→stOk ps j=true)→r=true):=fun h=>by rw[hr];exact znc ps h400 h
   rw[←hr]
   clear hm hs hr
   go_enter Tryz.func43,Tryz.ntmps43
   go_wp2
   go_loopw [3,4,5] (fun i _ _ wr=>∃ j:Nat,j≤ps.length∧i=.int .i64 (j:Int)∧Hid (∀ q,q<j→stOk ps q=true)∧Below w.heap.size w wr) (fun i _ _ _=>ps.length - (intOf i).toNat)
   case atStart=>exact⟨0,Nat.zero_le _,rfl,fun q hq=>by omega,Below.refl _ _⟩
   case round =>
    obtain⟨j,hj,rfl,HA,hbel⟩:=hrel
    have hsz:=hbel.size
    by_cases hlt:j<ps.length
    · obtain ⟨b, off, ha, c1, c2, c3⟩ := HS.out wr hbel j hlt
      subst ha
      have m1:=hm2 j hlt
      have hj0:(0:Int)≤(j:Int):=by omega
      have hj1:(j:Int)<(ps.length:Int):=by omega
      have HB:Hid (stOk ps j=false→r=false):=HBAD.out j hlt
      have HN:Hid (stOk ps j=true→∀ q,q<j+1→stOk ps q=true):=fun h q hq=>by
       by_cases e:q=j
       · rw[e];exact h
       · exact HA.out q (by omega)
      have HO2:Hid (stOk ps j=((za6 (zv ps j)).isSome && (sumL (zv ps j) == keyAt ps j) && (decide (j=0) || Op.bytesLess (keyAt ps (j - 1)) (keyAt ps j)))):=rfl
      obtain⟨x,hx⟩:∃ x,x=keyAt ps j:=⟨_,rfl⟩
      obtain⟨y,hy⟩:∃ y,y=zv ps j:=⟨_,rfl⟩
      rw[←hx] at c1 m1 HO2
      rw[←hy] at c2 m1 HO2
      have hyl:y.length≤1048576:=m1.2
      have HKR:Hid (∀ W,Calls Tryz.prog 77 #[.string ⟨y.toArray⟩] W fun e w'=>zdg W (za6 y) e w'):=fun W=>ztg y W hyl
      clear hx hy HA HBAD HALL hm2 HS
      by_cases hz:j=0
      · have HO3:Hid (stOk ps j=((za6 y).isSome && (sumL y == x) && true)):=by rw[Hid,HO2.out,hz];simp
        have hzb:decide ((0:Int)<(j:Int))=false:=decide_eq_false (by omega)
        have hzn:decide (0<j)=false:=decide_eq_false (by omega)
        have hz':(j:Int)≤0:=by omega
        have hz9:¬ (0:Int)<(j:Int):=by omega
        clear c3 HO2 hz
        have HO2:=HO3
        clear HO3
        go_wp2_with fail
        refine (HKR.out _).mono ?_
        rintro e w2 ⟨a4,m4,c4,rfl,o4,b2⟩
        have B2:Hid (Below w.heap.size w w2):=hbel.trans (b2.mono hsz)
        have d1:=(b2.cell (p:=⟨b,off+j*2,none⟩) (World.block_lt_of_cell? wr _ c1)).trans c1
        have d2:=(b2.cell (p:=⟨b,off+j*2+1,none⟩) (World.block_lt_of_cell? wr _ c2)).trans c2
        obtain⟨nd,hnd⟩:∃ nd,nd=(za6 y).getD zeroN:=⟨_,rfl⟩
        rw[←hnd]
        obtain⟨k,p,ls,v⟩:=nd
        simp only
        have B2a:Hid (Below w.heap.size w (w2.alloc (.cells #[.int .i64 k,.string ⟨p.toArray⟩,.slice a4 m4 c4,.string ⟨v.toArray⟩] 93))):=B2.out.alloc B2.out.size _
        have e1:(w2.alloc (.cells #[.int .i64 k,.string ⟨p.toArray⟩,.slice a4 m4 c4,.string ⟨v.toArray⟩] 93)).cell? ⟨b,off+j*2,none⟩=some (.string ⟨x.toArray⟩):=(World.cell?_alloc_lt w2 _ ⟨b,off+j*2,none⟩ (World.block_lt_of_cell? w2 _ d1)).trans d1
        have e2:(w2.alloc (.cells #[.int .i64 k,.string ⟨p.toArray⟩,.slice a4 m4 c4,.string ⟨v.toArray⟩] 93)).cell? ⟨b,off+j*2+1,none⟩=some (.string ⟨y.toArray⟩):=(World.cell?_alloc_lt w2 _ ⟨b,off+j*2+1,none⟩ (World.block_lt_of_cell? w2 _ d2)).trans d2
        obtain⟨ok,hok⟩:∃ ok,ok=(za6 y).isSome:=⟨_,rfl⟩
        rw[←hok]
        have HOK:Hid (ok=(za6 y).isSome):=hok
        clear o4 b2 hnd hok B2 c1 c2 d1 d2
        cases ok with
        | false =>
          have HR:Hid (r=false):=HB.out (by rw[HO2.out,←HOK.out];simp)
          have B2n:Hid (∀ q,Below w.heap.size w ((w2.alloc (.cells #[.int .i64 k,.string ⟨p.toArray⟩,.slice a4 m4 c4,.string ⟨v.toArray⟩] 93)).drewN q)):=fun q=>zz B2a.out
          clear HB HN HO2
          go_wp2
          go_quiet (fail)
          go_wp2
          go_ret
          rw[HR.out]
          exact⟨rfl,B2n.out _⟩
        | true =>
          have S1:Hid ((w2.alloc (.cells #[.int .i64 k,.string ⟨p.toArray⟩,.slice a4 m4 c4,.string ⟨v.toArray⟩] 93)).drew.cell? ⟨b,off+j*2,none⟩=some (.string ⟨x.toArray⟩)∧(w2.alloc (.cells #[.int .i64 k,.string ⟨p.toArray⟩,.slice a4 m4 c4,.string ⟨v.toArray⟩] 93)).drew.cell? ⟨b,off+j*2+1,none⟩=some (.string ⟨y.toArray⟩)):=⟨e1,e2⟩
          have HBL:Hid (b<(w2.alloc (.cells #[.int .i64 k,.string ⟨p.toArray⟩,.slice a4 m4 c4,.string ⟨v.toArray⟩] 93)).heap.size):=World.block_lt_of_cell? _ _ e1
          have KS:=zf6 y (w2.alloc (.cells #[.int .i64 k,.string ⟨p.toArray⟩,.slice a4 m4 c4,.string ⟨v.toArray⟩] 93)).drew hyl
          obtain⟨su,hsu⟩:∃ su,su=sumL y:=⟨_,rfl⟩
          have HSU:Hid (su=sumL y):=hsu
          rw[←hsu] at KS
          clear hsu e1 e2
          by_cases he:x=su
          · have heb:(su == x)=true:=by rw[beq_iff_eq];exact he.symm
            have HTR:Hid (stOk ps j=true):=by rw[Hid,HO2.out,←HOK.out,←HSU.out,he];simp
            clear HB HO2
            subst he
            go_wp2_with fail
            refine wp_region_held_drew (S:=fun w'=>w'.cell? ⟨b,off+j*2,none⟩=some (.string ⟨x.toArray⟩)∧w'.cell? ⟨b,off+j*2+1,none⟩=some (.string ⟨y.toArray⟩)) (by kernel_rfl) S1.out (fun hHeld=>?_)
            refine tkq (i:=0) (oi:=sq0) (v:=?vb0) rfl (.inl ⟨by rfl,?yb0⟩) (by assumption) ?rb0
            case yb0=>(intro w hSw;(try dsimp only at hSw);go_simp;(try with_reducible rfl))
            refine tkq (i:=1) (oi:=sq1) (v:=?vb1) rfl (.inl ⟨by rfl,?yb1⟩) (by assumption) ?rb1
            case yb1=>(intro w hSw;(try dsimp only at hSw);go_simp;(try with_reducible rfl))
            try simp only[Act.put,List.setIfInBounds_toArray,List.set_cons_zero,List.set_cons_succ]
            refine tkq (i:=2) (oi:=sq2) (v:=?vb2) rfl (.inl ⟨by rfl,?yb2⟩) (by assumption) ?rb2
            case yb2=>(intro w hSw;(try dsimp only at hSw);go_simp;(try with_reducible rfl))
            refine tkq (i:=3) (oi:=sq3) (v:=?vb3) rfl (.inl ⟨by rfl,?yb3⟩) (by assumption) ?rb3
            case yb3=>(intro w hSw;(try dsimp only at hSw);go_simp;(try with_reducible rfl))
            refine tkq (i:=4) (oi:=sq4) (v:=?vb4) rfl (.inl ⟨by rfl,?yb4⟩) (by assumption) ?rb4
            case yb4=>(intro w hSw;(try dsimp only at hSw);go_simp;(try with_reducible rfl))
            try simp only[Act.put,List.setIfInBounds_toArray,List.set_cons_zero,List.set_cons_succ]
            refine tkq (i:=5) (oi:=sq5) (v:=?vb5) rfl (.inl ⟨by rfl,?yb5⟩) (by assumption) ?rb5
            case yb5=>(intro w hSw;(try dsimp only at hSw);go_simp;(try with_reducible rfl))
            refine tkq (i:=6) (oi:=sq6) (v:=?vb6) rfl (.inl ⟨by rfl,?yb6⟩) (by assumption) ?rb6
            case yb6=>(intro w hSw;(try dsimp only at hSw);go_simp;(try with_reducible rfl))
            refine tkq (i:=7) (oi:=sq7) (v:=?vb7) rfl (.inl ⟨by rfl,?yb7⟩) (by assumption) ?rb7
            case yb7=>(intro w hSw;(try dsimp only at hSw);go_simp;(try with_reducible rfl))
            try simp only[Act.put,List.setIfInBounds_toArray,List.set_cons_zero,List.set_cons_succ]
            refine tkq (i:=9) (oi:=sq9) (v:=?vb9) rfl (.inl ⟨by rfl,?yb9⟩) (by assumption) ?rb9
            case yb9=>(intro w hSw;(try dsimp only at hSw);go_simp;(try with_reducible rfl))
            refine tkq (i:=10) (oi:=sq10) (v:=?vb10) rfl (.inl ⟨by rfl,?yb10⟩) (by assumption) ?rb10
            case yb10=>(intro w hSw;(try dsimp only at hSw);go_simp;(try with_reducible rfl))
            try simp only[Act.put,List.setIfInBounds_toArray,List.set_cons_zero,List.set_cons_succ]
            refine tkq (i:=11) (oi:=sq11) (v:=?vb11) rfl (.inl ⟨by rfl,?yb11⟩) (by assumption) ?rb11
            case yb11=>(intro w hSw;(try dsimp only at hSw);go_simp;(try with_reducible rfl))
            refine tkq (i:=12) (oi:=sq12) (v:=?vb12) rfl (.inl ⟨by rfl,?yb12⟩) (by assumption) ?rb12
            case yb12=>(intro w hSw;(try dsimp only at hSw);go_simp;(try with_reducible rfl))
            refine tkq (i:=13) (oi:=sq13) (v:=?vb13) rfl (.inl ⟨by rfl,?yb13⟩) (by assumption) ?rb13
            case yb13=>(intro w hSw;(try dsimp only at hSw);go_simp;(try with_reducible rfl))
            try simp only[Act.put,List.setIfInBounds_toArray,List.set_cons_zero,List.set_cons_succ]
            refine wpAnyH_ready (rs:=[8]) (by kernel_rfl) (by simp) ?_
            refine AllReadyH.cons (o:=sq8) rfl (fun K hK=>?_) AllReadyH.nil
            go_simp
            go_at_call 39
            with_reducible refine KS.mono ?_
            rintro e w3 ⟨rfl,b3'⟩
            have b3:Below (w2.alloc (.cells #[.int .i64 k,.string ⟨p.toArray⟩,.slice a4 m4 c4,.string ⟨v.toArray⟩] 93)).heap.size (w2.alloc (.cells #[.int .i64 k,.string ⟨p.toArray⟩,.slice a4 m4 c4,.string ⟨v.toArray⟩] 93)) w3:=⟨b3'.os,b3'.tape,b3'.output,b3'.size,b3'.block⟩
            have S3:Hid (w3.cell? ⟨b,off+j*2,none⟩=some (.string ⟨x.toArray⟩)∧w3.cell? ⟨b,off+j*2+1,none⟩=some (.string ⟨y.toArray⟩)):=⟨(b3.cell (p:=⟨b,off+j*2,none⟩) HBL.out).trans S1.out.1,(b3.cell (p:=⟨b,off+j*2+1,none⟩) HBL.out).trans S1.out.2⟩
            have B3:Hid (Below w.heap.size w w3):=B2a.out.trans (b3.mono B2a.out.size)
            clear b3' b3 hHeld
            refine hK.out _ _ S3.out (fun hHeld=>?_)
            clear hK K
            try simp only[Act.put,List.setIfInBounds_toArray,List.set_cons_zero,List.set_cons_succ]
            refine tkq (i:=14) (oi:=sq14) (v:=?vb14) rfl (.inl ⟨by rfl,?yb14⟩) (by assumption) ?rb14
            case yb14=>(intro w hSw;(try dsimp only at hSw);go_simp;(try with_reducible rfl))
            refine tkq (i:=15) (oi:=sq15) (v:=?vb15) rfl (.inl ⟨by rfl,?yb15⟩) (by assumption) ?rb15
            case yb15=>(intro w hSw;(try dsimp only at hSw);go_simp;(try with_reducible rfl))
            refine tkq (i:=16) (oi:=sq16) (v:=?vb16) rfl (.inl ⟨by rfl,?yb16⟩) (by assumption) ?rb16
            case yb16=>(intro w hSw;(try dsimp only at hSw);go_simp;(try with_reducible rfl))
            try simp only[Act.put,List.setIfInBounds_toArray,List.set_cons_zero,List.set_cons_succ]
            refine tkq (i:=17) (oi:=sq17) (v:=?vb17) rfl (.inl ⟨by rfl,?yb17⟩) (by assumption) ?rb17
            case yb17=>(intro w hSw;(try dsimp only at hSw);go_simp;(try with_reducible rfl))
            refine tkq (i:=18) (oi:=sq18) (v:=?vb18) rfl (.inl ⟨by rfl,?yb18⟩) (by assumption) ?rb18
            case yb18=>(intro w hSw;(try dsimp only at hSw);go_simp;(try with_reducible rfl))
            refine tkq (i:=19) (oi:=sq19) (v:=?vb19) rfl (.inl ⟨by rfl,?yb19⟩) (by assumption) ?rb19
            case yb19=>(intro w hSw;(try dsimp only at hSw);go_simp;(try with_reducible rfl))
            try simp only[Act.put,List.setIfInBounds_toArray,List.set_cons_zero,List.set_cons_succ]
            refine tkq (i:=20) (oi:=sq20) (v:=undef) rfl (.inr ⟨by rfl,rfl⟩) (by assumption) ?_
            refine tkq (i:=21) (oi:=sq21) (v:=undef) rfl (.inr ⟨by rfl,rfl⟩) (by assumption) ?_
            refine tkq (i:=22) (oi:=sq22) (v:=undef) rfl (.inr ⟨by rfl,rfl⟩) (by assumption) ?_
            try simp only[Act.put,List.setIfInBounds_toArray,List.set_cons_zero,List.set_cons_succ]
            refine tkq (i:=23) (oi:=sq23) (v:=undef) rfl (.inr ⟨by rfl,rfl⟩) (by assumption) ?_
            refine tkq (i:=24) (oi:=sq24) (v:=undef) rfl (.inr ⟨by rfl,rfl⟩) (by assumption) ?_
            refine tkq (i:=25) (oi:=sq25) (v:=undef) rfl (.inr ⟨by rfl,rfl⟩) (by assumption) ?_
            try simp only[Act.put,List.setIfInBounds_toArray,List.set_cons_zero,List.set_cons_succ]
            refine tkq (i:=26) (oi:=sq26) (v:=undef) rfl (.inr ⟨by rfl,rfl⟩) (by assumption) ?_
            refine tkq (i:=27) (oi:=sq27) (v:=undef) rfl (.inr ⟨by rfl,rfl⟩) (by assumption) ?_
            refine tkq (i:=28) (oi:=sq28) (v:=undef) rfl (.inr ⟨by rfl,rfl⟩) (by assumption) ?_
            try simp only[Act.put,List.setIfInBounds_toArray,List.set_cons_zero,List.set_cons_succ]
            refine tkq (i:=29) (oi:=sq29) (v:=undef) rfl (.inr ⟨by rfl,rfl⟩) (by assumption) ?_
            refine tkq (i:=30) (oi:=sq30) (v:=undef) rfl (.inr ⟨by rfl,rfl⟩) (by assumption) ?_
            refine tkq (i:=31) (oi:=sq31) (v:=undef) rfl (.inr ⟨by rfl,rfl⟩) (by assumption) ?_
            try simp only[Act.put,List.setIfInBounds_toArray,List.set_cons_zero,List.set_cons_succ]
            refine tkq (i:=32) (oi:=sq32) (v:=?vb32) rfl (.inl ⟨by rfl,?yb32⟩) (by assumption) ?rb32
            case yb32=>(intro w hSw;(try dsimp only at hSw);go_simp;(try with_reducible rfl))
            refine tkq (i:=33) (oi:=sq33) (v:=?vb33) rfl (.inl ⟨by rfl,?yb33⟩) (by assumption) ?rb33
            case yb33=>(intro w hSw;(try dsimp only at hSw);go_simp;(try with_reducible rfl))
            try simp only[Act.put,List.setIfInBounds_toArray,List.set_cons_zero,List.set_cons_succ]
            refine wpAnyH_done (by kernel_rfl) ?_ _
            go_wp2
            go_roundw
            case rel=>exact⟨j+1,by omega,by go_num,HN.out HTR.out,B3.out⟩
            case measure=>simp[intOf];omega
          · have heb:(su == x)=false:=by rw[beq_eq_false_iff_ne];exact fun e=>he e.symm
            have hebn:(su != x)=true:=by rw[bne_iff_ne];exact fun e=>he e.symm
            have hen:¬ su=x:=fun e=>he e.symm
            have HR:Hid (r=false):=HB.out (by rw[HO2.out,←HSU.out,heb];simp)
            clear HB HO2 HN
            go_wp2_with fail
            refine wp_region_held_drew (S:=fun w'=>w'.cell? ⟨b,off+j*2,none⟩=some (.string ⟨x.toArray⟩)∧w'.cell? ⟨b,off+j*2+1,none⟩=some (.string ⟨y.toArray⟩)) (by kernel_rfl) S1.out (fun hHeld=>?_)
            refine tkq (i:=0) (oi:=sq0) (v:=?vc0) rfl (.inl ⟨by rfl,?yc0⟩) (by assumption) ?rc0
            case yc0=>(intro w hSw;(try dsimp only at hSw);go_simp;(try with_reducible rfl))
            refine tkq (i:=1) (oi:=sq1) (v:=?vc1) rfl (.inl ⟨by rfl,?yc1⟩) (by assumption) ?rc1
            case yc1=>(intro w hSw;(try dsimp only at hSw);go_simp;(try with_reducible rfl))
            try simp only[Act.put,List.setIfInBounds_toArray,List.set_cons_zero,List.set_cons_succ]
            refine tkq (i:=2) (oi:=sq2) (v:=?vc2) rfl (.inl ⟨by rfl,?yc2⟩) (by assumption) ?rc2
            case yc2=>(intro w hSw;(try dsimp only at hSw);go_simp;(try with_reducible rfl))
            refine tkq (i:=3) (oi:=sq3) (v:=?vc3) rfl (.inl ⟨by rfl,?yc3⟩) (by assumption) ?rc3
            case yc3=>(intro w hSw;(try dsimp only at hSw);go_simp;(try with_reducible rfl))
            refine tkq (i:=4) (oi:=sq4) (v:=?vc4) rfl (.inl ⟨by rfl,?yc4⟩) (by assumption) ?rc4
            case yc4=>(intro w hSw;(try dsimp only at hSw);go_simp;(try with_reducible rfl))
            try simp only[Act.put,List.setIfInBounds_toArray,List.set_cons_zero,List.set_cons_succ]
            refine tkq (i:=5) (oi:=sq5) (v:=?vc5) rfl (.inl ⟨by rfl,?yc5⟩) (by assumption) ?rc5
            case yc5=>(intro w hSw;(try dsimp only at hSw);go_simp;(try with_reducible rfl))
            refine tkq (i:=6) (oi:=sq6) (v:=?vc6) rfl (.inl ⟨by rfl,?yc6⟩) (by assumption) ?rc6
            case yc6=>(intro w hSw;(try dsimp only at hSw);go_simp;(try with_reducible rfl))
            refine tkq (i:=7) (oi:=sq7) (v:=?vc7) rfl (.inl ⟨by rfl,?yc7⟩) (by assumption) ?rc7
            case yc7=>(intro w hSw;(try dsimp only at hSw);go_simp;(try with_reducible rfl))
            try simp only[Act.put,List.setIfInBounds_toArray,List.set_cons_zero,List.set_cons_succ]
            refine tkq (i:=9) (oi:=sq9) (v:=?vc9) rfl (.inl ⟨by rfl,?yc9⟩) (by assumption) ?rc9
            case yc9=>(intro w hSw;(try dsimp only at hSw);go_simp;(try with_reducible rfl))
            refine tkq (i:=10) (oi:=sq10) (v:=?vc10) rfl (.inl ⟨by rfl,?yc10⟩) (by assumption) ?rc10
            case yc10=>(intro w hSw;(try dsimp only at hSw);go_simp;(try with_reducible rfl))
            try simp only[Act.put,List.setIfInBounds_toArray,List.set_cons_zero,List.set_cons_succ]
            refine tkq (i:=11) (oi:=sq11) (v:=?vc11) rfl (.inl ⟨by rfl,?yc11⟩) (by assumption) ?rc11
            case yc11=>(intro w hSw;(try dsimp only at hSw);go_simp;(try with_reducible rfl))
            refine tkq (i:=12) (oi:=sq12) (v:=?vc12) rfl (.inl ⟨by rfl,?yc12⟩) (by assumption) ?rc12
            case yc12=>(intro w hSw;(try dsimp only at hSw);go_simp;(try with_reducible rfl))
            refine tkq (i:=13) (oi:=sq13) (v:=?vc13) rfl (.inl ⟨by rfl,?yc13⟩) (by assumption) ?rc13
            case yc13=>(intro w hSw;(try dsimp only at hSw);go_simp;(try with_reducible rfl))
            try simp only[Act.put,List.setIfInBounds_toArray,List.set_cons_zero,List.set_cons_succ]
            refine wpAnyH_ready (rs:=[8]) (by kernel_rfl) (by simp) ?_
            refine AllReadyH.cons (o:=sq8) rfl (fun K hK=>?_) AllReadyH.nil
            go_simp
            go_at_call 39
            with_reducible refine KS.mono ?_
            rintro e w3 ⟨rfl,b3'⟩
            have b3:Below (w2.alloc (.cells #[.int .i64 k,.string ⟨p.toArray⟩,.slice a4 m4 c4,.string ⟨v.toArray⟩] 93)).heap.size (w2.alloc (.cells #[.int .i64 k,.string ⟨p.toArray⟩,.slice a4 m4 c4,.string ⟨v.toArray⟩] 93)) w3:=⟨b3'.os,b3'.tape,b3'.output,b3'.size,b3'.block⟩
            have S3:Hid (w3.cell? ⟨b,off+j*2,none⟩=some (.string ⟨x.toArray⟩)∧w3.cell? ⟨b,off+j*2+1,none⟩=some (.string ⟨y.toArray⟩)):=⟨(b3.cell (p:=⟨b,off+j*2,none⟩) HBL.out).trans S1.out.1,(b3.cell (p:=⟨b,off+j*2+1,none⟩) HBL.out).trans S1.out.2⟩
            have B3:Hid (Below w.heap.size w w3):=B2a.out.trans (b3.mono B2a.out.size)
            clear b3' b3 hHeld
            refine hK.out _ _ S3.out (fun hHeld=>?_)
            clear hK K
            try simp only[Act.put,List.setIfInBounds_toArray,List.set_cons_zero,List.set_cons_succ]
            refine tkq (i:=14) (oi:=sq14) (v:=?vc14) rfl (.inl ⟨by rfl,?yc14⟩) (by assumption) ?rc14
            case yc14=>(intro w hSw;(try dsimp only at hSw);go_simp;(try with_reducible rfl))
            refine tkq (i:=15) (oi:=sq15) (v:=?vc15) rfl (.inl ⟨by rfl,?yc15⟩) (by assumption) ?rc15
            case yc15=>(intro w hSw;(try dsimp only at hSw);go_simp;(try with_reducible rfl))
            refine tkq (i:=16) (oi:=sq16) (v:=?vc16) rfl (.inl ⟨by rfl,?yc16⟩) (by assumption) ?rc16
            case yc16=>(intro w hSw;(try dsimp only at hSw);go_simp;(try with_reducible rfl))
            try simp only[Act.put,List.setIfInBounds_toArray,List.set_cons_zero,List.set_cons_succ]
            refine tkq (i:=17) (oi:=sq17) (v:=undef) rfl (.inr ⟨by rfl,rfl⟩) (by assumption) ?_
            refine tkq (i:=18) (oi:=sq18) (v:=undef) rfl (.inr ⟨by rfl,rfl⟩) (by assumption) ?_
            refine tkq (i:=19) (oi:=sq19) (v:=undef) rfl (.inr ⟨by rfl,rfl⟩) (by assumption) ?_
            try simp only[Act.put,List.setIfInBounds_toArray,List.set_cons_zero,List.set_cons_succ]
            refine tkq (i:=20) (oi:=sq20) (v:=undef) rfl (.inr ⟨by rfl,rfl⟩) (by assumption) ?_
            refine tkq (i:=21) (oi:=sq21) (v:=undef) rfl (.inr ⟨by rfl,rfl⟩) (by assumption) ?_
            refine tkq (i:=22) (oi:=sq22) (v:=undef) rfl (.inr ⟨by rfl,rfl⟩) (by assumption) ?_
            try simp only[Act.put,List.setIfInBounds_toArray,List.set_cons_zero,List.set_cons_succ]
            refine tkq (i:=23) (oi:=sq23) (v:=undef) rfl (.inr ⟨by rfl,rfl⟩) (by assumption) ?_
            refine tkq (i:=24) (oi:=sq24) (v:=undef) rfl (.inr ⟨by rfl,rfl⟩) (by assumption) ?_
            refine tkq (i:=25) (oi:=sq25) (v:=undef) rfl (.inr ⟨by rfl,rfl⟩) (by assumption) ?_
            try simp only[Act.put,List.setIfInBounds_toArray,List.set_cons_zero,List.set_cons_succ]
            refine tkq (i:=26) (oi:=sq26) (v:=undef) rfl (.inr ⟨by rfl,rfl⟩) (by assumption) ?_
            refine tkq (i:=27) (oi:=sq27) (v:=undef) rfl (.inr ⟨by rfl,rfl⟩) (by assumption) ?_
            refine tkq (i:=28) (oi:=sq28) (v:=undef) rfl (.inr ⟨by rfl,rfl⟩) (by assumption) ?_
            try simp only[Act.put,List.setIfInBounds_toArray,List.set_cons_zero,List.set_cons_succ]
            refine tkq (i:=29) (oi:=sq29) (v:=undef) rfl (.inr ⟨by rfl,rfl⟩) (by assumption) ?_
            refine tkq (i:=30) (oi:=sq30) (v:=undef) rfl (.inr ⟨by rfl,rfl⟩) (by assumption) ?_
            refine tkq (i:=31) (oi:=sq31) (v:=undef) rfl (.inr ⟨by rfl,rfl⟩) (by assumption) ?_
            try simp only[Act.put,List.setIfInBounds_toArray,List.set_cons_zero,List.set_cons_succ]
            refine tkq (i:=32) (oi:=sq32) (v:=undef) rfl (.inr ⟨by rfl,rfl⟩) (by assumption) ?_
            refine tkq (i:=33) (oi:=sq33) (v:=?vc33) rfl (.inl ⟨by rfl,?yc33⟩) (by assumption) ?rc33
            case yc33=>(intro w hSw;(try dsimp only at hSw);go_simp;(try with_reducible rfl))
            try simp only[Act.put,List.setIfInBounds_toArray,List.set_cons_zero,List.set_cons_succ]
            refine wpAnyH_done (by kernel_rfl) ?_ _
            go_wp2
            go_ret
            rw[HR.out]
            exact⟨rfl,B3.out⟩
      · obtain⟨i1,hi1⟩:∃ i1,i1=j - 1:=⟨_,rfl⟩
        have c3:=c3 (by omega)
        rw[←hi1] at c3 HO2
        have hz':(0:Int)<(j:Int):=by omega
        have hz'':0<j:=by omega
        have hzb:decide ((0:Int)<(j:Int))=true:=by simp;omega
        have hzi:IntKind.i64.wrap ((j:Int) - 1)=(i1:Int):=by rw[zar _ (by omega) (by omega)];omega
        have hzt:((i1:Int)).toNat=i1:=by omega
        have hi2:(j:Int) - 1=(i1:Int):=by omega
        have hzw:IntKind.i64.wrap (i1:Int)=(i1:Int):=zar _ (by omega) (by omega)
        have hi0:(0:Int)≤(i1:Int):=by omega
        have hi3:(i1:Int)<(ps.length:Int):=by omega
        obtain⟨z,hz2⟩:∃ z,z=keyAt ps i1:=⟨_,rfl⟩
        rw[←hz2] at c3 HO2
        clear hi1 hz2
        go_wp2_with fail
        refine (HKR.out _).mono ?_
        rintro e w2 ⟨a4,m4,c4,rfl,o4,b2⟩
        have B2:Hid (Below w.heap.size w w2):=hbel.trans (b2.mono hsz)
        have d1:=(b2.cell (p:=⟨b,off+j*2,none⟩) (World.block_lt_of_cell? wr _ c1)).trans c1
        have d2:=(b2.cell (p:=⟨b,off+j*2+1,none⟩) (World.block_lt_of_cell? wr _ c2)).trans c2
        have d3:=(b2.cell (p:=⟨b,off+i1*2,none⟩) (World.block_lt_of_cell? wr _ c3)).trans c3
        obtain⟨nd,hnd⟩:∃ nd,nd=(za6 y).getD zeroN:=⟨_,rfl⟩
        rw[←hnd]
        obtain⟨k,p,ls,v⟩:=nd
        simp only
        have B2a:Hid (Below w.heap.size w (w2.alloc (.cells #[.int .i64 k,.string ⟨p.toArray⟩,.slice a4 m4 c4,.string ⟨v.toArray⟩] 93))):=B2.out.alloc B2.out.size _
        have e1:(w2.alloc (.cells #[.int .i64 k,.string ⟨p.toArray⟩,.slice a4 m4 c4,.string ⟨v.toArray⟩] 93)).cell? ⟨b,off+j*2,none⟩=some (.string ⟨x.toArray⟩):=(World.cell?_alloc_lt w2 _ ⟨b,off+j*2,none⟩ (World.block_lt_of_cell? w2 _ d1)).trans d1
        have e2:(w2.alloc (.cells #[.int .i64 k,.string ⟨p.toArray⟩,.slice a4 m4 c4,.string ⟨v.toArray⟩] 93)).cell? ⟨b,off+j*2+1,none⟩=some (.string ⟨y.toArray⟩):=(World.cell?_alloc_lt w2 _ ⟨b,off+j*2+1,none⟩ (World.block_lt_of_cell? w2 _ d2)).trans d2
        have e3:(w2.alloc (.cells #[.int .i64 k,.string ⟨p.toArray⟩,.slice a4 m4 c4,.string ⟨v.toArray⟩] 93)).cell? ⟨b,off+i1*2,none⟩=some (.string ⟨z.toArray⟩):=(World.cell?_alloc_lt w2 _ ⟨b,off+i1*2,none⟩ (World.block_lt_of_cell? w2 _ d3)).trans d3
        obtain⟨ok,hok⟩:∃ ok,ok=(za6 y).isSome:=⟨_,rfl⟩
        rw[←hok]
        have HOK:Hid (ok=(za6 y).isSome):=hok
        clear o4 b2 hnd hok B2 c1 c2 c3 d3 d1 d2
        cases ok with
        | false =>
          have HR:Hid (r=false):=HB.out (by rw[HO2.out,←HOK.out];simp)
          have B2n:Hid (∀ q,Below w.heap.size w ((w2.alloc (.cells #[.int .i64 k,.string ⟨p.toArray⟩,.slice a4 m4 c4,.string ⟨v.toArray⟩] 93)).drewN q)):=fun q=>zz B2a.out
          clear HB HN HO2
          go_wp2
          go_quiet (fail)
          go_wp2
          go_ret
          rw[HR.out]
          exact⟨rfl,B2n.out _⟩
        | true =>
          have S1:Hid ((w2.alloc (.cells #[.int .i64 k,.string ⟨p.toArray⟩,.slice a4 m4 c4,.string ⟨v.toArray⟩] 93)).drew.cell? ⟨b,off+j*2,none⟩=some (.string ⟨x.toArray⟩)∧(w2.alloc (.cells #[.int .i64 k,.string ⟨p.toArray⟩,.slice a4 m4 c4,.string ⟨v.toArray⟩] 93)).drew.cell? ⟨b,off+j*2+1,none⟩=some (.string ⟨y.toArray⟩)∧(w2.alloc (.cells #[.int .i64 k,.string ⟨p.toArray⟩,.slice a4 m4 c4,.string ⟨v.toArray⟩] 93)).drew.cell? ⟨b,off+i1*2,none⟩=some (.string ⟨z.toArray⟩)):=⟨e1,e2,e3⟩
          have HBL:Hid (b<(w2.alloc (.cells #[.int .i64 k,.string ⟨p.toArray⟩,.slice a4 m4 c4,.string ⟨v.toArray⟩] 93)).heap.size):=World.block_lt_of_cell? _ _ e1
          have KS:=zf6 y (w2.alloc (.cells #[.int .i64 k,.string ⟨p.toArray⟩,.slice a4 m4 c4,.string ⟨v.toArray⟩] 93)).drew hyl
          obtain⟨su,hsu⟩:∃ su,su=sumL y:=⟨_,rfl⟩
          have HSU:Hid (su=sumL y):=hsu
          rw[←hsu] at KS
          clear hsu e1 e2 e3
          by_cases he:x=su
          · have heb:(su == x)=true:=by rw[beq_iff_eq];exact he.symm
            cases q4:Op.bytesLess z x with
            | true =>
              have q4':Op.bytesLess (⟨z.toArray⟩:ByteArray).toList (⟨x.toArray⟩:ByteArray).toList=true:=by rw[zb0,zb0];exact q4
              have HTR:Hid (stOk ps j=true):=by rw[Hid,HO2.out,←HOK.out,←HSU.out,q4,he];simp
              clear HB HO2
              subst he
              go_wp2_with fail
              refine wp_region_held_drew (S:=fun w'=>w'.cell? ⟨b,off+j*2,none⟩=some (.string ⟨x.toArray⟩)∧w'.cell? ⟨b,off+j*2+1,none⟩=some (.string ⟨y.toArray⟩)∧w'.cell? ⟨b,off+i1*2,none⟩=some (.string ⟨z.toArray⟩)) (by kernel_rfl) S1.out (fun hHeld=>?_)
              refine tkq (i:=0) (oi:=sq0) (v:=?vd0) rfl (.inl ⟨by rfl,?yd0⟩) (by assumption) ?rd0
              case yd0=>(intro w hSw;(try dsimp only at hSw);go_simp;(try with_reducible rfl))
              refine tkq (i:=1) (oi:=sq1) (v:=?vd1) rfl (.inl ⟨by rfl,?yd1⟩) (by assumption) ?rd1
              case yd1=>(intro w hSw;(try dsimp only at hSw);go_simp;(try with_reducible rfl))
              try simp only[Act.put,List.setIfInBounds_toArray,List.set_cons_zero,List.set_cons_succ]
              refine tkq (i:=2) (oi:=sq2) (v:=?vd2) rfl (.inl ⟨by rfl,?yd2⟩) (by assumption) ?rd2
              case yd2=>(intro w hSw;(try dsimp only at hSw);go_simp;(try with_reducible rfl))
              refine tkq (i:=3) (oi:=sq3) (v:=?vd3) rfl (.inl ⟨by rfl,?yd3⟩) (by assumption) ?rd3
              case yd3=>(intro w hSw;(try dsimp only at hSw);go_simp;(try with_reducible rfl))
              refine tkq (i:=4) (oi:=sq4) (v:=?vd4) rfl (.inl ⟨by rfl,?yd4⟩) (by assumption) ?rd4
              case yd4=>(intro w hSw;(try dsimp only at hSw);go_simp;(try with_reducible rfl))
              try simp only[Act.put,List.setIfInBounds_toArray,List.set_cons_zero,List.set_cons_succ]
              refine tkq (i:=5) (oi:=sq5) (v:=?vd5) rfl (.inl ⟨by rfl,?yd5⟩) (by assumption) ?rd5
              case yd5=>(intro w hSw;(try dsimp only at hSw);go_simp;(try with_reducible rfl))
              refine tkq (i:=6) (oi:=sq6) (v:=?vd6) rfl (.inl ⟨by rfl,?yd6⟩) (by assumption) ?rd6
              case yd6=>(intro w hSw;(try dsimp only at hSw);go_simp;(try with_reducible rfl))
              refine tkq (i:=7) (oi:=sq7) (v:=?vd7) rfl (.inl ⟨by rfl,?yd7⟩) (by assumption) ?rd7
              case yd7=>(intro w hSw;(try dsimp only at hSw);go_simp;(try with_reducible rfl))
              try simp only[Act.put,List.setIfInBounds_toArray,List.set_cons_zero,List.set_cons_succ]
              refine tkq (i:=9) (oi:=sq9) (v:=?vd9) rfl (.inl ⟨by rfl,?yd9⟩) (by assumption) ?rd9
              case yd9=>(intro w hSw;(try dsimp only at hSw);go_simp;(try with_reducible rfl))
              refine tkq (i:=10) (oi:=sq10) (v:=?vd10) rfl (.inl ⟨by rfl,?yd10⟩) (by assumption) ?rd10
              case yd10=>(intro w hSw;(try dsimp only at hSw);go_simp;(try with_reducible rfl))
              try simp only[Act.put,List.setIfInBounds_toArray,List.set_cons_zero,List.set_cons_succ]
              refine tkq (i:=11) (oi:=sq11) (v:=?vd11) rfl (.inl ⟨by rfl,?yd11⟩) (by assumption) ?rd11
              case yd11=>(intro w hSw;(try dsimp only at hSw);go_simp;(try with_reducible rfl))
              refine tkq (i:=12) (oi:=sq12) (v:=?vd12) rfl (.inl ⟨by rfl,?yd12⟩) (by assumption) ?rd12
              case yd12=>(intro w hSw;(try dsimp only at hSw);go_simp;(try with_reducible rfl))
              refine tkq (i:=13) (oi:=sq13) (v:=?vd13) rfl (.inl ⟨by rfl,?yd13⟩) (by assumption) ?rd13
              case yd13=>(intro w hSw;(try dsimp only at hSw);go_simp;(try with_reducible rfl))
              try simp only[Act.put,List.setIfInBounds_toArray,List.set_cons_zero,List.set_cons_succ]
              refine wpAnyH_ready (rs:=[8]) (by kernel_rfl) (by simp) ?_
              refine AllReadyH.cons (o:=sq8) rfl (fun K hK=>?_) AllReadyH.nil
              go_simp
              go_at_call 39
              with_reducible refine KS.mono ?_
              rintro e w3 ⟨rfl,b3'⟩
              have b3:Below (w2.alloc (.cells #[.int .i64 k,.string ⟨p.toArray⟩,.slice a4 m4 c4,.string ⟨v.toArray⟩] 93)).heap.size (w2.alloc (.cells #[.int .i64 k,.string ⟨p.toArray⟩,.slice a4 m4 c4,.string ⟨v.toArray⟩] 93)) w3:=⟨b3'.os,b3'.tape,b3'.output,b3'.size,b3'.block⟩
              have S3:Hid (w3.cell? ⟨b,off+j*2,none⟩=some (.string ⟨x.toArray⟩)∧w3.cell? ⟨b,off+j*2+1,none⟩=some (.string ⟨y.toArray⟩)∧w3.cell? ⟨b,off+i1*2,none⟩=some (.string ⟨z.toArray⟩)):=⟨(b3.cell (p:=⟨b,off+j*2,none⟩) HBL.out).trans S1.out.1,(b3.cell (p:=⟨b,off+j*2+1,none⟩) HBL.out).trans S1.out.2.1,(b3.cell (p:=⟨b,off+i1*2,none⟩) HBL.out).trans S1.out.2.2⟩
              have B3:Hid (Below w.heap.size w w3):=B2a.out.trans (b3.mono B2a.out.size)
              clear b3' b3 hHeld
              refine hK.out _ _ S3.out (fun hHeld=>?_)
              clear hK K
              try simp only[Act.put,List.setIfInBounds_toArray,List.set_cons_zero,List.set_cons_succ]
              refine tkq (i:=14) (oi:=sq14) (v:=?vd14) rfl (.inl ⟨by rfl,?yd14⟩) (by assumption) ?rd14
              case yd14=>(intro w hSw;(try dsimp only at hSw);go_simp;(try with_reducible rfl))
              refine tkq (i:=15) (oi:=sq15) (v:=?vd15) rfl (.inl ⟨by rfl,?yd15⟩) (by assumption) ?rd15
              case yd15=>(intro w hSw;(try dsimp only at hSw);go_simp;(try with_reducible rfl))
              refine tkq (i:=16) (oi:=sq16) (v:=?vd16) rfl (.inl ⟨by rfl,?yd16⟩) (by assumption) ?rd16
              case yd16=>(intro w hSw;(try dsimp only at hSw);go_simp;(try with_reducible rfl))
              try simp only[Act.put,List.setIfInBounds_toArray,List.set_cons_zero,List.set_cons_succ]
              refine tkq (i:=17) (oi:=sq17) (v:=?vd17) rfl (.inl ⟨by rfl,?yd17⟩) (by assumption) ?rd17
              case yd17=>(intro w hSw;(try dsimp only at hSw);go_simp;(try with_reducible rfl))
              refine tkq (i:=18) (oi:=sq18) (v:=?vd18) rfl (.inl ⟨by rfl,?yd18⟩) (by assumption) ?rd18
              case yd18=>(intro w hSw;(try dsimp only at hSw);go_simp;(try with_reducible rfl))
              refine tkq (i:=19) (oi:=sq19) (v:=?vd19) rfl (.inl ⟨by rfl,?yd19⟩) (by assumption) ?rd19
              case yd19=>(intro w hSw;(try dsimp only at hSw);go_simp;(try with_reducible rfl))
              try simp only[Act.put,List.setIfInBounds_toArray,List.set_cons_zero,List.set_cons_succ]
              refine tkq (i:=20) (oi:=sq20) (v:=?vd20) rfl (.inl ⟨by rfl,?yd20⟩) (by assumption) ?rd20
              case yd20=>(intro w hSw;(try dsimp only at hSw);go_simp;(try with_reducible rfl))
              refine tkq (i:=21) (oi:=sq21) (v:=?vd21) rfl (.inl ⟨by rfl,?yd21⟩) (by assumption) ?rd21
              case yd21=>(intro w hSw;(try dsimp only at hSw);go_simp;(try with_reducible rfl))
              refine tkq (i:=22) (oi:=sq22) (v:=?vd22) rfl (.inl ⟨by rfl,?yd22⟩) (by assumption) ?rd22
              case yd22=>(intro w hSw;(try dsimp only at hSw);go_simp;(try with_reducible rfl))
              try simp only[Act.put,List.setIfInBounds_toArray,List.set_cons_zero,List.set_cons_succ]
              refine tkq (i:=23) (oi:=sq23) (v:=?vd23) rfl (.inl ⟨by rfl,?yd23⟩) (by assumption) ?rd23
              case yd23=>(intro w hSw;(try dsimp only at hSw);go_simp;(try with_reducible rfl))
              refine tkq (i:=24) (oi:=sq24) (v:=?vd24) rfl (.inl ⟨by rfl,?yd24⟩) (by assumption) ?rd24
              case yd24=>(intro w hSw;(try dsimp only at hSw);go_simp;(try with_reducible rfl))
              refine tkq (i:=25) (oi:=sq25) (v:=?vd25) rfl (.inl ⟨by rfl,?yd25⟩) (by assumption) ?rd25
              case yd25=>(intro w hSw;(try dsimp only at hSw);go_simp;(try with_reducible rfl))
              try simp only[Act.put,List.setIfInBounds_toArray,List.set_cons_zero,List.set_cons_succ]
              refine tkq (i:=26) (oi:=sq26) (v:=?vd26) rfl (.inl ⟨by rfl,?yd26⟩) (by assumption) ?rd26
              case yd26=>(intro w hSw;(try dsimp only at hSw);go_simp;(try with_reducible rfl))
              refine tkq (i:=27) (oi:=sq27) (v:=?vd27) rfl (.inl ⟨by rfl,?yd27⟩) (by assumption) ?rd27
              case yd27=>(intro w hSw;(try dsimp only at hSw);go_simp;(try with_reducible rfl))
              refine tkq (i:=28) (oi:=sq28) (v:=?vd28) rfl (.inl ⟨by rfl,?yd28⟩) (by assumption) ?rd28
              case yd28=>(intro w hSw;(try dsimp only at hSw);go_simp;(try with_reducible rfl))
              try simp only[Act.put,List.setIfInBounds_toArray,List.set_cons_zero,List.set_cons_succ]
              refine tkq (i:=29) (oi:=sq29) (v:=?vd29) rfl (.inl ⟨by rfl,?yd29⟩) (by assumption) ?rd29
              case yd29=>(intro w hSw;(try dsimp only at hSw);go_simp;(try with_reducible rfl))
              refine tkq (i:=30) (oi:=sq30) (v:=?vd30) rfl (.inl ⟨by rfl,?yd30⟩) (by assumption) ?rd30
              case yd30=>(intro w hSw;(try dsimp only at hSw);go_simp;(try with_reducible rfl))
              refine tkq (i:=31) (oi:=sq31) (v:=?vd31) rfl (.inl ⟨by rfl,?yd31⟩) (by assumption) ?rd31
              case yd31=>(intro w hSw;(try dsimp only at hSw);go_simp;(try with_reducible rfl))
              try simp only[Act.put,List.setIfInBounds_toArray,List.set_cons_zero,List.set_cons_succ]
              refine tkq (i:=32) (oi:=sq32) (v:=?vd32) rfl (.inl ⟨by rfl,?yd32⟩) (by assumption) ?rd32
              case yd32=>(intro w hSw;(try dsimp only at hSw);go_simp;(try with_reducible rfl))
              refine tkq (i:=33) (oi:=sq33) (v:=?vd33) rfl (.inl ⟨by rfl,?yd33⟩) (by assumption) ?rd33
              case yd33=>(intro w hSw;(try dsimp only at hSw);go_simp;(try with_reducible rfl))
              try simp only[Act.put,List.setIfInBounds_toArray,List.set_cons_zero,List.set_cons_succ]
              refine wpAnyH_done (by kernel_rfl) ?_ _
              go_wp2
              go_roundw
              case rel=>exact⟨j+1,by omega,by go_num,HN.out HTR.out,B3.out⟩
              case measure=>simp[intOf];omega
            | false =>
              have q4':Op.bytesLess (⟨z.toArray⟩:ByteArray).toList (⟨x.toArray⟩:ByteArray).toList=false:=by rw[zb0,zb0];exact q4
              have HR:Hid (r=false):=HB.out (by rw[HO2.out,q4];simp[hz])
              clear HB HO2 HN
              subst he
              go_wp2_with fail
              refine wp_region_held_drew (S:=fun w'=>w'.cell? ⟨b,off+j*2,none⟩=some (.string ⟨x.toArray⟩)∧w'.cell? ⟨b,off+j*2+1,none⟩=some (.string ⟨y.toArray⟩)∧w'.cell? ⟨b,off+i1*2,none⟩=some (.string ⟨z.toArray⟩)) (by kernel_rfl) S1.out (fun hHeld=>?_)
              refine tkq (i:=0) (oi:=sq0) (v:=?ve0) rfl (.inl ⟨by rfl,?ye0⟩) (by assumption) ?re0
              case ye0=>(intro w hSw;(try dsimp only at hSw);go_simp;(try with_reducible rfl))
              refine tkq (i:=1) (oi:=sq1) (v:=?ve1) rfl (.inl ⟨by rfl,?ye1⟩) (by assumption) ?re1
              case ye1=>(intro w hSw;(try dsimp only at hSw);go_simp;(try with_reducible rfl))
              try simp only[Act.put,List.setIfInBounds_toArray,List.set_cons_zero,List.set_cons_succ]
              refine tkq (i:=2) (oi:=sq2) (v:=?ve2) rfl (.inl ⟨by rfl,?ye2⟩) (by assumption) ?re2
              case ye2=>(intro w hSw;(try dsimp only at hSw);go_simp;(try with_reducible rfl))
              refine tkq (i:=3) (oi:=sq3) (v:=?ve3) rfl (.inl ⟨by rfl,?ye3⟩) (by assumption) ?re3
              case ye3=>(intro w hSw;(try dsimp only at hSw);go_simp;(try with_reducible rfl))
              refine tkq (i:=4) (oi:=sq4) (v:=?ve4) rfl (.inl ⟨by rfl,?ye4⟩) (by assumption) ?re4
              case ye4=>(intro w hSw;(try dsimp only at hSw);go_simp;(try with_reducible rfl))
              try simp only[Act.put,List.setIfInBounds_toArray,List.set_cons_zero,List.set_cons_succ]
              refine tkq (i:=5) (oi:=sq5) (v:=?ve5) rfl (.inl ⟨by rfl,?ye5⟩) (by assumption) ?re5
              case ye5=>(intro w hSw;(try dsimp only at hSw);go_simp;(try with_reducible rfl))
              refine tkq (i:=6) (oi:=sq6) (v:=?ve6) rfl (.inl ⟨by rfl,?ye6⟩) (by assumption) ?re6
              case ye6=>(intro w hSw;(try dsimp only at hSw);go_simp;(try with_reducible rfl))
              refine tkq (i:=7) (oi:=sq7) (v:=?ve7) rfl (.inl ⟨by rfl,?ye7⟩) (by assumption) ?re7
              case ye7=>(intro w hSw;(try dsimp only at hSw);go_simp;(try with_reducible rfl))
              try simp only[Act.put,List.setIfInBounds_toArray,List.set_cons_zero,List.set_cons_succ]
              refine tkq (i:=9) (oi:=sq9) (v:=?ve9) rfl (.inl ⟨by rfl,?ye9⟩) (by assumption) ?re9
              case ye9=>(intro w hSw;(try dsimp only at hSw);go_simp;(try with_reducible rfl))
              refine tkq (i:=10) (oi:=sq10) (v:=?ve10) rfl (.inl ⟨by rfl,?ye10⟩) (by assumption) ?re10
              case ye10=>(intro w hSw;(try dsimp only at hSw);go_simp;(try with_reducible rfl))
              try simp only[Act.put,List.setIfInBounds_toArray,List.set_cons_zero,List.set_cons_succ]
              refine tkq (i:=11) (oi:=sq11) (v:=?ve11) rfl (.inl ⟨by rfl,?ye11⟩) (by assumption) ?re11
              case ye11=>(intro w hSw;(try dsimp only at hSw);go_simp;(try with_reducible rfl))
              refine tkq (i:=12) (oi:=sq12) (v:=?ve12) rfl (.inl ⟨by rfl,?ye12⟩) (by assumption) ?re12
              case ye12=>(intro w hSw;(try dsimp only at hSw);go_simp;(try with_reducible rfl))
              refine tkq (i:=13) (oi:=sq13) (v:=?ve13) rfl (.inl ⟨by rfl,?ye13⟩) (by assumption) ?re13
              case ye13=>(intro w hSw;(try dsimp only at hSw);go_simp;(try with_reducible rfl))
              try simp only[Act.put,List.setIfInBounds_toArray,List.set_cons_zero,List.set_cons_succ]
              refine wpAnyH_ready (rs:=[8]) (by kernel_rfl) (by simp) ?_
              refine AllReadyH.cons (o:=sq8) rfl (fun K hK=>?_) AllReadyH.nil
              go_simp
              go_at_call 39
              with_reducible refine KS.mono ?_
              rintro e w3 ⟨rfl,b3'⟩
              have b3:Below (w2.alloc (.cells #[.int .i64 k,.string ⟨p.toArray⟩,.slice a4 m4 c4,.string ⟨v.toArray⟩] 93)).heap.size (w2.alloc (.cells #[.int .i64 k,.string ⟨p.toArray⟩,.slice a4 m4 c4,.string ⟨v.toArray⟩] 93)) w3:=⟨b3'.os,b3'.tape,b3'.output,b3'.size,b3'.block⟩
              have S3:Hid (w3.cell? ⟨b,off+j*2,none⟩=some (.string ⟨x.toArray⟩)∧w3.cell? ⟨b,off+j*2+1,none⟩=some (.string ⟨y.toArray⟩)∧w3.cell? ⟨b,off+i1*2,none⟩=some (.string ⟨z.toArray⟩)):=⟨(b3.cell (p:=⟨b,off+j*2,none⟩) HBL.out).trans S1.out.1,(b3.cell (p:=⟨b,off+j*2+1,none⟩) HBL.out).trans S1.out.2.1,(b3.cell (p:=⟨b,off+i1*2,none⟩) HBL.out).trans S1.out.2.2⟩
              have B3:Hid (Below w.heap.size w w3):=B2a.out.trans (b3.mono B2a.out.size)
              clear b3' b3 hHeld
              refine hK.out _ _ S3.out (fun hHeld=>?_)
              clear hK K
              try simp only[Act.put,List.setIfInBounds_toArray,List.set_cons_zero,List.set_cons_succ]
              refine tkq (i:=14) (oi:=sq14) (v:=?ve14) rfl (.inl ⟨by rfl,?ye14⟩) (by assumption) ?re14
              case ye14=>(intro w hSw;(try dsimp only at hSw);go_simp;(try with_reducible rfl))
              refine tkq (i:=15) (oi:=sq15) (v:=?ve15) rfl (.inl ⟨by rfl,?ye15⟩) (by assumption) ?re15
              case ye15=>(intro w hSw;(try dsimp only at hSw);go_simp;(try with_reducible rfl))
              refine tkq (i:=16) (oi:=sq16) (v:=?ve16) rfl (.inl ⟨by rfl,?ye16⟩) (by assumption) ?re16
              case ye16=>(intro w hSw;(try dsimp only at hSw);go_simp;(try with_reducible rfl))
              try simp only[Act.put,List.setIfInBounds_toArray,List.set_cons_zero,List.set_cons_succ]
              refine tkq (i:=17) (oi:=sq17) (v:=?ve17) rfl (.inl ⟨by rfl,?ye17⟩) (by assumption) ?re17
              case ye17=>(intro w hSw;(try dsimp only at hSw);go_simp;(try with_reducible rfl))
              refine tkq (i:=18) (oi:=sq18) (v:=?ve18) rfl (.inl ⟨by rfl,?ye18⟩) (by assumption) ?re18
              case ye18=>(intro w hSw;(try dsimp only at hSw);go_simp;(try with_reducible rfl))
              refine tkq (i:=19) (oi:=sq19) (v:=?ve19) rfl (.inl ⟨by rfl,?ye19⟩) (by assumption) ?re19
              case ye19=>(intro w hSw;(try dsimp only at hSw);go_simp;(try with_reducible rfl))
              try simp only[Act.put,List.setIfInBounds_toArray,List.set_cons_zero,List.set_cons_succ]
              refine tkq (i:=20) (oi:=sq20) (v:=?ve20) rfl (.inl ⟨by rfl,?ye20⟩) (by assumption) ?re20
              case ye20=>(intro w hSw;(try dsimp only at hSw);go_simp;(try with_reducible rfl))
              refine tkq (i:=21) (oi:=sq21) (v:=?ve21) rfl (.inl ⟨by rfl,?ye21⟩) (by assumption) ?re21
              case ye21=>(intro w hSw;(try dsimp only at hSw);go_simp;(try with_reducible rfl))
              refine tkq (i:=22) (oi:=sq22) (v:=?ve22) rfl (.inl ⟨by rfl,?ye22⟩) (by assumption) ?re22
              case ye22=>(intro w hSw;(try dsimp only at hSw);go_simp;(try with_reducible rfl))
              try simp only[Act.put,List.setIfInBounds_toArray,List.set_cons_zero,List.set_cons_succ]
              refine tkq (i:=23) (oi:=sq23) (v:=?ve23) rfl (.inl ⟨by rfl,?ye23⟩) (by assumption) ?re23
              case ye23=>(intro w hSw;(try dsimp only at hSw);go_simp;(try with_reducible rfl))
              refine tkq (i:=24) (oi:=sq24) (v:=?ve24) rfl (.inl ⟨by rfl,?ye24⟩) (by assumption) ?re24
              case ye24=>(intro w hSw;(try dsimp only at hSw);go_simp;(try with_reducible rfl))
              refine tkq (i:=25) (oi:=sq25) (v:=?ve25) rfl (.inl ⟨by rfl,?ye25⟩) (by assumption) ?re25
              case ye25=>(intro w hSw;(try dsimp only at hSw);go_simp;(try with_reducible rfl))
              try simp only[Act.put,List.setIfInBounds_toArray,List.set_cons_zero,List.set_cons_succ]
              refine tkq (i:=26) (oi:=sq26) (v:=?ve26) rfl (.inl ⟨by rfl,?ye26⟩) (by assumption) ?re26
              case ye26=>(intro w hSw;(try dsimp only at hSw);go_simp;(try with_reducible rfl))
              refine tkq (i:=27) (oi:=sq27) (v:=?ve27) rfl (.inl ⟨by rfl,?ye27⟩) (by assumption) ?re27
              case ye27=>(intro w hSw;(try dsimp only at hSw);go_simp;(try with_reducible rfl))
              refine tkq (i:=28) (oi:=sq28) (v:=?ve28) rfl (.inl ⟨by rfl,?ye28⟩) (by assumption) ?re28
              case ye28=>(intro w hSw;(try dsimp only at hSw);go_simp;(try with_reducible rfl))
              try simp only[Act.put,List.setIfInBounds_toArray,List.set_cons_zero,List.set_cons_succ]
              refine tkq (i:=29) (oi:=sq29) (v:=?ve29) rfl (.inl ⟨by rfl,?ye29⟩) (by assumption) ?re29
              case ye29=>(intro w hSw;(try dsimp only at hSw);go_simp;(try with_reducible rfl))
              refine tkq (i:=30) (oi:=sq30) (v:=?ve30) rfl (.inl ⟨by rfl,?ye30⟩) (by assumption) ?re30
              case ye30=>(intro w hSw;(try dsimp only at hSw);go_simp;(try with_reducible rfl))
              refine tkq (i:=31) (oi:=sq31) (v:=?ve31) rfl (.inl ⟨by rfl,?ye31⟩) (by assumption) ?re31
              case ye31=>(intro w hSw;(try dsimp only at hSw);go_simp;(try with_reducible rfl))
              try simp only[Act.put,List.setIfInBounds_toArray,List.set_cons_zero,List.set_cons_succ]
              refine tkq (i:=32) (oi:=sq32) (v:=?ve32) rfl (.inl ⟨by rfl,?ye32⟩) (by assumption) ?re32
              case ye32=>(intro w hSw;(try dsimp only at hSw);go_simp;(try with_reducible rfl))
              refine tkq (i:=33) (oi:=sq33) (v:=?ve33) rfl (.inl ⟨by rfl,?ye33⟩) (by assumption) ?re33
              case ye33=>(intro w hSw;(try dsimp only at hSw);go_simp;(try with_reducible rfl))
              try simp only[Act.put,List.setIfInBounds_toArray,List.set_cons_zero,List.set_cons_succ]
              refine wpAnyH_done (by kernel_rfl) ?_ _
              go_wp2
              go_ret
              rw[HR.out]
              exact⟨rfl,B3.out⟩
          · have heb:(su == x)=false:=by rw[beq_eq_false_iff_ne];exact fun e=>he e.symm
            have hebn:(su != x)=true:=by rw[bne_iff_ne];exact fun e=>he e.symm
            have hen:¬ su=x:=fun e=>he e.symm
            have HR:Hid (r=false):=HB.out (by rw[HO2.out,←HSU.out,heb];simp)
            clear HB HO2 HN
            have S1:Hid ((w2.alloc (.cells #[.int .i64 k,.string ⟨p.toArray⟩,.slice a4 m4 c4,.string ⟨v.toArray⟩] 93)).drew.cell? ⟨b,off+j*2,none⟩=some (.string ⟨x.toArray⟩)∧(w2.alloc (.cells #[.int .i64 k,.string ⟨p.toArray⟩,.slice a4 m4 c4,.string ⟨v.toArray⟩] 93)).drew.cell? ⟨b,off+j*2+1,none⟩=some (.string ⟨y.toArray⟩)):=⟨S1.out.1,S1.out.2.1⟩
            go_wp2_with fail
            refine wp_region_held_drew (S:=fun w'=>w'.cell? ⟨b,off+j*2,none⟩=some (.string ⟨x.toArray⟩)∧w'.cell? ⟨b,off+j*2+1,none⟩=some (.string ⟨y.toArray⟩)) (by kernel_rfl) S1.out (fun hHeld=>?_)
            refine tkq (i:=0) (oi:=sq0) (v:=?vf0) rfl (.inl ⟨by rfl,?yf0⟩) (by assumption) ?rf0
            case yf0=>(intro w hSw;(try dsimp only at hSw);go_simp;(try with_reducible rfl))
            refine tkq (i:=1) (oi:=sq1) (v:=?vf1) rfl (.inl ⟨by rfl,?yf1⟩) (by assumption) ?rf1
            case yf1=>(intro w hSw;(try dsimp only at hSw);go_simp;(try with_reducible rfl))
            try simp only[Act.put,List.setIfInBounds_toArray,List.set_cons_zero,List.set_cons_succ]
            refine tkq (i:=2) (oi:=sq2) (v:=?vf2) rfl (.inl ⟨by rfl,?yf2⟩) (by assumption) ?rf2
            case yf2=>(intro w hSw;(try dsimp only at hSw);go_simp;(try with_reducible rfl))
            refine tkq (i:=3) (oi:=sq3) (v:=?vf3) rfl (.inl ⟨by rfl,?yf3⟩) (by assumption) ?rf3
            case yf3=>(intro w hSw;(try dsimp only at hSw);go_simp;(try with_reducible rfl))
            refine tkq (i:=4) (oi:=sq4) (v:=?vf4) rfl (.inl ⟨by rfl,?yf4⟩) (by assumption) ?rf4
            case yf4=>(intro w hSw;(try dsimp only at hSw);go_simp;(try with_reducible rfl))
            try simp only[Act.put,List.setIfInBounds_toArray,List.set_cons_zero,List.set_cons_succ]
            refine tkq (i:=5) (oi:=sq5) (v:=?vf5) rfl (.inl ⟨by rfl,?yf5⟩) (by assumption) ?rf5
            case yf5=>(intro w hSw;(try dsimp only at hSw);go_simp;(try with_reducible rfl))
            refine tkq (i:=6) (oi:=sq6) (v:=?vf6) rfl (.inl ⟨by rfl,?yf6⟩) (by assumption) ?rf6
            case yf6=>(intro w hSw;(try dsimp only at hSw);go_simp;(try with_reducible rfl))
            refine tkq (i:=7) (oi:=sq7) (v:=?vf7) rfl (.inl ⟨by rfl,?yf7⟩) (by assumption) ?rf7
            case yf7=>(intro w hSw;(try dsimp only at hSw);go_simp;(try with_reducible rfl))
            try simp only[Act.put,List.setIfInBounds_toArray,List.set_cons_zero,List.set_cons_succ]
            refine tkq (i:=9) (oi:=sq9) (v:=?vf9) rfl (.inl ⟨by rfl,?yf9⟩) (by assumption) ?rf9
            case yf9=>(intro w hSw;(try dsimp only at hSw);go_simp;(try with_reducible rfl))
            refine tkq (i:=10) (oi:=sq10) (v:=?vf10) rfl (.inl ⟨by rfl,?yf10⟩) (by assumption) ?rf10
            case yf10=>(intro w hSw;(try dsimp only at hSw);go_simp;(try with_reducible rfl))
            try simp only[Act.put,List.setIfInBounds_toArray,List.set_cons_zero,List.set_cons_succ]
            refine tkq (i:=11) (oi:=sq11) (v:=?vf11) rfl (.inl ⟨by rfl,?yf11⟩) (by assumption) ?rf11
            case yf11=>(intro w hSw;(try dsimp only at hSw);go_simp;(try with_reducible rfl))
            refine tkq (i:=12) (oi:=sq12) (v:=?vf12) rfl (.inl ⟨by rfl,?yf12⟩) (by assumption) ?rf12
            case yf12=>(intro w hSw;(try dsimp only at hSw);go_simp;(try with_reducible rfl))
            refine tkq (i:=13) (oi:=sq13) (v:=?vf13) rfl (.inl ⟨by rfl,?yf13⟩) (by assumption) ?rf13
            case yf13=>(intro w hSw;(try dsimp only at hSw);go_simp;(try with_reducible rfl))
            try simp only[Act.put,List.setIfInBounds_toArray,List.set_cons_zero,List.set_cons_succ]
            refine wpAnyH_ready (rs:=[8]) (by kernel_rfl) (by simp) ?_
            refine AllReadyH.cons (o:=sq8) rfl (fun K hK=>?_) AllReadyH.nil
            go_simp
            go_at_call 39
            with_reducible refine KS.mono ?_
            rintro e w3 ⟨rfl,b3'⟩
            have b3:Below (w2.alloc (.cells #[.int .i64 k,.string ⟨p.toArray⟩,.slice a4 m4 c4,.string ⟨v.toArray⟩] 93)).heap.size (w2.alloc (.cells #[.int .i64 k,.string ⟨p.toArray⟩,.slice a4 m4 c4,.string ⟨v.toArray⟩] 93)) w3:=⟨b3'.os,b3'.tape,b3'.output,b3'.size,b3'.block⟩
            have S3:Hid (w3.cell? ⟨b,off+j*2,none⟩=some (.string ⟨x.toArray⟩)∧w3.cell? ⟨b,off+j*2+1,none⟩=some (.string ⟨y.toArray⟩)):=⟨(b3.cell (p:=⟨b,off+j*2,none⟩) HBL.out).trans S1.out.1,(b3.cell (p:=⟨b,off+j*2+1,none⟩) HBL.out).trans S1.out.2⟩
            have B3:Hid (Below w.heap.size w w3):=B2a.out.trans (b3.mono B2a.out.size)
            clear b3' b3 hHeld
            refine hK.out _ _ S3.out (fun hHeld=>?_)
            clear hK K
            try simp only[Act.put,List.setIfInBounds_toArray,List.set_cons_zero,List.set_cons_succ]
            refine tkq (i:=14) (oi:=sq14) (v:=?vf14) rfl (.inl ⟨by rfl,?yf14⟩) (by assumption) ?rf14
            case yf14=>(intro w hSw;(try dsimp only at hSw);go_simp;(try with_reducible rfl))
            refine tkq (i:=15) (oi:=sq15) (v:=?vf15) rfl (.inl ⟨by rfl,?yf15⟩) (by assumption) ?rf15
            case yf15=>(intro w hSw;(try dsimp only at hSw);go_simp;(try with_reducible rfl))
            refine tkq (i:=16) (oi:=sq16) (v:=?vf16) rfl (.inl ⟨by rfl,?yf16⟩) (by assumption) ?rf16
            case yf16=>(intro w hSw;(try dsimp only at hSw);go_simp;(try with_reducible rfl))
            try simp only[Act.put,List.setIfInBounds_toArray,List.set_cons_zero,List.set_cons_succ]
            refine tkq (i:=17) (oi:=sq17) (v:=undef) rfl (.inr ⟨by rfl,rfl⟩) (by assumption) ?_
            refine tkq (i:=18) (oi:=sq18) (v:=undef) rfl (.inr ⟨by rfl,rfl⟩) (by assumption) ?_
            refine tkq (i:=19) (oi:=sq19) (v:=undef) rfl (.inr ⟨by rfl,rfl⟩) (by assumption) ?_
            try simp only[Act.put,List.setIfInBounds_toArray,List.set_cons_zero,List.set_cons_succ]
            refine tkq (i:=20) (oi:=sq20) (v:=undef) rfl (.inr ⟨by rfl,rfl⟩) (by assumption) ?_
            refine tkq (i:=21) (oi:=sq21) (v:=undef) rfl (.inr ⟨by rfl,rfl⟩) (by assumption) ?_
            refine tkq (i:=22) (oi:=sq22) (v:=undef) rfl (.inr ⟨by rfl,rfl⟩) (by assumption) ?_
            try simp only[Act.put,List.setIfInBounds_toArray,List.set_cons_zero,List.set_cons_succ]
            refine tkq (i:=23) (oi:=sq23) (v:=undef) rfl (.inr ⟨by rfl,rfl⟩) (by assumption) ?_
            refine tkq (i:=24) (oi:=sq24) (v:=undef) rfl (.inr ⟨by rfl,rfl⟩) (by assumption) ?_
            refine tkq (i:=25) (oi:=sq25) (v:=undef) rfl (.inr ⟨by rfl,rfl⟩) (by assumption) ?_
            try simp only[Act.put,List.setIfInBounds_toArray,List.set_cons_zero,List.set_cons_succ]
            refine tkq (i:=26) (oi:=sq26) (v:=undef) rfl (.inr ⟨by rfl,rfl⟩) (by assumption) ?_
            refine tkq (i:=27) (oi:=sq27) (v:=undef) rfl (.inr ⟨by rfl,rfl⟩) (by assumption) ?_
            refine tkq (i:=28) (oi:=sq28) (v:=undef) rfl (.inr ⟨by rfl,rfl⟩) (by assumption) ?_
            try simp only[Act.put,List.setIfInBounds_toArray,List.set_cons_zero,List.set_cons_succ]
            refine tkq (i:=29) (oi:=sq29) (v:=undef) rfl (.inr ⟨by rfl,rfl⟩) (by assumption) ?_
            refine tkq (i:=30) (oi:=sq30) (v:=undef) rfl (.inr ⟨by rfl,rfl⟩) (by assumption) ?_
            refine tkq (i:=31) (oi:=sq31) (v:=undef) rfl (.inr ⟨by rfl,rfl⟩) (by assumption) ?_
            try simp only[Act.put,List.setIfInBounds_toArray,List.set_cons_zero,List.set_cons_succ]
            refine tkq (i:=32) (oi:=sq32) (v:=undef) rfl (.inr ⟨by rfl,rfl⟩) (by assumption) ?_
            refine tkq (i:=33) (oi:=sq33) (v:=?vf33) rfl (.inl ⟨by rfl,?yf33⟩) (by assumption) ?rf33
            case yf33=>(intro w hSw;(try dsimp only at hSw);go_simp;(try with_reducible rfl))
            try simp only[Act.put,List.setIfInBounds_toArray,List.set_cons_zero,List.set_cons_succ]
            refine wpAnyH_done (by kernel_rfl) ?_ _
            go_wp2
            go_ret
            rw[HR.out]
            exact⟨rfl,B3.out⟩
    · have hjl:j=ps.length:=by omega
      subst hjl
      have HR:Hid (r=true):=HALL.out (fun q h=>HA.out q h)
      clear HS hm2
      go_wp2
      go_ret
      rw[HR.out]
      exact⟨rfl,hbel⟩
 · have h400':¬ (ps.length:Int)≤400:=by omega
   have HR:Hid (zu ps=false):=zu6 ps h400
   obtain⟨r,hr⟩:∃ r,r=zu ps:=⟨_,rfl⟩
   rw[←hr] at HR ⊢
   clear hs hm hr
   go_enter Tryz.func43,Tryz.ntmps43
   go_wp2
   go_ret
   rw[HR.out]
   exact⟨rfl,Below.refl _ _⟩
end Go.Proofs.YtiadimhoolekbaaGreatDoor
