/-
 Texts that are laid as one: Cmp, SortC, SortW, EqSt, CompM, CompW, Once1.
-/
import Derived.Test.YtahocpjieffbaaaGreatDoorMath2
import Derived.Lib.Bytealg
import Derived.Test.YtahocpjieffbaaaGreatDoorHashAll
import Derived.Test.YtahocpjieffbaaaGreatDoorShelfS
import Derived.Deep.RegionWith
import Derived.Deep.RegionHeld3
import Derived.Lib.SliceRun
import Derived.Laws.StructEq
import Derived.Lib.SlicesCompact
import Derived.Deep.QuietTactic
import Derived.BigQuiet
import Derived.Test.YtahocpjieffbaaaGreatDoorSSums
import Derived.Test.YtahocpjieffbaaaGreatDoorSMades
namespace Go.Proofs.YtahocpjieffbaaaGreatDoor
open Go.RowKit
set_option linter.unusedVariables false
theorem cmp_neg:∀ a b:List UInt8,(Lib.compareBytes a b<0)=(Op.bytesLess a b=true)
 | [],[]=>by simp[Lib.compareBytes,Op.bytesLess]
 | [],_ :: _=>by simp[Lib.compareBytes,Op.bytesLess]
 | _ :: _,[]=>by simp[Lib.compareBytes,Op.bytesLess]
 | a :: ra, b :: rb => by
   have ih:=cmp_neg ra rb
   simp only[Lib.compareBytes,Op.bytesLess]
   by_cases h1:a<b
   · simp[h1]
   · by_cases h2:b<a
     · have hne:(a == b)=false:=by simp;intro e;rw[e] at h2;exact absurd h2 (UInt8.lt_irrefl b)
       simp[h1,h2,hne]
     · have he:a=b:=UInt8.le_antisymm (UInt8.not_lt.1 h2) (UInt8.not_lt.1 h1)
       subst he
       simp[h1,ih]
theorem cmp_zero:∀ a b:List UInt8,(Lib.compareBytes a b=0)=(a=b)
 | [],[]=>by simp[Lib.compareBytes]
 | [],_ :: _=>by simp[Lib.compareBytes]
 | _ :: _,[]=>by simp[Lib.compareBytes]
 | a :: ra, b :: rb => by
   have ih:=cmp_zero ra rb
   simp only[Lib.compareBytes]
   by_cases h1:a<b
   · have hne:¬ a=b:=fun e=>by rw[e] at h1;exact absurd h1 (UInt8.lt_irrefl b)
     simp[h1,hne]
   · by_cases h2:b<a
     · have hne:¬ a=b:=fun e=>by rw[e] at h2;exact absurd h2 (UInt8.lt_irrefl b)
       simp[h1,h2,hne]
     · have he:a=b:=UInt8.le_antisymm (UInt8.not_lt.1 h2) (UInt8.not_lt.1 h1)
       subst he
       simp[h1,ih]
set_option maxHeartbeats 1000000 in
set_option maxRecDepth 100000 in
theorem compareString_any (a b:List UInt8) (w:World) :
 Calls Tryz.prog 96 #[.string ⟨a.toArray⟩,.string ⟨b.toArray⟩] w fun e w'=>e=.returned (.int .i64 (Lib.compareBytes a b))∧w'=w:=by
 go_enter Tryz.func96,Tryz.ntmps96
 go_wp2
 rw[run_callFunc_extern Tryz.func123 (by kernel_rfl) (by kernel_rfl) (by kernel_rfl) (e:=Extern.BytealgCompare.compare) (by kernel_rfl),Lib.run_compareString]
 simp only[Result.andThen]
 rw[Oper.upon_value]
 go_wp2
 go_ret
 exact⟨rfl,rfl⟩
set_option maxHeartbeats 1000000 in
set_option maxRecDepth 100000 in
theorem compare_any (a b:List UInt8) (w:World) :
 Calls Tryz.prog 76 #[.string ⟨a.toArray⟩,.string ⟨b.toArray⟩] w fun e w'=>e=.returned (.int .i64 (Lib.compareBytes a b))∧w'=w:=by
 have K:=compareString_any a b w
 go_enter Tryz.func76,Tryz.ntmps76
 go_wp2_with fail
 refine K.mono ?_
 rintro e w1 ⟨rfl,rfl⟩
 go_wp2
 go_ret
 exact⟨rfl,rfl⟩
def orI (a b:Int):Int:=if a=0 then b else a
set_option maxRecDepth 100000 in
set_option maxHeartbeats 1000000 in
theorem or_any (g c:Nat) (a b:Int) (w:World) (ha:w.cell? ⟨g,0,none⟩=some (.int .i64 a)) (hb:w.cell? ⟨g,1,none⟩=some (.int .i64 b)) :
 Calls Tryz.prog 75 #[.slice (some ⟨g,0,none⟩) 2 c] w fun e w'=>e=.returned (.int .i64 (orI a b))∧w'=w:=by
 by_cases h0:a=0
 · subst h0
   by_cases h1:b=0
   · subst h1
     go_enter Tryz.func75,Tryz.ntmps75
     go_wp2
     refine wp_loop_rounds 3 ?_
     rw[rounds_succ]
     go_wp2
     rw[rounds_succ]
     go_wp2
     rw[rounds_succ]
     go_wp2
     go_ret
     exact⟨rfl,rfl⟩
   · have h1':(b != 0)=true:=by simpa using h1
     have HR:Hid (orI 0 b=b):=rfl
     go_enter Tryz.func75,Tryz.ntmps75
     go_wp2
     refine wp_loop_rounds 3 ?_
     rw[rounds_succ]
     go_wp2
     rw[rounds_succ]
     go_wp2
     go_ret
     exact⟨rfl,rfl⟩
 · have h1':(a != 0)=true:=by simpa using h0
   have HR:Hid (orI a b=a):=by rw[Hid,orI,if_neg h0]
   go_enter Tryz.func75,Tryz.ntmps75
   go_wp2
   refine wp_loop_rounds 3 ?_
   rw[rounds_succ]
   go_wp2
   go_ret
   exact⟨by rw[HR.out];rfl,rfl⟩
theorem new_cell9 (w:World) (cs:Array Value) (t:TypeId) (k:Nat) (v:Value) (h:cs[k]? = some v):(w.alloc (.cells cs t)).cell? ⟨w.heap.size,k,none⟩=some v:=by
 have hb:=heap_alloc_new w (.cells cs t)
 simp only[World.cell?,hb]
 simpa using h
theorem st_cells (W:World) (ca cb:Array Value) (t:TypeId) (a0 a1 b0 b1:Value) (ha0:ca[0]? = some a0) (ha1:ca[1]? = some a1) (hb0:cb[0]? = some b0) (hb1:cb[1]? = some b1) :
 ((W.alloc (.cells ca t)).alloc (.cells cb t)).cell? ⟨W.heap.size,0,none⟩=some a0∧((W.alloc (.cells ca t)).alloc (.cells cb t)).cell? ⟨W.heap.size,1,none⟩=some a1 ∧
 ((W.alloc (.cells ca t)).alloc (.cells cb t)).cell? ⟨W.heap.size+1,0,none⟩=some b0∧((W.alloc (.cells ca t)).alloc (.cells cb t)).cell? ⟨W.heap.size+1,1,none⟩=some b1:=by
 have h1:((W.alloc (.cells ca t)).alloc (.cells cb t)).heap[W.heap.size]? = some (.cells ca t (0,0)):=by
  rw[Below.heap_alloc _ _ _ (by simp)];exact heap_alloc_new W _
 have h2:((W.alloc (.cells ca t)).alloc (.cells cb t)).heap[W.heap.size+1]? = some (.cells cb t (0,0)):=by
  have:=heap_alloc_new (W.alloc (.cells ca t)) (.cells cb t)
  simpa using this
 refine⟨?_,?_,?_,?_⟩ <;> simp only[World.cell?,h1,h2] <;> assumption
theorem fin_grow {W V:World} {A:Array Obj} (h:V=Sort.grow W A) (o:Obj):∃ os',(V.alloc o).drew=Sort.grow (W.drewN 1) os' :=
 ⟨A ++ #[o],by rw[h,Sort.alloc_eq_grow,Sort.grow_grow];rfl⟩
def cmpP (x y:PairL):Int:=orI (Lib.compareBytes x.1 y.1) (Lib.compareBytes x.2 y.2)
set_option maxRecDepth 100000 in
set_option maxHeartbeats 4000000 in
theorem cmpSt_any (x y:PairL) (W:World) :
 Calls Tryz.prog 74 #[.agg #[.string ⟨x.1.toArray⟩,.string ⟨x.2.toArray⟩],.agg #[.string ⟨y.1.toArray⟩,.string ⟨y.2.toArray⟩]] W fun e w'=>e=.returned (.int .i64 (cmpP x y))∧∃ q os',w'=Sort.grow (W.drewN q) os':=by
 obtain⟨x1,x2⟩:=x
 obtain⟨y1,y2⟩:=y
 have K1:=fun W=>compare_any x1 y1 W
 have K2:=fun W=>compare_any x2 y2 W
 have HR:Hid (cmpP (x1,x2) (y1,y2)=orI (Lib.compareBytes x1 y1) (Lib.compareBytes x2 y2)):=rfl
 obtain⟨c1,hc1⟩:∃ c,c=Lib.compareBytes x1 y1:=⟨_,rfl⟩
 obtain⟨c2,hc2⟩:∃ c,c=Lib.compareBytes x2 y2:=⟨_,rfl⟩
 rw[←hc1] at K1 HR
 rw[←hc2] at K2 HR
 clear hc1 hc2
 go_enter Tryz.func74,Tryz.ntmps74
 go_wp2
 have hS:_∧_∧_∧_:=st_cells W #[.string ⟨x1.toArray⟩,.string ⟨x2.toArray⟩] #[.string ⟨y1.toArray⟩,.string ⟨y2.toArray⟩] 78 _ _ _ _ rfl rfl rfl rfl
 have HV:Hid (((W.alloc (.cells #[.string ⟨x1.toArray⟩,.string ⟨x2.toArray⟩] 78)).alloc (.cells #[.string ⟨y1.toArray⟩,.string ⟨y2.toArray⟩] 78))=Sort.grow W (#[(.cells #[.string ⟨x1.toArray⟩,.string ⟨x2.toArray⟩] 78)] ++ #[(.cells #[.string ⟨y1.toArray⟩,.string ⟨y2.toArray⟩] 78)])):=by
  rw[Hid,Sort.alloc_eq_grow,Sort.alloc_eq_grow,Sort.grow_grow]
 generalize ((W.alloc (.cells #[.string ⟨x1.toArray⟩,.string ⟨x2.toArray⟩] 78)).alloc (.cells #[.string ⟨y1.toArray⟩,.string ⟨y2.toArray⟩] 78))=V at hS HV ⊢
 have hSD:V.drew.cell? ⟨W.heap.size,0,none⟩=some (.string ⟨x1.toArray⟩)∧V.drew.cell? ⟨W.heap.size,1,none⟩=some (.string ⟨x2.toArray⟩)∧V.drew.cell? ⟨W.heap.size+1,0,none⟩=some (.string ⟨y1.toArray⟩)∧V.drew.cell? ⟨W.heap.size+1,1,none⟩=some (.string ⟨y2.toArray⟩):=hS
 have hSE:(V.alloc (Obj.cells #[Value.int IntKind.i64 c1,Value.int IntKind.i64 c2] 3)).drew.cell? ⟨W.heap.size,0,none⟩=some (.string ⟨x1.toArray⟩)∧(V.alloc (Obj.cells #[Value.int IntKind.i64 c1,Value.int IntKind.i64 c2] 3)).drew.cell? ⟨W.heap.size,1,none⟩=some (.string ⟨x2.toArray⟩)∧(V.alloc (Obj.cells #[Value.int IntKind.i64 c1,Value.int IntKind.i64 c2] 3)).drew.cell? ⟨W.heap.size+1,0,none⟩=some (.string ⟨y1.toArray⟩)∧(V.alloc (Obj.cells #[Value.int IntKind.i64 c1,Value.int IntKind.i64 c2] 3)).drew.cell? ⟨W.heap.size+1,1,none⟩=some (.string ⟨y2.toArray⟩) :=
  ⟨Lib.cell?_alloc_some _ hS.1,Lib.cell?_alloc_some _ hS.2.1,Lib.cell?_alloc_some _ hS.2.2.1,Lib.cell?_alloc_some _ hS.2.2.2⟩
 have hO1:(V.alloc (Obj.cells #[Value.int IntKind.i64 c1,Value.int IntKind.i64 c2] 3)).drew.cell? ⟨V.heap.size,0,none⟩=some (.int .i64 c1):=new_cell9 V _ _ 0 _ rfl
 have hO2:(V.alloc (Obj.cells #[Value.int IntKind.i64 c1,Value.int IntKind.i64 c2] 3)).drew.cell? ⟨V.heap.size,1,none⟩=some (.int .i64 c2):=new_cell9 V _ _ 1 _ rfl
 have K3:=or_any V.heap.size 2 c1 c2 _ hO1 hO2
 clear hO1 hO2
 go_region_held3 (fun w'=>w'.cell? ⟨W.heap.size,0,none⟩=some (.string ⟨x1.toArray⟩)∧w'.cell? ⟨W.heap.size,1,none⟩=some (.string ⟨x2.toArray⟩)∧w'.cell? ⟨W.heap.size+1,0,none⟩=some (.string ⟨y1.toArray⟩)∧w'.cell? ⟨W.heap.size+1,1,none⟩=some (.string ⟨y2.toArray⟩)) (first | with_reducible exact hSD | with_reducible exact hS | with_reducible exact hSE | trivial)
  (first
   | (go_at_call 76
      first
       | (with_reducible refine (K1 _).mono ?_
          rintro e w1 ⟨rfl,rfl⟩)
       | (with_reducible refine (K2 _).mono ?_
          rintro e w1 ⟨rfl,rfl⟩))
   | (go_at_call 75
      with_reducible refine K3.mono ?_
      rintro e w1 ⟨rfl,rfl⟩))
 all_goals
  clear hS hSD hSE K1 K2 K3
  go_wp2
  go_ret
  exact⟨by rw[HR.out];rfl,1,fin_grow HV.out _⟩
def ahP (x y:PairL):Prop:=x.1<y.1∨(x.1=y.1∧x.2<y.2)
theorem less_iff:∀ (x y:List UInt8),Op.bytesLess x y=true↔x<y
 | [],[]=>by simp[Op.bytesLess]
 | _ :: _,[]=>by simp[Op.bytesLess]
 | [],_ :: _=>by simp[Op.bytesLess]
 | a :: x, b :: y => by
   have:=less_iff x y
   rw[Op.bytesLess,List.cons_lt_cons_iff]
   by_cases h1:a<b <;> by_cases h2:a=b <;> simp_all
theorem cmp_lt (a b:List UInt8):Lib.compareBytes a b<0↔a<b:=by
 rw[cmp_neg,less_iff]
theorem lt_ltP (x y:PairL):Go.Proofs.ltOf cmpP x y=true↔ahP x y:=by
 unfold Go.Proofs.ltOf cmpP orI ahP
 rw[decide_eq_true_iff]
 by_cases h:Lib.compareBytes x.1 y.1=0
 · rw[if_pos h,cmp_lt]
   rw[cmp_zero] at h
   simp[h,List.lt_irrefl]
 · rw[if_neg h,cmp_lt]
   have h':¬ x.1=y.1:=by rw[←cmp_zero];exact h
   simp[h']
theorem tri (a b:List UInt8):a<b∨a=b∨b<a:=by
 by_cases h:a<b
 · exact .inl h
 · by_cases h2:b<a
   · exact .inr (.inr h2)
   · exact .inr (.inl (List.le_antisymm (List.not_lt.1 h2) (List.not_lt.1 h)))
theorem ah_irrefl (x:PairL):¬ ahP x x:=by
 rintro (h | ⟨_,h⟩) <;> exact List.lt_irrefl _ h
theorem ah_trans {x y z:PairL} (h1:ahP x y) (h2:ahP y z):ahP x z:=by
 rcases h1 with h1 | ⟨e1,h1⟩ <;> rcases h2 with h2 | ⟨e2,h2⟩
 · exact .inl (List.lt_trans h1 h2)
 · exact .inl (e2 ▸ h1)
 · exact .inl (e1 ▸ h2)
 · exact .inr ⟨e1.trans e2,List.lt_trans h1 h2⟩
theorem ah_tri (x y:PairL):ahP x y∨x=y∨ahP y x:=by
 rcases tri x.1 y.1 with h | h | h
 · exact .inl (.inl h)
 · rcases tri x.2 y.2 with h2 | h2 | h2
   · exact .inl (.inr ⟨h,h2⟩)
   · exact .inr (.inl (Prod.ext h h2))
   · exact .inr (.inr (.inr ⟨h.symm,h2⟩))
 · exact .inr (.inr (.inl h))
theorem swo_irrefl (x:PairL):Go.Proofs.ltOf cmpP x x=false:=by
 rw[Bool.eq_false_iff];intro h;exact ah_irrefl x ((lt_ltP x x).1 h)
theorem swo_trans (x y z:PairL) (h1:Go.Proofs.ltOf cmpP x y=true) (h2:Go.Proofs.ltOf cmpP y z=true):Go.Proofs.ltOf cmpP x z=true :=
 (lt_ltP x z).2 (ah_trans ((lt_ltP x y).1 h1) ((lt_ltP y z).1 h2))
theorem swo_ntrans (x y z:PairL) (h1:Go.Proofs.ltOf cmpP x y=false) (h2:Go.Proofs.ltOf cmpP y z=false):Go.Proofs.ltOf cmpP x z=false:=by
 have n1:¬ ahP x y:=fun h=>by rw[(lt_ltP x y).2 h] at h1;cases h1
 have n2:¬ ahP y z:=fun h=>by rw[(lt_ltP y z).2 h] at h2;cases h2
 rw[Bool.eq_false_iff];intro h
 have h3:=(lt_ltP x z).1 h
 rcases ah_tri x y with h4 | h4 | h4
 · exact n1 h4
 · exact n2 (h4 ▸ h3)
 · exact n2 (ah_trans h4 h3)
theorem swoP:Go.Sort.SWO (Go.Proofs.ltOf cmpP):=⟨swo_irrefl,swo_trans,swo_ntrans⟩
def encP (x:PairL):List Value:=[.string ⟨x.1.toArray⟩,.string ⟨x.2.toArray⟩]
theorem nc_pc:∀ ns:List PairL,ncells ns=pcells ns
 | []=>rfl
 | e :: a => by
   have:=nc_pc a
   show [Value.string ⟨e.1.toArray⟩,.string ⟨e.2.toArray⟩] ++ ncells a=_
   rw[this];rfl
theorem pcells_get (ns:List PairL) (t:Nat) (h:t<ns.length*2):(pcells ns)[t]? = some ((encP (ns.toArray[t / 2]!))[t % 2]!):=by
 have hd:t / 2<ns.length:=by omega
 have e1:ns.toArray[t / 2]! = ns[t / 2]:=by simp[hd]
 obtain⟨h1,h2⟩:=pcells_at ns (t / 2) hd
 rw[e1]
 rcases Nat.mod_two_eq_zero_or_one t with hm | hm
 · have:t=t / 2*2:=by omega
   rw[hm]
   rw[←this] at h1
   rw[h1];rfl
 · have:t=t / 2*2+1:=by omega
   rw[hm]
   rw[←this] at h2
   rw[h2];rfl
theorem flat_pc (d:Array PairL):(Go.Sort.flatK encP 2 d).toList=pcells d.toList:=by
 apply List.ext_getElem?
 intro t
 by_cases ht:t<d.size*2
 · rw[pcells_get d.toList t (by simpa using ht)]
   have hs:t<(Go.Sort.flatK encP 2 d).size:=by simpa using ht
   have:=Go.Sort.get_flatK encP 2 d t ht
   rw[getElem!_pos _ t hs] at this
   rw[Array.getElem?_toList,Array.getElem?_eq_getElem hs,this]
 · rw[List.getElem?_eq_none (by simp;omega),List.getElem?_eq_none (by rw[pcells_length];simp;omega)]
theorem holdsP {w:World} {B e g n c:Nat} {ns:List PairL} (h:w.ownsRow B e 2 (.slice (some ⟨g,0,none⟩) n c) n (pcells ns)) (hn:n=ns.length):Go.Sort.HoldsK encP 2 w g 0 ns.toArray:=by
 subst hn
 intro t ht
 have ht':t<ns.length*2:=by simpa using ht
 rcases own_cases2 h with ⟨h1,_⟩ | ⟨g',c',h1,_,_,hc,hf⟩
 · cases h1
 · cases h1
   rw[Nat.zero_add]
   refine⟨?_,hf t⟩
   rw[hc t ht',pcells_get ns t ht',Go.Sort.get_flatK encP 2 _ t (by simpa using ht')]
   rfl
theorem own_put {w:World} {B e g n c:Nat} {xs:List Value} (h:w.ownsRow B e 2 (.slice (some ⟨g,0,none⟩) n c) n xs) (F:Array Value) (hF:F.size=n*2) (m:Nat) (os:Array Obj) :
 (Go.Sort.grow (Go.Sort.putRow id (Go.Sort.ahead w m) g 0 F) os).ownsRow B e 2 (.slice (some ⟨g,0,none⟩) n c) n F.toList∧Below B w (Go.Sort.grow (Go.Sort.putRow id (Go.Sort.ahead w m) g 0 F) os):=by
 rcases h.2 with ⟨h1,_⟩ | ⟨g',c',cur,h1,hb,hg,hnc,hcm,hcs,htk⟩
 · cases h1
 · cases h1
   have hlt:g<w.heap.size:=lt_of_block hg
   have hh:∀ k,k<w.heap.size→(Go.Sort.grow (Go.Sort.putRow id (Go.Sort.ahead w m) g 0 F) os).heap[k]? = (if g=k then (w.heap[k]?).map (Go.Sort.onCells (Go.Sort.putCells id 0 F)) else w.heap[k]?):=by
    intro k hk
    simp only[Go.Sort.grow,Go.Sort.putRow,Go.Sort.mapBlock,Go.Sort.ahead]
    rw[Array.getElem?_append_left (by simpa using hk),Array.getElem?_modify]
   refine⟨⟨by simp[hF],.inr ⟨g,c,Go.Sort.putCells id 0 F cur,rfl,hb,?_,hnc,hcm,?_,?_⟩⟩,⟨rfl,rfl,rfl,?_,?_⟩⟩
   · rw[hh g hlt,if_pos rfl,hg];rfl
   · simp[Go.Sort.putCells,hcs]
   · apply List.ext_getElem?
     intro t
     have hn2:n*2≤c*2:=Nat.mul_le_mul_right 2 hnc
     by_cases ht:t<n*2
     · rw[List.getElem?_take_of_lt ht,Array.getElem?_toList,Array.getElem?_toList]
       have h1:t<cur.size:=by omega
       have h2:t<F.size:=by omega
       simp only[Go.Sort.putCells,Array.getElem?_mapIdx,Array.getElem?_eq_getElem h1,Option.map_some,Nat.zero_le,true_and,Nat.zero_add,h2,if_true,Nat.sub_zero,id]
       rw[getElem!_pos F t h2,Array.getElem?_eq_getElem h2]
     · rw[List.getElem?_eq_none (by simp;omega),List.getElem?_eq_none (by simp;omega)]
   · simp[Go.Sort.grow]
   · intro k hk
     rw[hh k (by omega),if_neg (by omega)]
def RisesP (ns:List PairL):Prop:=∀ i j (hi:i<j) (hj:j<ns.length),¬ ahP ns[j] (ns[i]'(by omega))
set_option maxRecDepth 100000 in
set_option maxHeartbeats 1000000 in
theorem sort_any (B g c:Nat) (ns:List PairL) (w:World) (hl:ns.length≤10000) (ho:w.ownsRow B 78 2 (.slice (some ⟨g,0,none⟩) ns.length c) ns.length (pcells ns)) :
 Calls Tryz.prog 73 #[.slice (some ⟨g,0,none⟩) ns.length c,.func (.func 74) #[] #[]] w fun e w'=>e=.returned (.tuple #[]) ∧
  ∃ ns':List PairL,ns'.Perm ns∧RisesP ns'∧w'.ownsRow B 78 2 (.slice (some ⟨g,0,none⟩) ns.length c) ns.length (pcells ns')∧Below B w w':=by
 have eg:∀ args w,(callFunc 74 args).run Tryz.prog w=.ok (.enter 74 args) w:=enters_of Tryz.func74 (by kernel_rfl) rfl
 have hlt:g<w.heap.size:=by
  rcases own_cases2 ho with ⟨h1,_⟩ | ⟨g',c',h1,_,h2,_⟩
  · cases h1
  · cases h1;exact h2
 have hcl:Go.Proofs.CmpLays Tryz.prog 74 #[] encP 2 cmpP g 0 ns.toArray.size w:=fun _ _ _ _ x y=>cmpSt_any x y _
 have hcon:=Go.Proofs.AnyQ.slices_SortFunc Tryz.sortSt 2 Tryz.isAgg78 Tryz.sizeOf78 encP (fun _=>rfl) (fun x v hv=>by simp[encP] at hv;rcases hv with rfl | rfl <;> rfl) cmpP swoP 74 #[] g 0 c ns.toArray w eg hcl (holdsP ho rfl) hlt (by simp;omega)
 have hz:ns.toArray.size=ns.length:=by simp
 rw[hz] at hcon
 change Calls Tryz.prog 73 _ _ _ at hcon
 refine hcon.mono ?_
 rintro e w' ⟨rfl,d',m,os,⟨hps,_,hp⟩,hs,rfl⟩
 have hps':d'.size=ns.length:=by simpa using hps
 refine⟨rfl,d'.toList,?_,?_,?_⟩
 · have e1:ns.take d'.size=ns:=List.take_of_length_le (by omega)
   have hp':d'.toList.Perm (ns.take d'.size):=by simpa [←hps'] using hp
   rw[e1] at hp';exact hp'
 · intro i j hi hj hah
   have hj':j<d'.size:=by simpa using hj
   have:=hs i j (Nat.zero_le _) hi (by simpa [hps'] using hj')
   rw[getElem!_pos d' j hj',getElem!_pos d' i (by omega)] at this
   have h2:=(lt_ltP _ _).2 hah
   simp only[Array.getElem_toList] at h2
   rw[h2] at this;cases this
 · have:=own_put ho (Go.Sort.flatK encP 2 d') (by simp[hps']) m os
   rw[flat_pc] at this
   exact this
set_option maxRecDepth 100000 in
set_option maxHeartbeats 1000000 in
theorem eql_st (x1 x2 y1 y2:List UInt8) (W:World):(binOp .eql 78 (.agg #[.string ⟨x1.toArray⟩,.string ⟨x2.toArray⟩]) (.agg #[.string ⟨y1.toArray⟩,.string ⟨y2.toArray⟩])).run Tryz.prog W=.ok (.bool (decide ((x1,x2)=(y1,y2)))) W:=by
 by_cases h1:x1=y1
 · subst h1
   by_cases h2:x2=y2
   · subst h2
     go_simp
   · have hb:(x2 == y2)=false:=by rw[beq_eq_false_iff_ne];exact h2
     have hd:decide ((x1,x2)=(x1,y2))=false:=by simp[h2]
     rw[hd]
     go_simp
 · have hb:(x1 == y1)=false:=by rw[beq_eq_false_iff_ne];exact h1
   have hd:decide ((x1,x2)=(y1,y2))=false:=by simp[h1]
   rw[hd]
   go_simp
set_option maxRecDepth 100000 in
set_option maxHeartbeats 1000000 in
theorem neq_st (x1 x2 y1 y2:List UInt8) (W:World):(binOp .neq 78 (.agg #[.string ⟨x1.toArray⟩,.string ⟨x2.toArray⟩]) (.agg #[.string ⟨y1.toArray⟩,.string ⟨y2.toArray⟩])).run Tryz.prog W=.ok (.bool (!decide ((x1,x2)=(y1,y2)))) W:=by
 by_cases h1:x1=y1
 · subst h1
   by_cases h2:x2=y2
   · subst h2
     go_simp
   · have hb:(x2 == y2)=false:=by rw[beq_eq_false_iff_ne];exact h2
     have hd:decide ((x1,x2)=(x1,y2))=false:=by simp[h2]
     rw[hd]
     go_simp
 · have hb:(x1 == y1)=false:=by rw[beq_eq_false_iff_ne];exact h1
   have hd:decide ((x1,x2)=(y1,y2))=false:=by simp[h1]
   rw[hd]
   go_simp
theorem own_setR {w:World} {B e g n c:Nat} {xs:List Value} (h:w.ownsRow B e 2 (.slice (some ⟨g,0,none⟩) n c) n xs) (o:Nat) (v:Value) :
 (w.setCell ⟨g,o,none⟩ v).ownsRow B e 2 (.slice (some ⟨g,0,none⟩) n c) n (xs.set o v):=by
 rcases h.2 with ⟨h1,_⟩ | ⟨g',c',cur,h1,hb,hg,hnc,hcm,hcs,htk⟩
 · cases h1
 · cases h1
   have hlt:g<w.heap.size:=lt_of_block hg
   refine⟨by rw[List.length_set];exact h.1,.inr ⟨g,c,cur.setIfInBounds o v,rfl,hb,?_,hnc,hcm,by simpa using hcs,?_⟩⟩
   · rw[Go.Sort.setCell_eq]
     simp only[Go.Sort.mapBlock,Array.getElem?_modify,if_true,hg]
     rfl
   · rw[←htk,Array.toList_setIfInBounds,List.take_set]
theorem below_setR {w:World} {B g o:Nat} {v:Value} (hb:B≤g):Below B w (w.setCell ⟨g,o,none⟩ v):=by
 refine⟨rfl,rfl,rfl,by simp,fun k hk=>Below.heap_setCell _ _ _ _ (by simp only;omega)⟩
theorem pcells_set:∀ (l:List PairL) (k:Nat) (p:PairL),k<l.length→((pcells l).set (k*2) (.string ⟨p.1.toArray⟩)).set (k*2+1) (.string ⟨p.2.toArray⟩)=pcells (l.set k p)
 | [],k,p,h=>by simp at h
 | x :: l,0,p,h=>rfl
 | x :: l, k + 1, p, h => by
   have:=pcells_set l k p (by simpa using h)
   show ((Value.string ⟨x.1.toArray⟩ :: Value.string ⟨x.2.toArray⟩ :: pcells l).set ((k+1)*2) _).set ((k+1)*2+1) _=_
   rw[show (k+1)*2=k*2+1+1 by omega]
   simp only[List.set_cons_succ]
   rw[this];rfl
theorem own_store {w:World} {B e g n c:Nat} {dk:Array PairL} (h:w.ownsRow B e 2 (.slice (some ⟨g,0,none⟩) n c) n (pcells dk.toList)) (k:Nat) (hk:k<dk.size) (u1 u2:List UInt8) :
 ((w.setCell ⟨g,k*2,none⟩ (.string ⟨u1.toArray⟩)).setCell ⟨g,k*2+1,none⟩ (.string ⟨u2.toArray⟩)).ownsRow B e 2 (.slice (some ⟨g,0,none⟩) n c) n (pcells (dk.setIfInBounds k (u1,u2)).toList):=by
 have:=own_setR (own_setR h (k*2) (.string ⟨u1.toArray⟩)) (k*2+1) (.string ⟨u2.toArray⟩)
 have e1:=pcells_set dk.toList k (u1,u2) (by simpa using hk)
 rw[e1] at this
 rw[Array.toList_setIfInBounds];exact this
theorem own_cut {w:World} {B e g n c:Nat} {xs:List Value} (h:w.ownsRow B e 2 (.slice (some ⟨g,0,none⟩) n c) n xs) (k:Nat) (hk:k≤n) :
 w.ownsRow B e 2 (.slice (some ⟨g,0,none⟩) k c) k (xs.take (k*2)):=by
 rcases h.2 with ⟨h1,_⟩ | ⟨g',c',cur,h1,hb,hg,hnc,hcm,hcs,htk⟩
 · cases h1
 · cases h1
   have h0:=h.1
   refine⟨by rw[List.length_take,h0];omega,.inr ⟨g,c,cur,rfl,hb,hg,by omega,hcm,hcs,?_⟩⟩
   rw[←htk,List.take_take,Nat.min_eq_left (by omega)]
theorem own_past {B e g n c:Nat} {xs:List Value}:∀ (vs:List Value) (o:Nat) (w:World),n*2≤o→B≤g→w.ownsRow B e 2 (.slice (some ⟨g,0,none⟩) n c) n xs →
 (w.setCells g o vs).ownsRow B e 2 (.slice (some ⟨g,0,none⟩) n c) n xs∧Below B w (w.setCells g o vs)
 | [],o,w,_,_,h=>⟨h,Below.refl _ _⟩
 | v :: r, o, w, ho, hb, h => by
   have h1:=own_setR h o v
   rw[List.set_eq_of_length_le (by rw[h.1];exact ho)] at h1
   obtain⟨h2,h3⟩:=own_past r (o+1) _ (by omega) hb h1
   exact⟨h2,(below_setR hb).trans h3⟩
theorem pcells_take (l:List PairL) (k:Nat):(pcells l).take (k*2)=pcells (l.take k):=by
 induction l generalizing k with
 | nil=>simp[pcells]
 | cons x l ih =>
   cases k with
   | zero=>rfl
   | succ k =>
     rw[show (k+1)*2=k*2+1+1 by omega]
     show Value.string ⟨x.1.toArray⟩ :: Value.string ⟨x.2.toArray⟩ :: (pcells l).take (k*2)=_
     rw[ih k];rfl
theorem clear_st (w:World) (ty:TypeId) (g o n c:Nat) (hn:0<n) (hc:∀ j,j<n*2→(w.cell? ⟨g,o+j,none⟩).isSome=true) (hf:∀ j,j<n*2→w.frozen? ⟨g,o+j,none⟩=false) :
 (Builtin.clear_ #[39] ty #[.slice (some ⟨g,o,none⟩) n c]).run Tryz.prog w=.ok (.tuple #[]) (w.setCells g o (List.replicate (n*2) (.string ⟨#[]⟩))):=by
 have hv:∀ w,(zeroValue 78).run Tryz.prog w=.ok (.agg #[.string ⟨#[]⟩,.string ⟨#[]⟩]) w:=Tryz.zeroValue78
 have hzc:(Builtin.zeroCells (Value.cells (.agg #[.string ⟨#[]⟩,.string ⟨#[]⟩])) n).toList=List.replicate (n*2) (.string ⟨#[]⟩):=by
  simp only[Value.cells,Builtin.zeroCells]
  apply List.ext_getElem
  · simp
  · intro i h1 h2
    have hi:i % 2=0∨i % 2=1:=Nat.mod_two_eq_zero_or_one i
    rcases hi with hi | hi <;> simp[hi]
 have hst:=run_storeCells_cells (P:=Tryz.prog) g o (List.replicate (n*2) (.string ⟨#[]⟩)) 0 w (by simpa using hc) (by simpa using hf) (by intro v hv';rw[List.eq_of_mem_replicate hv'];rfl)
 simp only[Nat.add_zero] at hst
 obtain⟨m,rfl⟩:∃ m,n=m+1:=⟨n - 1,by omega⟩
 simp[Builtin.clear_,run_underlying Tryz.underlying39,hv,hzc,hst]
def compL (ns:List PairL):List PairL:=Lib.compactUpTo ns.toArray ns.length
theorem own_cellQ {w:World} {B e g n c:Nat} {ns:List PairL} (h:w.ownsRow B e 2 (.slice (some ⟨g,0,none⟩) n c) n (pcells ns)) (hn:n=ns.length) (j:Nat) (hj:j<ns.length) :
 w.cell? ⟨g,j*2,none⟩=some (.string ⟨(ns.toArray[j]!).1.toArray⟩)∧w.cell? ⟨g,j*2+1,none⟩=some (.string ⟨(ns.toArray[j]!).2.toArray⟩):=by
 subst hn
 have e1:ns.toArray[j]! = ns[j]:=by simp[hj]
 rw[e1]
 obtain⟨h1,h2⟩:=pcells_at ns j hj
 rcases own_cases2 h with ⟨h0,_⟩ | ⟨g',c',h0,_,_,hc,hf⟩
 · cases h0
 · cases h0
   exact⟨(hc _ (by omega)).trans h1,(hc _ (by omega)).trans h2⟩
set_option maxRecDepth 100000 in
set_option maxHeartbeats 1000000 in
theorem compact_any (B g c : Nat) (ns : List PairL) (w : World) (hl : ns.length ≤ 10000) (ho : w.ownsRow B 78 2 (.slice (some ⟨g, 0, none⟩) ns.length c) ns.length (pcells ns)) :
 Calls Tryz.prog 77 #[.slice (some ⟨g,0,none⟩) ns.length c] w fun e w'=>e=.returned (.slice (some ⟨g,0,none⟩) (compL ns).length c) ∧
  w'.ownsRow B 78 2 (.slice (some ⟨g,0,none⟩) (compL ns).length c) (compL ns).length (pcells (compL ns))∧Below B w w':=by
 have SAME:Hid ((∀ j,j<ns.length→Lib.keeps ns.toArray j=true)→compL ns=ns):=by
  intro hall
  have:=Lib.compact_all ns hall
  exact this
 by_cases h2:ns.length<2
 · have HO:=hidOwn ho
   have HE:Hid (compL ns=ns):=SAME.out fun j hj=>Lib.keeps_lt_one _ j (by omega)
   clear ho SAME
   go_enter Tryz.func77,Tryz.ntmps77
   go_wp2
   go_ret
   rw[HE.out]
   exact⟨rfl,HO.out,Below.refl _ _⟩
 · obtain ⟨d, hd⟩ : ∃ d, d = ns.toArray := ⟨_, rfl⟩
   have hds:d.size=ns.length:=by rw[hd];simp
   have HD:Hid (d=ns.toArray):=hd
   have hcap:ns.length≤c∧c≤maxLen:=by
    rcases ho.2 with ⟨h1,_⟩ | ⟨g',c',cur,h1,_,_,h3,h4,_⟩
    · cases h1
    · cases h1;exact⟨h3,h4⟩
   have HCELL:Hid (∀ j,j<ns.length→w.cell? ⟨g,j*2,none⟩=some (.string ⟨(d[j]!).1.toArray⟩)∧w.cell? ⟨g,j*2+1,none⟩=some (.string ⟨(d[j]!).2.toArray⟩)):=by
    intro j hj;rw[hd];exact own_cellQ ho rfl j hj
   have HO:=hidOwn ho
   have HDS:Hid (d.size=ns.length):=hds
   obtain⟨n,hn⟩:∃ n,n=ns.length:=⟨_,rfl⟩
   have HN:Hid (n=ns.length):=hn
   rw[←hn] at HCELL hl h2 hcap ⊢
   have hc9:=hcap.2
   unfold maxLen at hc9
   have hcn:=hcap.1
   clear ho hd hds hn hcap
   go_enter Tryz.func77,Tryz.ntmps77
   go_wp2
   go_loopw [3] (fun v wr=>∃ k q:Nat,1≤k∧k≤n∧v=.int .i64 (k:Int)∧wr=w.drewN q∧Hid (∀ j,j<k→Lib.keeps d j=true)) (fun v _=>n - (intOf v).toNat)
   case atStart=>exact⟨1,0,Nat.le_refl _,by omega,rfl,rfl,Lib.keeps_lt_one d⟩
   case round =>
    obtain⟨k,q,hk1,hk,rfl,rfl,HA⟩:=hrel
    by_cases hlt:k<n
    · obtain ⟨a1, a2⟩ := HCELL.out k hlt
      obtain⟨b1,b2⟩:=HCELL.out (k - 1) (by omega)
      obtain⟨x,hx⟩:∃ x,x=d[k]! := ⟨_,rfl⟩
      obtain⟨y,hy⟩:∃ y,y=d[k - 1]! := ⟨_,rfl⟩
      rw[←hx] at a1 a2
      rw[←hy] at b1 b2
      have HXY:Hid (x=d[k]! ∧ y=d[k - 1]!):=⟨hx,hy⟩
      clear hx hy
      obtain⟨x1,x2⟩:=x
      obtain⟨y1,y2⟩:=y
      have hk0:(0:Int)≤(k:Int) - 1:=by omega
      have hk9:(k:Int)<(n:Int):=by omega
      have hk8:(k:Int) - 1<(n:Int):=by omega
      have hkt:((k:Int) - 1).toNat=k - 1:=by omega
      have hkw:IntKind.i64.wrap ((k:Int) - 1)=(k:Int) - 1:=i64_wrap_small _ (by omega) (by omega)
      by_cases hdup:(x1,x2)=(y1,y2)
      · cases hdup
        go_wp2
        go_quiet (fail)
        have HKN:Hid (Lib.keeps d k=false):=Lib.keeps_neg (by omega) (by rw[←HXY.out.1,←HXY.out.2])
        have hck:¬ (c:Int)=(k:Int):=by omega
        have hck2:(k:Int)≤(c:Int):=by omega
        have hown0:((w.drewN q).drewN nq).ownsRow B 78 2 (.slice (some ⟨g,0,none⟩) n c) n (pcells d.toList):=by
         have h:=HO.out
         rw[←HN.out] at h
         rw[HD.out]
         exact own_block h fun _ _=>rfl
        have hB0:Below B w ((w.drewN q).drewN nq):=⟨rfl,rfl,rfl,Nat.le_refl _,fun _ _=>rfl⟩
        generalize (w.drewN q).drewN nq=w1 at hown0 hB0 ⊢
        have HO1:=hidOwn hown0
        clear a1 a2 b1 b2 hown0
        go_wp2
        go_loopw [3,5] (fun s3 s5 wr=>∃ (kk k2:Nat) (dk:Array PairL),s3=.int .i64 (kk:Int)∧s5=.int .i64 (k2:Int)∧1≤k2∧k+k2≤n∧kk<k+k2∧Hid (Lib.CompInv d (k+k2) kk dk)∧wr.ownsRow B 78 2 (.slice (some ⟨g,0,none⟩) n c) n (pcells dk.toList)∧Below B w wr) (fun _ s5 _=>n - (intOf s5).toNat)
        case atStart=>exact⟨k,1,d,rfl,rfl,Nat.le_refl _,by omega,by omega,Lib.CompInv.start HA.out HKN.out,HO1.out,hB0⟩
        case round =>
         obtain⟨kk,k2,dk,rfl,rfl,h21,h2n,hkk,HI,hown,hbel⟩:=hrel
         have HO2:=hidOwn hown
         have hsize:dk.size=n:=by rw[HI.out.size,HDS.out,HN.out]
         have HSZ:Hid (dk.size=n):=hsize
         have hcell:∀ j,j<n→wr.cell? ⟨g,j*2,none⟩=some (.string ⟨(dk[j]!).1.toArray⟩)∧wr.cell? ⟨g,j*2+1,none⟩=some (.string ⟨(dk[j]!).2.toArray⟩):=by
          intro j hj
          have:=own_cellQ hown (by simpa using hsize.symm) j (by simpa [hsize] using hj)
          simpa using this
         have hfro:∀ j,wr.frozen? ⟨g,j,none⟩=false:=fun j=>hown.frozenAt j
         clear hown
         by_cases hlt2:k+k2<n
         · obtain⟨cm1,cm2⟩:=hcell (k+k2) hlt2
           obtain⟨cp1,cp2⟩:=hcell (k+k2 - 1) (by omega)
           obtain⟨ck1,ck2⟩:=hcell kk (by omega)
           rw[HI.out.high (k+k2) (by omega),show (k+k2)*2=k*2+k2*2 by omega] at cm1 cm2
           rw[HI.out.high (k+k2 - 1) (by omega),show (k+k2 - 1)*2=k*2+(k2 - 1)*2 by omega] at cp1 cp2
           have fr1:=hfro (kk*2)
           have fr2:=hfro (kk*2+1)
           obtain⟨u,hu⟩:∃ u,u=d[k+k2]! := ⟨_,rfl⟩
           obtain⟨v,hv⟩:∃ v,v=d[k+k2 - 1]! := ⟨_,rfl⟩
           obtain⟨o1,ho1⟩:∃ o1,o1=(dk[kk]!).1:=⟨_,rfl⟩
           obtain⟨o2,ho2⟩:∃ o2,o2=(dk[kk]!).2:=⟨_,rfl⟩
           rw[←hu] at cm1 cm2
           rw[←hv] at cp1 cp2
           rw[←ho1] at ck1
           rw[←ho2] at ck2
           have HUV:Hid (u=d[k+k2]! ∧ v=d[k+k2 - 1]!):=⟨hu,hv⟩
           clear hu hv ho1 ho2 hcell hfro hsize
           obtain⟨u1,u2⟩:=u
           obtain⟨v1,v2⟩:=v
           have g0:(0:Int)≤(k2:Int) - 1:=by omega
           have g1:(k2:Int)<((n - k:Nat):Int):=by omega
           have g2:(k2:Int) - 1<((n - k:Nat):Int):=by omega
           have g3:((k2:Int) - 1).toNat=k2 - 1:=by omega
           have g4:IntKind.i64.wrap ((k2:Int) - 1)=(k2:Int) - 1:=i64_wrap_small _ (by omega) (by omega)
           have g5:(kk:Int)<(n:Int):=by omega
           have heq:∀ W:World,(binOp .neq 78 (.agg #[.string ⟨u1.toArray⟩,.string ⟨u2.toArray⟩]) (.agg #[.string ⟨v1.toArray⟩,.string ⟨v2.toArray⟩])).run Tryz.prog W=.ok (.bool (!decide ((u1,u2)=(v1,v2)))) W:=fun W=>neq_st u1 u2 v1 v2 W
           by_cases huv:(u1,u2)=(v1,v2)
           · have hdc:decide ((u1,u2)=(v1,v2))=true:=by simpa using huv
             rw[hdc] at heq
             have HK:Hid (Lib.keeps d (k+k2)=false):=Lib.keeps_neg (by omega) (by rw[←HUV.out.1,←HUV.out.2];exact huv)
             clear hdc huv
             go_wp2
             go_quiet (fail)
             go_wp2
             go_roundw
             case rel=>exact⟨kk,k2+1,dk,rfl,by go_num,by omega,by omega,by omega,HI.out.skip HK.out,own_block HO2.out fun _ _=>rfl,⟨hbel.os,hbel.tape,hbel.output,hbel.size,hbel.block⟩⟩
             case measure=>simp[intOf];omega
           · have hdc:decide ((u1,u2)=(v1,v2))=false:=by simpa using huv
             rw[hdc] at heq
             have HK:Hid (Lib.keeps d (k+k2)=true):=Lib.keeps_pos (by rw[←HUV.out.1,←HUV.out.2];exact huv)
             clear hdc huv
             go_wp2
             go_quiet (fail)
             go_wp2
             have hgB:B≤g:=by
              rcases own_cases2 HO2.out with ⟨h1,_⟩ | ⟨g',c',h1,h3,_⟩
              · cases h1
              · cases h1;exact h3
             have HI3:Lib.CompInv d (k+k2+1) (kk+1) (dk.setIfInBounds kk (u1,u2)):=by
              have:=HI.out.keep (by rw[HDS.out,←HN.out];exact hlt2) HK.out
              rw[←HUV.out.1] at this;exact this
             have hO3:(wr.drewN nq).ownsRow B 78 2 (.slice (some ⟨g,0,none⟩) n c) n (pcells dk.toList):=own_block HO2.out fun _ _=>rfl
             have hB3:Below B w (wr.drewN nq):=⟨hbel.os,hbel.tape,hbel.output,hbel.size,hbel.block⟩
             refine⟨⟨kk+1,k2+1,dk.setIfInBounds kk (u1,u2),by go_num,by go_num,by omega,by omega,by omega,HI3,own_store hO3 kk (by rw[HSZ.out];omega) u1 u2,(hB3.trans (below_setR hgB)).trans (below_setR hgB)⟩,?_⟩
             simp[intOf];omega
         · have hend:k+k2=n:=by omega
           have hI:Lib.CompInv d d.size kk dk:=by have:=HI.out;rwa [hend,show n=d.size by rw[HDS.out];exact HN.out] at this
           have hkn:kk<n:=by omega
           have hcl:∀ ty,(Builtin.clear_ #[39] ty #[.slice (some ⟨g,kk*2,none⟩) (n - kk) (c - kk)]).run Tryz.prog wr=.ok (.tuple #[]) (wr.setCells g (kk*2) (List.replicate ((n - kk)*2) (.string ⟨#[]⟩))):=fun ty =>
            clear_st wr ty g (kk*2) (n - kk) (c - kk) (by omega) (fun j hj=>by
             rcases own_cases2 HO2.out with ⟨h1,_⟩ | ⟨g',c',h1,_,_,hc,_⟩
             · cases h1
             · cases h1
               rw[hc _ (by omega),List.getElem?_eq_getElem (by rw[pcells_length,Array.length_toList,HSZ.out];omega)];rfl) (fun j _=>hfro _)
           have hgB:B≤g:=by
            rcases own_cases2 HO2.out with ⟨h1,_⟩ | ⟨g',c',h1,h3,_⟩
            · cases h1
            · cases h1;exact h3
           have HLEN:Hid ((compL ns).length=kk):=by
            rw[Hid,compL,←HD.out,←HN.out,show n=d.size by rw[HDS.out];exact HN.out];exact hI.len
           have HTK:Hid (dk.toList.take kk=compL ns):=by
            rw[Hid,compL,←HD.out,←HN.out,show n=d.size by rw[HDS.out];exact HN.out]
            apply List.ext_getElem?
            intro t
            by_cases ht:t<kk
            · rw[hI.low t ht,List.getElem?_take_of_lt ht,Array.getElem?_toList,Array.getElem?_eq_getElem (by rw[HSZ.out];omega),getElem!_pos dk t (by rw[HSZ.out];omega)]
            · rw[List.getElem?_eq_none (by rw[List.length_take];omega),List.getElem?_eq_none (by rw[hI.len];omega)]
           have hcut:=own_cut HO2.out kk (by omega)
           rw[pcells_take,HTK.out] at hcut
           have HFIN:=own_past (List.replicate ((n - kk)*2) (.string ⟨#[]⟩)) (kk*2) wr (Nat.le_refl _) hgB hcut
           have HF:Hid (_∧_):=HFIN
           have q1:¬ (c:Int)=(kk:Int):=by omega
           have q2:(kk:Int)≤(c:Int):=by omega
           have q3:(kk:Int)≤(n:Int):=by omega
           have q4:(kk:Int)<(n:Int):=by omega
           clear hcell hfro hcut HFIN hI
           go_wp2
           go_ret
           rw[HLEN.out]
           exact⟨rfl,HF.out.1,hbel.trans HF.out.2⟩
      · have HKP:Hid (Lib.keeps d k=true):=Lib.keeps_pos (by rw[←HXY.out.1,←HXY.out.2];exact hdup)
        have heq:∀ W:World,(binOp .eql 78 (.agg #[.string ⟨x1.toArray⟩,.string ⟨x2.toArray⟩]) (.agg #[.string ⟨y1.toArray⟩,.string ⟨y2.toArray⟩])).run Tryz.prog W=.ok (.bool false) W:=fun W=>by
         rw[eql_st];simp only[hdup,decide_false]
        clear hdup
        go_wp2
        go_quiet (fail)
        go_wp2
        go_roundw
        case rel=>exact⟨k+1,_,by omega,by omega,by go_num,rfl,fun j hj=>by
         by_cases e:j=k
         · rw[e];exact HKP.out
         · exact HA.out j (by omega)⟩
        case measure=>simp[intOf];omega
    · have HE:Hid (compL ns=ns):=SAME.out fun j hj=>by
       have:=HA.out j (by have:=HN.out;omega)
       rw[HD.out] at this;exact this
      clear SAME HCELL
      go_wp2
      go_ret
      rw[HE.out]
      exact⟨by rw[←HN.out];rfl,own_block HO.out fun _ _=>rfl,⟨rfl,rfl,rfl,Nat.le_refl _,fun _ _=>rfl⟩⟩
def onceAt (m:List PairL) (i:Nat):Bool:=decide (keyAt m i≠emptyL) && (decide (i=0) || decide (keyAt m (i - 1)≠keyAt m i))
def onceOk (m:List PairL):Bool:=(List.range m.length).all (onceAt m)
theorem onceOk_bad (m:List PairL) (j:Nat) (hj:j<m.length) (h:onceAt m j=false):onceOk m=false:=by
 rw[onceOk,List.all_eq_false];exact⟨j,List.mem_range.2 hj,by simp[h]⟩
theorem onceOk_all (m:List PairL) (h:∀ j,j<m.length→onceAt m j=true):onceOk m=true:=by
 rw[onceOk,List.all_eq_true];exact fun j hj=>h j (List.mem_range.1 hj)
theorem compL_len (ns:List PairL):(compL ns).length≤ns.length:=by
 unfold compL Lib.compactUpTo
 rw[List.length_map]
 have:=List.length_filter_le (Lib.keeps ns.toArray) (List.range ns.length)
 simpa using this
set_option maxRecDepth 100000 in
set_option maxHeartbeats 1000000 in
theorem impl_eachOnce (B g c : Nat) (ns : List PairL) (w : World) (hl : ns.length ≤ 10000) (ho : w.ownsRow B 78 2 (.slice (some ⟨g, 0, none⟩) ns.length c) ns.length (pcells ns)) (hBw : B ≤ w.heap.size) (hT : ∀ W, Below B w W → Tab W) :
 Calls Tryz.prog 50 #[.slice (some ⟨g,0,none⟩) ns.length c] w fun e w'=>∃ ns':List PairL,ns'.Perm ns∧RisesP ns'∧Below B w w' ∧
  ((onceOk (compL ns') = true ∧ e = .returned (.tuple #[.slice (some ⟨g, 0, none⟩) (compL ns').length c, .bool true]) ∧ w'.ownsRow B 78 2 (.slice (some ⟨g, 0, none⟩) (compL ns').length c) (compL ns').length (pcells (compL ns'))) ∨
   (onceOk (compL ns')=false∧e=.returned (.tuple #[.slice none 0 0,.bool false]))):=by
 have K1:=sort_any B g c ns w hl ho
 have HT:Hid (∀ W,Below B w W→Tab W):=hT
 clear ho hT
 go_enter Tryz.func50,Tryz.ntmps50
 go_wp2_with fail
 refine K1.mono ?_
 rintro e w1 ⟨rfl,ns',hperm,hris,o1,b1⟩
 have hlen:ns'.length=ns.length:=hperm.length_eq
 rw[←hlen] at o1 hl
 have K2:=compact_any B g c ns' w1 hl o1
 have HP:Hid (ns'.Perm ns∧RisesP ns'):=⟨hperm,hris⟩
 rw[hlen] at K2
 have hml:=compL_len ns'
 obtain⟨m,hm⟩:∃ m,m=compL ns':=⟨_,rfl⟩
 rw[←hm] at K2 hml
 have HM:Hid (m=compL ns'):=hm
 clear K1 o1 hperm hris hm
 go_wp2_with fail
 refine K2.mono ?_
 rintro e w2 ⟨rfl,o2,b2⟩
 have B2:=b1.trans b2
 have HO2:=hidOwn o2
 have K3:=impl_empty w2 (HT.out w2 B2)
 clear K2 o2 b1 b2
 go_wp2_with fail
 refine K3.mono ?_
 rintro e w3 ⟨rfl,b3⟩
 have s2:=B2.size
 have B3:=B2.trans (b3.mono (by omega))
 have HO3:=hidOwn (keptN HO2.out b3)
 have hgl:g<w3.heap.size:=by
  rcases own_cases2 HO3.out with ⟨h1,_⟩ | ⟨g',c',h1,_,h2,_⟩
  · cases h1
  · cases h1;exact h2
 have HCELL:Hid (∀ j,j<m.length→w3.cell? ⟨g,j*2,none⟩=some (.string ⟨(keyAt m j).toArray⟩)∧w3.cell? ⟨g,j*2+1,none⟩=some (.string ⟨(valAt m j).toArray⟩)):=fun j hj=>own_cellP HO3.out j hj
 clear K3 HO2 b3 hlen
 obtain⟨mr,hmr⟩:∃ mr,mr=emptyL:=⟨_,rfl⟩
 have HE:Hid (mr=emptyL):=hmr
 rw[←hmr]
 clear hmr
 go_wp2
 go_loopw [5,6,14] (fun _ _ i wr=>∃ j:Nat,j≤m.length∧i=.int .i64 (j:Int)∧Hid (∀ q,q<j→onceAt m q=true)∧Below w3.heap.size w3 wr) (fun _ _ i _=>m.length - (intOf i).toNat)
 case atStart=>exact⟨0,Nat.zero_le _,rfl,fun q h=>by omega,Below.refl _ _⟩
 case round =>
  obtain⟨j,hj,rfl,HG,hbel⟩:=hrel
  have hsz:=hbel.size
  by_cases hlt:j<m.length
  · obtain ⟨a1, a2⟩ := HCELL.out j hlt
    have a1':wr.cell? ⟨g,j*2,none⟩=some (.string ⟨(keyAt m j).toArray⟩):=(hbel.cell (p:=⟨g,j*2,none⟩) hgl).trans a1
    have a2':wr.cell? ⟨g,j*2+1,none⟩=some (.string ⟨(valAt m j).toArray⟩):=(hbel.cell (p:=⟨g,j*2+1,none⟩) hgl).trans a2
    obtain⟨x1,hx1⟩:∃ x1,x1=keyAt m j:=⟨_,rfl⟩
    obtain⟨x2,hx2⟩:∃ x2,x2=valAt m j:=⟨_,rfl⟩
    rw[←hx1] at a1'
    rw[←hx2] at a2'
    have HX:Hid (x1=keyAt m j):=hx1
    have hj0:(0:Int)≤(j:Int):=by omega
    have hj9:(j:Int)<(m.length:Int):=by omega
    have hw0:(wr.alloc (.cells #[.string ⟨x1.toArray⟩,.string ⟨x2.toArray⟩] 78)).cell? ⟨wr.heap.size,0,none⟩=some (.string ⟨x1.toArray⟩):=new_cell9 wr _ _ 0 _ rfl
    have HBW:Hid (Below w3.heap.size w3 (wr.alloc (.cells #[.string ⟨x1.toArray⟩,.string ⟨x2.toArray⟩] 78))):=hbel.alloc hsz _
    have FALSE:Hid (onceAt m j=false→onceOk (compL ns')=false):=fun hbad=>by rw[←HM.out];exact onceOk_bad m j hlt hbad
    have hB3s:=B3.size
    clear a1 a2 hx1 hx2
    by_cases he:x1=mr
    · have hbad:onceAt m j=false:=by rw[onceAt,←HX.out,he,HE.out];simp
      have HBAD:Hid (onceAt m j=false):=hbad
      subst he
      clear hbad
      go_wp2
      go_quiet (fail)
      go_wp2
      go_ret2
      exact⟨ns',HP.out.1,HP.out.2,B3.trans (Below.mono (B:=w3.heap.size) ⟨HBW.out.os,HBW.out.tape,HBW.out.output,HBW.out.size,HBW.out.block⟩ (by omega)),.inr ⟨FALSE.out HBAD.out,rfl⟩⟩
    · have heb : (x1 == mr) = false := by rw [beq_eq_false_iff_ne]; exact he
      have hne:x1≠emptyL:=by rw[←HE.out];exact he
      by_cases hz:j=0
      · subst hz
        have HGO:Hid (onceAt m 0=true):=by rw[Hid,onceAt,←HX.out];simp[hne]
        clear he hne
        go_wp2
        go_quiet (fail)
        go_wp2
        go_roundw
        case rel => exact ⟨1, by omega, rfl, fun q hq => by obtain rfl : q = 0 := by omega
                                                            exact HGO.out,⟨HBW.out.os,HBW.out.tape,HBW.out.output,HBW.out.size,HBW.out.block⟩⟩
        case measure=>simp[intOf];omega
      · obtain⟨b1,_⟩:=HCELL.out (j - 1) (by omega)
        have b1':(wr.alloc (.cells #[.string ⟨x1.toArray⟩,.string ⟨x2.toArray⟩] 78)).cell? ⟨g,(j - 1)*2,none⟩=some (.string ⟨(keyAt m (j - 1)).toArray⟩):=Lib.cell?_alloc_some _ ((hbel.cell (p:=⟨g,(j - 1)*2,none⟩) hgl).trans b1)
        obtain⟨y1,hy1⟩:∃ y1,y1=keyAt m (j - 1):=⟨_,rfl⟩
        rw[←hy1] at b1'
        have HY:Hid (y1=keyAt m (j - 1)):=hy1
        have g0:(0:Int)≤(j:Int) - 1:=by omega
        have g2:(j:Int) - 1<(m.length:Int):=by omega
        have g3:((j:Int) - 1).toNat=j - 1:=by omega
        have g4:IntKind.i64.wrap ((j:Int) - 1)=(j:Int) - 1:=i64_wrap_small _ (by omega) (by omega)
        have g5:decide (0<(j:Int))=true:=by simp;omega
        have g6:decide (0<j)=true:=by simp;omega
        clear b1 hy1 he
        by_cases hs:y1=x1
        · have HBAD:Hid (onceAt m j=false):=by rw[Hid,onceAt,←HX.out,←HY.out,hs];simp[hz]
          subst hs
          clear hne
          go_wp2
          go_quiet (fail)
          go_wp2
          go_ret2
          exact⟨ns',HP.out.1,HP.out.2,B3.trans (Below.mono (B:=w3.heap.size) ⟨HBW.out.os,HBW.out.tape,HBW.out.output,HBW.out.size,HBW.out.block⟩ (by omega)),.inr ⟨FALSE.out HBAD.out,rfl⟩⟩
        · have hsb:(y1 == x1)=false:=by rw[beq_eq_false_iff_ne];exact hs
          have HGO:Hid (onceAt m j=true):=by rw[Hid,onceAt,←HX.out,←HY.out];simp[hne,hs]
          clear hne hs
          go_wp2
          go_quiet (fail)
          go_wp2
          go_roundw
          case rel=>exact⟨j+1,by omega,by go_num,fun q hq=>by
           by_cases e:q=j
           · rw[e];exact HGO.out
           · exact HG.out q (by omega),⟨HBW.out.os,HBW.out.tape,HBW.out.output,HBW.out.size,HBW.out.block⟩⟩
          case measure=>simp[intOf];omega
  · have HOK:Hid (onceOk m=true):=onceOk_all m fun q hq=>HG.out q (by omega)
    have HO9:=hidOwn (keptN HO3.out hbel)
    clear HCELL
    go_wp2
    go_ret2
    refine⟨ns',HP.out.1,HP.out.2,B3.trans (hbel.mono (by have:=B3.size;omega)),.inl ⟨by rw[←HM.out];exact HOK.out,by rw[←HM.out];rfl,by rw[←HM.out];exact HO9.out⟩⟩
end Go.Proofs.YtahocpjieffbaaaGreatDoor
