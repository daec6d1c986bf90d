/-
 Texts that are laid as one: Cmp, SortC, SortW, EqSt, CompM, CompW, Once1.
-/
import Derived.Test.YtppljdnbhoeeoaaGreatDoorHashAll
import Derived.Test.YtppljdnbhoeeoaaGreatDoorShelfS
import Derived.Lib.SlicesCompact
import Derived.Test.YtppljdnbhoeeoaaGreatDoorSMades
namespace Go.Proofs.YtppljdnbhoeeoaaGreatDoor
open Go.RowKit
set_option linter.unusedVariables false
set_option maxHeartbeats 4000000
set_option maxRecDepth 100000
theorem cmp_neg:∀ a b:List UInt8,(Lib.compareBytes a b<0)=(Op.bytesLess a b=true)
 | [],[]=>by simp[Lib.compareBytes,Op.bytesLess]
 | [],_ :: _=>by simp[Lib.compareBytes,Op.bytesLess]
 | _ :: _,[]=>by simp[Lib.compareBytes,Op.bytesLess]
 | a :: ra, b :: rb => by
   have ih:=cmp_neg ra rb
   simp only[Lib.compareBytes,Op.bytesLess]
   by_cases h1:a<b
   · simp[h1]
   · by_cases h2:b<a
     · have hne:(a == b)=false:=by simp;intro e;rw[e] at h2;exact absurd h2 (UInt8.lt_irrefl b)
       simp[h1,h2,hne]
     · have he:a=b:=UInt8.le_antisymm (UInt8.not_lt.1 h2) (UInt8.not_lt.1 h1)
       subst he
       simp[h1,ih]
theorem zlk:∀ a b:List UInt8,(Lib.compareBytes a b=0)=(a=b)
 | [],[]=>by simp[Lib.compareBytes]
 | [],_ :: _=>by simp[Lib.compareBytes]
 | _ :: _,[]=>by simp[Lib.compareBytes]
 | a :: ra, b :: rb => by
   have ih:=zlk ra rb
   simp only[Lib.compareBytes]
   by_cases h1:a<b
   · have hne:¬ a=b:=fun e=>by rw[e] at h1;exact absurd h1 (UInt8.lt_irrefl b)
     simp[h1,hne]
   · by_cases h2:b<a
     · have hne:¬ a=b:=fun e=>by rw[e] at h2;exact absurd h2 (UInt8.lt_irrefl b)
       simp[h1,h2,hne]
     · have he:a=b:=UInt8.le_antisymm (UInt8.not_lt.1 h2) (UInt8.not_lt.1 h1)
       subst he
       simp[h1,ih]
theorem za2s (a b:List UInt8) (w:World) :
 Calls Tryz.prog 144 #[.string ⟨a.toArray⟩,.string ⟨b.toArray⟩] w fun e w'=>e=.returned (.int .i64 (Lib.compareBytes a b))∧w'=w:=by
 go_enter Tryz.func144,Tryz.ntmps144
 go_wp2
 rw[run_callFunc_extern Tryz.func191 (by kernel_rfl) (by kernel_rfl) (by kernel_rfl) (e:=Extern.BytealgCompare.compare) (by kernel_rfl),Lib.run_compareString]
 simp only[Result.andThen]
 rw[Oper.upon_value]
 go_wp2
 go_ret
 exact⟨rfl,rfl⟩
theorem zrh (a b:List UInt8) (w:World) :
 Calls Tryz.prog 116 #[.string ⟨a.toArray⟩,.string ⟨b.toArray⟩] w fun e w'=>e=.returned (.int .i64 (Lib.compareBytes a b))∧w'=w:=by
 have K:=za2s a b w
 go_enter Tryz.func116,Tryz.ntmps116
 go_wp2_with fail
 refine K.mono ?_
 rintro e w1 ⟨rfl,rfl⟩
 go_wp2
 go_ret
 exact⟨rfl,rfl⟩
def orI (a b:Int):Int:=if a=0 then b else a
theorem za2t (g c:Nat) (a b:Int) (w:World) (ha:w.cell? ⟨g,0,none⟩=some (.int .i64 a)) (hb:w.cell? ⟨g,1,none⟩=some (.int .i64 b)) :
 Calls Tryz.prog 115 #[.slice (some ⟨g,0,none⟩) 2 c] w fun e w'=>e=.returned (.int .i64 (orI a b))∧w'=w:=by
 by_cases h0:a=0
 · subst h0
   by_cases h1:b=0
   · subst h1
     go_enter Tryz.func115,Tryz.ntmps115
     go_wp2
     refine wp_loop_rounds 3 ?_
     rw[rounds_succ]
     go_wp2
     rw[rounds_succ]
     go_wp2
     rw[rounds_succ]
     go_wp2
     go_ret
     exact⟨rfl,rfl⟩
   · have h1':(b != 0)=true:=by simpa using h1
     have HR:Hid (orI 0 b=b):=rfl
     go_enter Tryz.func115,Tryz.ntmps115
     go_wp2
     refine wp_loop_rounds 3 ?_
     rw[rounds_succ]
     go_wp2
     rw[rounds_succ]
     go_wp2
     go_ret
     exact⟨rfl,rfl⟩
 · have h1':(a != 0)=true:=by simpa using h0
   have HR:Hid (orI a b=a):=by rw[Hid,orI,if_neg h0]
   go_enter Tryz.func115,Tryz.ntmps115
   go_wp2
   refine wp_loop_rounds 3 ?_
   rw[rounds_succ]
   go_wp2
   go_ret
   exact⟨by rw[HR.out];rfl,rfl⟩
theorem zll (w:World) (cs:Array Value) (t:TypeId) (k:Nat) (v:Value) (h:cs[k]? = some v):(w.alloc (.cells cs t)).cell? ⟨w.heap.size,k,none⟩=some v:=by
 have hb:=heap_alloc_new w (.cells cs t)
 simp only[World.cell?,hb]
 simpa using h
theorem za2u (W:World) (ca cb:Array Value) (t:TypeId) (a0 a1 b0 b1:Value) (ha0:ca[0]? = some a0) (ha1:ca[1]? = some a1) (hb0:cb[0]? = some b0) (hb1:cb[1]? = some b1) :
 ((W.alloc (.cells ca t)).alloc (.cells cb t)).cell? ⟨W.heap.size,0,none⟩=some a0∧((W.alloc (.cells ca t)).alloc (.cells cb t)).cell? ⟨W.heap.size,1,none⟩=some a1 ∧
 ((W.alloc (.cells ca t)).alloc (.cells cb t)).cell? ⟨W.heap.size+1,0,none⟩=some b0∧((W.alloc (.cells ca t)).alloc (.cells cb t)).cell? ⟨W.heap.size+1,1,none⟩=some b1:=by
 have h1:((W.alloc (.cells ca t)).alloc (.cells cb t)).heap[W.heap.size]? = some (.cells ca t (0,0)):=by
  rw[Below.heap_alloc _ _ _ (by simp)];exact heap_alloc_new W _
 have h2:((W.alloc (.cells ca t)).alloc (.cells cb t)).heap[W.heap.size+1]? = some (.cells cb t (0,0)):=by
  have:=heap_alloc_new (W.alloc (.cells ca t)) (.cells cb t)
  simpa using this
 refine⟨?_,?_,?_,?_⟩ <;> simp only[World.cell?,h1,h2] <;> assumption
theorem za2v {W V:World} {A:Array Obj} (h:V=Sort.grow W A) (o:Obj):∃ os',(V.alloc o).drew=Sort.grow (W.drewN 1) os' :=
 ⟨A ++ #[o],by rw[h,Sort.alloc_eq_grow,Sort.grow_grow];rfl⟩
def cmpP (x y:za):Int:=orI (Lib.compareBytes x.1 y.1) (Lib.compareBytes x.2 y.2)
theorem za2w (x y:za) (W:World) :
 Calls Tryz.prog 114 #[.agg #[.string ⟨x.1.toArray⟩,.string ⟨x.2.toArray⟩],.agg #[.string ⟨y.1.toArray⟩,.string ⟨y.2.toArray⟩]] W fun e w'=>e=.returned (.int .i64 (cmpP x y))∧∃ q os',w'=Sort.grow (W.drewN q) os':=by
 obtain⟨x1,x2⟩:=x
 obtain⟨y1,y2⟩:=y
 have K1:=fun W=>zrh x1 y1 W
 have K2:=fun W=>zrh x2 y2 W
 have HR:Hid (cmpP (x1,x2) (y1,y2)=orI (Lib.compareBytes x1 y1) (Lib.compareBytes x2 y2)):=rfl
 obtain⟨c1,hc1⟩:∃ c,c=Lib.compareBytes x1 y1:=⟨_,rfl⟩
 obtain⟨c2,hc2⟩:∃ c,c=Lib.compareBytes x2 y2:=⟨_,rfl⟩
 rw[←hc1] at K1 HR
 rw[←hc2] at K2 HR
 clear hc1 hc2
 go_enter Tryz.func114,Tryz.ntmps114
 go_wp2
 have hS:=za2u W #[.string ⟨x1.toArray⟩,.string ⟨x2.toArray⟩] #[.string ⟨y1.toArray⟩,.string ⟨y2.toArray⟩] 59 _ _ _ _ rfl rfl rfl rfl
 have HV:Hid (((W.alloc (.cells #[.string ⟨x1.toArray⟩,.string ⟨x2.toArray⟩] 59)).alloc (.cells #[.string ⟨y1.toArray⟩,.string ⟨y2.toArray⟩] 59))=Sort.grow W (#[(.cells #[.string ⟨x1.toArray⟩,.string ⟨x2.toArray⟩] 59)] ++ #[(.cells #[.string ⟨y1.toArray⟩,.string ⟨y2.toArray⟩] 59)])):=by
  rw[Hid,Sort.alloc_eq_grow,Sort.alloc_eq_grow,Sort.grow_grow]
 generalize ((W.alloc (.cells #[.string ⟨x1.toArray⟩,.string ⟨x2.toArray⟩] 59)).alloc (.cells #[.string ⟨y1.toArray⟩,.string ⟨y2.toArray⟩] 59))=V at hS HV ⊢
 have hSD:=hS
 have hSE:(V.alloc (Obj.cells #[Value.int IntKind.i64 c1,Value.int IntKind.i64 c2] 3)).drew.cell? ⟨W.heap.size,0,none⟩=some (.string ⟨x1.toArray⟩)∧(V.alloc (Obj.cells #[Value.int IntKind.i64 c1,Value.int IntKind.i64 c2] 3)).drew.cell? ⟨W.heap.size,1,none⟩=some (.string ⟨x2.toArray⟩)∧(V.alloc (Obj.cells #[Value.int IntKind.i64 c1,Value.int IntKind.i64 c2] 3)).drew.cell? ⟨W.heap.size+1,0,none⟩=some (.string ⟨y1.toArray⟩)∧(V.alloc (Obj.cells #[Value.int IntKind.i64 c1,Value.int IntKind.i64 c2] 3)).drew.cell? ⟨W.heap.size+1,1,none⟩=some (.string ⟨y2.toArray⟩) :=
  ⟨Lib.cell?_alloc_some _ hS.1,Lib.cell?_alloc_some _ hS.2.1,Lib.cell?_alloc_some _ hS.2.2.1,Lib.cell?_alloc_some _ hS.2.2.2⟩
 have hO1:(V.alloc (Obj.cells #[Value.int IntKind.i64 c1,Value.int IntKind.i64 c2] 3)).drew.cell? ⟨V.heap.size,0,none⟩=some (.int .i64 c1):=zll V _ _ 0 _ rfl
 have hO2:(V.alloc (Obj.cells #[Value.int IntKind.i64 c1,Value.int IntKind.i64 c2] 3)).drew.cell? ⟨V.heap.size,1,none⟩=some (.int .i64 c2):=zll V _ _ 1 _ rfl
 have K3:=za2t V.heap.size 2 c1 c2 _ hO1 hO2
 clear hO1 hO2
 go_region_held3 (fun w'=>w'.cell? ⟨W.heap.size,0,none⟩=some (.string ⟨x1.toArray⟩)∧w'.cell? ⟨W.heap.size,1,none⟩=some (.string ⟨x2.toArray⟩)∧w'.cell? ⟨W.heap.size+1,0,none⟩=some (.string ⟨y1.toArray⟩)∧w'.cell? ⟨W.heap.size+1,1,none⟩=some (.string ⟨y2.toArray⟩)) (first | with_reducible exact hSD | with_reducible exact hS | with_reducible exact hSE | trivial)
  (first
   | (go_at_call 116
      first
       | (with_reducible refine (K1 _).mono ?_
          rintro e w1 ⟨rfl,rfl⟩)
       | (with_reducible refine (K2 _).mono ?_
          rintro e w1 ⟨rfl,rfl⟩))
   | (go_at_call 115
      with_reducible refine K3.mono ?_
      rintro e w1 ⟨rfl,rfl⟩))
 all_goals
  clear hS hSD hSE K1 K2 K3
  go_wp2
  go_ret
  exact⟨by rw[HR.out];rfl,1,za2v HV.out _⟩
def ahP (x y:za):Prop:=x.1<y.1∨(x.1=y.1∧x.2<y.2)
theorem zfq:∀ (x y:List UInt8),Op.bytesLess x y=true↔x<y
 | [],[]=>by simp[Op.bytesLess]
 | _ :: _,[]=>by simp[Op.bytesLess]
 | [],_ :: _=>by simp[Op.bytesLess]
 | a :: x, b :: y => by
   have:=zfq x y
   rw[Op.bytesLess,List.cons_lt_cons_iff]
   by_cases h1:a<b <;> by_cases h2:a=b <;> simp_all
theorem zri (a b:List UInt8):Lib.compareBytes a b<0↔a<b:=by
 rw[cmp_neg,zfq]
theorem zec (x y:za):Go.Proofs.ltOf cmpP x y=true↔ahP x y:=by
 unfold Go.Proofs.ltOf cmpP orI ahP
 rw[decide_eq_true_iff]
 by_cases h:Lib.compareBytes x.1 y.1=0
 · rw[if_pos h,zri]
   rw[zlk] at h
   simp[h,List.lt_irrefl]
 · rw[if_neg h,zri]
   have h':¬ x.1=y.1:=by rw[←zlk];exact h
   simp[h']
theorem tri (a b:List UInt8):a<b∨a=b∨b<a:=by
 by_cases h:a<b
 · exact .inl h
 · by_cases h2:b<a
   · exact .inr (.inr h2)
   · exact .inr (.inl (List.le_antisymm (List.not_lt.1 h2) (List.not_lt.1 h)))
theorem zrj (x:za):¬ ahP x x:=by
 rintro (h | ⟨_,h⟩) <;> exact List.lt_irrefl _ h
theorem zlm {x y z:za} (h1:ahP x y) (h2:ahP y z):ahP x z:=by
 rcases h1 with h1 | ⟨e1,h1⟩ <;> rcases h2 with h2 | ⟨e2,h2⟩
 · exact .inl (List.lt_trans h1 h2)
 · exact .inl (e2 ▸ h1)
 · exact .inl (e1 ▸ h2)
 · exact .inr ⟨e1.trans e2,List.lt_trans h1 h2⟩
theorem zln (x y:za):ahP x y∨x=y∨ahP y x:=by
 rcases tri x.1 y.1 with h | h | h
 · exact .inl (.inl h)
 · rcases tri x.2 y.2 with h2 | h2 | h2
   · exact .inl (.inr ⟨h,h2⟩)
   · exact .inr (.inl (Prod.ext h h2))
   · exact .inr (.inr (.inr ⟨h.symm,h2⟩))
 · exact .inr (.inr (.inl h))
theorem za2x (x:za):Go.Proofs.ltOf cmpP x x=false:=by
 rw[Bool.eq_false_iff];intro h;exact zrj x ((zec x x).1 h)
theorem za2y (x y z:za) (h1:Go.Proofs.ltOf cmpP x y=true) (h2:Go.Proofs.ltOf cmpP y z=true):Go.Proofs.ltOf cmpP x z=true :=
 (zec x z).2 (zlm ((zec x y).1 h1) ((zec y z).1 h2))
theorem za2z (x y z:za) (h1:Go.Proofs.ltOf cmpP x y=false) (h2:Go.Proofs.ltOf cmpP y z=false):Go.Proofs.ltOf cmpP x z=false:=by
 have n1:¬ ahP x y:=fun h=>by rw[(zec x y).2 h] at h1;cases h1
 have n2:¬ ahP y z:=fun h=>by rw[(zec y z).2 h] at h2;cases h2
 rw[Bool.eq_false_iff];intro h
 have h3:=(zec x z).1 h
 rcases zln x y with h4 | h4 | h4
 · exact n1 h4
 · exact n2 (h4 ▸ h3)
 · exact n2 (zlm h4 h3)
theorem swoP:Go.Sort.SWO (Go.Proofs.ltOf cmpP):=⟨za2x,za2y,za2z⟩
def encP (x:za):List Value:=[.string ⟨x.1.toArray⟩,.string ⟨x.2.toArray⟩]
theorem zrk:∀ ns:List za,zd1 ns=zb ns
 | []=>rfl
 | e :: a => by
   have:=zrk a
   show [Value.string ⟨e.1.toArray⟩,.string ⟨e.2.toArray⟩] ++ zd1 a=_
   rw[this];rfl
theorem zrl (ns:List za) (t:Nat) (h:t<ns.length*2):(zb ns)[t]? = some ((encP (ns.toArray[t / 2]!))[t % 2]!):=by
 have hd:t / 2<ns.length:=by omega
 have e1:ns.toArray[t / 2]! = ns[t / 2]:=by simp[hd]
 obtain⟨h1,h2⟩:=zea ns (t / 2) hd
 rw[e1]
 rcases Nat.mod_two_eq_zero_or_one t with hm | hm
 · have:t=t / 2*2:=by omega
   rw[hm]
   rw[←this] at h1
   rw[h1];rfl
 · have:t=t / 2*2+1:=by omega
   rw[hm]
   rw[←this] at h2
   rw[h2];rfl
theorem za30 (d:Array za):(Go.Sort.flatK encP 2 d).toList=zb d.toList:=by
 apply List.ext_getElem?
 intro t
 by_cases ht:t<d.size*2
 · rw[zrl d.toList t (by simpa using ht)]
   have hs:t<(Go.Sort.flatK encP 2 d).size:=by simpa using ht
   have:=Go.Sort.get_flatK encP 2 d t ht
   rw[getElem!_pos _ t hs] at this
   rw[Array.getElem?_toList,Array.getElem?_eq_getElem hs,this]
 · rw[List.getElem?_eq_none (by simp;omega),List.getElem?_eq_none (by rw[zbu];simp;omega)]
theorem za31 {w:World} {B e g n c:Nat} {ns:List za} (h:w.ownsRow B e 2 (.slice (some ⟨g,0,none⟩) n c) n (zb ns)) (hn:n=ns.length):Go.Sort.HoldsK encP 2 w g 0 ns.toArray:=by
 subst hn
 intro t ht
 have ht':t<ns.length*2:=by simpa using ht
 rcases zc9 h with ⟨h1,_⟩ | ⟨g',c',h1,_,_,hc,hf⟩
 · cases h1
 · cases h1
   rw[Nat.zero_add]
   refine⟨?_,hf t⟩
   rw[hc t ht',zrl ns t ht',Go.Sort.get_flatK encP 2 _ t (by simpa using ht')]
   rfl
theorem za32 {w:World} {B e g n c:Nat} {xs:List Value} (h:w.ownsRow B e 2 (.slice (some ⟨g,0,none⟩) n c) n xs) (F:Array Value) (hF:F.size=n*2) (m:Nat) (os:Array Obj) :
 (Go.Sort.grow (Go.Sort.putRow id (Go.Sort.ahead w m) g 0 F) os).ownsRow B e 2 (.slice (some ⟨g,0,none⟩) n c) n F.toList∧Below B w (Go.Sort.grow (Go.Sort.putRow id (Go.Sort.ahead w m) g 0 F) os):=by
 rcases h.2 with ⟨h1,_⟩ | ⟨g',c',cur,h1,hb,hg,hnc,hcm,hcs,htk⟩
 · cases h1
 · cases h1
   have hlt:=lt_of_block hg
   have hh:∀ k,k<w.heap.size→(Go.Sort.grow (Go.Sort.putRow id (Go.Sort.ahead w m) g 0 F) os).heap[k]? = (if g=k then (w.heap[k]?).map (Go.Sort.onCells (Go.Sort.putCells id 0 F)) else w.heap[k]?):=by
    intro k hk
    simp only[Go.Sort.grow,Go.Sort.putRow,Go.Sort.mapBlock,Go.Sort.ahead]
    rw[Array.getElem?_append_left (by simpa using hk),Array.getElem?_modify]
   refine⟨⟨by simp[hF],.inr ⟨g,c,Go.Sort.putCells id 0 F cur,rfl,hb,?_,hnc,hcm,?_,?_⟩⟩,⟨rfl,rfl,rfl,?_,?_⟩⟩
   · rw[hh g hlt,if_pos rfl,hg];rfl
   · simp[Go.Sort.putCells,hcs]
   · apply List.ext_getElem?
     intro t
     have hn2:=Nat.mul_le_mul_right 2 hnc
     by_cases ht:t<n*2
     · rw[List.getElem?_take_of_lt ht,Array.getElem?_toList,Array.getElem?_toList]
       have h1:t<cur.size:=by omega
       have h2:t<F.size:=by omega
       simp only[Go.Sort.putCells,Array.getElem?_mapIdx,Array.getElem?_eq_getElem h1,Option.map_some,Nat.zero_le,true_and,Nat.zero_add,h2,if_true,Nat.sub_zero,id]
       rw[getElem!_pos F t h2,Array.getElem?_eq_getElem h2]
     · rw[List.getElem?_eq_none (by simp;omega),List.getElem?_eq_none (by simp;omega)]
   · simp[Go.Sort.grow]
   · intro k hk
     rw[hh k (by omega),if_neg (by omega)]
def zfr (ns:List za):Prop:=∀ i j (hi:i<j) (hj:j<ns.length),¬ ahP ns[j] (ns[i]'(by omega))
theorem za33 (B g c:Nat) (ns:List za) (w:World) (hl:ns.length≤10000) (ho:w.ownsRow B 59 2 (.slice (some ⟨g,0,none⟩) ns.length c) ns.length (zb ns)) :
 Calls Tryz.prog 113 #[.slice (some ⟨g,0,none⟩) ns.length c,.func (.func 114) #[] #[]] w fun e w'=>e=.returned (.tuple #[]) ∧
  ∃ ns':List za,ns'.Perm ns∧zfr ns'∧w'.ownsRow B 59 2 (.slice (some ⟨g,0,none⟩) ns.length c) ns.length (zb ns')∧Below B w w':=by
 have eg:=enters_of Tryz.func114 (by kernel_rfl) rfl
 have hlt:g<w.heap.size:=by
  rcases zc9 ho with ⟨h1,_⟩ | ⟨g',c',h1,_,h2,_⟩
  · cases h1
  · cases h1;exact h2
 have hcl:Go.Proofs.CmpLays Tryz.prog 114 #[] encP 2 cmpP g 0 ns.toArray.size w:=fun _ _ _ _ x y=>za2w x y _
 have hcon:=Go.Proofs.AnyQ.slices_SortFunc Tryz.sortSt 2 Tryz.isAgg59 Tryz.sizeOf59 encP (fun _=>rfl) (fun x v hv=>by simp[encP] at hv;rcases hv with rfl | rfl <;> rfl) cmpP swoP 114 #[] g 0 c ns.toArray w eg hcl (za31 ho rfl) hlt (by simp;omega)
 have hz:ns.toArray.size=ns.length:=by simp
 rw[hz] at hcon
 change Calls Tryz.prog 113 _ _ _ at hcon
 refine hcon.mono ?_
 rintro e w' ⟨rfl,d',m,os,⟨hps,_,hp⟩,hs,rfl⟩
 have hps':d'.size=ns.length:=by simpa using hps
 refine⟨rfl,d'.toList,?_,?_,?_⟩
 · have e1:ns.take d'.size=ns:=List.take_of_length_le (by omega)
   have hp':d'.toList.Perm (ns.take d'.size):=by simpa [←hps'] using hp
   rw[e1] at hp';exact hp'
 · intro i j hi hj hah
   have hj':j<d'.size:=by simpa using hj
   have:=hs i j (Nat.zero_le _) hi (by simpa [hps'] using hj')
   rw[getElem!_pos d' j hj',getElem!_pos d' i (by omega)] at this
   have h2:=(zec _ _).2 hah
   simp only[Array.getElem_toList] at h2
   rw[h2] at this;cases this
 · have:=za32 ho (Go.Sort.flatK encP 2 d') (by simp[hps']) m os
   rw[za30] at this
   exact this
theorem za34 (x1 x2 y1 y2:List UInt8) (W:World):(binOp .eql 59 (.agg #[.string ⟨x1.toArray⟩,.string ⟨x2.toArray⟩]) (.agg #[.string ⟨y1.toArray⟩,.string ⟨y2.toArray⟩])).run Tryz.prog W=.ok (.bool (decide ((x1,x2)=(y1,y2)))) W:=by
 by_cases h1:x1=y1
 · subst h1
   by_cases h2:x2=y2
   · subst h2
     go_simp
   · have hb:(x2 == y2)=false:=by rw[beq_eq_false_iff_ne];exact h2
     have hd:decide ((x1,x2)=(x1,y2))=false:=by simp[h2]
     rw[hd]
     go_simp
 · have hb:(x1 == y1)=false:=by rw[beq_eq_false_iff_ne];exact h1
   have hd:decide ((x1,x2)=(y1,y2))=false:=by simp[h1]
   rw[hd]
   go_simp
theorem zlo (x1 x2 y1 y2:List UInt8) (W:World):(binOp .neq 59 (.agg #[.string ⟨x1.toArray⟩,.string ⟨x2.toArray⟩]) (.agg #[.string ⟨y1.toArray⟩,.string ⟨y2.toArray⟩])).run Tryz.prog W=.ok (.bool (!decide ((x1,x2)=(y1,y2)))) W:=by
 by_cases h1:x1=y1
 · subst h1
   by_cases h2:x2=y2
   · subst h2
     go_simp
   · have hb:(x2 == y2)=false:=by rw[beq_eq_false_iff_ne];exact h2
     have hd:decide ((x1,x2)=(x1,y2))=false:=by simp[h2]
     rw[hd]
     go_simp
 · have hb:(x1 == y1)=false:=by rw[beq_eq_false_iff_ne];exact h1
   have hd:decide ((x1,x2)=(y1,y2))=false:=by simp[h1]
   rw[hd]
   go_simp
theorem zlp {w:World} {B e g n c:Nat} {xs:List Value} (h:w.ownsRow B e 2 (.slice (some ⟨g,0,none⟩) n c) n xs) (o:Nat) (v:Value) :
 (w.setCell ⟨g,o,none⟩ v).ownsRow B e 2 (.slice (some ⟨g,0,none⟩) n c) n (xs.set o v):=by
 rcases h.2 with ⟨h1,_⟩ | ⟨g',c',cur,h1,hb,hg,hnc,hcm,hcs,htk⟩
 · cases h1
 · cases h1
   have hlt:=lt_of_block hg
   refine⟨by rw[List.length_set];exact h.1,.inr ⟨g,c,cur.setIfInBounds o v,rfl,hb,?_,hnc,hcm,by simpa using hcs,?_⟩⟩
   · rw[Go.Sort.setCell_eq]
     simp only[Go.Sort.mapBlock,Array.getElem?_modify,if_true,hg]
     rfl
   · rw[←htk,Array.toList_setIfInBounds,List.take_set]
theorem zlq {w:World} {B g o:Nat} {v:Value} (hb:B≤g):Below B w (w.setCell ⟨g,o,none⟩ v):=by
 refine⟨rfl,rfl,rfl,by simp,fun k hk=>Below.heap_setCell _ _ _ _ (by simp only;omega)⟩
theorem zrm:∀ (l:List za) (k:Nat) (p:za),k<l.length→((zb l).set (k*2) (.string ⟨p.1.toArray⟩)).set (k*2+1) (.string ⟨p.2.toArray⟩)=zb (l.set k p)
 | [],k,p,h=>by simp at h
 | x :: l,0,p,h=>rfl
 | x :: l, k + 1, p, h => by
   have:=zrm l k p (by simpa using h)
   show ((Value.string ⟨x.1.toArray⟩ :: Value.string ⟨x.2.toArray⟩ :: zb l).set ((k+1)*2) _).set ((k+1)*2+1) _=_
   rw[show (k+1)*2=k*2+1+1 by omega]
   simp only[List.set_cons_succ]
   rw[this];rfl
theorem za35 {w:World} {B e g n c:Nat} {dk:Array za} (h:w.ownsRow B e 2 (.slice (some ⟨g,0,none⟩) n c) n (zb dk.toList)) (k:Nat) (hk:k<dk.size) (u1 u2:List UInt8) :
 ((w.setCell ⟨g,k*2,none⟩ (.string ⟨u1.toArray⟩)).setCell ⟨g,k*2+1,none⟩ (.string ⟨u2.toArray⟩)).ownsRow B e 2 (.slice (some ⟨g,0,none⟩) n c) n (zb (dk.setIfInBounds k (u1,u2)).toList):=by
 have:=zlp (zlp h (k*2) (.string ⟨u1.toArray⟩)) (k*2+1) (.string ⟨u2.toArray⟩)
 have e1:=zrm dk.toList k (u1,u2) (by simpa using hk)
 rw[e1] at this
 rw[Array.toList_setIfInBounds];exact this
theorem za36 {w:World} {B e g n c:Nat} {xs:List Value} (h:w.ownsRow B e 2 (.slice (some ⟨g,0,none⟩) n c) n xs) (k:Nat) (hk:k≤n) :
 w.ownsRow B e 2 (.slice (some ⟨g,0,none⟩) k c) k (xs.take (k*2)):=by
 rcases h.2 with ⟨h1,_⟩ | ⟨g',c',cur,h1,hb,hg,hnc,hcm,hcs,htk⟩
 · cases h1
 · cases h1
   have h0:=h.1
   refine⟨by rw[List.length_take,h0];omega,.inr ⟨g,c,cur,rfl,hb,hg,by omega,hcm,hcs,?_⟩⟩
   rw[←htk,List.take_take,Nat.min_eq_left (by omega)]
theorem zrn {B e g n c:Nat} {xs:List Value}:∀ (vs:List Value) (o:Nat) (w:World),n*2≤o→B≤g→w.ownsRow B e 2 (.slice (some ⟨g,0,none⟩) n c) n xs →
 (w.setCells g o vs).ownsRow B e 2 (.slice (some ⟨g,0,none⟩) n c) n xs∧Below B w (w.setCells g o vs)
 | [],o,w,_,_,h=>⟨h,Below.refl _ _⟩
 | v :: r, o, w, ho, hb, h => by
   have h1:=zlp h o v
   rw[List.set_eq_of_length_le (by rw[h.1];exact ho)] at h1
   obtain⟨h2,h3⟩:=zrn r (o+1) _ (by omega) hb h1
   exact⟨h2,(zlq hb).trans h3⟩
theorem za37 (l:List za) (k:Nat):(zb l).take (k*2)=zb (l.take k):=by
 induction l generalizing k with
 | nil=>simp[zb]
 | cons x l ih =>
   cases k with
   | zero=>rfl
   | succ k =>
     rw[show (k+1)*2=k*2+1+1 by omega]
     show Value.string ⟨x.1.toArray⟩ :: Value.string ⟨x.2.toArray⟩ :: (zb l).take (k*2)=_
     rw[ih k];rfl
theorem za38 (w:World) (ty:TypeId) (g o n c:Nat) (hn:0<n) (hc:∀ j,j<n*2→(w.cell? ⟨g,o+j,none⟩).isSome=true) (hf:∀ j,j<n*2→w.frozen? ⟨g,o+j,none⟩=false) :
 (Builtin.clear_ #[31] ty #[.slice (some ⟨g,o,none⟩) n c]).run Tryz.prog w=.ok (.tuple #[]) (w.setCells g o (List.replicate (n*2) (.string ⟨#[]⟩))):=by
 have hv:=Tryz.zeroValue59
 have hzc:(Builtin.zeroCells (Value.cells (.agg #[.string ⟨#[]⟩,.string ⟨#[]⟩])) n).toList=List.replicate (n*2) (.string ⟨#[]⟩):=by
  simp only[Value.cells,Builtin.zeroCells]
  apply List.ext_getElem
  · simp
  · intro i h1 h2
    have hi:=Nat.mod_two_eq_zero_or_one i
    rcases hi with hi | hi <;> simp[hi]
 have hst:=run_storeCells_cells (P:=Tryz.prog) g o (List.replicate (n*2) (.string ⟨#[]⟩)) 0 w (by simpa using hc) (by simpa using hf) (by intro v hv';rw[List.eq_of_mem_replicate hv'];rfl)
 simp only[Nat.add_zero] at hst
 obtain⟨m,rfl⟩:∃ m,n=m+1:=⟨n - 1,by omega⟩
 simp[Builtin.clear_,run_underlying Tryz.underlying31,hv,hzc,hst]
def zai (ns:List za):List za:=Lib.compactUpTo ns.toArray ns.length
theorem zro {w:World} {B e g n c:Nat} {ns:List za} (h:w.ownsRow B e 2 (.slice (some ⟨g,0,none⟩) n c) n (zb ns)) (hn:n=ns.length) (j:Nat) (hj:j<ns.length) :
 w.cell? ⟨g,j*2,none⟩=some (.string ⟨(ns.toArray[j]!).1.toArray⟩)∧w.cell? ⟨g,j*2+1,none⟩=some (.string ⟨(ns.toArray[j]!).2.toArray⟩):=by
 subst hn
 have e1:ns.toArray[j]! = ns[j]:=by simp[hj]
 rw[e1]
 obtain⟨h1,h2⟩:=zea ns j hj
 rcases zc9 h with ⟨h0,_⟩ | ⟨g',c',h0,_,_,hc,hf⟩
 · cases h0
 · cases h0
   exact⟨(hc _ (by omega)).trans h1,(hc _ (by omega)).trans h2⟩
theorem za39 (B g c : Nat) (ns : List za) (w : World) (hl : ns.length ≤ 10000) (ho : w.ownsRow B 59 2 (.slice (some ⟨g, 0, none⟩) ns.length c) ns.length (zb ns)) :
 Calls Tryz.prog 117 #[.slice (some ⟨g,0,none⟩) ns.length c] w fun e w'=>e=.returned (.slice (some ⟨g,0,none⟩) (zai ns).length c) ∧
  w'.ownsRow B 59 2 (.slice (some ⟨g,0,none⟩) (zai ns).length c) (zai ns).length (zb (zai ns))∧Below B w w':=by
 have SAME:Hid ((∀ j,j<ns.length→Lib.keeps ns.toArray j=true)→zai ns=ns):=by
  intro hall
  have:=Lib.compact_all ns hall
  exact this
 by_cases h2:ns.length<2
 · have HO:=zc ho
   have HE:Hid _:=SAME.out fun j hj=>Lib.keeps_lt_one _ j (by omega)
   clear ho SAME
   go_enter Tryz.func117,Tryz.ntmps117
   go_wp2
   go_ret
   rw[HE.out]
   exact⟨rfl,HO.out,Below.refl _ _⟩
 · obtain ⟨d, hd⟩ : ∃ d, d = ns.toArray := ⟨_, rfl⟩
   have hds:d.size=ns.length:=by rw[hd];simp
   have HD:Hid _:=hd
   have hcap:ns.length≤c∧c≤maxLen:=by
    rcases ho.2 with ⟨h1,_⟩ | ⟨g',c',cur,h1,_,_,h3,h4,_⟩
    · cases h1
    · cases h1;exact⟨h3,h4⟩
   have HCELL:Hid (∀ j,j<ns.length→w.cell? ⟨g,j*2,none⟩=some (.string ⟨(d[j]!).1.toArray⟩)∧w.cell? ⟨g,j*2+1,none⟩=some (.string ⟨(d[j]!).2.toArray⟩)):=by
    intro j hj;rw[hd];exact zro ho rfl j hj
   have HO:=zc ho
   have HDS:Hid _:=hds
   obtain⟨n,hn⟩:∃ n,n=ns.length:=⟨_,rfl⟩
   have HN:Hid _:=hn
   rw[←hn] at HCELL hl h2 hcap ⊢
   have hc9:=hcap.2
   unfold maxLen at hc9
   have hcn:=hcap.1
   clear ho hd hds hn hcap
   go_enter Tryz.func117,Tryz.ntmps117
   go_wp2
   go_loopw [3] (fun v wr=>∃ k q:Nat,1≤k∧k≤n∧v=.int .i64 (k:Int)∧wr=w.drewN q∧Hid (∀ j,j<k→Lib.keeps d j=true)) (fun v _=>n - (intOf v).toNat)
   case atStart=>exact⟨1,0,Nat.le_refl _,by omega,rfl,rfl,Lib.keeps_lt_one d⟩
   case round =>
    obtain⟨k,q,hk1,hk,rfl,rfl,HA⟩:=hrel
    by_cases hlt:k<n
    · obtain ⟨a1, a2⟩ := HCELL.out k hlt
      obtain⟨b1,b2⟩:=HCELL.out (k - 1) (by omega)
      obtain⟨x,hx⟩:∃ x,x=d[k]! := ⟨_,rfl⟩
      obtain⟨y,hy⟩:∃ y,y=d[k - 1]! := ⟨_,rfl⟩
      rw[←hx] at a1 a2
      rw[←hy] at b1 b2
      have HXY:Hid (x=d[k]! ∧ y=d[k - 1]!):=⟨hx,hy⟩
      clear hx hy
      obtain⟨x1,x2⟩:=x
      obtain⟨y1,y2⟩:=y
      have hk0:(0:Int)≤(k:Int) - 1:=by omega
      have hk9:(k:Int)<(n:Int):=by omega
      have hk8:(k:Int) - 1<(n:Int):=by omega
      have hkt:((k:Int) - 1).toNat=k - 1:=by omega
      have hkw:IntKind.i64.wrap ((k:Int) - 1)=(k:Int) - 1:=zag _ (by omega) (by omega)
      by_cases hdup:(x1,x2)=(y1,y2)
      · cases hdup
        go_wp2
        go_quiet (fail)
        have HKN:Hid (Lib.keeps d k=false):=Lib.keeps_neg (by omega) (by rw[←HXY.out.1,←HXY.out.2])
        have hck:¬ (c:Int)=(k:Int):=by omega
        have hck2:(k:Int)≤(c:Int):=by omega
        have hown0:((w.drewN q).drewN nq).ownsRow B 59 2 (.slice (some ⟨g,0,none⟩) n c) n (zb d.toList):=by
         have h:=HO.out
         rw[←HN.out] at h
         rw[HD.out]
         exact ze0 h fun _ _=>rfl
        have hB0:Below B w ((w.drewN q).drewN nq):=⟨rfl,rfl,rfl,Nat.le_refl _,fun _ _=>rfl⟩
        generalize (w.drewN q).drewN nq=w1 at hown0 hB0 ⊢
        have HO1:=zc hown0
        clear a1 a2 b1 b2 hown0
        go_wp2
        go_loopw [3,5] (fun s3 s5 wr=>∃ (kk k2:Nat) (dk:Array za),s3=.int .i64 (kk:Int)∧s5=.int .i64 (k2:Int)∧1≤k2∧k+k2≤n∧kk<k+k2∧Hid (Lib.CompInv d (k+k2) kk dk)∧wr.ownsRow B 59 2 (.slice (some ⟨g,0,none⟩) n c) n (zb dk.toList)∧Below B w wr) (fun _ s5 _=>n - (intOf s5).toNat)
        case atStart=>exact⟨k,1,d,rfl,rfl,Nat.le_refl _,by omega,by omega,Lib.CompInv.start HA.out HKN.out,HO1.out,hB0⟩
        case round =>
         obtain⟨kk,k2,dk,rfl,rfl,h21,h2n,hkk,HI,hown,hbel⟩:=hrel
         have HO2:=zc hown
         have hsize:dk.size=n:=by rw[HI.out.size,HDS.out,HN.out]
         have HSZ:Hid _:=hsize
         have hcell:∀ j,j<n→wr.cell? ⟨g,j*2,none⟩=some (.string ⟨(dk[j]!).1.toArray⟩)∧wr.cell? ⟨g,j*2+1,none⟩=some (.string ⟨(dk[j]!).2.toArray⟩):=by
          intro j hj
          have:=zro hown (by simpa using hsize.symm) j (by simpa [hsize] using hj)
          simpa using this
         have hfro:∀ j,wr.frozen? ⟨g,j,none⟩=false:=fun j=>hown.frozenAt j
         clear hown
         by_cases hlt2:k+k2<n
         · obtain⟨cm1,cm2⟩:=hcell (k+k2) hlt2
           obtain⟨cp1,cp2⟩:=hcell (k+k2 - 1) (by omega)
           obtain⟨ck1,ck2⟩:=hcell kk (by omega)
           rw[HI.out.high (k+k2) (by omega),show (k+k2)*2=k*2+k2*2 by omega] at cm1 cm2
           rw[HI.out.high (k+k2 - 1) (by omega),show (k+k2 - 1)*2=k*2+(k2 - 1)*2 by omega] at cp1 cp2
           have fr1:=hfro (kk*2)
           have fr2:=hfro (kk*2+1)
           obtain⟨u,hu⟩:∃ u,u=d[k+k2]! := ⟨_,rfl⟩
           obtain⟨v,hv⟩:∃ v,v=d[k+k2 - 1]! := ⟨_,rfl⟩
           obtain⟨o1,ho1⟩:∃ o1,o1=(dk[kk]!).1:=⟨_,rfl⟩
           obtain⟨o2,ho2⟩:∃ o2,o2=(dk[kk]!).2:=⟨_,rfl⟩
           rw[←hu] at cm1 cm2
           rw[←hv] at cp1 cp2
           rw[←ho1] at ck1
           rw[←ho2] at ck2
           have HUV:Hid (u=d[k+k2]! ∧ v=d[k+k2 - 1]!):=⟨hu,hv⟩
           clear hu hv ho1 ho2 hcell hfro hsize
           obtain⟨u1,u2⟩:=u
           obtain⟨v1,v2⟩:=v
           have g0:(0:Int)≤(k2:Int) - 1:=by omega
           have g1:(k2:Int)<((n - k:Nat):Int):=by omega
           have g2:(k2:Int) - 1<((n - k:Nat):Int):=by omega
           have g3:((k2:Int) - 1).toNat=k2 - 1:=by omega
           have g4:IntKind.i64.wrap ((k2:Int) - 1)=(k2:Int) - 1:=zag _ (by omega) (by omega)
           have g5:(kk:Int)<(n:Int):=by omega
           have heq:∀ W:World,(binOp .neq 59 (.agg #[.string ⟨u1.toArray⟩,.string ⟨u2.toArray⟩]) (.agg #[.string ⟨v1.toArray⟩,.string ⟨v2.toArray⟩])).run Tryz.prog W=.ok (.bool (!decide ((u1,u2)=(v1,v2)))) W:=fun W=>zlo u1 u2 v1 v2 W
           by_cases huv:(u1,u2)=(v1,v2)
           · have hdc:decide ((u1,u2)=(v1,v2))=true:=by simpa using huv
             rw[hdc] at heq
             have HK:Hid (Lib.keeps d (k+k2)=false):=Lib.keeps_neg (by omega) (by rw[←HUV.out.1,←HUV.out.2];exact huv)
             clear hdc huv
             go_wp2
             go_quiet (fail)
             go_wp2
             go_roundw
             case rel=>exact⟨kk,k2+1,dk,rfl,by go_num,by omega,by omega,by omega,HI.out.skip HK.out,ze0 HO2.out fun _ _=>rfl,⟨hbel.os,hbel.tape,hbel.output,hbel.size,hbel.block⟩⟩
             case measure=>simp[intOf];omega
           · have hdc:decide ((u1,u2)=(v1,v2))=false:=by simpa using huv
             rw[hdc] at heq
             have HK:Hid (Lib.keeps d (k+k2)=true):=Lib.keeps_pos (by rw[←HUV.out.1,←HUV.out.2];exact huv)
             clear hdc huv
             go_wp2
             go_quiet (fail)
             go_wp2
             have hgB:B≤g:=by
              rcases zc9 HO2.out with ⟨h1,_⟩ | ⟨g',c',h1,h3,_⟩
              · cases h1
              · cases h1;exact h3
             have HI3:Lib.CompInv d (k+k2+1) (kk+1) (dk.setIfInBounds kk (u1,u2)):=by
              have:=HI.out.keep (by rw[HDS.out,←HN.out];exact hlt2) HK.out
              rw[←HUV.out.1] at this;exact this
             have hO3:=ze0 HO2.out fun _ _=>rfl
             have hB3:Below B w (wr.drewN nq):=⟨hbel.os,hbel.tape,hbel.output,hbel.size,hbel.block⟩
             refine⟨⟨kk+1,k2+1,dk.setIfInBounds kk (u1,u2),by go_num,by go_num,by omega,by omega,by omega,HI3,za35 hO3 kk (by rw[HSZ.out];omega) u1 u2,(hB3.trans (zlq hgB)).trans (zlq hgB)⟩,?_⟩
             simp[intOf];omega
         · have hend:k+k2=n:=by omega
           have hI:Lib.CompInv d d.size kk dk:=by have:=HI.out;rwa [hend,show n=d.size by rw[HDS.out];exact HN.out] at this
           have hkn:kk<n:=by omega
           have hcl:∀ ty,(Builtin.clear_ #[31] ty #[.slice (some ⟨g,kk*2,none⟩) (n - kk) (c - kk)]).run Tryz.prog wr=.ok (.tuple #[]) (wr.setCells g (kk*2) (List.replicate ((n - kk)*2) (.string ⟨#[]⟩))):=fun ty =>
            za38 wr ty g (kk*2) (n - kk) (c - kk) (by omega) (fun j hj=>by
             rcases zc9 HO2.out with ⟨h1,_⟩ | ⟨g',c',h1,_,_,hc,_⟩
             · cases h1
             · cases h1
               rw[hc _ (by omega),List.getElem?_eq_getElem (by rw[zbu,Array.length_toList,HSZ.out];omega)];rfl) (fun j _=>hfro _)
           have hgB:B≤g:=by
            rcases zc9 HO2.out with ⟨h1,_⟩ | ⟨g',c',h1,h3,_⟩
            · cases h1
            · cases h1;exact h3
           have HLEN:Hid ((zai ns).length=kk):=by
            rw[Hid,zai,←HD.out,←HN.out,show n=d.size by rw[HDS.out];exact HN.out];exact hI.len
           have HTK:Hid (dk.toList.take kk=zai ns):=by
            rw[Hid,zai,←HD.out,←HN.out,show n=d.size by rw[HDS.out];exact HN.out]
            apply List.ext_getElem?
            intro t
            by_cases ht:t<kk
            · rw[hI.low t ht,List.getElem?_take_of_lt ht,Array.getElem?_toList,Array.getElem?_eq_getElem (by rw[HSZ.out];omega),getElem!_pos dk t (by rw[HSZ.out];omega)]
            · rw[List.getElem?_eq_none (by rw[List.length_take];omega),List.getElem?_eq_none (by rw[hI.len];omega)]
           have hcut:=za36 HO2.out kk (by omega)
           rw[za37,HTK.out] at hcut
           have HFIN:=zrn (List.replicate ((n - kk)*2) (.string ⟨#[]⟩)) (kk*2) wr (Nat.le_refl _) hgB hcut
           have HF:Hid (_∧_):=HFIN
           have q1:¬ (c:Int)=(kk:Int):=by omega
           have q2:(kk:Int)≤(c:Int):=by omega
           have q3:(kk:Int)≤(n:Int):=by omega
           have q4:(kk:Int)<(n:Int):=by omega
           clear hcell hfro hcut HFIN hI
           go_wp2
           go_ret
           rw[HLEN.out]
           exact⟨rfl,HF.out.1,hbel.trans HF.out.2⟩
      · have HKP:Hid (Lib.keeps d k=true):=Lib.keeps_pos (by rw[←HXY.out.1,←HXY.out.2];exact hdup)
        have heq:∀ W:World,(binOp .eql 59 (.agg #[.string ⟨x1.toArray⟩,.string ⟨x2.toArray⟩]) (.agg #[.string ⟨y1.toArray⟩,.string ⟨y2.toArray⟩])).run Tryz.prog W=.ok (.bool false) W:=fun W=>by
         rw[za34];simp only[hdup,decide_false]
        clear hdup
        go_wp2
        go_quiet (fail)
        go_wp2
        go_roundw
        case rel=>exact⟨k+1,_,by omega,by omega,by go_num,rfl,fun j hj=>by
         by_cases e:j=k
         · rw[e];exact HKP.out
         · exact HA.out j (by omega)⟩
        case measure=>simp[intOf];omega
    · have HE:Hid _:=SAME.out fun j hj=>by
       have:=HA.out j (by have:=HN.out;omega)
       rw[HD.out] at this;exact this
      clear SAME HCELL
      go_wp2
      go_ret
      rw[HE.out]
      exact⟨by rw[←HN.out];rfl,ze0 HO.out fun _ _=>rfl,⟨rfl,rfl,rfl,Nat.le_refl _,fun _ _=>rfl⟩⟩
def zcc (m:List za) (i:Nat):Bool:=decide (keyAt m i≠emptyL) && (decide (i=0) || decide (keyAt m (i - 1)≠keyAt m i))
def zcs (m:List za):Bool:=(List.range m.length).all (zcc m)
theorem za3a (m:List za) (j:Nat) (hj:j<m.length) (h:zcc m j=false):zcs m=false:=by
 rw[zcs,List.all_eq_false];exact⟨j,List.mem_range.2 hj,by simp[h]⟩
theorem zrp (m:List za) (h:∀ j,j<m.length→zcc m j=true):zcs m=true:=by
 rw[zcs,List.all_eq_true];exact fun j hj=>h j (List.mem_range.1 hj)
theorem za3b (ns:List za):(zai ns).length≤ns.length:=by
 unfold zai Lib.compactUpTo
 rw[List.length_map]
 have:=List.length_filter_le (Lib.keeps ns.toArray) (List.range ns.length)
 simpa using this
theorem za3c (B g c : Nat) (ns : List za) (w : World) (hl : ns.length ≤ 10000) (ho : w.ownsRow B 59 2 (.slice (some ⟨g, 0, none⟩) ns.length c) ns.length (zb ns)) (hBw : B ≤ w.heap.size) (hT : ∀ W, Below B w W → Tab W) :
 Calls Tryz.prog 87 #[.slice (some ⟨g,0,none⟩) ns.length c] w fun e w'=>∃ ns':List za,ns'.Perm ns∧zfr ns'∧Below B w w' ∧
  ((zcs (zai ns') = true ∧ e = .returned (.tuple #[.slice (some ⟨g, 0, none⟩) (zai ns').length c, .bool true]) ∧ w'.ownsRow B 59 2 (.slice (some ⟨g, 0, none⟩) (zai ns').length c) (zai ns').length (zb (zai ns'))) ∨
   (zcs (zai ns')=false∧e=.returned (.tuple #[.slice none 0 0,.bool false]))):=by
 have K1:=za33 B g c ns w hl ho
 have HT:Hid _:=hT
 clear ho hT
 go_enter Tryz.func87,Tryz.ntmps87
 go_wp2_with fail
 refine K1.mono ?_
 rintro e w1 ⟨rfl,ns',hperm,hris,o1,b1⟩
 have hlen:=hperm.length_eq
 rw[←hlen] at o1 hl
 have K2:=za39 B g c ns' w1 hl o1
 have HP:Hid (ns'.Perm ns∧zfr ns'):=⟨hperm,hris⟩
 rw[hlen] at K2
 have hml:=za3b ns'
 obtain⟨m,hm⟩:∃ m,m=zai ns':=⟨_,rfl⟩
 rw[←hm] at K2 hml
 have HM:Hid _:=hm
 clear K1 o1 hperm hris hm
 go_wp2_with fail
 refine K2.mono ?_
 rintro e w2 ⟨rfl,o2,b2⟩
 have B2:=b1.trans b2
 have HO2:=zc o2
 have K3:=zlf w2 (HT.out w2 B2)
 clear K2 o2 b1 b2
 go_wp2_with fail
 refine K3.mono ?_
 rintro e w3 ⟨rfl,b3⟩
 have s2:=B2.size
 have B3:=B2.trans (b3.mono (by omega))
 have HO3:=zc (zan HO2.out b3)
 have hgl:g<w3.heap.size:=by
  rcases zc9 HO3.out with ⟨h1,_⟩ | ⟨g',c',h1,_,h2,_⟩
  · cases h1
  · cases h1;exact h2
 have HCELL:Hid (∀ j,j<m.length→w3.cell? ⟨g,j*2,none⟩=some (.string ⟨(keyAt m j).toArray⟩)∧w3.cell? ⟨g,j*2+1,none⟩=some (.string ⟨(zw m j).toArray⟩)):=fun j hj=>zic HO3.out j hj
 clear K3 HO2 b3 hlen
 obtain⟨mr,hmr⟩:∃ mr,mr=emptyL:=⟨_,rfl⟩
 have HE:Hid _:=hmr
 rw[←hmr]
 clear hmr
 go_wp2
 go_loopw [5,6,14] (fun _ _ i wr=>∃ j:Nat,j≤m.length∧i=.int .i64 (j:Int)∧Hid (∀ q,q<j→zcc m q=true)∧Below w3.heap.size w3 wr) (fun _ _ i _=>m.length - (intOf i).toNat)
 case atStart=>exact⟨0,Nat.zero_le _,rfl,fun q h=>by omega,Below.refl _ _⟩
 case round =>
  obtain⟨j,hj,rfl,HG,hbel⟩:=hrel
  have hsz:=hbel.size
  by_cases hlt:j<m.length
  · obtain ⟨a1, a2⟩ := HCELL.out j hlt
    have a1':=(hbel.cell (p:=⟨g,j*2,none⟩) hgl).trans a1
    have a2':=(hbel.cell (p:=⟨g,j*2+1,none⟩) hgl).trans a2
    obtain⟨x1,hx1⟩:∃ x1,x1=keyAt m j:=⟨_,rfl⟩
    obtain⟨x2,hx2⟩:∃ x2,x2=zw m j:=⟨_,rfl⟩
    rw[←hx1] at a1'
    rw[←hx2] at a2'
    have HX:Hid _:=hx1
    have hj0:(0:Int)≤(j:Int):=by omega
    have hj9:(j:Int)<(m.length:Int):=by omega
    have hw0:(wr.alloc (.cells #[.string ⟨x1.toArray⟩,.string ⟨x2.toArray⟩] 59)).cell? ⟨wr.heap.size,0,none⟩=some (.string ⟨x1.toArray⟩):=zll wr _ _ 0 _ rfl
    have HBW:Hid (Below w3.heap.size w3 (wr.alloc (.cells #[.string ⟨x1.toArray⟩,.string ⟨x2.toArray⟩] 59))):=hbel.alloc hsz _
    have FALSE:Hid (zcc m j=false→zcs (zai ns')=false):=fun hbad=>by rw[←HM.out];exact za3a m j hlt hbad
    have hB3s:=B3.size
    clear a1 a2 hx1 hx2
    by_cases he:x1=mr
    · have hbad:zcc m j=false:=by rw[zcc,←HX.out,he,HE.out];simp
      have HBAD:Hid _:=hbad
      subst he
      clear hbad
      go_wp2
      go_quiet (fail)
      go_wp2
      go_ret2
      exact⟨ns',HP.out.1,HP.out.2,B3.trans (Below.mono (B:=w3.heap.size) ⟨HBW.out.os,HBW.out.tape,HBW.out.output,HBW.out.size,HBW.out.block⟩ (by omega)),.inr ⟨FALSE.out HBAD.out,rfl⟩⟩
    · have heb : (x1 == mr) = false := by rw [beq_eq_false_iff_ne]; exact he
      have hne:x1≠emptyL:=by rw[←HE.out];exact he
      by_cases hz:j=0
      · subst hz
        have HGO:Hid (zcc m 0=true):=by rw[Hid,zcc,←HX.out];simp[hne]
        clear he hne
        go_wp2
        go_quiet (fail)
        go_wp2
        go_roundw
        case rel => exact ⟨1, by omega, rfl, fun q hq => by obtain rfl : q = 0 := by omega
                                                            exact HGO.out,⟨HBW.out.os,HBW.out.tape,HBW.out.output,HBW.out.size,HBW.out.block⟩⟩
        case measure=>simp[intOf];omega
      · obtain⟨b1,_⟩:=HCELL.out (j - 1) (by omega)
        have b1':(wr.alloc (.cells #[.string ⟨x1.toArray⟩,.string ⟨x2.toArray⟩] 59)).cell? ⟨g,(j - 1)*2,none⟩=some (.string ⟨(keyAt m (j - 1)).toArray⟩):=Lib.cell?_alloc_some _ ((hbel.cell (p:=⟨g,(j - 1)*2,none⟩) hgl).trans b1)
        obtain⟨y1,hy1⟩:∃ y1,y1=keyAt m (j - 1):=⟨_,rfl⟩
        rw[←hy1] at b1'
        have HY:Hid _:=hy1
        have g0:(0:Int)≤(j:Int) - 1:=by omega
        have g2:(j:Int) - 1<(m.length:Int):=by omega
        have g3:((j:Int) - 1).toNat=j - 1:=by omega
        have g4:IntKind.i64.wrap ((j:Int) - 1)=(j:Int) - 1:=zag _ (by omega) (by omega)
        have g5:decide (0<(j:Int))=true:=by simp;omega
        have g6:decide (0<j)=true:=by simp;omega
        clear b1 hy1 he
        by_cases hs:y1=x1
        · have HBAD:Hid (zcc m j=false):=by rw[Hid,zcc,←HX.out,←HY.out,hs];simp[hz]
          subst hs
          clear hne
          go_wp2
          go_quiet (fail)
          go_wp2
          go_ret2
          exact⟨ns',HP.out.1,HP.out.2,B3.trans (Below.mono (B:=w3.heap.size) ⟨HBW.out.os,HBW.out.tape,HBW.out.output,HBW.out.size,HBW.out.block⟩ (by omega)),.inr ⟨FALSE.out HBAD.out,rfl⟩⟩
        · have hsb:(y1 == x1)=false:=by rw[beq_eq_false_iff_ne];exact hs
          have HGO:Hid (zcc m j=true):=by rw[Hid,zcc,←HX.out,←HY.out];simp[hne,hs]
          clear hne hs
          go_wp2
          go_quiet (fail)
          go_wp2
          go_roundw
          case rel=>exact⟨j+1,by omega,by go_num,fun q hq=>by
           by_cases e:q=j
           · rw[e];exact HGO.out
           · exact HG.out q (by omega),⟨HBW.out.os,HBW.out.tape,HBW.out.output,HBW.out.size,HBW.out.block⟩⟩
          case measure=>simp[intOf];omega
  · have HOK:Hid _:=zrp m fun q hq=>HG.out q (by omega)
    have HO9:=zc (zan HO3.out hbel)
    clear HCELL
    go_wp2
    go_ret2
    refine⟨ns',HP.out.1,HP.out.2,B3.trans (hbel.mono (by have:=B3.size;omega)),.inl ⟨by rw[←HM.out];exact HOK.out,by rw[←HM.out];rfl,by rw[←HM.out];exact HO9.out⟩⟩
end Go.Proofs.YtppljdnbhoeeoaaGreatDoor
