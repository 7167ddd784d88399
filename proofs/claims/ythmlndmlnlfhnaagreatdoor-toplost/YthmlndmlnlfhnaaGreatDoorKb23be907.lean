import Derived.Shelf.Small.Strs
import Derived.Test.YthmlndmlnlfhnaaGreatDoorProg
import Derived.Test.YthmlndmlnlfhnaaGreatDoorChecked
import Derived.Test.YthmlndmlnlfhnaaGreatDoorK0fe30175
import Derived.Test.YthmlndmlnlfhnaaGreatDoorK8116ccd3
set_option maxRecDepth 100000
set_option maxHeartbeats 16000000
namespace Go.Proofs.YthmlndmlnlfhnaaGreatDoor
open Go.Lib (hid)
open Go.RowKit Go.Shelf
abbrev SlV:=Option Addr × Nat × Nat
abbrev RawT:=ByteArray × Int × Bool × SlV × SlV
def ja0 (d:DomD):List Value:=[.string d.1,.int .i64 d.2.1,.int .i64 d.2.2]
def jbc (t:RawT):List Value:=[.string t.1,.int .i64 t.2.1,.bool t.2.2.1,.slice t.2.2.2.1.1 t.2.2.2.1.2.1 t.2.2.2.1.2.2,.slice t.2.2.2.2.1 t.2.2.2.2.2.1 t.2.2.2.2.2.2]
theorem jll (x:DomD):(ja0 x).length=3:=rfl
theorem jlm (x:RawT):(jbc x).length=5:=rfl
theorem yd5 (x:DomD):∀ u∈ja0 x,u.oneCell'=true:=by intro u hu;simp [ja0] at hu;rcases hu with rfl | rfl | rfl <;> rfl
theorem yd7 (x:RawT):∀ u∈jbc x,u.oneCell'=true:=by intro u hu;simp [jbc] at hu;rcases hu with rfl | rfl | rfl | rfl | rfl <;> rfl
theorem jcr {α:Type} {p:α→Bool} {l:List α} {k:Nat} {x:α} (h:l[k]? = some x):(l.take (k+1)).filter p=(l.take k).filter p ++ (if p x then [x] else []):=by
 rw [jai h,List.filter_append];cases hp:p x <;> simp [hp]
theorem jna {P:Program} (w:World) {ops:Array Oper} {rest:List Oper} {o:Oper} {a:Act} {Q:Exit→Act→World→Prop} (hgd:o.guard=none) (s:Operand) (t:TypeId)
  (ho:o.op = .call { callee:=.builtin .clear,args:=#[s],argTypes:=#[t] }) (v:Value) (hs:a.eval s=v) {v':Value} {w':World}
  (hr:(Builtin.clear_ #[t] o.type #[v]).run P w = .ok v' w') (h:wpList P ops Q rest (a.put o.dst v') w'):wpList P ops Q (o :: rest) a w:=by
 refine wpList_plain hgd fun K hK=>?_;unfold Oper.wp execOp;simp only [ho,resolve,invoke,builtin,Sem.run_bind,Sem.run_pure,Result.andThen_ok,List.map_toArray,List.map_cons,List.map_nil,hs,hr];exact hK _ _ h
theorem yg2:Tryz.prog.underlying 35=some (.slice 58):=by kernel_rfl
theorem yj3 (w:World):(zeroValue 58).run Tryz.prog w = .ok (.agg #[.string ⟨#[]⟩,.int .i64 0,.int .i64 0]) w:=by kernel_rfl
theorem yfh (nm:ByteArray) (lo hi:Int) (s:ByteArray) (nb:Nat) (w:World) (h:w.cell? ⟨nb,0,none⟩=some (.string s)) :
  Calls Tryz.prog 105 #[.agg #[.string nm,.int .i64 lo,.int .i64 hi],.pointer (some ⟨nb,0,none⟩)] w fun e w'=>e = .returned (.bool (jap nm s))∧Below w.heap.size w w':=by
 have h':(w.alloc (.cells #[.string nm,.int .i64 lo,.int .i64 hi] 58)).cell? ⟨nb,0,none⟩=some (.string s):=Lib.cell?_alloc_some _ h;go_enter Tryz.func105,Tryz.ntmps105
 go_wp2;go_ret;exact ⟨rfl,jac _ _⟩
theorem yeg {w:World} {A:Option Addr} {c:Nat} {l:List DomD} (h:Raw w 3 (.slice A l.length c) l.length (l.flatMap ja0)) {k:Nat} (hk:k<l.length) :
  ∃ b o,∃ (nm:ByteArray) (lo hi:Int),A=some ⟨b,o,none⟩∧Hid (l[k]? = some (nm,lo,hi))∧b<w.heap.size∧w.cell? ⟨b,o+k*3,none⟩=some (.string nm)∧w.cell? ⟨b,o+k*3+1,none⟩=some (.int .i64 lo)∧w.cell? ⟨b,o+k*3+2,none⟩=some (.int .i64 hi):=by
 obtain ⟨A',c',e,_,_,_,_,h6,_⟩:=h;injection e with e1 e2 e3;subst e1;obtain ⟨b,o,rfl,h7⟩:=h6 (by omega);have hx:=List.getElem?_eq_getElem hk;generalize l[k]=x at hx;obtain ⟨nm,lo,hi⟩:=x;have hg:=fun j (hj:j<3) v (hv:(ja0 (nm,lo,hi))[j]? = some v)=>h7 (k*3+j) v ((jog jll hx hj).trans hv);have g0:=hg 0 (by decide) _ rfl;refine ⟨b,o,nm,lo,hi,rfl,hx,World.block_lt_of_cell? w _ g0,(by have:=hg 0 (by decide) _ rfl;rw [← this];congr 2),(by have:=hg 1 (by decide) _ rfl;rw [← this];congr 2),(by have:=hg 2 (by decide) _ rfl;rw [← this];congr 2)⟩
theorem ykm (l:List DomD) (v:Value) (s:ByteArray) (nb:Nat) (w:World) (h:Raw w 3 v l.length (l.flatMap ja0)) (hv:∀ k,v.ownBlock=some k→k<w.heap.size) (hn:w.cell? ⟨nb,0,none⟩=some (.string s)) :
  Calls Tryz.prog 151 #[v,.func (.func 105) #[] #[.pointer (some ⟨nb,0,none⟩)]] w fun e w'=>((e = .returned (.int .i64 (-1))∧Hid (l.filter (fun x=>!jap x.1 s)=l))∨∃ (k:Nat) (x:DomD),e = .returned (.int .i64 k)∧k<l.length∧Hid (l[k]? = some x)∧Hid (jap x.1 s=true)∧Hid ((l.take k).filter (fun x=>!jap x.1 s)=l.take k))∧Below w.heap.size w w':=by
 have H:=hid h;have HN:=hid hn;have HV:=hid hv;have hnl:nb<w.heap.size:=World.block_lt_of_cell? w _ hn;obtain ⟨A,cp,rfl,hc1,hc2,-⟩:=h;unfold maxLen at hc2;clear hn hv;have eg:∀ args w,(callFunc 105 args).run Tryz.prog w = .ok (.enter 105 args) w:=enters_of Tryz.func105 (by kernel_rfl) rfl;go_enter Tryz.func151,Tryz.ntmps151
 go_wp2;go_loopw [8] (fun i wr=>∃ k:Nat,k≤l.length∧i = .int .i64 k∧Hid ((l.take k).filter (fun x=>!jap x.1 s)=l.take k)∧Below w.heap.size w wr) (fun i _=>l.length-(intOf i).toNat)
 case atStart=>exact ⟨0,Nat.zero_le _,rfl,rfl,Below.refl _ _⟩
 case round =>
  obtain ⟨k,hk,rfl,hf,hb⟩:=hrel;by_cases hlt:k<l.length
  ·obtain ⟨b,o,nm,lo,hi,rfl,hx,hbl,c0,c1,c2⟩:=yeg (H.out.keep (w':=wr) (fun _ p hp=>hb.cell (HV.out _ hp))) hlt;have HN1:Hid (wr.cell? ⟨nb,0,none⟩=some (.string s)):=(hb.cell (p:=⟨nb,0,none⟩) hnl).trans HN.out;go_wp2_with fail
   refine (yfh nm lo hi s nb _ HN1.out).mono ?_;rintro e w1 ⟨rfl,hb1⟩;have hb01:=bx hb hb1;cases hq:jap nm s
   ·have HQ:Hid ((l.take (k+1)).filter (fun x=>!jap x.1 s)=l.take (k+1)):=by
     show _=_
     rw [jcr hx.out,hf.out,jai hx.out];simp [hq]
    clear hq;go_wp2;exact ⟨⟨k+1,by omega,by go_num,HQ,hb01⟩,by simp [intOf];omega⟩
   ·have HQ:=hid hq;clear hq;go_wp2;go_ret;exact ⟨.inr ⟨k,_,rfl,hlt,hx,HQ,hf⟩,hb01⟩
  ·have e:l.take k=l:=List.take_of_length_le (by omega);have hf':=hf.out;rw [e] at hf';have HQ:=hid hf';clear hf';go_wp2;go_ret;exact ⟨.inl ⟨rfl,HQ⟩,hb⟩
theorem yg0 (l:List DomD) (v:Value) (base:Nat) (s:ByteArray) (nb:Nat) (w:World) (h:w.ownsRow base 58 3 v l.length (l.flatMap ja0)) (hn:w.cell? ⟨nb,0,none⟩=some (.string s)) (hnb:v.ownBlock≠some nb) :
  Calls Tryz.prog 104 #[v,.func (.func 105) #[] #[.pointer (some ⟨nb,0,none⟩)]] w fun e w'=>∃ v',e = .returned v'∧w'.ownsRow base 58 3 v' (l.filter fun x=>!jap x.1 s).length ((l.filter fun x=>!jap x.1 s).flatMap ja0)∧w.grownBy w' v.ownBlock∧jed w v v':=by
 have HN:=hid hn;have hnl:nb<w.heap.size:=World.block_lt_of_cell? w _ hn;have hraw:=jkl h (by intro u hu;obtain ⟨x,_,hx⟩:=List.mem_flatMap.1 hu;exact yd5 x u hx);have HR:=hid hraw;have HL:=hid (fun k hk=>(h.lt k hk).2);have HO:=hid h;obtain ⟨A,cap,rfl,hc1,hc2,-⟩:=jah h;unfold maxLen at hc2;have eg:∀ args w,(callFunc 105 args).run Tryz.prog w = .ok (.enter 105 args) w:=enters_of Tryz.func105 (by kernel_rfl) rfl;clear h hn hraw;go_enter Tryz.func104,Tryz.ntmps104
 go_wp2_with fail
 refine (ykm l _ s nb _ HR.out HL.out HN.out).mono ?_;rintro e w1 ⟨⟨rfl,hF⟩ | ⟨k,x,rfl,hk,hx,hs,hF⟩,hb1⟩
 ·go_wp2;go_ret;rw [hF.out];exact ⟨_,rfl,ja1 HO.out (fun g hg=>hb1.block g (HL.out g hg)),jbb hb1,jed.refl _ _⟩
 ·rcases HO.out.2 with ⟨e,h0⟩ | ⟨g,cap',cur,e,hg0,hg,hnc,hcm,hcs,hcx⟩
  ·omega
  ·injection e with e1 e2 e3;subst e1 e3;have hgl:=(Array.getElem?_eq_some_iff.1 hg).1;have hgn:g≠nb:=fun e=>hnb (by rw [← e];rfl);have hfl:=jil jll l;have hcl:cur.toList.length=cap*3:=by simpa using hcs
   have hk1:((k:Int) == -1)=false:=by rw [beq_eq_false_iff_ne];omega
   have hwk:IntKind.i64.wrap ((k:Int)+1)=((k+1:Nat):Int):=by rw [IntKind.wrap_i64];omega
   have hg1:Hid (w1.heap[g]? = some (.cells cur 58 (0,0))):=(hb1.block g hgl).trans hg;have hA0:Hid (∀ q,q<k*3→cur.toList[q]? = (((l.take (k+1)).filter fun x=>!jap x.1 s).flatMap ja0)[q]?):=by
    intro q hq;rw [jcr hx.out,hF.out];simp only [hs.out,Bool.not_true,Bool.false_eq_true,if_false,List.append_nil];rw [jp6 jll,List.getElem?_take_of_lt hq,← hcx,List.getElem?_take_of_lt (by omega)]
   have hB0:Hid (∀ q,(k+1)*3≤q→q<l.length*3→cur.toList[q]? = (l.flatMap ja0)[q]?):=by
    intro q _ hq;rw [← hcx,List.getElem?_take_of_lt hq]
   have hF0:Hid (((l.take (k+1)).filter fun x=>!jap x.1 s).length=k):=by
    show _=_
    rw [jcr hx.out,hF.out];simp [hs.out];omega
   have HS:Hid (cur.size=cap*3):=hcs;have HG1:Hid (w.grownBy w1 (some g)):=jbb hb1;have hpx:Hid ((!jap x.1 s)=false):=by show _=_;rw [hs.out];rfl
   clear hg hcx hcl hcs hfl HR HO hb1;go_wp2;go_loopw [5,6] (fun a b wr=>∃ (i j:Nat) (cu:Array Value),i<j∧k+1≤j∧j≤l.length∧a = .int .i64 i∧b = .int .i64 j∧Hid (((l.take j).filter fun x=>!jap x.1 s).length=i)∧Hid (wr.heap[g]? = some (.cells cu 58 (0,0)))∧Hid (cu.size=cap*3)∧Hid (∀ q,q<i*3→cu.toList[q]? = (((l.take j).filter fun x=>!jap x.1 s).flatMap ja0)[q]?)∧Hid (∀ q,j*3≤q→q<l.length*3→cu.toList[q]? = (l.flatMap ja0)[q]?)∧Hid (w.grownBy wr (some g))) (fun _ b _=>l.length-(intOf b).toNat)
   case atStart=>exact ⟨k,k+1,cur,by omega,by omega,by omega,rfl,by go_num,hF0,hg1,HS,hA0,hB0,HG1⟩
   case round =>
    clear hA0 hB0 hF0 hg1 HS HG1;obtain ⟨i,j,cu,hij,hkj,hjl,rfl,rfl,hFi,hgr,hcz,hA,hB,hG⟩:=hrel;by_cases hlt:j<l.length
    ·have hy:=List.getElem?_eq_getElem hlt;generalize l[j]=y at hy;have HY:=hid hy;obtain ⟨nm,lo,hi⟩:=y;have hcc:∀ q (hq:q<3) u,(ja0 (nm,lo,hi))[q]? = some u→wr.cell? ⟨g,j*3+q,none⟩=some u:=fun q hq u hu=>jbk hgr.out ((hB.out (j*3+q) (by omega) (by omega)).trans ((jog jll hy hq).trans hu));have l0:wr.cell? ⟨g,j*3,none⟩=some (.string nm):=hcc 0 (by decide) _ rfl;have l1:wr.cell? ⟨g,j*3+1,none⟩=some (.int .i64 lo):=hcc 1 (by decide) _ rfl;have l2:wr.cell? ⟨g,j*3+2,none⟩=some (.int .i64 hi):=hcc 2 (by decide) _ rfl;clear hcc hy;have hbz:=jac wr (.cells #[.string nm,.int .i64 lo,.int .i64 hi] 58);have CN:=hid (Cs.new wr ([.string nm,.int .i64 lo,.int .i64 hi]) 58);change Hid (Cs (wr.alloc (.cells #[.string nm,.int .i64 lo,.int .i64 hi] 58)) _ _) at CN;have hGz:Hid (w.grownBy (wr.alloc (.cells #[.string nm,.int .i64 lo,.int .i64 hi] 58)) (some g)):=World.grownBy.trans' hG.out (jbb hbz);have hgz:Hid ((wr.alloc (.cells #[.string nm,.int .i64 lo,.int .i64 hi] 58)).heap[g]? = some (.cells cu 58 (0,0))):=(hbz.block g ((Array.getElem?_eq_some_iff.1 hgr.out).1)).trans hgr.out;have hzz:wr.heap.size<(wr.alloc (.cells #[.string nm,.int .i64 lo,.int .i64 hi] 58)).heap.size:=by simp
     have q0:=CN.out.at 0 rfl;have q1:=CN.out.at 1 rfl;have q2:=CN.out.at 2 rfl;have hgwr:g<wr.heap.size:=(Array.getElem?_eq_some_iff.1 hgr.out).1;go_wp2_with fail
     generalize hwz:wr.alloc (.cells #[.string nm,.int .i64 lo,.int .i64 hi] 58)=wz at *;go_wp2_with fail
     have HNz:Hid (wz.cell? ⟨nb,0,none⟩=some (.string s)):=(World.cell?_of_block (hGz.out.block nb hnl (by intro e;injection e with e;exact hgn e.symm))).trans HN.out;refine (yfh nm lo hi s nb _ HNz.out).mono ?_;rintro e w2 ⟨rfl,hb2⟩;have hG2:Hid (w.grownBy w2 (some g)):=World.grownBy.trans' hGz.out (jbb hb2);have hg2:Hid (w2.heap[g]? = some (.cells cu 58 (0,0))):=(hb2.block g ((Array.getElem?_eq_some_iff.1 hgz.out).1)).trans hgz.out;have CN2:=hid (CN.out.next hb2);clear hwz hbz CN hGz hgz q0 l0 q1 l1 q2 l2;cases hq:jap nm s
     ·have HQ:=hid hq;clear hq;have q0:=CN2.out.at 0 rfl;have q1:=CN2.out.at 1 rfl;have q2:=CN2.out.at 2 rfl;have f0:w2.frozen? ⟨g,i*3,none⟩=false:=je3 hg2.out _;have f1:w2.frozen? ⟨g,i*3+1,none⟩=false:=je3 hg2.out _;have f2:w2.frozen? ⟨g,i*3+2,none⟩=false:=je3 hg2.out _;have hwi:IntKind.i64.wrap ((i:Int)+1)=((i+1:Nat):Int):=by rw [IntKind.wrap_i64];omega
      have hwj:IntKind.i64.wrap ((j:Int)+1)=((j+1:Nat):Int):=by rw [IntKind.wrap_i64];omega
      have hcap:j<cap:=by omega
      have hiS:i*3+3≤cu.size:=by rw [hcz.out];omega
      obtain ⟨o0,i0⟩:∃ u,w2.cell? ⟨g,i*3,none⟩=some u:=⟨_,jbk hg2.out (List.getElem?_eq_getElem (by simp;omega))⟩;obtain ⟨o1,i1⟩:∃ u,w2.cell? ⟨g,i*3+1,none⟩=some u:=⟨_,jbk hg2.out (List.getElem?_eq_getElem (by simp;omega))⟩;obtain ⟨o2,i2⟩:∃ u,w2.cell? ⟨g,i*3+2,none⟩=some u:=⟨_,jbk hg2.out (List.getElem?_eq_getElem (by simp;omega))⟩;go_wp2;refine ⟨⟨i+1,j+1,_,by omega,by omega,by omega,by go_num,by go_num,?_,jm2 (jm2 (jm2 (hg2.out) _ _) _ _) _ _,?_,?_,?_,?_⟩,by simp [intOf];omega⟩
      ·show _=_
       rw [jcr HY.out];simp [HQ.out,hFi.out]
      ·show _=_
       simp only [Array.size_setIfInBounds];exact hcz.out
      ·intro q hq;rw [jcr HY.out,List.flatMap_append];have hl1:(((l.take j).filter fun x=>!jap x.1 s).flatMap ja0).length=i*3:=by rw [jil jll,hFi.out]
       simp only [HQ.out,Bool.not_false,if_true,List.flatMap_cons,List.flatMap_nil,List.append_nil];rw [jg0 _ _ _ (by first | omega | (simp only [Array.size_setIfInBounds];omega)),jg0 _ _ _ (by first | omega | (simp only [Array.size_setIfInBounds];omega)),jg0 _ _ _ (by first | omega | (simp only [Array.size_setIfInBounds];omega))];by_cases hqi:q<i*3
       ·rw [List.getElem?_append_left (by omega),← hA.out q hqi];rw [if_neg (by omega),if_neg (by omega),if_neg (by omega)]
       ·rw [List.getElem?_append_right (by omega),hl1];rcases (by omega:q=i*3∨q=i*3+1∨q=i*3+2) with rfl | rfl | rfl
        ·rw [if_neg (by omega),if_neg (by omega),if_pos rfl,show i*3-i*3=0 from by omega];rfl
        ·rw [if_neg (by omega),if_pos rfl,show i*3+1-i*3=1 from by omega];rfl
        ·rw [if_pos rfl,show i*3+2-i*3=2 from by omega];rfl
      ·intro q hq1 hq2;rw [jg0 _ _ _ (by first | omega | (simp only [Array.size_setIfInBounds];omega)),jg0 _ _ _ (by first | omega | (simp only [Array.size_setIfInBounds];omega)),jg0 _ _ _ (by first | omega | (simp only [Array.size_setIfInBounds];omega))];rw [if_neg (by omega),if_neg (by omega),if_neg (by omega)];exact hB.out q (by omega) hq2
      ·exact (World.grownBy.trans' ((World.grownBy.trans' ((World.grownBy.trans' (hG2.out) (jhj _ _ _ _))) (jhj _ _ _ _))) (jhj _ _ _ _))
     ·have HQ:=hid hq;clear hq;have hwj:IntKind.i64.wrap ((j:Int)+1)=((j+1:Nat):Int):=by rw [IntKind.wrap_i64];omega
      go_wp2;refine ⟨⟨i,j+1,cu,by omega,by omega,by omega,rfl,by go_num,?_,hg2,hcz,?_,?_,hG2⟩,by simp [intOf];omega⟩
      ·show _=_
       rw [jcr HY.out];simp [HQ.out,hFi.out]
      ·intro q hq;rw [jcr HY.out];simp only [HQ.out,Bool.not_true,Bool.false_eq_true,if_false,List.append_nil];exact hA.out q hq
      ·intro q hq1 hq2;exact hB.out q (by omega) hq2
    ·obtain rfl:j=l.length:=by omega
     have hil:i<cap:=by omega
     obtain ⟨cur',hcl,hcs',hcq⟩:=jqt (P:=Tryz.prog) wr 35 58 (.agg #[.string ⟨#[]⟩,.int .i64 0,.int .i64 0]) yg2 yj3 (by decide) g (i*3) (l.length-i) (cap-i) cu (by omega) hgr.out (by rw [hcz.out];show i*3+(l.length-i)*3≤cap*3;omega);have HT:=hid (List.take_of_length_le (Nat.le_refl l.length));have HCS:Hid (cur'.size=cap*3):=by show _=_;rw [hcs'];exact hcz.out
     have HCQ:=hid hcq;have hci:¬ (cap=i):=by omega
     clear hcs' hcq;go_wp2_with (at_builtin;refine jna _ rfl _ 35 rfl _ rfl (hcl _) ?_)
     go_ret;have e0:l.filter (fun x=>!jap x.1 s)=(l.take l.length).filter fun x=>!jap x.1 s:=by rw [HT.out]
     rw [e0];refine ⟨_,rfl,?_,World.grownBy.trans' hG.out (jby _ _ _),fun k hk=>.inl hk⟩;rw [hFi.out];refine jnr hg0 (setRow_heap wr g cu _ _ _ hgr.out) (by omega) hcm HCS.out ?_;apply List.ext_getElem?;intro q;by_cases hq:q<i*3
     ·rw [List.getElem?_take_of_lt hq,HCQ.out q hq,hA.out q hq]
     ·rw [List.getElem?_eq_none (by rw [List.length_take];omega),List.getElem?_eq_none (by rw [jil jll,hFi.out];omega)]
theorem yin:Tryz.prog.underlying 36=some (.slice 56):=by kernel_rfl
theorem ym7 (w:World):(zeroValue 56).run Tryz.prog w = .ok (.agg #[.string ⟨#[]⟩,.int .i64 0,.bool false,.slice none 0 0,.slice none 0 0]) w:=by kernel_rfl
theorem yfi (nm:ByteArray) (pol:Int) (comp:Bool) (ia:Option Addr) (il ic:Nat) (ra:Option Addr) (rl rc:Nat) (s:ByteArray) (nb:Nat) (w:World) (h:w.cell? ⟨nb,0,none⟩=some (.string s)) :
  Calls Tryz.prog 108 #[.agg #[.string nm,.int .i64 pol,.bool comp,.slice ia il ic,.slice ra rl rc],.pointer (some ⟨nb,0,none⟩)] w fun e w'=>e = .returned (.bool (jap nm s))∧Below w.heap.size w w':=by
 have h':(w.alloc (.cells #[.string nm,.int .i64 pol,.bool comp,.slice ia il ic,.slice ra rl rc] 56)).cell? ⟨nb,0,none⟩=some (.string s):=Lib.cell?_alloc_some _ h;go_enter Tryz.func108,Tryz.ntmps108
 go_wp2;go_ret;exact ⟨rfl,jac _ _⟩
theorem yeh {w:World} {A:Option Addr} {c:Nat} {l:List RawT} (h:Raw w 5 (.slice A l.length c) l.length (l.flatMap jbc)) {k:Nat} (hk:k<l.length) :
  ∃ b o,∃ (nm:ByteArray) (pol:Int) (comp:Bool) (ia:Option Addr) (il ic:Nat) (ra:Option Addr) (rl rc:Nat),A=some ⟨b,o,none⟩∧Hid (l[k]? = some (nm,pol,comp,(ia,il,ic),(ra,rl,rc)))∧b<w.heap.size∧w.cell? ⟨b,o+k*5,none⟩=some (.string nm)∧w.cell? ⟨b,o+k*5+1,none⟩=some (.int .i64 pol)∧w.cell? ⟨b,o+k*5+2,none⟩=some (.bool comp)∧w.cell? ⟨b,o+k*5+3,none⟩=some (.slice ia il ic)∧w.cell? ⟨b,o+k*5+4,none⟩=some (.slice ra rl rc):=by
 obtain ⟨A',c',e,_,_,_,_,h6,_⟩:=h;injection e with e1 e2 e3;subst e1;obtain ⟨b,o,rfl,h7⟩:=h6 (by omega);have hx:=List.getElem?_eq_getElem hk;generalize l[k]=x at hx;obtain ⟨nm,pol,comp,⟨ia,il,ic⟩,⟨ra,rl,rc⟩⟩:=x;have hg:=fun j (hj:j<5) v (hv:(jbc (nm,pol,comp,(ia,il,ic),(ra,rl,rc)))[j]? = some v)=>h7 (k*5+j) v ((jog jlm hx hj).trans hv);have g0:=hg 0 (by decide) _ rfl;refine ⟨b,o,nm,pol,comp,ia,il,ic,ra,rl,rc,rfl,hx,World.block_lt_of_cell? w _ g0,(by have:=hg 0 (by decide) _ rfl;rw [← this];congr 2),(by have:=hg 1 (by decide) _ rfl;rw [← this];congr 2),(by have:=hg 2 (by decide) _ rfl;rw [← this];congr 2),(by have:=hg 3 (by decide) _ rfl;rw [← this];congr 2),(by have:=hg 4 (by decide) _ rfl;rw [← this];congr 2)⟩
theorem ykn (l:List RawT) (v:Value) (s:ByteArray) (nb:Nat) (w:World) (h:Raw w 5 v l.length (l.flatMap jbc)) (hv:∀ k,v.ownBlock=some k→k<w.heap.size) (hn:w.cell? ⟨nb,0,none⟩=some (.string s)) :
  Calls Tryz.prog 86 #[v,.func (.func 108) #[] #[.pointer (some ⟨nb,0,none⟩)]] w fun e w'=>((e = .returned (.int .i64 (-1))∧Hid (l.filter (fun x=>!jap x.1 s)=l))∨∃ (k:Nat) (x:RawT),e = .returned (.int .i64 k)∧k<l.length∧Hid (l[k]? = some x)∧Hid (jap x.1 s=true)∧Hid ((l.take k).filter (fun x=>!jap x.1 s)=l.take k))∧Below w.heap.size w w':=by
 have H:=hid h;have HN:=hid hn;have HV:=hid hv;have hnl:nb<w.heap.size:=World.block_lt_of_cell? w _ hn;obtain ⟨A,cp,rfl,hc1,hc2,-⟩:=h;unfold maxLen at hc2;clear hn hv;have eg:∀ args w,(callFunc 108 args).run Tryz.prog w = .ok (.enter 108 args) w:=enters_of Tryz.func108 (by kernel_rfl) rfl;go_enter Tryz.func86,Tryz.ntmps86
 go_wp2;go_loopw [8] (fun i wr=>∃ k:Nat,k≤l.length∧i = .int .i64 k∧Hid ((l.take k).filter (fun x=>!jap x.1 s)=l.take k)∧Below w.heap.size w wr) (fun i _=>l.length-(intOf i).toNat)
 case atStart=>exact ⟨0,Nat.zero_le _,rfl,rfl,Below.refl _ _⟩
 case round =>
  obtain ⟨k,hk,rfl,hf,hb⟩:=hrel;by_cases hlt:k<l.length
  ·obtain ⟨b,o,nm,pol,comp,ia,il,ic,ra,rl,rc,rfl,hx,hbl,c0,c1,c2,c3,c4⟩:=yeh (H.out.keep (w':=wr) (fun _ p hp=>hb.cell (HV.out _ hp))) hlt;have HN1:Hid (wr.cell? ⟨nb,0,none⟩=some (.string s)):=(hb.cell (p:=⟨nb,0,none⟩) hnl).trans HN.out;go_wp2_with fail
   refine (yfi nm pol comp ia il ic ra rl rc s nb _ HN1.out).mono ?_;rintro e w1 ⟨rfl,hb1⟩;have hb01:=bx hb hb1;cases hq:jap nm s
   ·have HQ:Hid ((l.take (k+1)).filter (fun x=>!jap x.1 s)=l.take (k+1)):=by
     show _=_
     rw [jcr hx.out,hf.out,jai hx.out];simp [hq]
    clear hq;go_wp2;exact ⟨⟨k+1,by omega,by go_num,HQ,hb01⟩,by simp [intOf];omega⟩
   ·have HQ:=hid hq;clear hq;go_wp2;go_ret;exact ⟨.inr ⟨k,_,rfl,hlt,hx,HQ,hf⟩,hb01⟩
  ·have e:l.take k=l:=List.take_of_length_le (by omega);have hf':=hf.out;rw [e] at hf';have HQ:=hid hf';clear hf';go_wp2;go_ret;exact ⟨.inl ⟨rfl,HQ⟩,hb⟩
theorem yg1 (l:List RawT) (v:Value) (base:Nat) (s:ByteArray) (nb:Nat) (w:World) (h:w.ownsRow base 56 5 v l.length (l.flatMap jbc)) (hn:w.cell? ⟨nb,0,none⟩=some (.string s)) (hnb:v.ownBlock≠some nb) :
  Calls Tryz.prog 106 #[v,.func (.func 108) #[] #[.pointer (some ⟨nb,0,none⟩)]] w fun e w'=>∃ v',e = .returned v'∧w'.ownsRow base 56 5 v' (l.filter fun x=>!jap x.1 s).length ((l.filter fun x=>!jap x.1 s).flatMap jbc)∧w.grownBy w' v.ownBlock∧jed w v v':=by
 have HN:=hid hn;have hnl:nb<w.heap.size:=World.block_lt_of_cell? w _ hn;have hraw:=jkl h (by intro u hu;obtain ⟨x,_,hx⟩:=List.mem_flatMap.1 hu;exact yd7 x u hx);have HR:=hid hraw;have HL:=hid (fun k hk=>(h.lt k hk).2);have HO:=hid h;obtain ⟨A,cap,rfl,hc1,hc2,-⟩:=jah h;unfold maxLen at hc2;have eg:∀ args w,(callFunc 108 args).run Tryz.prog w = .ok (.enter 108 args) w:=enters_of Tryz.func108 (by kernel_rfl) rfl;clear h hn hraw;go_enter Tryz.func106,Tryz.ntmps106
 go_wp2_with fail
 refine (ykn l _ s nb _ HR.out HL.out HN.out).mono ?_;rintro e w1 ⟨⟨rfl,hF⟩ | ⟨k,x,rfl,hk,hx,hs,hF⟩,hb1⟩
 ·go_wp2;go_ret;rw [hF.out];exact ⟨_,rfl,ja1 HO.out (fun g hg=>hb1.block g (HL.out g hg)),jbb hb1,jed.refl _ _⟩
 ·rcases HO.out.2 with ⟨e,h0⟩ | ⟨g,cap',cur,e,hg0,hg,hnc,hcm,hcs,hcx⟩
  ·omega
  ·injection e with e1 e2 e3;subst e1 e3;have hgl:=(Array.getElem?_eq_some_iff.1 hg).1;have hgn:g≠nb:=fun e=>hnb (by rw [← e];rfl);have hfl:=jil jlm l;have hcl:cur.toList.length=cap*5:=by simpa using hcs
   have hk1:((k:Int) == -1)=false:=by rw [beq_eq_false_iff_ne];omega
   have hwk:IntKind.i64.wrap ((k:Int)+1)=((k+1:Nat):Int):=by rw [IntKind.wrap_i64];omega
   have hg1:Hid (w1.heap[g]? = some (.cells cur 56 (0,0))):=(hb1.block g hgl).trans hg;have hA0:Hid (∀ q,q<k*5→cur.toList[q]? = (((l.take (k+1)).filter fun x=>!jap x.1 s).flatMap jbc)[q]?):=by
    intro q hq;rw [jcr hx.out,hF.out];simp only [hs.out,Bool.not_true,Bool.false_eq_true,if_false,List.append_nil];rw [jp6 jlm,List.getElem?_take_of_lt hq,← hcx,List.getElem?_take_of_lt (by omega)]
   have hB0:Hid (∀ q,(k+1)*5≤q→q<l.length*5→cur.toList[q]? = (l.flatMap jbc)[q]?):=by
    intro q _ hq;rw [← hcx,List.getElem?_take_of_lt hq]
   have hF0:Hid (((l.take (k+1)).filter fun x=>!jap x.1 s).length=k):=by
    show _=_
    rw [jcr hx.out,hF.out];simp [hs.out];omega
   have HS:Hid (cur.size=cap*5):=hcs;have HG1:Hid (w.grownBy w1 (some g)):=jbb hb1;have hpx:Hid ((!jap x.1 s)=false):=by show _=_;rw [hs.out];rfl
   clear hg hcx hcl hcs hfl HR HO hb1;go_wp2;go_loopw [5,6] (fun a b wr=>∃ (i j:Nat) (cu:Array Value),i<j∧k+1≤j∧j≤l.length∧a = .int .i64 i∧b = .int .i64 j∧Hid (((l.take j).filter fun x=>!jap x.1 s).length=i)∧Hid (wr.heap[g]? = some (.cells cu 56 (0,0)))∧Hid (cu.size=cap*5)∧Hid (∀ q,q<i*5→cu.toList[q]? = (((l.take j).filter fun x=>!jap x.1 s).flatMap jbc)[q]?)∧Hid (∀ q,j*5≤q→q<l.length*5→cu.toList[q]? = (l.flatMap jbc)[q]?)∧Hid (w.grownBy wr (some g))) (fun _ b _=>l.length-(intOf b).toNat)
   case atStart=>exact ⟨k,k+1,cur,by omega,by omega,by omega,rfl,by go_num,hF0,hg1,HS,hA0,hB0,HG1⟩
   case round =>
    clear hA0 hB0 hF0 hg1 HS HG1;obtain ⟨i,j,cu,hij,hkj,hjl,rfl,rfl,hFi,hgr,hcz,hA,hB,hG⟩:=hrel;by_cases hlt:j<l.length
    ·have hy:=List.getElem?_eq_getElem hlt;generalize l[j]=y at hy;have HY:=hid hy;obtain ⟨nm,pol,comp,⟨ia,il,ic⟩,⟨ra,rl,rc⟩⟩:=y;have hcc:∀ q (hq:q<5) u,(jbc (nm,pol,comp,(ia,il,ic),(ra,rl,rc)))[q]? = some u→wr.cell? ⟨g,j*5+q,none⟩=some u:=fun q hq u hu=>jbk hgr.out ((hB.out (j*5+q) (by omega) (by omega)).trans ((jog jlm hy hq).trans hu));have l0:wr.cell? ⟨g,j*5,none⟩=some (.string nm):=hcc 0 (by decide) _ rfl;have l1:wr.cell? ⟨g,j*5+1,none⟩=some (.int .i64 pol):=hcc 1 (by decide) _ rfl;have l2:wr.cell? ⟨g,j*5+2,none⟩=some (.bool comp):=hcc 2 (by decide) _ rfl;have l3:wr.cell? ⟨g,j*5+3,none⟩=some (.slice ia il ic):=hcc 3 (by decide) _ rfl;have l4:wr.cell? ⟨g,j*5+4,none⟩=some (.slice ra rl rc):=hcc 4 (by decide) _ rfl;clear hcc hy;have hbz:=jac wr (.cells #[.string nm,.int .i64 pol,.bool comp,.slice ia il ic,.slice ra rl rc] 56);have CN:=hid (Cs.new wr ([.string nm,.int .i64 pol,.bool comp,.slice ia il ic,.slice ra rl rc]) 56);change Hid (Cs (wr.alloc (.cells #[.string nm,.int .i64 pol,.bool comp,.slice ia il ic,.slice ra rl rc] 56)) _ _) at CN;have hGz:Hid (w.grownBy (wr.alloc (.cells #[.string nm,.int .i64 pol,.bool comp,.slice ia il ic,.slice ra rl rc] 56)) (some g)):=World.grownBy.trans' hG.out (jbb hbz);have hgz:Hid ((wr.alloc (.cells #[.string nm,.int .i64 pol,.bool comp,.slice ia il ic,.slice ra rl rc] 56)).heap[g]? = some (.cells cu 56 (0,0))):=(hbz.block g ((Array.getElem?_eq_some_iff.1 hgr.out).1)).trans hgr.out;have hzz:wr.heap.size<(wr.alloc (.cells #[.string nm,.int .i64 pol,.bool comp,.slice ia il ic,.slice ra rl rc] 56)).heap.size:=by simp
     have q0:=CN.out.at 0 rfl;have q1:=CN.out.at 1 rfl;have q2:=CN.out.at 2 rfl;have q3:=CN.out.at 3 rfl;have q4:=CN.out.at 4 rfl;have hgwr:g<wr.heap.size:=(Array.getElem?_eq_some_iff.1 hgr.out).1;go_wp2_with fail
     generalize hwz:wr.alloc (.cells #[.string nm,.int .i64 pol,.bool comp,.slice ia il ic,.slice ra rl rc] 56)=wz at *;go_wp2_with fail
     have HNz:Hid (wz.cell? ⟨nb,0,none⟩=some (.string s)):=(World.cell?_of_block (hGz.out.block nb hnl (by intro e;injection e with e;exact hgn e.symm))).trans HN.out;refine (yfi nm pol comp ia il ic ra rl rc s nb _ HNz.out).mono ?_;rintro e w2 ⟨rfl,hb2⟩;have hG2:Hid (w.grownBy w2 (some g)):=World.grownBy.trans' hGz.out (jbb hb2);have hg2:Hid (w2.heap[g]? = some (.cells cu 56 (0,0))):=(hb2.block g ((Array.getElem?_eq_some_iff.1 hgz.out).1)).trans hgz.out;have CN2:=hid (CN.out.next hb2);clear hwz hbz CN hGz hgz q0 l0 q1 l1 q2 l2 q3 l3 q4 l4;cases hq:jap nm s
     ·have HQ:=hid hq;clear hq;have q0:=CN2.out.at 0 rfl;have q1:=CN2.out.at 1 rfl;have q2:=CN2.out.at 2 rfl;have q3:=CN2.out.at 3 rfl;have q4:=CN2.out.at 4 rfl;have f0:w2.frozen? ⟨g,i*5,none⟩=false:=je3 hg2.out _;have f1:w2.frozen? ⟨g,i*5+1,none⟩=false:=je3 hg2.out _;have f2:w2.frozen? ⟨g,i*5+2,none⟩=false:=je3 hg2.out _;have f3:w2.frozen? ⟨g,i*5+3,none⟩=false:=je3 hg2.out _;have f4:w2.frozen? ⟨g,i*5+4,none⟩=false:=je3 hg2.out _;have hwi:IntKind.i64.wrap ((i:Int)+1)=((i+1:Nat):Int):=by rw [IntKind.wrap_i64];omega
      have hwj:IntKind.i64.wrap ((j:Int)+1)=((j+1:Nat):Int):=by rw [IntKind.wrap_i64];omega
      have hcap:j<cap:=by omega
      have hiS:i*5+5≤cu.size:=by rw [hcz.out];omega
      obtain ⟨o0,i0⟩:∃ u,w2.cell? ⟨g,i*5,none⟩=some u:=⟨_,jbk hg2.out (List.getElem?_eq_getElem (by simp;omega))⟩;obtain ⟨o1,i1⟩:∃ u,w2.cell? ⟨g,i*5+1,none⟩=some u:=⟨_,jbk hg2.out (List.getElem?_eq_getElem (by simp;omega))⟩;obtain ⟨o2,i2⟩:∃ u,w2.cell? ⟨g,i*5+2,none⟩=some u:=⟨_,jbk hg2.out (List.getElem?_eq_getElem (by simp;omega))⟩;obtain ⟨o3,i3⟩:∃ u,w2.cell? ⟨g,i*5+3,none⟩=some u:=⟨_,jbk hg2.out (List.getElem?_eq_getElem (by simp;omega))⟩;obtain ⟨o4,i4⟩:∃ u,w2.cell? ⟨g,i*5+4,none⟩=some u:=⟨_,jbk hg2.out (List.getElem?_eq_getElem (by simp;omega))⟩;go_wp2;refine ⟨⟨i+1,j+1,_,by omega,by omega,by omega,by go_num,by go_num,?_,jm2 (jm2 (jm2 (jm2 (jm2 (hg2.out) _ _) _ _) _ _) _ _) _ _,?_,?_,?_,?_⟩,by simp [intOf];omega⟩
      ·show _=_
       rw [jcr HY.out];simp [HQ.out,hFi.out]
      ·show _=_
       simp only [Array.size_setIfInBounds];exact hcz.out
      ·intro q hq;rw [jcr HY.out,List.flatMap_append];have hl1:(((l.take j).filter fun x=>!jap x.1 s).flatMap jbc).length=i*5:=by rw [jil jlm,hFi.out]
       simp only [HQ.out,Bool.not_false,if_true,List.flatMap_cons,List.flatMap_nil,List.append_nil];rw [jg0 _ _ _ (by first | omega | (simp only [Array.size_setIfInBounds];omega)),jg0 _ _ _ (by first | omega | (simp only [Array.size_setIfInBounds];omega)),jg0 _ _ _ (by first | omega | (simp only [Array.size_setIfInBounds];omega)),jg0 _ _ _ (by first | omega | (simp only [Array.size_setIfInBounds];omega)),jg0 _ _ _ (by first | omega | (simp only [Array.size_setIfInBounds];omega))];by_cases hqi:q<i*5
       ·rw [List.getElem?_append_left (by omega),← hA.out q hqi];rw [if_neg (by omega),if_neg (by omega),if_neg (by omega),if_neg (by omega),if_neg (by omega)]
       ·rw [List.getElem?_append_right (by omega),hl1];rcases (by omega:q=i*5∨q=i*5+1∨q=i*5+2∨q=i*5+3∨q=i*5+4) with rfl | rfl | rfl | rfl | rfl
        ·rw [if_neg (by omega),if_neg (by omega),if_neg (by omega),if_neg (by omega),if_pos rfl,show i*5-i*5=0 from by omega];rfl
        ·rw [if_neg (by omega),if_neg (by omega),if_neg (by omega),if_pos rfl,show i*5+1-i*5=1 from by omega];rfl
        ·rw [if_neg (by omega),if_neg (by omega),if_pos rfl,show i*5+2-i*5=2 from by omega];rfl
        ·rw [if_neg (by omega),if_pos rfl,show i*5+3-i*5=3 from by omega];rfl
        ·rw [if_pos rfl,show i*5+4-i*5=4 from by omega];rfl
      ·intro q hq1 hq2;rw [jg0 _ _ _ (by first | omega | (simp only [Array.size_setIfInBounds];omega)),jg0 _ _ _ (by first | omega | (simp only [Array.size_setIfInBounds];omega)),jg0 _ _ _ (by first | omega | (simp only [Array.size_setIfInBounds];omega)),jg0 _ _ _ (by first | omega | (simp only [Array.size_setIfInBounds];omega)),jg0 _ _ _ (by first | omega | (simp only [Array.size_setIfInBounds];omega))];rw [if_neg (by omega),if_neg (by omega),if_neg (by omega),if_neg (by omega),if_neg (by omega)];exact hB.out q (by omega) hq2
      ·exact (World.grownBy.trans' ((World.grownBy.trans' ((World.grownBy.trans' ((World.grownBy.trans' ((World.grownBy.trans' (hG2.out) (jhj _ _ _ _))) (jhj _ _ _ _))) (jhj _ _ _ _))) (jhj _ _ _ _))) (jhj _ _ _ _))
     ·have HQ:=hid hq;clear hq;have hwj:IntKind.i64.wrap ((j:Int)+1)=((j+1:Nat):Int):=by rw [IntKind.wrap_i64];omega
      go_wp2;refine ⟨⟨i,j+1,cu,by omega,by omega,by omega,rfl,by go_num,?_,hg2,hcz,?_,?_,hG2⟩,by simp [intOf];omega⟩
      ·show _=_
       rw [jcr HY.out];simp [HQ.out,hFi.out]
      ·intro q hq;rw [jcr HY.out];simp only [HQ.out,Bool.not_true,Bool.false_eq_true,if_false,List.append_nil];exact hA.out q hq
      ·intro q hq1 hq2;exact hB.out q (by omega) hq2
    ·obtain rfl:j=l.length:=by omega
     have hil:i<cap:=by omega
     obtain ⟨cur',hcl,hcs',hcq⟩:=jqt (P:=Tryz.prog) wr 36 56 (.agg #[.string ⟨#[]⟩,.int .i64 0,.bool false,.slice none 0 0,.slice none 0 0]) yin ym7 (by decide) g (i*5) (l.length-i) (cap-i) cu (by omega) hgr.out (by rw [hcz.out];show i*5+(l.length-i)*5≤cap*5;omega);have HT:=hid (List.take_of_length_le (Nat.le_refl l.length));have HCS:Hid (cur'.size=cap*5):=by show _=_;rw [hcs'];exact hcz.out
     have HCQ:=hid hcq;have hci:¬ (cap=i):=by omega
     clear hcs' hcq;go_wp2_with (at_builtin;refine jna _ rfl _ 36 rfl _ rfl (hcl _) ?_)
     go_ret;have e0:l.filter (fun x=>!jap x.1 s)=(l.take l.length).filter fun x=>!jap x.1 s:=by rw [HT.out]
     rw [e0];refine ⟨_,rfl,?_,World.grownBy.trans' hG.out (jby _ _ _),fun k hk=>.inl hk⟩;rw [hFi.out];refine jnr hg0 (setRow_heap wr g cu _ _ _ hgr.out) (by omega) hcm HCS.out ?_;apply List.ext_getElem?;intro q;by_cases hq:q<i*5
     ·rw [List.getElem?_take_of_lt hq,HCQ.out q hq,hA.out q hq]
     ·rw [List.getElem?_eq_none (by rw [List.length_take];omega),List.getElem?_eq_none (by rw [jil jlm,hFi.out];omega)]
open Go.Lib (hid)
open Go.RowKit Go.Shelf
theorem yn1 (a b:List UInt8):decide (Lib.compareBytes a b<0)=Op.bytesLess a b:=by
 induction a generalizing b with
 | nil=>cases b <;> simp [Lib.compareBytes,Op.bytesLess]
 | cons x a ih =>
  cases b with
  | nil=>simp [Lib.compareBytes,Op.bytesLess]
  | cons y b =>
   by_cases h1:x<y
   ·have e:Lib.compareBytes (x :: a) (y :: b) = -1:=by simp [Lib.compareBytes,h1]
    rw [e];simp [Op.bytesLess,h1]
   ·by_cases h2:y<x
    ·have e:Lib.compareBytes (x :: a) (y :: b)=1:=by simp [Lib.compareBytes,h1,h2]
     have hne:¬ x=y:=fun e=>by rw [e] at h2;exact absurd h2 (UInt8.lt_irrefl _)
     rw [e];simp [Op.bytesLess,h1,hne]
    ·have he:x=y:=by
      rcases Nat.lt_trichotomy x.toNat y.toNat with h | h | h
      ·exact absurd h h1
      ·exact UInt8.toNat_inj.1 h
      ·exact absurd h h2
     subst he;have e:Lib.compareBytes (x :: a) (x :: b)=Lib.compareBytes a b:=by simp [Lib.compareBytes]
     rw [e,ih];simp [Op.bytesLess]
theorem yqf (a b:ByteArray):(Lib.compareBytes a.data.toList b.data.toList<0)↔ltS a b=true:=by
 unfold ltS;rw [ByteArray.toList_eq,ByteArray.toList_eq,← yn1];simp
theorem ybz (nm:ByteArray) (lo hi:Int) (s:ByteArray) (w:World) :
  Calls Tryz.prog 102 #[.agg #[.string nm,.int .i64 lo,.int .i64 hi],.string s] w fun e w'=>(∃ r:Int,e = .returned (.int .i64 r)∧Hid (r<0↔ltS nm s=true))∧Below w.heap.size w w':=by
 have hcon:=fun W'=>Any.strings_Compare Tryz.compare nm s W';change ∀ W',Calls Tryz.prog 99 _ _ _ at hcon;have HL:=hid (yqf nm s);generalize Lib.compareBytes nm.data.toList s.data.toList=r at hcon HL ⊢;go_enter Tryz.func102,Tryz.ntmps102
 go_wp2_with (go_at_call 99;refine (hcon _).mono ?_;rintro e w' ⟨rfl,rfl⟩)
 go_ret;exact ⟨⟨r,rfl,HL⟩,jac _ _⟩
theorem yia (l:List DomD) (v:Value) (s:ByteArray) (w:World) (h:Raw w 3 v l.length (l.flatMap ja0)) (hv:∀ k,v.ownBlock=some k→k<w.heap.size) (hr:jdc (fun x:DomD=>x.1) l=true) (hbig:l.length<4611686018427387904) :
  Calls Tryz.prog 101 #[v,.string s,.func (.func 102) #[] #[]] w fun e w'=>(∃ f:Bool,e = .returned (.tuple #[.int .i64 (posF (fun x:DomD=>x.1) l s:Nat),.bool f]))∧Below w.heap.size w w':=by
 have H:=hid h;have HV:=hid hv;have HR:=hid hr;obtain ⟨A,cp,rfl,hc1,hc2,-⟩:=h;unfold maxLen at hc2;clear hv hr;have hp:=jpr (f:=fun x:DomD=>x.1) l s;have HP:Hid (∃ p,p=posF (fun x:DomD=>x.1) l s):=⟨_,rfl⟩;have HPL:Hid (∀ k x,l[k]? = some x→(k<posF (fun x:DomD=>x.1) l s↔ltS x.1 s=true)):=by
  intro k x hx;constructor
  ·intro hk;exact yb7 (f:=fun x:DomD=>x.1) hk hx
  ·intro hlt;rcases Nat.lt_or_ge k (posF (fun x:DomD=>x.1) l s) with h | h
   ·exact h
   ·have:=jxi (f:=fun x:DomD=>x.1) HR.out h hx
    rw [this] at hlt;cases hlt
 clear HP;generalize posF (fun x:DomD=>x.1) l s=p at *;have eg:∀ args w,(callFunc 102 args).run Tryz.prog w = .ok (.enter 102 args) w:=enters_of Tryz.func102 (by kernel_rfl) rfl;go_enter Tryz.func101,Tryz.ntmps101
 go_wp2;go_loopw [9,10] (fun a b wr=>∃ li ri:Nat,a = .int .i64 li∧b = .int .i64 ri∧li≤p∧p≤ri∧ri≤l.length∧Below w.heap.size w wr) (fun a b _=>(intOf b).toNat-(intOf a).toNat)
 case atStart=>exact ⟨0,l.length,rfl,rfl,Nat.zero_le _,hp,Nat.le_refl _,Below.refl _ _⟩
 case round =>
  obtain ⟨li,ri,rfl,rfl,hlo,hhi,hil,hb⟩:=hrel;by_cases hlt:li<ri
  ·obtain ⟨b,o,nm,lo,hi,rfl,hx,hbl,c0,c1,c2⟩:=yeg (H.out.keep (w':=wr) (fun _ p hp=>hb.cell (HV.out _ hp))) (show (li+ri) / 2<l.length by omega);go_wp2_with fail
   refine (ybz nm lo hi s _).mono ?_;rintro e w1 ⟨⟨r,rfl,hr⟩,hb1⟩;have hb01:=bx hb hb1;have HX:=hid (HPL.out _ _ hx.out);by_cases hq:r<0
   ·have hmp:(li+ri) / 2<p:=HX.out.2 (hr.out.1 hq);go_wp2;refine ⟨⟨(li+ri) / 2+1,ri,by go_num,rfl,by omega,hhi,hil,hb01⟩,by simp [intOf];omega⟩
   ·have hmp:p≤(li+ri) / 2:=by
     rcases Nat.lt_or_ge ((li+ri) / 2) p with h | h
     ·exact absurd (hr.out.2 (HX.out.1 h)) hq
     ·exact h
    go_wp2;refine ⟨⟨li,(li+ri) / 2,rfl,by go_num,hlo,hmp,by omega,hb01⟩,by simp [intOf];omega⟩
  ·obtain rfl:li=p:=by omega
   by_cases hn:li<l.length
   ·obtain ⟨b,o,nm,lo,hi,rfl,hx,hbl,c0,c1,c2⟩:=yeg (H.out.keep (w':=wr) (fun _ p hp=>hb.cell (HV.out _ hp))) hn;go_wp2_with fail
    refine (ybz nm lo hi s _).mono ?_;rintro e w1 ⟨⟨r,rfl,hr⟩,hb1⟩;have hb01:=bx hb hb1;go_wp2;go_ret2;exact ⟨⟨_,rfl⟩,hb01⟩
   ·go_wp2;go_ret2;exact ⟨⟨_,rfl⟩,hb⟩
theorem yb0 (nm:ByteArray) (pol:Int) (comp:Bool) (ia:Option Addr) (il ic:Nat) (ra:Option Addr) (rl rc:Nat) (s:ByteArray) (w:World) :
  Calls Tryz.prog 98 #[.agg #[.string nm,.int .i64 pol,.bool comp,.slice ia il ic,.slice ra rl rc],.string s] w fun e w'=>(∃ r:Int,e = .returned (.int .i64 r)∧Hid (r<0↔ltS nm s=true))∧Below w.heap.size w w':=by
 have hcon:=fun W'=>Any.strings_Compare Tryz.compare nm s W';change ∀ W',Calls Tryz.prog 99 _ _ _ at hcon;have HL:=hid (yqf nm s);generalize Lib.compareBytes nm.data.toList s.data.toList=r at hcon HL ⊢;go_enter Tryz.func98,Tryz.ntmps98
 go_wp2_with (go_at_call 99;refine (hcon _).mono ?_;rintro e w' ⟨rfl,rfl⟩)
 go_ret;exact ⟨⟨r,rfl,HL⟩,jac _ _⟩
theorem yib (l:List RawT) (v:Value) (s:ByteArray) (w:World) (h:Raw w 5 v l.length (l.flatMap jbc)) (hv:∀ k,v.ownBlock=some k→k<w.heap.size) (hr:jdc (fun x:RawT=>x.1) l=true) (hbig:l.length<4611686018427387904) :
  Calls Tryz.prog 97 #[v,.string s,.func (.func 98) #[] #[]] w fun e w'=>(∃ f:Bool,e = .returned (.tuple #[.int .i64 (posF (fun x:RawT=>x.1) l s:Nat),.bool f]))∧Below w.heap.size w w':=by
 have H:=hid h;have HV:=hid hv;have HR:=hid hr;obtain ⟨A,cp,rfl,hc1,hc2,-⟩:=h;unfold maxLen at hc2;clear hv hr;have hp:=jpr (f:=fun x:RawT=>x.1) l s;have HP:Hid (∃ p,p=posF (fun x:RawT=>x.1) l s):=⟨_,rfl⟩;have HPL:Hid (∀ k x,l[k]? = some x→(k<posF (fun x:RawT=>x.1) l s↔ltS x.1 s=true)):=by
  intro k x hx;constructor
  ·intro hk;exact yb7 (f:=fun x:RawT=>x.1) hk hx
  ·intro hlt;rcases Nat.lt_or_ge k (posF (fun x:RawT=>x.1) l s) with h | h
   ·exact h
   ·have:=jxi (f:=fun x:RawT=>x.1) HR.out h hx
    rw [this] at hlt;cases hlt
 clear HP;generalize posF (fun x:RawT=>x.1) l s=p at *;have eg:∀ args w,(callFunc 98 args).run Tryz.prog w = .ok (.enter 98 args) w:=enters_of Tryz.func98 (by kernel_rfl) rfl;go_enter Tryz.func97,Tryz.ntmps97
 go_wp2;go_loopw [9,10] (fun a b wr=>∃ li ri:Nat,a = .int .i64 li∧b = .int .i64 ri∧li≤p∧p≤ri∧ri≤l.length∧Below w.heap.size w wr) (fun a b _=>(intOf b).toNat-(intOf a).toNat)
 case atStart=>exact ⟨0,l.length,rfl,rfl,Nat.zero_le _,hp,Nat.le_refl _,Below.refl _ _⟩
 case round =>
  obtain ⟨li,ri,rfl,rfl,hlo,hhi,hil,hb⟩:=hrel;by_cases hlt:li<ri
  ·obtain ⟨b,o,nm,pol,comp,ia,il,ic,ra,rl,rc,rfl,hx,hbl,c0,c1,c2,c3,c4⟩:=yeh (H.out.keep (w':=wr) (fun _ p hp=>hb.cell (HV.out _ hp))) (show (li+ri) / 2<l.length by omega);go_wp2_with fail
   refine (yb0 nm pol comp ia il ic ra rl rc s _).mono ?_;rintro e w1 ⟨⟨r,rfl,hr⟩,hb1⟩;have hb01:=bx hb hb1;have HX:=hid (HPL.out _ _ hx.out);by_cases hq:r<0
   ·have hmp:(li+ri) / 2<p:=HX.out.2 (hr.out.1 hq);go_wp2;refine ⟨⟨(li+ri) / 2+1,ri,by go_num,rfl,by omega,hhi,hil,hb01⟩,by simp [intOf];omega⟩
   ·have hmp:p≤(li+ri) / 2:=by
     rcases Nat.lt_or_ge ((li+ri) / 2) p with h | h
     ·exact absurd (hr.out.2 (HX.out.1 h)) hq
     ·exact h
    go_wp2;refine ⟨⟨li,(li+ri) / 2,rfl,by go_num,hlo,hmp,by omega,hb01⟩,by simp [intOf];omega⟩
  ·obtain rfl:li=p:=by omega
   by_cases hn:li<l.length
   ·obtain ⟨b,o,nm,pol,comp,ia,il,ic,ra,rl,rc,rfl,hx,hbl,c0,c1,c2,c3,c4⟩:=yeh (H.out.keep (w':=wr) (fun _ p hp=>hb.cell (HV.out _ hp))) hn;go_wp2_with fail
    refine (yb0 nm pol comp ia il ic ra rl rc s _).mono ?_;rintro e w1 ⟨⟨r,rfl,hr⟩,hb1⟩;have hb01:=bx hb hb1;go_wp2;go_ret2;exact ⟨⟨_,rfl⟩,hb01⟩
   ·go_wp2;go_ret2;exact ⟨⟨_,rfl⟩,hb⟩
open Go.Lib (hid)
open Go.RowKit
theorem jwl:Tryz.prog.underlying 35=some (.slice 58):=by kernel_rfl
theorem yjk:(Tryz.prog.info? 58).map (fun i=>(i.zero,i.size,i.bytes))=some (some (.agg #[.string ⟨#[]⟩,.int .i64 0,.int .i64 0]),3,32):=by kernel_rfl
theorem yal (v:Value) (n:Nat) (us:List Value) (w:World) (h:Raw w 3 v n us) (hbig:n*32≤140737488355328) :
  Calls Tryz.prog 75 #[v] w fun e w'=>∃ v',e = .returned v'∧w'.ownsRow w.heap.size 58 3 v' n us∧Below w.heap.size w w':=by
 obtain ⟨A,c,rfl,h2,h3,h4,h5,h6,h7⟩:=h;have q22:∀ (w:World) (a:Option Addr) (n c n' c':Nat),(binOp .eql 35 (.slice a n c) (.slice none n' c')).run Tryz.prog w = .ok (.bool a.isNone) w:=fun w a n c n' c'=>Lib.run_eql_slice_nil w _ _ a n c n' c' jwl;cases A with
 | none =>
  have hc:=h4 rfl;subst hc;obtain rfl:n=0:=by omega
  obtain rfl:us = []:=List.length_eq_zero_iff.1 (by simpa using h5);go_enter Tryz.func75,Tryz.ntmps75
  go_wp2;go_ret;exact ⟨_,rfl,World.ownsRow_nil _ _ _ _,Below.refl _ _⟩
 | some a =>
  have hnew:Hid (∀ W:World,(∀ p:Addr,p.block<w.heap.size→W.cell? p=w.cell? p)→∀ j u,us[j]? = some u→W.cell? (a.add j)=some u):=by
   intro W hW j u hj;have h0:0<n:=by
    have:=(List.getElem?_eq_some_iff.1 hj).1
    rcases Nat.eq_zero_or_pos n with h0 | h0
    ·rw [h0] at h5;omega
    ·exact h0
   obtain ⟨b,o,e,h8⟩:=h6 h0;injection e with e;subst e;rw [Addr.add_lit];have:=h8 j u hj
   rw [hW _ (World.block_lt_of_cell? w _ this)];exact this
  clear h6;go_enter Tryz.func75,Tryz.ntmps75
  go_wp2_with (at_builtin;refine jav _ rfl _ _ 35 rfl w.heap.size 58 3 32 (.agg #[.string ⟨#[]⟩,.int .i64 0,.int .i64 0]) jwl yjk rfl (by decide) _ 0 [] rfl (World.ownsRow_made w #[] 0 (Nat.le_refl _) (Nat.zero_le _) (by simp)) a n c us rfl h5 (hnew.out _ (fun p hp=>(jac w _).cell hp)) h7 (by omega) (by omega) (by simp) ?_;intro v' w1 hown hgrow hmv)
  go_ret;refine ⟨v',rfl,by simpa using hown,?_⟩;exact ((Below.refl _ w).alloc (Nat.le_refl _) _).grown hgrow (by simp) (by intro k hk;injection hk with hk;subst hk;exact Nat.le_refl _)
theorem jww:Tryz.prog.underlying 36=some (.slice 56):=by kernel_rfl
theorem yj0:(Tryz.prog.info? 56).map (fun i=>(i.zero,i.size,i.bytes))=some (some (.agg #[.string ⟨#[]⟩,.int .i64 0,.bool false,.slice none 0 0,.slice none 0 0]),5,80):=by kernel_rfl
theorem yjt (v:Value) (n:Nat) (us:List Value) (w:World) (h:Raw w 5 v n us) (hbig:n*80≤140737488355328) :
  Calls Tryz.prog 107 #[v] w fun e w'=>∃ v',e = .returned v'∧w'.ownsRow w.heap.size 56 5 v' n us∧Below w.heap.size w w':=by
 obtain ⟨A,c,rfl,h2,h3,h4,h5,h6,h7⟩:=h;have q22:∀ (w:World) (a:Option Addr) (n c n' c':Nat),(binOp .eql 36 (.slice a n c) (.slice none n' c')).run Tryz.prog w = .ok (.bool a.isNone) w:=fun w a n c n' c'=>Lib.run_eql_slice_nil w _ _ a n c n' c' jww;cases A with
 | none =>
  have hc:=h4 rfl;subst hc;obtain rfl:n=0:=by omega
  obtain rfl:us = []:=List.length_eq_zero_iff.1 (by simpa using h5);go_enter Tryz.func107,Tryz.ntmps107
  go_wp2;go_ret;exact ⟨_,rfl,World.ownsRow_nil _ _ _ _,Below.refl _ _⟩
 | some a =>
  have hnew:Hid (∀ W:World,(∀ p:Addr,p.block<w.heap.size→W.cell? p=w.cell? p)→∀ j u,us[j]? = some u→W.cell? (a.add j)=some u):=by
   intro W hW j u hj;have h0:0<n:=by
    have:=(List.getElem?_eq_some_iff.1 hj).1
    rcases Nat.eq_zero_or_pos n with h0 | h0
    ·rw [h0] at h5;omega
    ·exact h0
   obtain ⟨b,o,e,h8⟩:=h6 h0;injection e with e;subst e;rw [Addr.add_lit];have:=h8 j u hj
   rw [hW _ (World.block_lt_of_cell? w _ this)];exact this
  clear h6;go_enter Tryz.func107,Tryz.ntmps107
  go_wp2_with (at_builtin;refine jav _ rfl _ _ 36 rfl w.heap.size 56 5 80 (.agg #[.string ⟨#[]⟩,.int .i64 0,.bool false,.slice none 0 0,.slice none 0 0]) jww yj0 rfl (by decide) _ 0 [] rfl (World.ownsRow_made w #[] 0 (Nat.le_refl _) (Nat.zero_le _) (by simp)) a n c us rfl h5 (hnew.out _ (fun p hp=>(jac w _).cell hp)) h7 (by omega) (by omega) (by simp) ?_;intro v' w1 hown hgrow hmv)
  go_ret;refine ⟨v',rfl,by simpa using hown,?_⟩;exact ((Below.refl _ w).alloc (Nat.le_refl _) _).grown hgrow (by simp) (by intro k hk;injection hk with hk;subst hk;exact Nat.le_refl _)
theorem jt4:Tryz.prog.underlying 54=some (.slice 82):=by kernel_rfl
theorem ygz:(Tryz.prog.info? 82).map (fun i=>(i.zero,i.size,i.bytes))=some (some (.agg #[.slice none 0 0,.int .i64 0]),2,32):=by kernel_rfl
theorem ygy (v:Value) (n:Nat) (us:List Value) (w:World) (h:Raw w 2 v n us) (hbig:n*32≤140737488355328) :
  Calls Tryz.prog 118 #[v] w fun e w'=>∃ v',e = .returned v'∧w'.ownsRow w.heap.size 82 2 v' n us∧Below w.heap.size w w':=by
 obtain ⟨A,c,rfl,h2,h3,h4,h5,h6,h7⟩:=h;have q22:∀ (w:World) (a:Option Addr) (n c n' c':Nat),(binOp .eql 54 (.slice a n c) (.slice none n' c')).run Tryz.prog w = .ok (.bool a.isNone) w:=fun w a n c n' c'=>Lib.run_eql_slice_nil w _ _ a n c n' c' jt4;cases A with
 | none =>
  have hc:=h4 rfl;subst hc;obtain rfl:n=0:=by omega
  obtain rfl:us = []:=List.length_eq_zero_iff.1 (by simpa using h5);go_enter Tryz.func118,Tryz.ntmps118
  go_wp2;go_ret;exact ⟨_,rfl,World.ownsRow_nil _ _ _ _,Below.refl _ _⟩
 | some a =>
  have hnew:Hid (∀ W:World,(∀ p:Addr,p.block<w.heap.size→W.cell? p=w.cell? p)→∀ j u,us[j]? = some u→W.cell? (a.add j)=some u):=by
   intro W hW j u hj;have h0:0<n:=by
    have:=(List.getElem?_eq_some_iff.1 hj).1
    rcases Nat.eq_zero_or_pos n with h0 | h0
    ·rw [h0] at h5;omega
    ·exact h0
   obtain ⟨b,o,e,h8⟩:=h6 h0;injection e with e;subst e;rw [Addr.add_lit];have:=h8 j u hj
   rw [hW _ (World.block_lt_of_cell? w _ this)];exact this
  clear h6;go_enter Tryz.func118,Tryz.ntmps118
  go_wp2_with (at_builtin;refine jav _ rfl _ _ 54 rfl w.heap.size 82 2 32 (.agg #[.slice none 0 0,.int .i64 0]) jt4 ygz rfl (by decide) _ 0 [] rfl (World.ownsRow_made w #[] 0 (Nat.le_refl _) (Nat.zero_le _) (by simp)) a n c us rfl h5 (hnew.out _ (fun p hp=>(jac w _).cell hp)) h7 (by omega) (by omega) (by simp) ?_;intro v' w1 hown hgrow hmv)
  go_ret;refine ⟨v',rfl,by simpa using hown,?_⟩;exact ((Below.refl _ w).alloc (Nat.le_refl _) _).grown hgrow (by simp) (by intro k hk;injection hk with hk;subst hk;exact Nat.le_refl _)
theorem jtz:Tryz.prog.underlying 80=some (.slice 85):=by kernel_rfl
theorem ygn:(Tryz.prog.info? 85).map (fun i=>(i.zero,i.size,i.bytes))=some (some (.agg #[.bool false,.slice none 0 0]),2,32):=by kernel_rfl
theorem ygv (v:Value) (n:Nat) (us:List Value) (w:World) (h:Raw w 2 v n us) (hbig:n*32≤140737488355328) :
  Calls Tryz.prog 158 #[v] w fun e w'=>∃ v',e = .returned v'∧w'.ownsRow w.heap.size 85 2 v' n us∧Below w.heap.size w w':=by
 obtain ⟨A,c,rfl,h2,h3,h4,h5,h6,h7⟩:=h;have q22:∀ (w:World) (a:Option Addr) (n c n' c':Nat),(binOp .eql 80 (.slice a n c) (.slice none n' c')).run Tryz.prog w = .ok (.bool a.isNone) w:=fun w a n c n' c'=>Lib.run_eql_slice_nil w _ _ a n c n' c' jtz;cases A with
 | none =>
  have hc:=h4 rfl;subst hc;obtain rfl:n=0:=by omega
  obtain rfl:us = []:=List.length_eq_zero_iff.1 (by simpa using h5);go_enter Tryz.func158,Tryz.ntmps158
  go_wp2;go_ret;exact ⟨_,rfl,World.ownsRow_nil _ _ _ _,Below.refl _ _⟩
 | some a =>
  have hnew:Hid (∀ W:World,(∀ p:Addr,p.block<w.heap.size→W.cell? p=w.cell? p)→∀ j u,us[j]? = some u→W.cell? (a.add j)=some u):=by
   intro W hW j u hj;have h0:0<n:=by
    have:=(List.getElem?_eq_some_iff.1 hj).1
    rcases Nat.eq_zero_or_pos n with h0 | h0
    ·rw [h0] at h5;omega
    ·exact h0
   obtain ⟨b,o,e,h8⟩:=h6 h0;injection e with e;subst e;rw [Addr.add_lit];have:=h8 j u hj
   rw [hW _ (World.block_lt_of_cell? w _ this)];exact this
  clear h6;go_enter Tryz.func158,Tryz.ntmps158
  go_wp2_with (at_builtin;refine jav _ rfl _ _ 80 rfl w.heap.size 85 2 32 (.agg #[.bool false,.slice none 0 0]) jtz ygn rfl (by decide) _ 0 [] rfl (World.ownsRow_made w #[] 0 (Nat.le_refl _) (Nat.zero_le _) (by simp)) a n c us rfl h5 (hnew.out _ (fun p hp=>(jac w _).cell hp)) h7 (by omega) (by omega) (by simp) ?_;intro v' w1 hown hgrow hmv)
  go_ret;refine ⟨v',rfl,by simpa using hown,?_⟩;exact ((Below.refl _ w).alloc (Nat.le_refl _) _).grown hgrow (by simp) (by intro k hk;injection hk with hk;subst hk;exact Nat.le_refl _)
theorem jwv:Tryz.prog.underlying 83=some (.slice 87):=by kernel_rfl
theorem yjz:(Tryz.prog.info? 87).map (fun i=>(i.zero,i.size,i.bytes))=some (some (.agg #[.int .i64 0,.int .i64 0]),2,16):=by kernel_rfl
theorem yjs (v:Value) (n:Nat) (us:List Value) (w:World) (h:Raw w 2 v n us) (hbig:n*16≤140737488355328) :
  Calls Tryz.prog 159 #[v] w fun e w'=>∃ v',e = .returned v'∧w'.ownsRow w.heap.size 87 2 v' n us∧Below w.heap.size w w':=by
 obtain ⟨A,c,rfl,h2,h3,h4,h5,h6,h7⟩:=h;have q22:∀ (w:World) (a:Option Addr) (n c n' c':Nat),(binOp .eql 83 (.slice a n c) (.slice none n' c')).run Tryz.prog w = .ok (.bool a.isNone) w:=fun w a n c n' c'=>Lib.run_eql_slice_nil w _ _ a n c n' c' jwv;cases A with
 | none =>
  have hc:=h4 rfl;subst hc;obtain rfl:n=0:=by omega
  obtain rfl:us = []:=List.length_eq_zero_iff.1 (by simpa using h5);go_enter Tryz.func159,Tryz.ntmps159
  go_wp2;go_ret;exact ⟨_,rfl,World.ownsRow_nil _ _ _ _,Below.refl _ _⟩
 | some a =>
  have hnew:Hid (∀ W:World,(∀ p:Addr,p.block<w.heap.size→W.cell? p=w.cell? p)→∀ j u,us[j]? = some u→W.cell? (a.add j)=some u):=by
   intro W hW j u hj;have h0:0<n:=by
    have:=(List.getElem?_eq_some_iff.1 hj).1
    rcases Nat.eq_zero_or_pos n with h0 | h0
    ·rw [h0] at h5;omega
    ·exact h0
   obtain ⟨b,o,e,h8⟩:=h6 h0;injection e with e;subst e;rw [Addr.add_lit];have:=h8 j u hj
   rw [hW _ (World.block_lt_of_cell? w _ this)];exact this
  clear h6;go_enter Tryz.func159,Tryz.ntmps159
  go_wp2_with (at_builtin;refine jav _ rfl _ _ 83 rfl w.heap.size 87 2 16 (.agg #[.int .i64 0,.int .i64 0]) jwv yjz rfl (by decide) _ 0 [] rfl (World.ownsRow_made w #[] 0 (Nat.le_refl _) (Nat.zero_le _) (by simp)) a n c us rfl h5 (hnew.out _ (fun p hp=>(jac w _).cell hp)) h7 (by omega) (by omega) (by simp) ?_;intro v' w1 hown hgrow hmv)
  go_ret;refine ⟨v',rfl,by simpa using hown,?_⟩;exact ((Below.refl _ w).alloc (Nat.le_refl _) _).grown hgrow (by simp) (by intro k hk;injection hk with hk;subst hk;exact Nat.le_refl _)
theorem jwx:Tryz.prog.underlying 39=some (.slice 9):=by kernel_rfl
theorem yj1:(Tryz.prog.info? 9).map (fun i=>(i.zero,i.size,i.bytes))=some (some (.string ⟨#[]⟩),1,16):=by kernel_rfl
theorem yju (v:Value) (n:Nat) (us:List Value) (w:World) (h:Raw w 1 v n us) (hbig:n*16≤140737488355328) :
  Calls Tryz.prog 81 #[v] w fun e w'=>∃ v',e = .returned v'∧w'.ownsRow w.heap.size 9 1 v' n us∧Below w.heap.size w w':=by
 obtain ⟨A,c,rfl,h2,h3,h4,h5,h6,h7⟩:=h;have q22:∀ (w:World) (a:Option Addr) (n c n' c':Nat),(binOp .eql 39 (.slice a n c) (.slice none n' c')).run Tryz.prog w = .ok (.bool a.isNone) w:=fun w a n c n' c'=>Lib.run_eql_slice_nil w _ _ a n c n' c' jwx;cases A with
 | none =>
  have hc:=h4 rfl;subst hc;obtain rfl:n=0:=by omega
  obtain rfl:us = []:=List.length_eq_zero_iff.1 (by simpa using h5);go_enter Tryz.func81,Tryz.ntmps81
  go_wp2;go_ret;exact ⟨_,rfl,World.ownsRow_nil _ _ _ _,Below.refl _ _⟩
 | some a =>
  have hnew:Hid (∀ W:World,(∀ p:Addr,p.block<w.heap.size→W.cell? p=w.cell? p)→∀ j u,us[j]? = some u→W.cell? (a.add j)=some u):=by
   intro W hW j u hj;have h0:0<n:=by
    have:=(List.getElem?_eq_some_iff.1 hj).1
    rcases Nat.eq_zero_or_pos n with h0 | h0
    ·rw [h0] at h5;omega
    ·exact h0
   obtain ⟨b,o,e,h8⟩:=h6 h0;injection e with e;subst e;rw [Addr.add_lit];have:=h8 j u hj
   rw [hW _ (World.block_lt_of_cell? w _ this)];exact this
  clear h6;go_enter Tryz.func81,Tryz.ntmps81
  go_wp2_with (at_builtin;refine jav _ rfl _ _ 39 rfl w.heap.size 9 1 16 (.string ⟨#[]⟩) jwx yj1 rfl (by decide) _ 0 [] rfl (World.ownsRow_made w #[] 0 (Nat.le_refl _) (Nat.zero_le _) (by simp)) a n c us rfl h5 (hnew.out _ (fun p hp=>(jac w _).cell hp)) h7 (by omega) (by omega) (by simp) ?_;intro v' w1 hown hgrow hmv)
  go_ret;refine ⟨v',rfl,by simpa using hown,?_⟩;exact ((Below.refl _ w).alloc (Nat.le_refl _) _).grown hgrow (by simp) (by intro k hk;injection hk with hk;subst hk;exact Nat.le_refl _)
end Go.Proofs.YthmlndmlnlfhnaaGreatDoor
