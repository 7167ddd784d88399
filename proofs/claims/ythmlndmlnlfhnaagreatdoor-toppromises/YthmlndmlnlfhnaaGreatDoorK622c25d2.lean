import Derived.Deep.RegionHeld3
import Derived.Test.YthmlndmlnlfhnaaGreatDoorKcf0e5043
import Derived.Test.YthmlndmlnlfhnaaGreatDoorK5de86456
import Derived.Test.YthmlndmlnlfhnaaGreatDoorK04e6d983
import Derived.Test.YthmlndmlnlfhnaaGreatDoorK23b39ad3
set_option maxRecDepth 100000
set_option maxHeartbeats 16000000
namespace Go.Proofs.YthmlndmlnlfhnaaGreatDoor
open Go.RowKit Go.Shelf
def jhb (w:World) (S:Nat→Prop) (x:SessD) (v:Value):Prop :=
 ∃ vd vt vg vr,v = .agg #[.bool x.opn,.bool x.strict,.int .i64 x.frm,vd,vt,vg,vr]∧Sl Enc.dom w S x.mine.doms vd∧Sl Enc.tab w S x.mine.tabs vt∧Sl Enc.str w S x.gone vg∧Sl Enc.str w S x.read vr
def Ex3 (a:Nat) (w:World):Nat→Prop:=fun q=>q<w.heap.size∧(q<a∨a+3≤q)
theorem jli.at {w:World} {base:Nat} {S S':Nat→Prop} {b:BookD} {u:Value} (h:jli w base S b u) (h1:∀ k,S k→S' k) (h2:∀ k,base≤k→k<w.heap.size→S' k):jar w S' b u:=by
 obtain ⟨vd,vt,rfl,o1,o2,_⟩:=h
 exact ⟨vd,vt,rfl,ju1 o1 (fun k hk=>h2 k (World.ownsRow.lt o1 k hk).1 (World.ownsRow.lt o1 k hk).2),o2.sl (fun k hk=>h2 k (o2.lt k hk).1 (o2.lt k hk).2) h1⟩
theorem jar.keepS {w w':World} {S:Nat→Prop} {b:BookD} {v:Value} (h:jar w S b v) (hk:∀ k,S k→w'.heap[k]? = w.heap[k]?):jar w' S b v:=by
 obtain ⟨vd,vt,e,h1,h2⟩:=h
 exact ⟨vd,vt,e,h1.keep fun p hp=>World.cell?_of_block (hk _ hp),h2.keep fun p hp=>World.cell?_of_block (hk _ hp)⟩
theorem jar.moreS {w:World} {S S':Nat→Prop} {b:BookD} {v:Value} (h:jar w S b v) (hS:∀ k,S k→S' k):jar w S' b v:=by
 obtain ⟨vd,vt,e,h1,h2⟩:=h
 exact ⟨vd,vt,e,h1.more hS,h2.more hS⟩
theorem yg7 {t:TabD} (h:jbd t=true):yan t:=by
 obtain ⟨_,_,_,hi,hr⟩:=jbi.1 h
 have h1:=(jf4.1 hi).2.1
 obtain ⟨a,b⟩:=jml h
 refine ⟨by omega,by omega,fun r hr=>?_⟩
 obtain ⟨c1,c2,_⟩:=b r hr
 refine ⟨by omega,fun c hc=>?_⟩
 have:=(jp8.1 (c2 c hc)).2.1
 omega
theorem jy6 {b:BookD} (h:okB b=true) (h1:b.doms.length≤1000000) (h2:b.tabs.length≤1000000):yq3 b :=
 ⟨by omega,by omega,fun t ht=>yg7 ((jd5.1 h).2.2.1 t ht)⟩
theorem jh6 {b:BookD} (h:okB b=true):jgd b:=by
 obtain ⟨h1,_,h3,_⟩:=jd5.1 h
 refine ⟨fun d hd=>?_,fun t ht=>?_⟩
 ·have:=(jdx (jim (h1 d hd)).1).2.1
  have e:d.1.size=d.1.data.toList.length:=by show d.1.data.size=_;simp
  omega
 ·obtain ⟨n1,_,_,hi,hr⟩:=jbi.1 (h3 t ht)
  have hrl:=(jml (h3 t ht)).1
  have e:∀ s:ByteArray,s.size=s.data.toList.length:=fun s=>by show s.data.size=_;simp
  refine ⟨?_,fun s hs=>?_,by omega⟩
  ·have:=(jdx n1).2.1;rw [e];omega
  ·have:=(jdx ((joi (h3 t ht)).2.2.1.2 s hs)).2.1;rw [e];omega
theorem jr6 {α β:Type} {f:β → α → β} {b:β} {l:List α} {k:Nat} {x:α} (h:l[k]? = some x):(l.take (k+1)).foldl f b=f ((l.take k).foldl f b) x:=by rw [jai h,List.foldl_append];rfl
theorem Ex3.up {w w':World} {a:Nat} (h:w.heap.size≤w'.heap.size):∀ k,Ex3 a w k→Ex3 a w' k:=fun _ hk=>⟨Nat.lt_of_lt_of_le hk.1 h,hk.2⟩
theorem jli.box {w w2:World} {a:Nat} {b:BookD} {x y:Value} (h:jli w2 w.heap.size (Ex3 a w) b (.agg #[x,y])) (hs:a+3≤w.heap.size) (hz:w.heap.size≤w2.heap.size):jar ((w2.setCell ⟨a,0,none⟩ x).setCell ⟨a,1,none⟩ y) (Ex3 a ((w2.setCell ⟨a,0,none⟩ x).setCell ⟨a,1,none⟩ y)) b (.agg #[x,y]):=by
 have h1:jar w2 (Ex3 a w2) b (.agg #[x,y]):=h.at (Ex3.up hz) (fun k h1 h2=>⟨h2,by omega⟩)
 refine (h1.keepS (w':=(w2.setCell ⟨a,0,none⟩ x).setCell ⟨a,1,none⟩ y) fun k hk=>?_).moreS fun k hk=>⟨by simp [World.setCell];exact hk.1,hk.2⟩
 rw [RowKit.Below.heap_setCell _ _ _ _ (show k≠a by have:=hk.2;omega),RowKit.Below.heap_setCell _ _ _ _ (show k≠a by have:=hk.2;omega)]
theorem jor (b:BookD) (x:SessD) (v vx:Value) (w:World) (S:Nat→Prop) (h:jar w S b v) (hx:jhb w S x vx) (hS:∀ k,S k→k<w.heap.size) (hb:okB b=true) (hm:okB x.mine=true) (hl:b.doms.length≤100000∧b.tabs.length≤100000∧x.mine.doms.length≤100000∧x.mine.tabs.length≤100000) :
  Calls Tryz.prog 33 #[v,vx] w fun e w'=>∃ u,e = .returned u∧jar w' (From w.heap.size w') (jf0 b x.mine x.gone) u∧Below w.heap.size w w':=by
 have HVF:=Lib.hid (ji2 hb hm x.gone).1
 have HVL:=Lib.hid (jtq b x.mine x.gone)
 have HV:Hid (jf0 b x.mine x.gone=x.mine.tabs.foldl jd1 (x.mine.doms.foldl jgj (x.gone.foldl ja2 b))):=rfl
 generalize jf0 b x.mine x.gone=V at *
 obtain ⟨opn,strict,frm,mine,gone,read⟩:=x
 simp only at hm hl HV
 obtain ⟨l1,l2,l3,l4⟩:=hl
 obtain ⟨m1,m2,m3,m4,m5⟩:=jd5.1 hm
 have HG1:=Lib.hid m1
 have HG2:=Lib.hid m3
 have N1:=Lib.hid (jfo m2)
 have N2:=Lib.hid (jfo m4)
 have HOK:=Lib.hid hb
 clear hb hm m1 m2 m3 m4 m5
 obtain ⟨vd,vt,rfl,h1,h2⟩:=h
 obtain ⟨xd,xt,xg,xr,rfl,y1,y2,y3,y4⟩:=hx
 simp only at y1 y2 y3 y4
 have HB1:=Lib.hid h1
 have HB2:=Lib.hid h2
 have HS:=Lib.hid hS
 have YD:=Lib.hid y1
 have YT:=Lib.hid y2
 have YG:=Lib.hid y3
 obtain ⟨A,c,rfl,-,-⟩:=h1.form
 obtain ⟨B,d,rfl,-,-⟩:=h2.form
 obtain ⟨Ad,cd,rfl,e1,e2⟩:=y1.form
 obtain ⟨At,ct,rfl,e3,e4⟩:=y2.form
 obtain ⟨Ag,cg,rfl,e5,e6⟩:=y3.form
 obtain ⟨Ah,ch,rfl,-,-⟩:=y4.form
 unfold maxLen at e2 e4 e6
 clear h1 h2 y1 y2 y3 y4 hS
 have hb0:=jac w (.cells #[.slice A b.doms.length c,.slice B b.tabs.length d] 38)
 have C0:=Lib.hid (Cs.new w [.slice A b.doms.length c,.slice B b.tabs.length d] 38)
 have hz0:(w.alloc (.cells #[.slice A b.doms.length c,.slice B b.tabs.length d] 38)).heap.size=w.heap.size+1:=by simp
 change Hid (Cs (w.alloc (.cells #[.slice A b.doms.length c,.slice B b.tabs.length d] 38)) _ _) at C0
 generalize hw0:w.alloc (.cells #[.slice A b.doms.length c,.slice B b.tabs.length d] 38)=w0 at *
 have hb1:=jac w0 (.cells #[.bool opn,.bool strict,.int .i64 frm,.slice Ad mine.doms.length cd,.slice At mine.tabs.length ct,.slice Ag gone.length cg,.slice Ah read.length ch] 41)
 have C1:=Lib.hid (Cs.new w0 [.bool opn,.bool strict,.int .i64 frm,.slice Ad mine.doms.length cd,.slice At mine.tabs.length ct,.slice Ag gone.length cg,.slice Ah read.length ch] 41)
 have hz1:(w0.alloc (.cells #[.bool opn,.bool strict,.int .i64 frm,.slice Ad mine.doms.length cd,.slice At mine.tabs.length ct,.slice Ag gone.length cg,.slice Ah read.length ch] 41)).heap.size=w.heap.size+2:=by simp;omega
 change Hid (Cs (w0.alloc (.cells #[.bool opn,.bool strict,.int .i64 frm,.slice Ad mine.doms.length cd,.slice At mine.tabs.length ct,.slice Ag gone.length cg,.slice Ah read.length ch] 41)) _ _) at C1
 rw [hz0] at C1
 have C01:=Lib.hid (C0.out.next hb1)
 have hb01:=bx hb0 hb1
 generalize hw1:w0.alloc (.cells #[.bool opn,.bool strict,.int .i64 frm,.slice Ad mine.doms.length cd,.slice At mine.tabs.length ct,.slice Ag gone.length cg,.slice Ah read.length ch] 41)=w1 at *
 have hb2:=jac w1 (.cells #[.slice none 0 0,.slice none 0 0] 38)
 have C2:=Lib.hid (Cs.new w1 [.slice none 0 0,.slice none 0 0] 38)
 have hz2:(w1.alloc (.cells #[.slice none 0 0,.slice none 0 0] 38)).heap.size=w.heap.size+3:=by simp;omega
 change Hid (Cs (w1.alloc (.cells #[.slice none 0 0,.slice none 0 0] 38)) _ _) at C2
 rw [hz1] at C2
 have C02:=Lib.hid (C01.out.next hb2)
 have C12:=Lib.hid (C1.out.next hb2)
 have hb02:=bx hb01 hb2
 generalize hw2:w1.alloc (.cells #[.slice none 0 0,.slice none 0 0] 38)=w2 at *
 have HBA:Hid (jar w2 (Ex3 w.heap.size w2) b (.agg #[.slice A b.doms.length c,.slice B b.tabs.length d])):=⟨_,_,rfl,(HB1.out.keep (fun p hp=>World.cell?_of_block (hb02.block _ (HS.out _ hp)))).more (fun k hk=>⟨by have:=HS.out k hk;omega,.inl (HS.out k hk)⟩),(HB2.out.keep (fun p hp=>World.cell?_of_block (hb02.block _ (HS.out _ hp)))).more (fun k hk=>⟨by have:=HS.out k hk;omega,.inl (HS.out k hk)⟩)⟩
 have k5:=C12.out.at 5 rfl
 have HL1:Hid (∀ k,((gone.take k).foldl ja2 b).doms.length≤100000∧((gone.take k).foldl ja2 b).tabs.length≤100000):=fun k=>by have:=jjj (g:=gone.take k) b;omega
 go_enter Tryz.func33,Tryz.ntmps33
 go_wp2
 clear hw0 hw1 hw2 C0 C1 C01 hb0 hb1 hb2 hb01 k5
 go_loopw [14] (fun i wr=>∃ (k:Nat) (vd vt:Value),k≤gone.length∧i = .int .i64 k∧Hid (Cs wr w.heap.size [vd,vt])∧Hid (jar wr (Ex3 w.heap.size wr) ((gone.take k).foldl ja2 b) (.agg #[vd,vt]))∧Hid (Cs wr (w.heap.size+1) [.bool opn,.bool strict,.int .i64 frm,.slice Ad mine.doms.length cd,.slice At mine.tabs.length ct,.slice Ag gone.length cg,.slice Ah read.length ch])∧Hid (Cs wr (w.heap.size+2) [.slice none 0 0,.slice none 0 0])∧Below w.heap.size w wr∧w.heap.size+3≤wr.heap.size) (fun i _=>gone.length-(intOf i).toNat)
 case atStart=>exact ⟨0,_,_,Nat.zero_le _,rfl,C02,HBA,C12,C2,hb02,by omega⟩
 case round =>
  clear C02 HBA C12 C2 hb02
  obtain ⟨k,vd,vt,hk,rfl,CB,HK,CS,CR,hbl,hz⟩:=hrel
  by_cases hlt:k<gone.length
  ·obtain ⟨bb,o,s,rfl,_,hs,c1⟩:=(YG.out.keep (w':=wr) (fun p hp=>World.cell?_of_block (hbl.block _ (HS.out _ hp)))).str_at hlt
   obtain ⟨xd,xt,e,g1,g2⟩:=HK.out
   injection e with e
   injection e with e
   injection e with e7 e8
   injection e8 with e8 _
   subst e7 e8
   obtain ⟨Ab,cb,rfl,-,-⟩:=g1.form
   obtain ⟨Bb,db,rfl,-,-⟩:=g2.form
   clear g1 g2
   have b0:=CB.out.at 0 rfl
   have b1:=CB.out.at 1 rfl
   have hll:=HL1.out k
   have HTF:=Lib.hid (jr6 (f:=ja2) (b:=b) hs.out)
   generalize hbk:(gone.take k).foldl ja2 b=bk at *
   go_wp2_with fail
   refine (jk0 bk s _ _ (Ex3 w.heap.size wr) HK.out (fun q hq=>hq.1) (by omega) (by omega)).mono ?_
   rintro e w2 ⟨u,rfl,hu,hb2⟩
   have HU:=Lib.hid hu
   obtain ⟨ud,ut,rfl,o1,o2,-⟩:=hu
   obtain ⟨Aq,cq,rfl,-,-,-⟩:=jah o1
   obtain ⟨us2,x1,-⟩:=o2
   obtain ⟨Bq,dq,rfl,-,-,-⟩:=jah x1
   clear o1 x1
   have hz2:=hb2.size
   have CB2:=Lib.hid (CB.out.next hb2)
   have CS2:=Lib.hid (CS.out.next hb2)
   have CR2:=Lib.hid (CR.out.next hb2)
   have d0:=CB2.out.at 0 rfl
   have d1:=CB2.out.at 1 rfl
   have f0:=CB2.out.2.2 0 (by simp)
   have f1:=CB2.out.2.2 1 (by simp)
   go_wp2
   refine ⟨⟨k+1,_,_,by omega,by go_num,(CB2.out.set 0 (by simp) _).set 1 (by simp) _,?_,?_,?_,((bx hbl hb2).setCell (Nat.le_refl _) _).setCell (Nat.le_refl _) _,?_⟩,by simp [intOf];omega⟩
   ·rw [HTF.out];exact HU.out.box hz hz2
   ·exact (CS2.out.keep (RowKit.Below.heap_setCell _ _ _ _ (show w.heap.size+1≠w.heap.size by omega)) (by simp [World.setCell])).keep (RowKit.Below.heap_setCell _ _ _ _ (show w.heap.size+1≠w.heap.size by omega)) (by simp [World.setCell])
   ·exact (CR2.out.keep (RowKit.Below.heap_setCell _ _ _ _ (show w.heap.size+2≠w.heap.size by omega)) (by simp [World.setCell])).keep (RowKit.Below.heap_setCell _ _ _ _ (show w.heap.size+2≠w.heap.size by omega)) (by simp [World.setCell])
   ·simp [World.setCell];omega
  ·obtain rfl:k=gone.length:=by omega
   rw [List.take_of_length_le (Nat.le_refl _)] at HK
   obtain ⟨xd,xt,e,g1,g2⟩:=HK.out
   injection e with e
   injection e with e
   injection e with e7 e8
   injection e8 with e8 _
   subst e7 e8
   obtain ⟨Ab,cb,rfl,-,-⟩:=g1.form
   obtain ⟨Bb,db,rfl,-,-⟩:=g2.form
   clear g1 g2
   have a1:=(jsg (g:=gone) HOK.out).1
   have hl0:=jjj (g:=gone) b
   generalize hbg:gone.foldl ja2 b=bg at *
   have HOK2:Hid (∀ k,okB ((mine.doms.take k).foldl jgj bg)=true):=fun k=>(jt8 a1 (fun d hd=>HG1.out d (List.mem_of_mem_take hd)) (N1.out.sublist ((List.take_sublist k mine.doms).map _))).1
   have HL2:Hid (∀ k,((mine.doms.take k).foldl jgj bg).doms.length≤200000∧((mine.doms.take k).foldl jgj bg).tabs.length≤100000):=fun k=>by
    have:=jmj (l:=mine.doms.take k) bg
    have h5:(mine.doms.take k).length≤mine.doms.length:=(List.take_sublist k mine.doms).length_le
    omega
   have k3:=CS.out.at 3 rfl
   go_wp2
   go_loopw [26] (fun i wr=>∃ (k:Nat) (vd vt:Value),k≤mine.doms.length∧i = .int .i64 k∧Hid (Cs wr w.heap.size [vd,vt])∧Hid (jar wr (Ex3 w.heap.size wr) ((mine.doms.take k).foldl jgj bg) (.agg #[vd,vt]))∧Hid (Cs wr (w.heap.size+1) [.bool opn,.bool strict,.int .i64 frm,.slice Ad mine.doms.length cd,.slice At mine.tabs.length ct,.slice Ag gone.length cg,.slice Ah read.length ch])∧Hid (Cs wr (w.heap.size+2) [.slice none 0 0,.slice none 0 0])∧Below w.heap.size w wr∧w.heap.size+3≤wr.heap.size) (fun i _=>mine.doms.length-(intOf i).toNat)
   case atStart=>exact ⟨0,_,_,Nat.zero_le _,rfl,CB,HK,CS,CR,hbl,hz⟩
   case round =>
    clear HK CB CS CR hbl hz k3
    obtain ⟨k,vd,vt,hk,rfl,CB,HK,CS,CR,hbl,hz⟩:=hrel
    by_cases hlt:k<mine.doms.length
    ·obtain ⟨bb,o,nm,lo,hi,rfl,_,hs,c1,c2,c3⟩:=(YD.out.keep (w':=wr) (fun p hp=>World.cell?_of_block (hbl.block _ (HS.out _ hp)))).dom_at hlt
     obtain ⟨xd,xt,e,g1,g2⟩:=HK.out
     injection e with e
     injection e with e
     injection e with e7 e8
     injection e8 with e8 _
     subst e7 e8
     obtain ⟨Ab,cb,rfl,-,-⟩:=g1.form
     obtain ⟨Bb,db,rfl,-,-⟩:=g2.form
     clear g1 g2
     have hbz:=jac wr (.cells #[.string nm,.int .i64 lo,.int .i64 hi] 58)
     have CN:=Lib.hid (Cs.new wr [.string nm,.int .i64 lo,.int .i64 hi] 58)
     change Hid (Cs (wr.alloc (.cells #[.string nm,.int .i64 lo,.int .i64 hi] 58)) _ _) at CN
     have CBz:=Lib.hid (CB.out.next hbz)
     have CSz:=Lib.hid (CS.out.next hbz)
     have CRz:=Lib.hid (CR.out.next hbz)
     have hblz:=bx hbl hbz
     have hzq:(wr.alloc (.cells #[.string nm,.int .i64 lo,.int .i64 hi] 58)).heap.size=wr.heap.size+1:=by simp
     have hzz:w.heap.size+3≤(wr.alloc (.cells #[.string nm,.int .i64 lo,.int .i64 hi] 58)).heap.size:=by omega
     have HKz:Hid (jar (wr.alloc (.cells #[.string nm,.int .i64 lo,.int .i64 hi] 58)) (Ex3 w.heap.size (wr.alloc (.cells #[.string nm,.int .i64 lo,.int .i64 hi] 58))) _ _):=(HK.out.keepS (fun q hq=>hbz.block q hq.1)).moreS (Ex3.up (by omega))
     have q0:=CN.out.at 0 rfl
     have q1:=CN.out.at 1 rfl
     have q2:=CN.out.at 2 rfl
     have b0:=CBz.out.at 0 rfl
     have b1:=CBz.out.at 1 rfl
     have hll:=HL2.out k
     have HRI:=Lib.hid (jd5.1 (HOK2.out k)).2.1
     have HTF:=Lib.hid (jr6 (f:=jgj) (b:=bg) hs.out)
     generalize hbk:(mine.doms.take k).foldl jgj bg=bk at *
     go_wp2_with fail
     generalize hwz:wr.alloc (.cells #[.string nm,.int .i64 lo,.int .i64 hi] 58)=wz at *
     clear hwz q0 q1 q2 b0 b1
     refine (yad bk nm lo hi _ _ (Ex3 w.heap.size wz) HKz.out (fun q hq=>hq.1) (by omega) (by omega) HRI.out).mono ?_
     rintro e w2 ⟨u,rfl,hu,hb2⟩
     have HU:=Lib.hid hu
     obtain ⟨ud,ut,rfl,o1,o2,-⟩:=hu
     obtain ⟨Aq,cq,rfl,-,-,-⟩:=jah o1
     obtain ⟨us2,x1,-⟩:=o2
     obtain ⟨Bq,dq,rfl,-,-,-⟩:=jah x1
     clear o1 x1
     have hz2:=hb2.size
     have CB2:=Lib.hid (CBz.out.next hb2)
     have CS2:=Lib.hid (CSz.out.next hb2)
     have CR2:=Lib.hid (CRz.out.next hb2)
     have d0:=CB2.out.at 0 rfl
     have d1:=CB2.out.at 1 rfl
     have f0:=CB2.out.2.2 0 (by simp)
     have f1:=CB2.out.2.2 1 (by simp)
     go_wp2
     refine ⟨⟨k+1,_,_,by omega,by go_num,(CB2.out.set 0 (by simp) _).set 1 (by simp) _,?_,?_,?_,((bx hblz hb2).setCell (Nat.le_refl _) _).setCell (Nat.le_refl _) _,?_⟩,by simp [intOf];omega⟩
     ·rw [HTF.out];exact HU.out.box hzz hz2
     ·exact (CS2.out.keep (RowKit.Below.heap_setCell _ _ _ _ (show w.heap.size+1≠w.heap.size by omega)) (by simp [World.setCell])).keep (RowKit.Below.heap_setCell _ _ _ _ (show w.heap.size+1≠w.heap.size by omega)) (by simp [World.setCell])
     ·exact (CR2.out.keep (RowKit.Below.heap_setCell _ _ _ _ (show w.heap.size+2≠w.heap.size by omega)) (by simp [World.setCell])).keep (RowKit.Below.heap_setCell _ _ _ _ (show w.heap.size+2≠w.heap.size by omega)) (by simp [World.setCell])
     ·simp [World.setCell];omega
    ·obtain rfl:k=mine.doms.length:=by omega
     rw [List.take_of_length_le (Nat.le_refl _)] at HK
     obtain ⟨xd,xt,e,g1,g2⟩:=HK.out
     injection e with e
     injection e with e
     injection e with e7 e8
     injection e8 with e8 _
     subst e7 e8
     obtain ⟨Ab,cb,rfl,-,-⟩:=g1.form
     obtain ⟨Bb,db,rfl,-,-⟩:=g2.form
     clear g1 g2
     have a2:=(jt8 a1 HG1.out N1.out).1
     have hl2:=jmj (l:=mine.doms) bg
     generalize hbh:mine.doms.foldl jgj bg=bh at *
     have HOK3:Hid (∀ k,okB ((mine.tabs.take k).foldl jd1 bh)=true):=fun k=>(jw3 a2 (fun d hd=>HG2.out d (List.mem_of_mem_take hd)) (N2.out.sublist ((List.take_sublist k mine.tabs).map _))).1
     have HL3:Hid (∀ k,((mine.tabs.take k).foldl jd1 bh).doms.length≤200000∧((mine.tabs.take k).foldl jd1 bh).tabs.length≤200000):=fun k=>by
      have:=jo9 (l:=mine.tabs.take k) bh
      have h5:(mine.tabs.take k).length≤mine.tabs.length:=(List.take_sublist k mine.tabs).length_le
      omega
     have k4:=CS.out.at 4 rfl
     go_wp2
     go_loopw [38] (fun i wr=>∃ (k:Nat) (vd vt:Value),k≤mine.tabs.length∧i = .int .i64 k∧Hid (Cs wr w.heap.size [vd,vt])∧Hid (jar wr (Ex3 w.heap.size wr) ((mine.tabs.take k).foldl jd1 bh) (.agg #[vd,vt]))∧Hid (Cs wr (w.heap.size+1) [.bool opn,.bool strict,.int .i64 frm,.slice Ad mine.doms.length cd,.slice At mine.tabs.length ct,.slice Ag gone.length cg,.slice Ah read.length ch])∧Hid (Cs wr (w.heap.size+2) [.slice none 0 0,.slice none 0 0])∧Below w.heap.size w wr∧w.heap.size+3≤wr.heap.size) (fun i _=>mine.tabs.length-(intOf i).toNat)
     case atStart=>exact ⟨0,_,_,Nat.zero_le _,rfl,CB,HK,CS,CR,hbl,hz⟩
     case round =>
      clear HK CB CS CR hbl hz k4
      obtain ⟨k,vd,vt,hk,rfl,CB,HK,CS,CR,hbl,hz⟩:=hrel
      by_cases hlt:k<mine.tabs.length
      ·obtain ⟨bb,o,nm,pol,comp,ins,rules,vi,vr,rfl,hSb,hs,c1,c2,c3,c4,c5,hi,hr⟩:=(YT.out.keep (w':=wr) (fun p hp=>World.cell?_of_block (hbl.block _ (HS.out _ hp)))).tab_at hlt
       have HT0:Hid (ja9 wr S ⟨nm,pol,comp,ins,rules⟩ (.agg #[.string nm,.int .i64 pol,.bool comp,vi,vr])):=⟨_,_,rfl,hi,hr⟩
       obtain ⟨Ai,ci,rfl,-,-⟩:=hi.form
       obtain ⟨Ar,cr,rfl,-,-⟩:=hr.form
       clear hi hr
       obtain ⟨xd,xt,e,g1,g2⟩:=HK.out
       injection e with e
       injection e with e
       injection e with e7 e8
       injection e8 with e8 _
       subst e7 e8
       obtain ⟨Ab,cb,rfl,-,-⟩:=g1.form
       obtain ⟨Bb,db,rfl,-,-⟩:=g2.form
       clear g1 g2
       have hbz:=jac wr (.cells #[.string nm,.int .i64 pol,.bool comp,.slice Ai ins.length ci,.slice Ar rules.length cr] 56)
       have CN:=Lib.hid (Cs.new wr [.string nm,.int .i64 pol,.bool comp,.slice Ai ins.length ci,.slice Ar rules.length cr] 56)
       change Hid (Cs (wr.alloc (.cells #[.string nm,.int .i64 pol,.bool comp,.slice Ai ins.length ci,.slice Ar rules.length cr] 56)) _ _) at CN
       have CBz:=Lib.hid (CB.out.next hbz)
       have CSz:=Lib.hid (CS.out.next hbz)
       have CRz:=Lib.hid (CR.out.next hbz)
       have hblz:=bx hbl hbz
       have hzq:(wr.alloc (.cells #[.string nm,.int .i64 pol,.bool comp,.slice Ai ins.length ci,.slice Ar rules.length cr] 56)).heap.size=wr.heap.size+1:=by simp
       have hzz:w.heap.size+3≤(wr.alloc (.cells #[.string nm,.int .i64 pol,.bool comp,.slice Ai ins.length ci,.slice Ar rules.length cr] 56)).heap.size:=by omega
       have HKz:Hid (jar (wr.alloc (.cells #[.string nm,.int .i64 pol,.bool comp,.slice Ai ins.length ci,.slice Ar rules.length cr] 56)) (Ex3 w.heap.size (wr.alloc (.cells #[.string nm,.int .i64 pol,.bool comp,.slice Ai ins.length ci,.slice Ar rules.length cr] 56))) _ _):=(HK.out.keepS (fun q hq=>hbz.block q hq.1)).moreS (Ex3.up (by omega))
       have hwz0:=hbl.size
       have HTz:Hid (ja9 (wr.alloc (.cells #[.string nm,.int .i64 pol,.bool comp,.slice Ai ins.length ci,.slice Ar rules.length cr] 56)) (Ex3 w.heap.size (wr.alloc (.cells #[.string nm,.int .i64 pol,.bool comp,.slice Ai ins.length ci,.slice Ar rules.length cr] 56))) ⟨nm,pol,comp,ins,rules⟩ _):=(HT0.out.keepS (fun q hq=>hbz.block q (by have:=HS.out q hq;omega))).moreS (fun q hq=>⟨by have:=HS.out q hq;omega,.inl (HS.out q hq)⟩)
       have q0:=CN.out.at 0 rfl
       have q1:=CN.out.at 1 rfl
       have q2:=CN.out.at 2 rfl
       have q3:=CN.out.at 3 rfl
       have q4:=CN.out.at 4 rfl
       have b0:=CBz.out.at 0 rfl
       have b1:=CBz.out.at 1 rfl
       have hll:=HL3.out k
       have HRI:=Lib.hid (jd5.1 (HOK3.out k)).2.2.2.1
       have HTF:=Lib.hid (jr6 (f:=jd1) (b:=bh) hs.out)
       generalize hbk:(mine.tabs.take k).foldl jd1 bh=bk at *
       go_wp2_with fail
       generalize hwz:wr.alloc (.cells #[.string nm,.int .i64 pol,.bool comp,.slice Ai ins.length ci,.slice Ar rules.length cr] 56)=wz at *
       clear hwz q0 q1 q2 q3 q4 b0 b1
       refine (jo6 bk ⟨nm,pol,comp,ins,rules⟩ _ _ _ (Ex3 w.heap.size wz) HKz.out HTz.out (fun q hq=>hq.1) (by omega) (by omega) HRI.out).mono ?_
       rintro e w2 ⟨u,rfl,hu,hb2⟩
       have HU:=Lib.hid hu
       obtain ⟨ud,ut,rfl,o1,o2,-⟩:=hu
       obtain ⟨Aq,cq,rfl,-,-,-⟩:=jah o1
       obtain ⟨us2,x1,-⟩:=o2
       obtain ⟨Bq,dq,rfl,-,-,-⟩:=jah x1
       clear o1 x1
       have hz2:=hb2.size
       have CB2:=Lib.hid (CBz.out.next hb2)
       have CS2:=Lib.hid (CSz.out.next hb2)
       have CR2:=Lib.hid (CRz.out.next hb2)
       have d0:=CB2.out.at 0 rfl
       have d1:=CB2.out.at 1 rfl
       have f0:=CB2.out.2.2 0 (by simp)
       have f1:=CB2.out.2.2 1 (by simp)
       go_wp2
       refine ⟨⟨k+1,_,_,by omega,by go_num,(CB2.out.set 0 (by simp) _).set 1 (by simp) _,?_,?_,?_,((bx hblz hb2).setCell (Nat.le_refl _) _).setCell (Nat.le_refl _) _,?_⟩,by simp [intOf];omega⟩
       ·rw [HTF.out];exact HU.out.box hzz hz2
       ·exact (CS2.out.keep (RowKit.Below.heap_setCell _ _ _ _ (show w.heap.size+1≠w.heap.size by omega)) (by simp [World.setCell])).keep (RowKit.Below.heap_setCell _ _ _ _ (show w.heap.size+1≠w.heap.size by omega)) (by simp [World.setCell])
       ·exact (CR2.out.keep (RowKit.Below.heap_setCell _ _ _ _ (show w.heap.size+2≠w.heap.size by omega)) (by simp [World.setCell])).keep (RowKit.Below.heap_setCell _ _ _ _ (show w.heap.size+2≠w.heap.size by omega)) (by simp [World.setCell])
       ·simp [World.setCell];omega
      ·obtain rfl:k=mine.tabs.length:=by omega
       rw [List.take_of_length_le (Nat.le_refl _),← HV.out] at HK
       obtain ⟨xd,xt,e,g1,g2⟩:=HK.out
       injection e with e
       injection e with e
       injection e with e7 e8
       injection e8 with e8 _
       subst e7 e8
       obtain ⟨Ab,cb,rfl,-,-⟩:=g1.form
       obtain ⟨Bb,db,rfl,-,-⟩:=g2.form
       clear g1 g2
       have b0:=CB.out.at 0 rfl
       have b1:=CB.out.at 1 rfl
       have hvl:=HVL.out
       go_wp2_with fail
       refine (jv7 V _ _ (Ex3 w.heap.size wr) HK.out (fun q hq=>hq.1) (jy6 HVF.out (by omega) (by omega))).mono ?_
       rintro e w3 ⟨u,rfl,hu,hb3⟩
       have HU:=Lib.hid hu
       obtain ⟨ud,ut,rfl,t1,t2⟩:=hu
       obtain ⟨Aq,cq,rfl,-,-⟩:=t1.form
       obtain ⟨Bq,dq,rfl,-,-⟩:=t2.form
       have hz3:=hb3.size
       have CR3:=Lib.hid (CR.out.next hb3)
       have r0:=CR3.out.at 0 rfl
       have r1:=CR3.out.at 1 rfl
       have f0:=CR3.out.2.2 0 (by simp)
       have f1:=CR3.out.2.2 1 (by simp)
       clear t1 t2
       go_wp2
       (try simp only [Exit.inBlock,Exit.then])
       refine bodyPost_ret (jla (b:=w.heap.size+2) rfl rfl ((CR3.out.set 0 (by simp) _).set 1 (by simp) _)) rfl ⟨_,rfl,?_,((bx hbl hb3).setCell (by simp) _).setCell (by simp) _⟩
       refine (HU.out.keepS fun q hq=>?_).moreS fun q hq=>⟨by have:=hq.1;omega,by simp [World.setCell];exact hq.2⟩
       rw [RowKit.Below.heap_setCell _ _ _ _ (show q≠w.heap.size+2 by have:=hq.1;omega),RowKit.Below.heap_setCell _ _ _ _ (show q≠w.heap.size+2 by have:=hq.1;omega)]
open Go.RowKit Go.Shelf
def Enc.book:Enc BookD where
 size:=2
 rd w S b cs:=∃ vd vt,cs = [vd,vt]∧Sl Enc.dom w S b.doms vd∧Sl Enc.tab w S b.tabs vt
 len:=fun ⟨_,_,h,_⟩=>by subst h;rfl
 keep:=fun ⟨vd,vt,h,h1,h2⟩ hk=>⟨vd,vt,h,h1.keep hk,h2.keep hk⟩
 more:=fun ⟨vd,vt,h,h1,h2⟩ hS=>⟨vd,vt,h,h1.more hS,h2.more hS⟩
 one:=fun ⟨vd,vt,h,h1,h2⟩ u hu=>by
  obtain ⟨A,c,rfl,_⟩:=h1
  obtain ⟨B,d,rfl,_⟩:=h2
  subst h
  simp at hu
  rcases hu with rfl | rfl <;> rfl
theorem Sl.book_at {w:World} {S:Nat→Prop} {l:List BookD} {A:Option Addr} {n c:Nat} (h:Sl Enc.book w S l (.slice A n c)) {k:Nat} (hk:k<l.length) :
  ∃ b o x vd vt,A=some ⟨b,o,none⟩∧S b∧Hid (l[k]? = some x)∧w.cell? ⟨b,o+k*2,none⟩=some vd∧w.cell? ⟨b,o+k*2+1,none⟩=some vt∧Sl Enc.dom w S x.doms vd∧Sl Enc.tab w S x.tabs vt:=by
 obtain ⟨A,c,e,h2,h3,_,h4⟩:=h
 injection e with e1 e2 e3
 subst e1 e2 e3
 obtain ⟨b,o,rfl,h6,h7⟩:=h4 (by omega)
 obtain ⟨cs,⟨vd,vt,rfl,g1,g2⟩,h9⟩:=h7 k l[k] (List.getElem?_eq_getElem hk)
 exact ⟨b,o,l[k],vd,vt,rfl,h6,List.getElem?_eq_getElem hk,h9 0 _ rfl,h9 1 _ rfl,g1,g2⟩
theorem jk9 (l m:List ByteArray) (s:ByteArray):jay l (m ++ [s])=jbg (jay l m) s:=by simp [jay]
theorem ybq {α β:Type} {l:List α} {k:Nat} {x:α} (f:α → β) (h:l[k]? = some x):(l.take (k+1)).map f=(l.take k).map f ++ [f x]:=by rw [jai h,List.map_append];rfl
def jk6 (l:List BookD) (k:Nat):List ByteArray:=(l.take k).flatMap jdp
theorem juw {l:List BookD} {k:Nat} {b:BookD} (h:l[k]? = some b):jk6 l (k+1)=jk6 l k ++ b.doms.map (·.1) ++ b.tabs.map (·.name):=by
 unfold jk6
 rw [jai h,List.flatMap_append,List.append_assoc];simp [jdp]
theorem jvi (l:List BookD) (v:Value) (w:World) (S:Nat→Prop) (h:Sl Enc.book w S l v) (hS:∀ k,S k→k<w.heap.size) (hl:(l.flatMap jdp).length≤500000) :
  Calls Tryz.prog 116 #[v] w fun e w'=>∃ v',e = .returned v'∧OwnT w' w.heap.size v' (jgw l)∧Below w.heap.size w w':=by
 have HB:=Lib.hid h
 have HS:=Lib.hid hS
 have HV:Hid (jgw l=jay [] (jk6 l l.length)):=by show _=_;unfold jgw jk6;rw [List.take_of_length_le (Nat.le_refl _)]
 have HN:Hid (∀ k b,l[k]? = some b→jk6 l (k+1)=jk6 l k ++ b.doms.map (·.1) ++ b.tabs.map (·.name)):=fun k b hb=>juw hb
 have HLN:Hid (∀ k b,l[k]? = some b→(jk6 l k).length+b.doms.length+b.tabs.length≤500000):=fun k b hb=>by
  have h1:=congrArg List.length (juw hb)
  have h2:(jk6 l (k+1)).length≤(l.flatMap jdp).length:=by
   have e:l.flatMap jdp=jk6 l (k+1) ++ (l.drop (k+1)).flatMap jdp:=by unfold jk6;rw [← List.flatMap_append,List.take_append_drop]
   rw [e,List.length_append];omega
  simp only [List.length_append,List.length_map] at h1
  omega
 generalize jgw l=R at *
 obtain ⟨A,c,rfl,hc1,hc2,-⟩:=h
 unfold maxLen at hc2
 clear hS hl
 go_enter Tryz.func116,Tryz.ntmps116
 go_wp2
 go_loopw [3,12] (fun u i wr=>∃ k:Nat,k≤l.length∧i = .int .i64 k∧Hid (OwnT wr w.heap.size u (jay [] (jk6 l k)))∧Below w.heap.size w wr) (fun _ i _=>l.length-(intOf i).toNat)
 case atStart=>exact ⟨0,Nat.zero_le _,rfl,OwnT.nil,Below.refl _ _⟩
 case round =>
  obtain ⟨k,hk,rfl,HO,hbl⟩:=hrel
  by_cases hlt:k<l.length
  ·obtain ⟨bb,o,bk,vd,vt,rfl,_,hx,c1,c2,g1,g2⟩:=(HB.out.keep (w':=wr) (fun p hp=>World.cell?_of_block (hbl.block _ (HS.out _ hp)))).book_at hlt
   have GD:=Lib.hid g1
   have GT:=Lib.hid g2
   obtain ⟨Ad,cd,rfl,e1,e2⟩:=g1.form
   obtain ⟨At,ct,rfl,e3,e4⟩:=g2.form
   unfold maxLen at e2 e4
   clear g1 g2
   have hln:=HLN.out k bk hx.out
   have HNX:=Lib.hid (HN.out k bk hx.out)
   generalize hNK:jk6 l k=NK at *
   have hbz:=jac wr (.cells #[.slice Ad bk.doms.length cd,.slice At bk.tabs.length ct] 38)
   have CB:=Lib.hid (Cs.new wr [.slice Ad bk.doms.length cd,.slice At bk.tabs.length ct] 38)
   change Hid (Cs (wr.alloc (.cells #[.slice Ad bk.doms.length cd,.slice At bk.tabs.length ct] 38)) _ _) at CB
   have hbzl:=bx hbl hbz
   have hzz:(wr.alloc (.cells #[.slice Ad bk.doms.length cd,.slice At bk.tabs.length ct] 38)).heap.size=wr.heap.size+1:=by simp
   have HOz:Hid (OwnT (wr.alloc (.cells #[.slice Ad bk.doms.length cd,.slice At bk.tabs.length ct] 38)) w.heap.size u3 (jay [] NK)):=HO.out.keep (fun q hq=>hbz.block q (HO.out.lt q hq).2)
   have HNB:Hid (∀ q,u3.ownBlock=some q→q≠wr.heap.size):=fun q hq=>by have:=(HO.out.lt q hq).2;omega
   have q0:=CB.out.at 0 rfl
   have q1:=CB.out.at 1 rfl
   have hwr:=hbl.size
   go_wp2
   generalize hwz:wr.alloc (.cells #[.slice Ad bk.doms.length cd,.slice At bk.tabs.length ct] 38)=wz at *
   clear hwz q0 q1
   obtain ⟨N,hN⟩:∃ N,N=wr.heap.size:=⟨_,rfl⟩
   rw [← hN] at CB HNB hzz hwr ⊢
   clear hN
   go_loopw [3,19] (fun u i wq=>∃ j:Nat,j≤bk.doms.length∧i = .int .i64 j∧Hid (OwnT wq w.heap.size u (jay [] (NK ++ (bk.doms.take j).map (·.1))))∧Hid (∀ q,u.ownBlock=some q→q≠N)∧Hid (Cs wq N [.slice Ad bk.doms.length cd,.slice At bk.tabs.length ct])∧Below w.heap.size w wq∧N<wq.heap.size) (fun _ i _=>bk.doms.length-(intOf i).toNat)
   case atStart=>exact ⟨0,Nat.zero_le _,rfl,by simpa using HOz,HNB,CB,hbzl,by omega⟩
   case round =>
    clear HOz CB hbzl HNB
    obtain ⟨j,hj,rfl,HOj,HNj,CB,hbj,hzj⟩:=hrel
    by_cases hjl:j<bk.doms.length
    ·obtain ⟨b2,o2,nm,lo,hi,rfl,_,hy,d1,d2,d3⟩:=(GD.out.keep (w':=wr) (fun p hp=>World.cell?_of_block ((hbj.block _ (HS.out _ hp)).trans (hbl.block _ (HS.out _ hp)).symm))).dom_at hjl
     have hbn:=jac wr (.cells #[.string nm,.int .i64 lo,.int .i64 hi] 58)
     have CN:=Lib.hid (Cs.new wr [.string nm,.int .i64 lo,.int .i64 hi] 58)
     change Hid (Cs (wr.alloc (.cells #[.string nm,.int .i64 lo,.int .i64 hi] 58)) _ _) at CN
     have CBn:=Lib.hid (CB.out.next hbn)
     have hbjn:=bx hbj hbn
     have hzn:(wr.alloc (.cells #[.string nm,.int .i64 lo,.int .i64 hi] 58)).heap.size=wr.heap.size+1:=by simp
     have HOn:Hid (OwnT (wr.alloc (.cells #[.string nm,.int .i64 lo,.int .i64 hi] 58)) w.heap.size u3 (jay [] (NK ++ (bk.doms.take j).map (·.1)))):=HOj.out.keep (fun q hq=>hbn.block q (HOj.out.lt q hq).2)
     have q0:=CN.out.at 0 rfl
     have HMT:=Lib.hid (ybq (fun d:DomD=>d.1) hy.out)
     have HRS:=Lib.hid (jk9 [] (NK ++ (bk.doms.take j).map (·.1)) nm)
     have hlen:(jay [] (NK ++ (bk.doms.take j).map (·.1))).length≤1000000:=by
      have h1:=@jds (NK ++ (bk.doms.take j).map (·.1)) []
      have h2:(bk.doms.take j).length≤bk.doms.length:=(List.take_sublist _ _).length_le
      simp only [List.length_append,List.length_map,List.length_nil] at h1
      omega
     have hrise:Hid (jo2 (jay [] (NK ++ (bk.doms.take j).map (·.1)))=true):=jen rfl
     have hwq:=hbj.size
     go_wp2_with fail
     generalize hwn:wr.alloc (.cells #[.string nm,.int .i64 lo,.int .i64 hi] 58)=wn at *
     clear hwn q0
     refine (jep _ _ nm _ w.heap.size HOn.out hrise.out hlen (by omega)).mono ?_
     rintro e w5 ⟨v5,rfl,ho5,hg5,hm5⟩
     have HO5:=Lib.hid ho5
     have HM5:=Lib.hid hm5
     have hs5:=hg5.size
     have hltj:=HOn.out.lt
     have CB5:=Lib.hid (CBn.out.grownO hg5 (fun e=>HNj.out _ e rfl))
     have hb5:Below w.heap.size w w5:=hbjn.trans (jag hg5 (by omega) (fun q hq=>(hltj q hq).1))
     clear ho5 hm5
     go_wp2
     refine ⟨⟨j+1,by omega,by go_num,?_,?_,CB5,hb5,by omega⟩,by simp [intOf];omega⟩
     ·show OwnT w5 w.heap.size v5 (jay [] (NK ++ (bk.doms.take (j+1)).map (·.1)))
      rw [HMT.out,← List.append_assoc,HRS.out];exact HO5.out
     ·intro q hq
      rcases HM5.out q hq with h | h
      ·exact HNj.out q h
      ·omega
    ·obtain rfl:j=bk.doms.length:=by omega
     rw [List.take_of_length_le (Nat.le_refl _)] at HOj
     generalize hND:NK ++ bk.doms.map (·.1)=ND at *
     have hndl:ND.length+bk.tabs.length≤500000:=by rw [← hND];simp;omega
     have q1:=CB.out.at 1 rfl
     go_wp2
     clear q1
     go_loopw [3,31] (fun u i wi=>∃ j:Nat,j≤bk.tabs.length∧i = .int .i64 j∧Hid (OwnT wi w.heap.size u (jay [] (ND ++ (bk.tabs.take j).map (·.name))))∧Below w.heap.size w wi) (fun _ i _=>bk.tabs.length-(intOf i).toNat)
     case atStart=>exact ⟨0,Nat.zero_le _,rfl,by simpa using HOj,hbj⟩
     case round =>
      clear HOj CB hbj HNj
      obtain ⟨j,hj,rfl,HOj,hbj⟩:=hrel
      by_cases hjl:j<bk.tabs.length
      ·obtain ⟨b2,o2,nm,pol,comp,ins,rules,vi,vr,rfl,_,hy,d1,d2,d3,d4,d5,hi,hr⟩:=(GT.out.keep (w':=wr) (fun p hp=>World.cell?_of_block ((hbj.block _ (HS.out _ hp)).trans (hbl.block _ (HS.out _ hp)).symm))).tab_at hjl
       obtain ⟨Ai,ci,rfl,-,-⟩:=hi.form
       obtain ⟨Ar,cr,rfl,-,-⟩:=hr.form
       clear hi hr
       have hbn:=jac wr (.cells #[.string nm,.int .i64 pol,.bool comp,.slice Ai ins.length ci,.slice Ar rules.length cr] 56)
       have CN:=Lib.hid (Cs.new wr [.string nm,.int .i64 pol,.bool comp,.slice Ai ins.length ci,.slice Ar rules.length cr] 56)
       change Hid (Cs (wr.alloc (.cells #[.string nm,.int .i64 pol,.bool comp,.slice Ai ins.length ci,.slice Ar rules.length cr] 56)) _ _) at CN
       have hbjn:=bx hbj hbn
       have hzn:(wr.alloc (.cells #[.string nm,.int .i64 pol,.bool comp,.slice Ai ins.length ci,.slice Ar rules.length cr] 56)).heap.size=wr.heap.size+1:=by simp
       have HOn:Hid (OwnT (wr.alloc (.cells #[.string nm,.int .i64 pol,.bool comp,.slice Ai ins.length ci,.slice Ar rules.length cr] 56)) w.heap.size u3 (jay [] (ND ++ (bk.tabs.take j).map (·.name)))):=HOj.out.keep (fun q hq=>hbn.block q (HOj.out.lt q hq).2)
       have q0:=CN.out.at 0 rfl
       have HMT:=Lib.hid (ybq (fun t:TabD=>t.name) hy.out)
       have HRS:=Lib.hid (jk9 [] (ND ++ (bk.tabs.take j).map (·.name)) nm)
       have hlen:(jay [] (ND ++ (bk.tabs.take j).map (·.name))).length≤1000000:=by
        have h1:=@jds (ND ++ (bk.tabs.take j).map (·.name)) []
        have h2:(bk.tabs.take j).length≤bk.tabs.length:=(List.take_sublist _ _).length_le
        simp only [List.length_append,List.length_map,List.length_nil] at h1
        omega
       have hrise:Hid (jo2 (jay [] (ND ++ (bk.tabs.take j).map (·.name)))=true):=jen rfl
       have hwq:=hbj.size
       go_wp2_with fail
       generalize hwn:wr.alloc (.cells #[.string nm,.int .i64 pol,.bool comp,.slice Ai ins.length ci,.slice Ar rules.length cr] 56)=wn at *
       clear hwn q0
       refine (jep _ _ nm _ w.heap.size HOn.out hrise.out hlen (by omega)).mono ?_
       rintro e w5 ⟨v5,rfl,ho5,hg5,hm5⟩
       have HO5:=Lib.hid ho5
       have hs5:=hg5.size
       have hltj:=HOn.out.lt
       have hb5:Below w.heap.size w w5:=hbjn.trans (jag hg5 (by omega) (fun q hq=>(hltj q hq).1))
       clear ho5 hm5
       go_wp2
       refine ⟨⟨j+1,by omega,by go_num,?_,hb5⟩,by simp [intOf];omega⟩
       show OwnT w5 w.heap.size v5 (jay [] (ND ++ (bk.tabs.take (j+1)).map (·.name)))
       rw [HMT.out,← List.append_assoc,HRS.out];exact HO5.out
      ·obtain rfl:j=bk.tabs.length:=by omega
       rw [List.take_of_length_le (Nat.le_refl _)] at HOj
       have HOK:Hid (OwnT wr w.heap.size u3 (jay [] (jk6 l (k+1)))):=by
        show OwnT _ _ _ _
        rw [HNX.out];exact HOj.out
       go_wp2
       exact ⟨⟨k+1,by omega,by go_num,HOK,hbj⟩,by simp [intOf];omega⟩
  ·obtain rfl:k=l.length:=by omega
   go_wp2
   go_ret
   rw [HV.out]
   exact ⟨_,rfl,HO.out,hbl⟩
open Go.RowKit
theorem yce {α:Type} {f:α→ByteArray} {x y:α}:∀ l:List α,jdc f (l ++ [y] ++ [x])=(jdc f (l ++ [y]) && !leS (f x) (f y))
 | []=>by simp [jdc]
 | [a]=>by simp [jdc]
 | a :: b :: l=>by
  have:=yce (f:=f) (x:=x) (y:=y) (b :: l)
  simp only [List.cons_append,jdc] at this ⊢
  rw [this,Bool.and_assoc]
theorem jqr {α:Type} {f:α→ByteArray} {l:List α} {j:Nat} {x y:α} (h:l[j+1]? = some x) (h':l[j]? = some y):jdc f (l.take (j+1+1))=(jdc f (l.take (j+1)) && !leS (f x) (f y)):=by
 rw [jai h,jai h',yce]
theorem jr2 {α:Type} {f:α→ByteArray}:∀ {l:List α} (k:Nat),jdc f l=true→jdc f (l.take k)=true
 | [],k,_=>by simp [jdc]
 | [a],k,_=>by cases k <;> simp [jdc]
 | a :: b :: l,0,_=>rfl
 | a :: b :: l,1,_=>rfl
 | a :: b :: l,k+2,h=>by
  simp only [jdc,Bool.and_eq_true] at h
  have:=jr2 (k+1) h.2
  simp only [List.take_succ_cons,jdc,Bool.and_eq_true] at this ⊢
  exact ⟨h.1,this⟩
theorem ya3 {l:List DomD} (k:Nat) (h:jda l=true):jda (l.take k)=true:=by
 unfold jda at h ⊢
 rw [Bool.and_eq_true] at h ⊢
 exact ⟨List.all_eq_true.2 fun x hx=>List.all_eq_true.1 h.1 x (List.mem_of_mem_take hx),jr2 k h.2⟩
theorem ya4 {l:List DomD} {k:Nat} (h:jda (l.take k)=false):jda l=false:=by
 cases hh:jda l
 ·rfl
 ·rw [ya3 k hh] at h;cases h
theorem jw4 {l:List DomD} {k:Nat} {d:DomD} (h:l[k]? = some d) (hd:jef d=false):jda l=false:=by
 unfold jda
 rw [Bool.and_eq_false_iff]
 exact .inl (List.all_eq_false.2 ⟨d,List.mem_of_getElem? h,by rw [hd];simp⟩)
theorem ya2 {l:List DomD} {d:DomD} (h:l[0]? = some d) (hd:jef d=true):jda (l.take (0+1))=true:=by
 rw [jai h];simp [jda,hd,jdc]
theorem ydm {l:List DomD} {j:Nat} {x y:DomD} (h:l[j+1]? = some x) (h':l[j]? = some y) (hg:jda (l.take (j+1))=true) (hd:jef x=true):jda (l.take (j+1+1)) = !leS x.1 y.1:=by
 unfold jda at *
 rw [Bool.and_eq_true] at hg
 rw [jqr h h',hg.2,jai h,List.all_append,hg.1]
 simp [hd]
theorem jst (l:List DomD) (v:Value) (w:World) (h:Sl Enc.dom w (Old w) l v) (hs:∀ d,d∈l→d.1.size≤140737488355328) :
  Calls Tryz.prog 51 #[v] w fun e w'=>e = .returned (.bool (jda l))∧Below w.heap.size w w':=by
 have H:=Lib.hid h
 have HS:=Lib.hid hs
 clear hs
 obtain ⟨A,c,rfl,hc1,hc2,-⟩:=h
 unfold maxLen at hc2
 generalize hR:jda l=R
 have HR:=Lib.hid hR
 clear hR
 go_enter Tryz.func51,Tryz.ntmps51
 go_wp2
 go_loopw [7] (fun i wr=>∃ k:Nat,k≤l.length∧i = .int .i64 k∧Hid (jda (l.take k)=true)∧Below w.heap.size w wr) (fun i _=>l.length-(intOf i).toNat)
 case atStart=>exact ⟨0,Nat.zero_le _,rfl,rfl,Below.refl _ _⟩
 case round =>
  obtain ⟨k,hk,rfl,hf,hb⟩:=hrel
  by_cases hlt:k<l.length
  ·obtain ⟨b,o,nm,lo,hi,rfl,hSb,hx,c1,c2,c3⟩:=(H.out.onOld hb).dom_at hlt
   have hbz:=jaa wr (.cells #[.string nm,.int .i64 lo,.int .i64 hi] 58)
   have hb2:=bx hb hbz
   have CN:=Lib.hid (Cs.new wr [.string nm,.int .i64 lo,.int .i64 hi] 58)
   change Hid (Cs (wr.alloc (.cells #[.string nm,.int .i64 lo,.int .i64 hi] 58)) _ _) at CN
   have q0:=CN.out.at 0 rfl
   have q1:=CN.out.at 1 rfl
   have q2:=CN.out.at 2 rfl
   have HN:=Lib.hid (HS.out _ (List.mem_of_getElem? hx.out))
   have HG:=Lib.hid (jid nm lo hi)
   generalize hwa:wr.alloc (.cells #[.string nm,.int .i64 lo,.int .i64 hi] 58)=wa at *
   cases hg:jef (nm,lo,hi)
   ·rw [hg] at HG
    have HNO:Hid (R=false):=by show _=_;rw [← HR.out];exact jw4 hx.out hg
    clear hg
    have hbd:Below w.heap.size w wa.drew:=hb2.drew
    have hgr:wr.heap.size<wa.drew.heap.size:=CN.out.1
    go_wp2_with fail
    refine wp_region_held_drew (S:=(fun w':World=>w'.cell? ⟨wr.heap.size,0,none⟩=some (.string nm)∧w'.cell? ⟨wr.heap.size,1,none⟩=some (.int .i64 lo)∧w'.cell? ⟨wr.heap.size,2,none⟩=some (.int .i64 hi))) (by kernel_rfl) ⟨q0,q1,q2⟩ (fun hHeld=>?_)
    generalize wa.drew=wd at *
    refine' wpAnyH_take (i:=0) (oi:={ dst:=some 12,op:=Op.load 58 (Operand.tmp 4),type:=58,pos:= "check.go:94",after:=#[],guard:=none }) (v:=_) (fuel:=17) rfl (by kernel_rfl) (by kernel_rfl) (by kernel_rfl) (fun _ _ _ h=>h) (Or.inl ⟨by rfl,?hy0a⟩) (by assumption) ?rest0a
    case hy0a=>(intro w' hSw;(try dsimp only at hSw);go_simp;try with_reducible rfl)
    simp only [Act.put,List.setIfInBounds_toArray,List.set_cons_zero,List.set_cons_succ]
    refine wpAnyH_ready (rs:=[1]) (fuel:=16) (by kernel_rfl) (by simp) ?_
    refine AllReadyH.cons (o:={ dst:=some 13,op:=Op.call { callee:=Callee.value (Operand.func 82),args:=#[Operand.tmp 12],argTypes:=#[58] },type:=4,pos:= "check.go:94",after:=#[{ on:=0,ground:=Ground.data }],guard:=none }) rfl (fun K hK=>?_) AllReadyH.nil
    go_simp
    go_at_call 82
    refine (HG.out _ HN.out).mono ?_
    rintro e w3 ⟨rfl,hb3⟩
    go_wp2_with fail
    refine hK.out _ _ ⟨(hb3.cell (p:=⟨wr.heap.size,0,none⟩) hgr).trans hHeld.1,(hb3.cell (p:=⟨wr.heap.size,1,none⟩) hgr).trans hHeld.2.1,(hb3.cell (p:=⟨wr.heap.size,2,none⟩) hgr).trans hHeld.2.2⟩ (fun hHeld=>?_)
    clear hK K
    (try simp only [Act.put,List.setIfInBounds_toArray,List.set_cons_zero,List.set_cons_succ])
    refine' wpAnyH_take (i:=2) (oi:={ dst:=some 14,op:=Op.unOp UnOp.not 4 (Operand.tmp 13),type:=4,pos:= "check.go:94",after:=#[{ on:=1,ground:=Ground.data }],guard:=none }) (v:=_) (fuel:=15) rfl (by kernel_rfl) (by kernel_rfl) (by kernel_rfl) (fun _ _ _ h=>h) (Or.inl ⟨by rfl,?hy2a⟩) (by assumption) ?rest2a
    case hy2a=>(intro w' hSw;(try dsimp only at hSw);go_simp;try with_reducible rfl)
    simp only [Act.put,List.setIfInBounds_toArray,List.set_cons_zero,List.set_cons_succ]
    refine' wpAnyH_take (i:=3) (oi:={ dst:=some 15,op:=Op.move (Operand.tmp 14),type:=4,pos:= "check.go:94",after:=#[{ on:=2,ground:=Ground.data },{ on:=1,ground:=Ground.chain }],guard:=none }) (v:=_) (fuel:=14) rfl (by kernel_rfl) (by kernel_rfl) (by kernel_rfl) (fun _ _ _ h=>h) (Or.inl ⟨by rfl,?hy3a⟩) (by assumption) ?rest3a
    case hy3a=>(intro w' hSw;(try dsimp only at hSw);go_simp;try with_reducible rfl)
    simp only [Act.put,List.setIfInBounds_toArray,List.set_cons_zero,List.set_cons_succ]
    refine' wpAnyH_take (i:=4) (oi:={ dst:=some 16,op:=Op.move (Operand.tmp 3),type:=3,pos:= "check.go:94",after:=#[{ on:=3,ground:=Ground.guard }],guard:=some (3,false) }) (v:=undef) (fuel:=13) rfl (by kernel_rfl) (by kernel_rfl) (by kernel_rfl) (fun _ _ _ h=>h) (Or.inr ⟨by rfl,rfl⟩) (by assumption) ?rest4a
    simp only [Act.put,List.setIfInBounds_toArray,List.set_cons_zero,List.set_cons_succ]
    refine' wpAnyH_take (i:=5) (oi:={ dst:=some 17,op:=Op.binOp BinOp.gtr 3 (Operand.tmp 16) (Operand.const (Value.int IntKind.i64 0)) 3,type:=4,pos:= "check.go:94",after:=#[{ on:=4,ground:=Ground.data },{ on:=3,ground:=Ground.guard }],guard:=some (3,false) }) (v:=undef) (fuel:=12) rfl (by kernel_rfl) (by kernel_rfl) (by kernel_rfl) (fun _ _ _ h=>h) (Or.inr ⟨by rfl,rfl⟩) (by assumption) ?rest5a
    simp only [Act.put,List.setIfInBounds_toArray,List.set_cons_zero,List.set_cons_succ]
    refine' wpAnyH_take (i:=6) (oi:={ dst:=some 18,op:=Op.move (Operand.tmp 17),type:=4,pos:= "check.go:94",after:=#[{ on:=5,ground:=Ground.data },{ on:=3,ground:=Ground.chain },{ on:=3,ground:=Ground.guard }],guard:=some (3,false) }) (v:=undef) (fuel:=11) rfl (by kernel_rfl) (by kernel_rfl) (by kernel_rfl) (fun _ _ _ h=>h) (Or.inr ⟨by rfl,rfl⟩) (by assumption) ?rest6a
    simp only [Act.put,List.setIfInBounds_toArray,List.set_cons_zero,List.set_cons_succ]
    refine' wpAnyH_take (i:=7) (oi:={ dst:=some 19,op:=Op.fieldAddr 58 (Operand.tmp 4) 0,type:=0,pos:= "check.go:94",after:=#[{ on:=6,ground:=Ground.guard }],guard:=some (6,true) }) (v:=undef) (fuel:=10) rfl (by kernel_rfl) (by kernel_rfl) (by kernel_rfl) (fun _ _ _ h=>h) (Or.inr ⟨by rfl,rfl⟩) (by assumption) ?rest7a
    simp only [Act.put,List.setIfInBounds_toArray,List.set_cons_zero,List.set_cons_succ]
    refine' wpAnyH_take (i:=8) (oi:={ dst:=some 20,op:=Op.load 9 (Operand.tmp 19),type:=9,pos:= "check.go:94",after:=#[{ on:=7,ground:=Ground.data },{ on:=6,ground:=Ground.guard }],guard:=some (6,true) }) (v:=undef) (fuel:=9) rfl (by kernel_rfl) (by kernel_rfl) (by kernel_rfl) (fun _ _ _ h=>h) (Or.inr ⟨by rfl,rfl⟩) (by assumption) ?rest8a
    simp only [Act.put,List.setIfInBounds_toArray,List.set_cons_zero,List.set_cons_succ]
    refine' wpAnyH_take (i:=9) (oi:={ dst:=some 21,op:=Op.move (Operand.tmp 0),type:=35,pos:= "check.go:94",after:=#[{ on:=6,ground:=Ground.guard }],guard:=some (6,true) }) (v:=undef) (fuel:=8) rfl (by kernel_rfl) (by kernel_rfl) (by kernel_rfl) (fun _ _ _ h=>h) (Or.inr ⟨by rfl,rfl⟩) (by assumption) ?rest9a
    simp only [Act.put,List.setIfInBounds_toArray,List.set_cons_zero,List.set_cons_succ]
    refine' wpAnyH_take (i:=10) (oi:={ dst:=some 22,op:=Op.move (Operand.tmp 3),type:=3,pos:= "check.go:94",after:=#[{ on:=6,ground:=Ground.guard }],guard:=some (6,true) }) (v:=undef) (fuel:=7) rfl (by kernel_rfl) (by kernel_rfl) (by kernel_rfl) (fun _ _ _ h=>h) (Or.inr ⟨by rfl,rfl⟩) (by assumption) ?rest10a
    simp only [Act.put,List.setIfInBounds_toArray,List.set_cons_zero,List.set_cons_succ]
    refine' wpAnyH_take (i:=11) (oi:={ dst:=some 23,op:=Op.binOp BinOp.sub 3 (Operand.tmp 22) (Operand.const (Value.int IntKind.i64 1)) 3,type:=3,pos:= "check.go:94",after:=#[{ on:=10,ground:=Ground.data },{ on:=6,ground:=Ground.guard }],guard:=some (6,true) }) (v:=undef) (fuel:=6) rfl (by kernel_rfl) (by kernel_rfl) (by kernel_rfl) (fun _ _ _ h=>h) (Or.inr ⟨by rfl,rfl⟩) (by assumption) ?rest11a
    simp only [Act.put,List.setIfInBounds_toArray,List.set_cons_zero,List.set_cons_succ]
    refine' wpAnyH_take (i:=12) (oi:={ dst:=some 24,op:=Op.indexAddr 35 (Operand.tmp 21) (Operand.tmp 23),type:=0,pos:= "check.go:94",after:=#[{ on:=9,ground:=Ground.data },{ on:=11,ground:=Ground.data },{ on:=6,ground:=Ground.guard }],guard:=some (6,true) }) (v:=undef) (fuel:=5) rfl (by kernel_rfl) (by kernel_rfl) (by kernel_rfl) (fun _ _ _ h=>h) (Or.inr ⟨by rfl,rfl⟩) (by assumption) ?rest12a
    simp only [Act.put,List.setIfInBounds_toArray,List.set_cons_zero,List.set_cons_succ]
    refine' wpAnyH_take (i:=13) (oi:={ dst:=some 25,op:=Op.fieldAddr 58 (Operand.tmp 24) 0,type:=0,pos:= "check.go:94",after:=#[{ on:=12,ground:=Ground.data },{ on:=6,ground:=Ground.guard }],guard:=some (6,true) }) (v:=undef) (fuel:=4) rfl (by kernel_rfl) (by kernel_rfl) (by kernel_rfl) (fun _ _ _ h=>h) (Or.inr ⟨by rfl,rfl⟩) (by assumption) ?rest13a
    simp only [Act.put,List.setIfInBounds_toArray,List.set_cons_zero,List.set_cons_succ]
    refine' wpAnyH_take (i:=14) (oi:={ dst:=some 26,op:=Op.load 9 (Operand.tmp 25),type:=9,pos:= "check.go:94",after:=#[{ on:=13,ground:=Ground.data },{ on:=6,ground:=Ground.guard }],guard:=some (6,true) }) (v:=undef) (fuel:=3) rfl (by kernel_rfl) (by kernel_rfl) (by kernel_rfl) (fun _ _ _ h=>h) (Or.inr ⟨by rfl,rfl⟩) (by assumption) ?rest14a
    simp only [Act.put,List.setIfInBounds_toArray,List.set_cons_zero,List.set_cons_succ]
    refine' wpAnyH_take (i:=15) (oi:={ dst:=some 27,op:=Op.binOp BinOp.leq 9 (Operand.tmp 20) (Operand.tmp 26) 9,type:=4,pos:= "check.go:94",after:=#[{ on:=8,ground:=Ground.data },{ on:=14,ground:=Ground.data },{ on:=6,ground:=Ground.guard }],guard:=some (6,true) }) (v:=undef) (fuel:=2) rfl (by kernel_rfl) (by kernel_rfl) (by kernel_rfl) (fun _ _ _ h=>h) (Or.inr ⟨by rfl,rfl⟩) (by assumption) ?rest15a
    simp only [Act.put,List.setIfInBounds_toArray,List.set_cons_zero,List.set_cons_succ]
    refine' wpAnyH_take (i:=16) (oi:={ dst:=some 28,op:=Op.pick (Operand.tmp 18) (Operand.tmp 27) (Operand.const (Value.bool false)),type:=4,pos:= "check.go:94",after:=#[{ on:=6,ground:=Ground.data },{ on:=15,ground:=Ground.data },{ on:=3,ground:=Ground.guard }],guard:=some (3,false) }) (v:=undef) (fuel:=1) rfl (by kernel_rfl) (by kernel_rfl) (by kernel_rfl) (fun _ _ _ h=>h) (Or.inr ⟨by rfl,rfl⟩) (by assumption) ?rest16a
    simp only [Act.put,List.setIfInBounds_toArray,List.set_cons_zero,List.set_cons_succ]
    refine' wpAnyH_take (i:=17) (oi:={ dst:=some 29,op:=Op.pick (Operand.tmp 15) (Operand.const (Value.bool true)) (Operand.tmp 28),type:=4,pos:= "check.go:94",after:=#[{ on:=3,ground:=Ground.data },{ on:=16,ground:=Ground.data }],guard:=none }) (v:=_) (fuel:=0) rfl (by kernel_rfl) (by kernel_rfl) (by kernel_rfl) (fun _ _ _ h=>h) (Or.inl ⟨by rfl,?hy17a⟩) (by assumption) ?rest17a
    case hy17a=>(intro w' hSw;(try dsimp only at hSw);go_simp;try with_reducible rfl)
    simp only [Act.put,List.setIfInBounds_toArray,List.set_cons_zero,List.set_cons_succ]
    refine wpAnyH_done (by kernel_rfl) ?_ _
    go_wp2
    go_ret
    exact ⟨jad HNO.out.symm,bx hbd hb3⟩
   ·rw [hg] at HG
    have HGD:=Lib.hid hg
    clear hg
    have hbd:Below w.heap.size w wa.drew:=hb2.drew
    have hgr:wr.heap.size<wa.drew.heap.size:=CN.out.1
    by_cases hk0:k=0
    ·subst hk0
     rw [Nat.zero_mul,Nat.add_zero] at c1 c2 c3
     have HM:=Lib.hid (ya2 hx.out HGD.out)
     go_wp2_with fail
     refine wp_region_held_drew (S:=(fun w':World=>w'.cell? ⟨wr.heap.size,0,none⟩=some (.string nm)∧w'.cell? ⟨wr.heap.size,1,none⟩=some (.int .i64 lo)∧w'.cell? ⟨wr.heap.size,2,none⟩=some (.int .i64 hi))) (by kernel_rfl) ⟨q0,q1,q2⟩ (fun hHeld=>?_)
     generalize wa.drew=wd at *
     refine' wpAnyH_take (i:=0) (oi:={ dst:=some 12,op:=Op.load 58 (Operand.tmp 4),type:=58,pos:= "check.go:94",after:=#[],guard:=none }) (v:=_) (fuel:=17) rfl (by kernel_rfl) (by kernel_rfl) (by kernel_rfl) (fun _ _ _ h=>h) (Or.inl ⟨by rfl,?hy0b⟩) (by assumption) ?rest0b
     case hy0b=>(intro w' hSw;(try dsimp only at hSw);go_simp;try with_reducible rfl)
     simp only [Act.put,List.setIfInBounds_toArray,List.set_cons_zero,List.set_cons_succ]
     refine wpAnyH_ready (rs:=[1]) (fuel:=16) (by kernel_rfl) (by simp) ?_
     refine AllReadyH.cons (o:={ dst:=some 13,op:=Op.call { callee:=Callee.value (Operand.func 82),args:=#[Operand.tmp 12],argTypes:=#[58] },type:=4,pos:= "check.go:94",after:=#[{ on:=0,ground:=Ground.data }],guard:=none }) rfl (fun K hK=>?_) AllReadyH.nil
     go_simp
     go_at_call 82
     refine (HG.out _ HN.out).mono ?_
     rintro e w3 ⟨rfl,hb3⟩
     go_wp2_with fail
     refine hK.out _ _ ⟨(hb3.cell (p:=⟨wr.heap.size,0,none⟩) hgr).trans hHeld.1,(hb3.cell (p:=⟨wr.heap.size,1,none⟩) hgr).trans hHeld.2.1,(hb3.cell (p:=⟨wr.heap.size,2,none⟩) hgr).trans hHeld.2.2⟩ (fun hHeld=>?_)
     clear hK K
     (try simp only [Act.put,List.setIfInBounds_toArray,List.set_cons_zero,List.set_cons_succ])
     refine' wpAnyH_take (i:=2) (oi:={ dst:=some 14,op:=Op.unOp UnOp.not 4 (Operand.tmp 13),type:=4,pos:= "check.go:94",after:=#[{ on:=1,ground:=Ground.data }],guard:=none }) (v:=_) (fuel:=15) rfl (by kernel_rfl) (by kernel_rfl) (by kernel_rfl) (fun _ _ _ h=>h) (Or.inl ⟨by rfl,?hy2b⟩) (by assumption) ?rest2b
     case hy2b=>(intro w' hSw;(try dsimp only at hSw);go_simp;try with_reducible rfl)
     simp only [Act.put,List.setIfInBounds_toArray,List.set_cons_zero,List.set_cons_succ]
     refine' wpAnyH_take (i:=3) (oi:={ dst:=some 15,op:=Op.move (Operand.tmp 14),type:=4,pos:= "check.go:94",after:=#[{ on:=2,ground:=Ground.data },{ on:=1,ground:=Ground.chain }],guard:=none }) (v:=_) (fuel:=14) rfl (by kernel_rfl) (by kernel_rfl) (by kernel_rfl) (fun _ _ _ h=>h) (Or.inl ⟨by rfl,?hy3b⟩) (by assumption) ?rest3b
     case hy3b=>(intro w' hSw;(try dsimp only at hSw);go_simp;try with_reducible rfl)
     simp only [Act.put,List.setIfInBounds_toArray,List.set_cons_zero,List.set_cons_succ]
     refine' wpAnyH_take (i:=4) (oi:={ dst:=some 16,op:=Op.move (Operand.tmp 3),type:=3,pos:= "check.go:94",after:=#[{ on:=3,ground:=Ground.guard }],guard:=some (3,false) }) (v:=_) (fuel:=13) rfl (by kernel_rfl) (by kernel_rfl) (by kernel_rfl) (fun _ _ _ h=>h) (Or.inl ⟨by rfl,?hy4b⟩) (by assumption) ?rest4b
     case hy4b=>(intro w' hSw;(try dsimp only at hSw);go_simp;try with_reducible rfl)
     simp only [Act.put,List.setIfInBounds_toArray,List.set_cons_zero,List.set_cons_succ]
     refine' wpAnyH_take (i:=5) (oi:={ dst:=some 17,op:=Op.binOp BinOp.gtr 3 (Operand.tmp 16) (Operand.const (Value.int IntKind.i64 0)) 3,type:=4,pos:= "check.go:94",after:=#[{ on:=4,ground:=Ground.data },{ on:=3,ground:=Ground.guard }],guard:=some (3,false) }) (v:=_) (fuel:=12) rfl (by kernel_rfl) (by kernel_rfl) (by kernel_rfl) (fun _ _ _ h=>h) (Or.inl ⟨by rfl,?hy5b⟩) (by assumption) ?rest5b
     case hy5b=>(intro w' hSw;(try dsimp only at hSw);go_simp;try with_reducible rfl)
     simp only [Act.put,List.setIfInBounds_toArray,List.set_cons_zero,List.set_cons_succ]
     refine' wpAnyH_take (i:=6) (oi:={ dst:=some 18,op:=Op.move (Operand.tmp 17),type:=4,pos:= "check.go:94",after:=#[{ on:=5,ground:=Ground.data },{ on:=3,ground:=Ground.chain },{ on:=3,ground:=Ground.guard }],guard:=some (3,false) }) (v:=_) (fuel:=11) rfl (by kernel_rfl) (by kernel_rfl) (by kernel_rfl) (fun _ _ _ h=>h) (Or.inl ⟨by rfl,?hy6b⟩) (by assumption) ?rest6b
     case hy6b=>(intro w' hSw;(try dsimp only at hSw);go_simp;try with_reducible rfl)
     simp only [Act.put,List.setIfInBounds_toArray,List.set_cons_zero,List.set_cons_succ]
     refine' wpAnyH_take (i:=7) (oi:={ dst:=some 19,op:=Op.fieldAddr 58 (Operand.tmp 4) 0,type:=0,pos:= "check.go:94",after:=#[{ on:=6,ground:=Ground.guard }],guard:=some (6,true) }) (v:=undef) (fuel:=10) rfl (by kernel_rfl) (by kernel_rfl) (by kernel_rfl) (fun _ _ _ h=>h) (Or.inr ⟨by rfl,rfl⟩) (by assumption) ?rest7b
     simp only [Act.put,List.setIfInBounds_toArray,List.set_cons_zero,List.set_cons_succ]
     refine' wpAnyH_take (i:=8) (oi:={ dst:=some 20,op:=Op.load 9 (Operand.tmp 19),type:=9,pos:= "check.go:94",after:=#[{ on:=7,ground:=Ground.data },{ on:=6,ground:=Ground.guard }],guard:=some (6,true) }) (v:=undef) (fuel:=9) rfl (by kernel_rfl) (by kernel_rfl) (by kernel_rfl) (fun _ _ _ h=>h) (Or.inr ⟨by rfl,rfl⟩) (by assumption) ?rest8b
     simp only [Act.put,List.setIfInBounds_toArray,List.set_cons_zero,List.set_cons_succ]
     refine' wpAnyH_take (i:=9) (oi:={ dst:=some 21,op:=Op.move (Operand.tmp 0),type:=35,pos:= "check.go:94",after:=#[{ on:=6,ground:=Ground.guard }],guard:=some (6,true) }) (v:=undef) (fuel:=8) rfl (by kernel_rfl) (by kernel_rfl) (by kernel_rfl) (fun _ _ _ h=>h) (Or.inr ⟨by rfl,rfl⟩) (by assumption) ?rest9b
     simp only [Act.put,List.setIfInBounds_toArray,List.set_cons_zero,List.set_cons_succ]
     refine' wpAnyH_take (i:=10) (oi:={ dst:=some 22,op:=Op.move (Operand.tmp 3),type:=3,pos:= "check.go:94",after:=#[{ on:=6,ground:=Ground.guard }],guard:=some (6,true) }) (v:=undef) (fuel:=7) rfl (by kernel_rfl) (by kernel_rfl) (by kernel_rfl) (fun _ _ _ h=>h) (Or.inr ⟨by rfl,rfl⟩) (by assumption) ?rest10b
     simp only [Act.put,List.setIfInBounds_toArray,List.set_cons_zero,List.set_cons_succ]
     refine' wpAnyH_take (i:=11) (oi:={ dst:=some 23,op:=Op.binOp BinOp.sub 3 (Operand.tmp 22) (Operand.const (Value.int IntKind.i64 1)) 3,type:=3,pos:= "check.go:94",after:=#[{ on:=10,ground:=Ground.data },{ on:=6,ground:=Ground.guard }],guard:=some (6,true) }) (v:=undef) (fuel:=6) rfl (by kernel_rfl) (by kernel_rfl) (by kernel_rfl) (fun _ _ _ h=>h) (Or.inr ⟨by rfl,rfl⟩) (by assumption) ?rest11b
     simp only [Act.put,List.setIfInBounds_toArray,List.set_cons_zero,List.set_cons_succ]
     refine' wpAnyH_take (i:=12) (oi:={ dst:=some 24,op:=Op.indexAddr 35 (Operand.tmp 21) (Operand.tmp 23),type:=0,pos:= "check.go:94",after:=#[{ on:=9,ground:=Ground.data },{ on:=11,ground:=Ground.data },{ on:=6,ground:=Ground.guard }],guard:=some (6,true) }) (v:=undef) (fuel:=5) rfl (by kernel_rfl) (by kernel_rfl) (by kernel_rfl) (fun _ _ _ h=>h) (Or.inr ⟨by rfl,rfl⟩) (by assumption) ?rest12b
     simp only [Act.put,List.setIfInBounds_toArray,List.set_cons_zero,List.set_cons_succ]
     refine' wpAnyH_take (i:=13) (oi:={ dst:=some 25,op:=Op.fieldAddr 58 (Operand.tmp 24) 0,type:=0,pos:= "check.go:94",after:=#[{ on:=12,ground:=Ground.data },{ on:=6,ground:=Ground.guard }],guard:=some (6,true) }) (v:=undef) (fuel:=4) rfl (by kernel_rfl) (by kernel_rfl) (by kernel_rfl) (fun _ _ _ h=>h) (Or.inr ⟨by rfl,rfl⟩) (by assumption) ?rest13b
     simp only [Act.put,List.setIfInBounds_toArray,List.set_cons_zero,List.set_cons_succ]
     refine' wpAnyH_take (i:=14) (oi:={ dst:=some 26,op:=Op.load 9 (Operand.tmp 25),type:=9,pos:= "check.go:94",after:=#[{ on:=13,ground:=Ground.data },{ on:=6,ground:=Ground.guard }],guard:=some (6,true) }) (v:=undef) (fuel:=3) rfl (by kernel_rfl) (by kernel_rfl) (by kernel_rfl) (fun _ _ _ h=>h) (Or.inr ⟨by rfl,rfl⟩) (by assumption) ?rest14b
     simp only [Act.put,List.setIfInBounds_toArray,List.set_cons_zero,List.set_cons_succ]
     refine' wpAnyH_take (i:=15) (oi:={ dst:=some 27,op:=Op.binOp BinOp.leq 9 (Operand.tmp 20) (Operand.tmp 26) 9,type:=4,pos:= "check.go:94",after:=#[{ on:=8,ground:=Ground.data },{ on:=14,ground:=Ground.data },{ on:=6,ground:=Ground.guard }],guard:=some (6,true) }) (v:=undef) (fuel:=2) rfl (by kernel_rfl) (by kernel_rfl) (by kernel_rfl) (fun _ _ _ h=>h) (Or.inr ⟨by rfl,rfl⟩) (by assumption) ?rest15b
     simp only [Act.put,List.setIfInBounds_toArray,List.set_cons_zero,List.set_cons_succ]
     refine' wpAnyH_take (i:=16) (oi:={ dst:=some 28,op:=Op.pick (Operand.tmp 18) (Operand.tmp 27) (Operand.const (Value.bool false)),type:=4,pos:= "check.go:94",after:=#[{ on:=6,ground:=Ground.data },{ on:=15,ground:=Ground.data },{ on:=3,ground:=Ground.guard }],guard:=some (3,false) }) (v:=_) (fuel:=1) rfl (by kernel_rfl) (by kernel_rfl) (by kernel_rfl) (fun _ _ _ h=>h) (Or.inl ⟨by rfl,?hy16b⟩) (by assumption) ?rest16b
     case hy16b=>(intro w' hSw;(try dsimp only at hSw);go_simp;try with_reducible rfl)
     simp only [Act.put,List.setIfInBounds_toArray,List.set_cons_zero,List.set_cons_succ]
     refine' wpAnyH_take (i:=17) (oi:={ dst:=some 29,op:=Op.pick (Operand.tmp 15) (Operand.const (Value.bool true)) (Operand.tmp 28),type:=4,pos:= "check.go:94",after:=#[{ on:=3,ground:=Ground.data },{ on:=16,ground:=Ground.data }],guard:=none }) (v:=_) (fuel:=0) rfl (by kernel_rfl) (by kernel_rfl) (by kernel_rfl) (fun _ _ _ h=>h) (Or.inl ⟨by rfl,?hy17b⟩) (by assumption) ?rest17b
     case hy17b=>(intro w' hSw;(try dsimp only at hSw);go_simp;try with_reducible rfl)
     simp only [Act.put,List.setIfInBounds_toArray,List.set_cons_zero,List.set_cons_succ]
     refine wpAnyH_done (by kernel_rfl) ?_ _
     go_wp2
     exact ⟨⟨0+1,by omega,by go_num,HM,bx hbd hb3⟩,by simp [intOf];omega⟩
    ·obtain ⟨j,rfl⟩:∃ j,k=j+1:=⟨k-1,by omega⟩
     obtain ⟨b',o',pn,plo,phi,e',hSb',hx',p0',-,-⟩:=H.out.dom_at (k:=j) (by omega)
     obtain ⟨rfl,rfl⟩:=jc5 e'
     have hSb2:b<w.heap.size:=hSb'
     have hgb:b<wa.drew.heap.size:=Nat.lt_of_lt_of_le hSb2 hb2.size
     have p0:=(hb2.cell (p:=⟨b,o+j*3,none⟩) hSb2).trans p0'
     have HM:=Lib.hid (ydm hx.out hx'.out hf.out HGD.out)
     have hj2:IntKind.i64.wrap (j:Int)=(j:Int):=IntWalk.i64_in _ (by omega)
     have hj0:(0:Int)≤j:=by omega
     have hj1:(j:Int)<l.length:=by omega
     have hj3:(0:Int)<(j:Int)+1:=by omega
     clear p0' e' hx'
     cases hle:leS nm pn
     ·rw [hle] at HM
      have hle':(Op.bytesLess nm.toList pn.toList || nm.toList == pn.toList)=false:=hle
      go_wp2_with fail
      refine wp_region_held_drew (S:=(fun w':World=>w'.cell? ⟨wr.heap.size,0,none⟩=some (.string nm)∧w'.cell? ⟨wr.heap.size,1,none⟩=some (.int .i64 lo)∧w'.cell? ⟨wr.heap.size,2,none⟩=some (.int .i64 hi)∧w'.cell? ⟨b,o+j*3,none⟩=some (.string pn))) (by kernel_rfl) ⟨q0,q1,q2,p0⟩ (fun hHeld=>?_)
      generalize wa.drew=wd at *
      refine' wpAnyH_take (i:=0) (oi:={ dst:=some 12,op:=Op.load 58 (Operand.tmp 4),type:=58,pos:= "check.go:94",after:=#[],guard:=none }) (v:=_) (fuel:=17) rfl (by kernel_rfl) (by kernel_rfl) (by kernel_rfl) (fun _ _ _ h=>h) (Or.inl ⟨by rfl,?hy0c⟩) (by assumption) ?rest0c
      case hy0c=>(intro w' hSw;(try dsimp only at hSw);go_simp;try with_reducible rfl)
      simp only [Act.put,List.setIfInBounds_toArray,List.set_cons_zero,List.set_cons_succ]
      refine wpAnyH_ready (rs:=[1]) (fuel:=16) (by kernel_rfl) (by simp) ?_
      refine AllReadyH.cons (o:={ dst:=some 13,op:=Op.call { callee:=Callee.value (Operand.func 82),args:=#[Operand.tmp 12],argTypes:=#[58] },type:=4,pos:= "check.go:94",after:=#[{ on:=0,ground:=Ground.data }],guard:=none }) rfl (fun K hK=>?_) AllReadyH.nil
      go_simp
      go_at_call 82
      refine (HG.out _ HN.out).mono ?_
      rintro e w3 ⟨rfl,hb3⟩
      go_wp2_with fail
      refine hK.out _ _ ⟨(hb3.cell (p:=⟨wr.heap.size,0,none⟩) hgr).trans hHeld.1,(hb3.cell (p:=⟨wr.heap.size,1,none⟩) hgr).trans hHeld.2.1,(hb3.cell (p:=⟨wr.heap.size,2,none⟩) hgr).trans hHeld.2.2.1,(hb3.cell (p:=⟨b,o+j*3,none⟩) hgb).trans hHeld.2.2.2⟩ (fun hHeld=>?_)
      clear hK K
      (try simp only [Act.put,List.setIfInBounds_toArray,List.set_cons_zero,List.set_cons_succ])
      refine' wpAnyH_take (i:=2) (oi:={ dst:=some 14,op:=Op.unOp UnOp.not 4 (Operand.tmp 13),type:=4,pos:= "check.go:94",after:=#[{ on:=1,ground:=Ground.data }],guard:=none }) (v:=_) (fuel:=15) rfl (by kernel_rfl) (by kernel_rfl) (by kernel_rfl) (fun _ _ _ h=>h) (Or.inl ⟨by rfl,?hy2c⟩) (by assumption) ?rest2c
      case hy2c=>(intro w' hSw;(try dsimp only at hSw);go_simp;try with_reducible rfl)
      simp only [Act.put,List.setIfInBounds_toArray,List.set_cons_zero,List.set_cons_succ]
      refine' wpAnyH_take (i:=3) (oi:={ dst:=some 15,op:=Op.move (Operand.tmp 14),type:=4,pos:= "check.go:94",after:=#[{ on:=2,ground:=Ground.data },{ on:=1,ground:=Ground.chain }],guard:=none }) (v:=_) (fuel:=14) rfl (by kernel_rfl) (by kernel_rfl) (by kernel_rfl) (fun _ _ _ h=>h) (Or.inl ⟨by rfl,?hy3c⟩) (by assumption) ?rest3c
      case hy3c=>(intro w' hSw;(try dsimp only at hSw);go_simp;try with_reducible rfl)
      simp only [Act.put,List.setIfInBounds_toArray,List.set_cons_zero,List.set_cons_succ]
      refine' wpAnyH_take (i:=4) (oi:={ dst:=some 16,op:=Op.move (Operand.tmp 3),type:=3,pos:= "check.go:94",after:=#[{ on:=3,ground:=Ground.guard }],guard:=some (3,false) }) (v:=_) (fuel:=13) rfl (by kernel_rfl) (by kernel_rfl) (by kernel_rfl) (fun _ _ _ h=>h) (Or.inl ⟨by rfl,?hy4c⟩) (by assumption) ?rest4c
      case hy4c=>(intro w' hSw;(try dsimp only at hSw);go_simp;try with_reducible rfl)
      simp only [Act.put,List.setIfInBounds_toArray,List.set_cons_zero,List.set_cons_succ]
      refine' wpAnyH_take (i:=5) (oi:={ dst:=some 17,op:=Op.binOp BinOp.gtr 3 (Operand.tmp 16) (Operand.const (Value.int IntKind.i64 0)) 3,type:=4,pos:= "check.go:94",after:=#[{ on:=4,ground:=Ground.data },{ on:=3,ground:=Ground.guard }],guard:=some (3,false) }) (v:=_) (fuel:=12) rfl (by kernel_rfl) (by kernel_rfl) (by kernel_rfl) (fun _ _ _ h=>h) (Or.inl ⟨by rfl,?hy5c⟩) (by assumption) ?rest5c
      case hy5c=>(intro w' hSw;(try dsimp only at hSw);go_simp;try with_reducible rfl)
      simp only [Act.put,List.setIfInBounds_toArray,List.set_cons_zero,List.set_cons_succ]
      refine' wpAnyH_take (i:=6) (oi:={ dst:=some 18,op:=Op.move (Operand.tmp 17),type:=4,pos:= "check.go:94",after:=#[{ on:=5,ground:=Ground.data },{ on:=3,ground:=Ground.chain },{ on:=3,ground:=Ground.guard }],guard:=some (3,false) }) (v:=_) (fuel:=11) rfl (by kernel_rfl) (by kernel_rfl) (by kernel_rfl) (fun _ _ _ h=>h) (Or.inl ⟨by rfl,?hy6c⟩) (by assumption) ?rest6c
      case hy6c=>(intro w' hSw;(try dsimp only at hSw);go_simp;try with_reducible rfl)
      simp only [Act.put,List.setIfInBounds_toArray,List.set_cons_zero,List.set_cons_succ]
      refine' wpAnyH_take (i:=7) (oi:={ dst:=some 19,op:=Op.fieldAddr 58 (Operand.tmp 4) 0,type:=0,pos:= "check.go:94",after:=#[{ on:=6,ground:=Ground.guard }],guard:=some (6,true) }) (v:=_) (fuel:=10) rfl (by kernel_rfl) (by kernel_rfl) (by kernel_rfl) (fun _ _ _ h=>h) (Or.inl ⟨by rfl,?hy7c⟩) (by assumption) ?rest7c
      case hy7c=>(intro w' hSw;(try dsimp only at hSw);go_simp;try with_reducible rfl)
      simp only [Act.put,List.setIfInBounds_toArray,List.set_cons_zero,List.set_cons_succ]
      refine' wpAnyH_take (i:=8) (oi:={ dst:=some 20,op:=Op.load 9 (Operand.tmp 19),type:=9,pos:= "check.go:94",after:=#[{ on:=7,ground:=Ground.data },{ on:=6,ground:=Ground.guard }],guard:=some (6,true) }) (v:=_) (fuel:=9) rfl (by kernel_rfl) (by kernel_rfl) (by kernel_rfl) (fun _ _ _ h=>h) (Or.inl ⟨by rfl,?hy8c⟩) (by assumption) ?rest8c
      case hy8c=>(intro w' hSw;(try dsimp only at hSw);go_simp;try with_reducible rfl)
      simp only [Act.put,List.setIfInBounds_toArray,List.set_cons_zero,List.set_cons_succ]
      refine' wpAnyH_take (i:=9) (oi:={ dst:=some 21,op:=Op.move (Operand.tmp 0),type:=35,pos:= "check.go:94",after:=#[{ on:=6,ground:=Ground.guard }],guard:=some (6,true) }) (v:=_) (fuel:=8) rfl (by kernel_rfl) (by kernel_rfl) (by kernel_rfl) (fun _ _ _ h=>h) (Or.inl ⟨by rfl,?hy9c⟩) (by assumption) ?rest9c
      case hy9c=>(intro w' hSw;(try dsimp only at hSw);go_simp;try with_reducible rfl)
      simp only [Act.put,List.setIfInBounds_toArray,List.set_cons_zero,List.set_cons_succ]
      refine' wpAnyH_take (i:=10) (oi:={ dst:=some 22,op:=Op.move (Operand.tmp 3),type:=3,pos:= "check.go:94",after:=#[{ on:=6,ground:=Ground.guard }],guard:=some (6,true) }) (v:=_) (fuel:=7) rfl (by kernel_rfl) (by kernel_rfl) (by kernel_rfl) (fun _ _ _ h=>h) (Or.inl ⟨by rfl,?hy10c⟩) (by assumption) ?rest10c
      case hy10c=>(intro w' hSw;(try dsimp only at hSw);go_simp;try with_reducible rfl)
      simp only [Act.put,List.setIfInBounds_toArray,List.set_cons_zero,List.set_cons_succ]
      refine' wpAnyH_take (i:=11) (oi:={ dst:=some 23,op:=Op.binOp BinOp.sub 3 (Operand.tmp 22) (Operand.const (Value.int IntKind.i64 1)) 3,type:=3,pos:= "check.go:94",after:=#[{ on:=10,ground:=Ground.data },{ on:=6,ground:=Ground.guard }],guard:=some (6,true) }) (v:=_) (fuel:=6) rfl (by kernel_rfl) (by kernel_rfl) (by kernel_rfl) (fun _ _ _ h=>h) (Or.inl ⟨by rfl,?hy11c⟩) (by assumption) ?rest11c
      case hy11c=>(intro w' hSw;(try dsimp only at hSw);go_simp;try with_reducible rfl)
      simp only [Act.put,List.setIfInBounds_toArray,List.set_cons_zero,List.set_cons_succ]
      refine' wpAnyH_take (i:=12) (oi:={ dst:=some 24,op:=Op.indexAddr 35 (Operand.tmp 21) (Operand.tmp 23),type:=0,pos:= "check.go:94",after:=#[{ on:=9,ground:=Ground.data },{ on:=11,ground:=Ground.data },{ on:=6,ground:=Ground.guard }],guard:=some (6,true) }) (v:=_) (fuel:=5) rfl (by kernel_rfl) (by kernel_rfl) (by kernel_rfl) (fun _ _ _ h=>h) (Or.inl ⟨by rfl,?hy12c⟩) (by assumption) ?rest12c
      case hy12c=>(intro w' hSw;(try dsimp only at hSw);go_simp;try with_reducible rfl)
      simp only [Act.put,List.setIfInBounds_toArray,List.set_cons_zero,List.set_cons_succ]
      refine' wpAnyH_take (i:=13) (oi:={ dst:=some 25,op:=Op.fieldAddr 58 (Operand.tmp 24) 0,type:=0,pos:= "check.go:94",after:=#[{ on:=12,ground:=Ground.data },{ on:=6,ground:=Ground.guard }],guard:=some (6,true) }) (v:=_) (fuel:=4) rfl (by kernel_rfl) (by kernel_rfl) (by kernel_rfl) (fun _ _ _ h=>h) (Or.inl ⟨by rfl,?hy13c⟩) (by assumption) ?rest13c
      case hy13c=>(intro w' hSw;(try dsimp only at hSw);go_simp;try with_reducible rfl)
      simp only [Act.put,List.setIfInBounds_toArray,List.set_cons_zero,List.set_cons_succ]
      refine' wpAnyH_take (i:=14) (oi:={ dst:=some 26,op:=Op.load 9 (Operand.tmp 25),type:=9,pos:= "check.go:94",after:=#[{ on:=13,ground:=Ground.data },{ on:=6,ground:=Ground.guard }],guard:=some (6,true) }) (v:=_) (fuel:=3) rfl (by kernel_rfl) (by kernel_rfl) (by kernel_rfl) (fun _ _ _ h=>h) (Or.inl ⟨by rfl,?hy14c⟩) (by assumption) ?rest14c
      case hy14c=>(intro w' hSw;(try dsimp only at hSw);go_simp;try with_reducible rfl)
      simp only [Act.put,List.setIfInBounds_toArray,List.set_cons_zero,List.set_cons_succ]
      refine' wpAnyH_take (i:=15) (oi:={ dst:=some 27,op:=Op.binOp BinOp.leq 9 (Operand.tmp 20) (Operand.tmp 26) 9,type:=4,pos:= "check.go:94",after:=#[{ on:=8,ground:=Ground.data },{ on:=14,ground:=Ground.data },{ on:=6,ground:=Ground.guard }],guard:=some (6,true) }) (v:=_) (fuel:=2) rfl (by kernel_rfl) (by kernel_rfl) (by kernel_rfl) (fun _ _ _ h=>h) (Or.inl ⟨by rfl,?hy15c⟩) (by assumption) ?rest15c
      case hy15c=>(intro w' hSw;(try dsimp only at hSw);go_simp;try with_reducible rfl)
      simp only [Act.put,List.setIfInBounds_toArray,List.set_cons_zero,List.set_cons_succ]
      refine' wpAnyH_take (i:=16) (oi:={ dst:=some 28,op:=Op.pick (Operand.tmp 18) (Operand.tmp 27) (Operand.const (Value.bool false)),type:=4,pos:= "check.go:94",after:=#[{ on:=6,ground:=Ground.data },{ on:=15,ground:=Ground.data },{ on:=3,ground:=Ground.guard }],guard:=some (3,false) }) (v:=_) (fuel:=1) rfl (by kernel_rfl) (by kernel_rfl) (by kernel_rfl) (fun _ _ _ h=>h) (Or.inl ⟨by rfl,?hy16c⟩) (by assumption) ?rest16c
      case hy16c=>(intro w' hSw;(try dsimp only at hSw);go_simp;try with_reducible rfl)
      simp only [Act.put,List.setIfInBounds_toArray,List.set_cons_zero,List.set_cons_succ]
      refine' wpAnyH_take (i:=17) (oi:={ dst:=some 29,op:=Op.pick (Operand.tmp 15) (Operand.const (Value.bool true)) (Operand.tmp 28),type:=4,pos:= "check.go:94",after:=#[{ on:=3,ground:=Ground.data },{ on:=16,ground:=Ground.data }],guard:=none }) (v:=_) (fuel:=0) rfl (by kernel_rfl) (by kernel_rfl) (by kernel_rfl) (fun _ _ _ h=>h) (Or.inl ⟨by rfl,?hy17c⟩) (by assumption) ?rest17c
      case hy17c=>(intro w' hSw;(try dsimp only at hSw);go_simp;try with_reducible rfl)
      simp only [Act.put,List.setIfInBounds_toArray,List.set_cons_zero,List.set_cons_succ]
      refine wpAnyH_done (by kernel_rfl) ?_ _
      go_wp2
      exact ⟨⟨j+1+1,by omega,by go_num,HM,bx hbd hb3⟩,by simp [intOf];omega⟩
     ·have HNO:Hid (R=false):=by show _=_;rw [← HR.out];exact ya4 (k:=j+1+1) (by rw [HM.out,hle];rfl)
      have hle':(Op.bytesLess nm.toList pn.toList || nm.toList == pn.toList)=true:=hle
      go_wp2_with fail
      refine wp_region_held_drew (S:=(fun w':World=>w'.cell? ⟨wr.heap.size,0,none⟩=some (.string nm)∧w'.cell? ⟨wr.heap.size,1,none⟩=some (.int .i64 lo)∧w'.cell? ⟨wr.heap.size,2,none⟩=some (.int .i64 hi)∧w'.cell? ⟨b,o+j*3,none⟩=some (.string pn))) (by kernel_rfl) ⟨q0,q1,q2,p0⟩ (fun hHeld=>?_)
      generalize wa.drew=wd at *
      refine' wpAnyH_take (i:=0) (oi:={ dst:=some 12,op:=Op.load 58 (Operand.tmp 4),type:=58,pos:= "check.go:94",after:=#[],guard:=none }) (v:=_) (fuel:=17) rfl (by kernel_rfl) (by kernel_rfl) (by kernel_rfl) (fun _ _ _ h=>h) (Or.inl ⟨by rfl,?hy0d⟩) (by assumption) ?rest0d
      case hy0d=>(intro w' hSw;(try dsimp only at hSw);go_simp;try with_reducible rfl)
      simp only [Act.put,List.setIfInBounds_toArray,List.set_cons_zero,List.set_cons_succ]
      refine wpAnyH_ready (rs:=[1]) (fuel:=16) (by kernel_rfl) (by simp) ?_
      refine AllReadyH.cons (o:={ dst:=some 13,op:=Op.call { callee:=Callee.value (Operand.func 82),args:=#[Operand.tmp 12],argTypes:=#[58] },type:=4,pos:= "check.go:94",after:=#[{ on:=0,ground:=Ground.data }],guard:=none }) rfl (fun K hK=>?_) AllReadyH.nil
      go_simp
      go_at_call 82
      refine (HG.out _ HN.out).mono ?_
      rintro e w3 ⟨rfl,hb3⟩
      go_wp2_with fail
      refine hK.out _ _ ⟨(hb3.cell (p:=⟨wr.heap.size,0,none⟩) hgr).trans hHeld.1,(hb3.cell (p:=⟨wr.heap.size,1,none⟩) hgr).trans hHeld.2.1,(hb3.cell (p:=⟨wr.heap.size,2,none⟩) hgr).trans hHeld.2.2.1,(hb3.cell (p:=⟨b,o+j*3,none⟩) hgb).trans hHeld.2.2.2⟩ (fun hHeld=>?_)
      clear hK K
      (try simp only [Act.put,List.setIfInBounds_toArray,List.set_cons_zero,List.set_cons_succ])
      refine' wpAnyH_take (i:=2) (oi:={ dst:=some 14,op:=Op.unOp UnOp.not 4 (Operand.tmp 13),type:=4,pos:= "check.go:94",after:=#[{ on:=1,ground:=Ground.data }],guard:=none }) (v:=_) (fuel:=15) rfl (by kernel_rfl) (by kernel_rfl) (by kernel_rfl) (fun _ _ _ h=>h) (Or.inl ⟨by rfl,?hy2d⟩) (by assumption) ?rest2d
      case hy2d=>(intro w' hSw;(try dsimp only at hSw);go_simp;try with_reducible rfl)
      simp only [Act.put,List.setIfInBounds_toArray,List.set_cons_zero,List.set_cons_succ]
      refine' wpAnyH_take (i:=3) (oi:={ dst:=some 15,op:=Op.move (Operand.tmp 14),type:=4,pos:= "check.go:94",after:=#[{ on:=2,ground:=Ground.data },{ on:=1,ground:=Ground.chain }],guard:=none }) (v:=_) (fuel:=14) rfl (by kernel_rfl) (by kernel_rfl) (by kernel_rfl) (fun _ _ _ h=>h) (Or.inl ⟨by rfl,?hy3d⟩) (by assumption) ?rest3d
      case hy3d=>(intro w' hSw;(try dsimp only at hSw);go_simp;try with_reducible rfl)
      simp only [Act.put,List.setIfInBounds_toArray,List.set_cons_zero,List.set_cons_succ]
      refine' wpAnyH_take (i:=4) (oi:={ dst:=some 16,op:=Op.move (Operand.tmp 3),type:=3,pos:= "check.go:94",after:=#[{ on:=3,ground:=Ground.guard }],guard:=some (3,false) }) (v:=_) (fuel:=13) rfl (by kernel_rfl) (by kernel_rfl) (by kernel_rfl) (fun _ _ _ h=>h) (Or.inl ⟨by rfl,?hy4d⟩) (by assumption) ?rest4d
      case hy4d=>(intro w' hSw;(try dsimp only at hSw);go_simp;try with_reducible rfl)
      simp only [Act.put,List.setIfInBounds_toArray,List.set_cons_zero,List.set_cons_succ]
      refine' wpAnyH_take (i:=5) (oi:={ dst:=some 17,op:=Op.binOp BinOp.gtr 3 (Operand.tmp 16) (Operand.const (Value.int IntKind.i64 0)) 3,type:=4,pos:= "check.go:94",after:=#[{ on:=4,ground:=Ground.data },{ on:=3,ground:=Ground.guard }],guard:=some (3,false) }) (v:=_) (fuel:=12) rfl (by kernel_rfl) (by kernel_rfl) (by kernel_rfl) (fun _ _ _ h=>h) (Or.inl ⟨by rfl,?hy5d⟩) (by assumption) ?rest5d
      case hy5d=>(intro w' hSw;(try dsimp only at hSw);go_simp;try with_reducible rfl)
      simp only [Act.put,List.setIfInBounds_toArray,List.set_cons_zero,List.set_cons_succ]
      refine' wpAnyH_take (i:=6) (oi:={ dst:=some 18,op:=Op.move (Operand.tmp 17),type:=4,pos:= "check.go:94",after:=#[{ on:=5,ground:=Ground.data },{ on:=3,ground:=Ground.chain },{ on:=3,ground:=Ground.guard }],guard:=some (3,false) }) (v:=_) (fuel:=11) rfl (by kernel_rfl) (by kernel_rfl) (by kernel_rfl) (fun _ _ _ h=>h) (Or.inl ⟨by rfl,?hy6d⟩) (by assumption) ?rest6d
      case hy6d=>(intro w' hSw;(try dsimp only at hSw);go_simp;try with_reducible rfl)
      simp only [Act.put,List.setIfInBounds_toArray,List.set_cons_zero,List.set_cons_succ]
      refine' wpAnyH_take (i:=7) (oi:={ dst:=some 19,op:=Op.fieldAddr 58 (Operand.tmp 4) 0,type:=0,pos:= "check.go:94",after:=#[{ on:=6,ground:=Ground.guard }],guard:=some (6,true) }) (v:=_) (fuel:=10) rfl (by kernel_rfl) (by kernel_rfl) (by kernel_rfl) (fun _ _ _ h=>h) (Or.inl ⟨by rfl,?hy7d⟩) (by assumption) ?rest7d
      case hy7d=>(intro w' hSw;(try dsimp only at hSw);go_simp;try with_reducible rfl)
      simp only [Act.put,List.setIfInBounds_toArray,List.set_cons_zero,List.set_cons_succ]
      refine' wpAnyH_take (i:=8) (oi:={ dst:=some 20,op:=Op.load 9 (Operand.tmp 19),type:=9,pos:= "check.go:94",after:=#[{ on:=7,ground:=Ground.data },{ on:=6,ground:=Ground.guard }],guard:=some (6,true) }) (v:=_) (fuel:=9) rfl (by kernel_rfl) (by kernel_rfl) (by kernel_rfl) (fun _ _ _ h=>h) (Or.inl ⟨by rfl,?hy8d⟩) (by assumption) ?rest8d
      case hy8d=>(intro w' hSw;(try dsimp only at hSw);go_simp;try with_reducible rfl)
      simp only [Act.put,List.setIfInBounds_toArray,List.set_cons_zero,List.set_cons_succ]
      refine' wpAnyH_take (i:=9) (oi:={ dst:=some 21,op:=Op.move (Operand.tmp 0),type:=35,pos:= "check.go:94",after:=#[{ on:=6,ground:=Ground.guard }],guard:=some (6,true) }) (v:=_) (fuel:=8) rfl (by kernel_rfl) (by kernel_rfl) (by kernel_rfl) (fun _ _ _ h=>h) (Or.inl ⟨by rfl,?hy9d⟩) (by assumption) ?rest9d
      case hy9d=>(intro w' hSw;(try dsimp only at hSw);go_simp;try with_reducible rfl)
      simp only [Act.put,List.setIfInBounds_toArray,List.set_cons_zero,List.set_cons_succ]
      refine' wpAnyH_take (i:=10) (oi:={ dst:=some 22,op:=Op.move (Operand.tmp 3),type:=3,pos:= "check.go:94",after:=#[{ on:=6,ground:=Ground.guard }],guard:=some (6,true) }) (v:=_) (fuel:=7) rfl (by kernel_rfl) (by kernel_rfl) (by kernel_rfl) (fun _ _ _ h=>h) (Or.inl ⟨by rfl,?hy10d⟩) (by assumption) ?rest10d
      case hy10d=>(intro w' hSw;(try dsimp only at hSw);go_simp;try with_reducible rfl)
      simp only [Act.put,List.setIfInBounds_toArray,List.set_cons_zero,List.set_cons_succ]
      refine' wpAnyH_take (i:=11) (oi:={ dst:=some 23,op:=Op.binOp BinOp.sub 3 (Operand.tmp 22) (Operand.const (Value.int IntKind.i64 1)) 3,type:=3,pos:= "check.go:94",after:=#[{ on:=10,ground:=Ground.data },{ on:=6,ground:=Ground.guard }],guard:=some (6,true) }) (v:=_) (fuel:=6) rfl (by kernel_rfl) (by kernel_rfl) (by kernel_rfl) (fun _ _ _ h=>h) (Or.inl ⟨by rfl,?hy11d⟩) (by assumption) ?rest11d
      case hy11d=>(intro w' hSw;(try dsimp only at hSw);go_simp;try with_reducible rfl)
      simp only [Act.put,List.setIfInBounds_toArray,List.set_cons_zero,List.set_cons_succ]
      refine' wpAnyH_take (i:=12) (oi:={ dst:=some 24,op:=Op.indexAddr 35 (Operand.tmp 21) (Operand.tmp 23),type:=0,pos:= "check.go:94",after:=#[{ on:=9,ground:=Ground.data },{ on:=11,ground:=Ground.data },{ on:=6,ground:=Ground.guard }],guard:=some (6,true) }) (v:=_) (fuel:=5) rfl (by kernel_rfl) (by kernel_rfl) (by kernel_rfl) (fun _ _ _ h=>h) (Or.inl ⟨by rfl,?hy12d⟩) (by assumption) ?rest12d
      case hy12d=>(intro w' hSw;(try dsimp only at hSw);go_simp;try with_reducible rfl)
      simp only [Act.put,List.setIfInBounds_toArray,List.set_cons_zero,List.set_cons_succ]
      refine' wpAnyH_take (i:=13) (oi:={ dst:=some 25,op:=Op.fieldAddr 58 (Operand.tmp 24) 0,type:=0,pos:= "check.go:94",after:=#[{ on:=12,ground:=Ground.data },{ on:=6,ground:=Ground.guard }],guard:=some (6,true) }) (v:=_) (fuel:=4) rfl (by kernel_rfl) (by kernel_rfl) (by kernel_rfl) (fun _ _ _ h=>h) (Or.inl ⟨by rfl,?hy13d⟩) (by assumption) ?rest13d
      case hy13d=>(intro w' hSw;(try dsimp only at hSw);go_simp;try with_reducible rfl)
      simp only [Act.put,List.setIfInBounds_toArray,List.set_cons_zero,List.set_cons_succ]
      refine' wpAnyH_take (i:=14) (oi:={ dst:=some 26,op:=Op.load 9 (Operand.tmp 25),type:=9,pos:= "check.go:94",after:=#[{ on:=13,ground:=Ground.data },{ on:=6,ground:=Ground.guard }],guard:=some (6,true) }) (v:=_) (fuel:=3) rfl (by kernel_rfl) (by kernel_rfl) (by kernel_rfl) (fun _ _ _ h=>h) (Or.inl ⟨by rfl,?hy14d⟩) (by assumption) ?rest14d
      case hy14d=>(intro w' hSw;(try dsimp only at hSw);go_simp;try with_reducible rfl)
      simp only [Act.put,List.setIfInBounds_toArray,List.set_cons_zero,List.set_cons_succ]
      refine' wpAnyH_take (i:=15) (oi:={ dst:=some 27,op:=Op.binOp BinOp.leq 9 (Operand.tmp 20) (Operand.tmp 26) 9,type:=4,pos:= "check.go:94",after:=#[{ on:=8,ground:=Ground.data },{ on:=14,ground:=Ground.data },{ on:=6,ground:=Ground.guard }],guard:=some (6,true) }) (v:=_) (fuel:=2) rfl (by kernel_rfl) (by kernel_rfl) (by kernel_rfl) (fun _ _ _ h=>h) (Or.inl ⟨by rfl,?hy15d⟩) (by assumption) ?rest15d
      case hy15d=>(intro w' hSw;(try dsimp only at hSw);go_simp;try with_reducible rfl)
      simp only [Act.put,List.setIfInBounds_toArray,List.set_cons_zero,List.set_cons_succ]
      refine' wpAnyH_take (i:=16) (oi:={ dst:=some 28,op:=Op.pick (Operand.tmp 18) (Operand.tmp 27) (Operand.const (Value.bool false)),type:=4,pos:= "check.go:94",after:=#[{ on:=6,ground:=Ground.data },{ on:=15,ground:=Ground.data },{ on:=3,ground:=Ground.guard }],guard:=some (3,false) }) (v:=_) (fuel:=1) rfl (by kernel_rfl) (by kernel_rfl) (by kernel_rfl) (fun _ _ _ h=>h) (Or.inl ⟨by rfl,?hy16d⟩) (by assumption) ?rest16d
      case hy16d=>(intro w' hSw;(try dsimp only at hSw);go_simp;try with_reducible rfl)
      simp only [Act.put,List.setIfInBounds_toArray,List.set_cons_zero,List.set_cons_succ]
      refine' wpAnyH_take (i:=17) (oi:={ dst:=some 29,op:=Op.pick (Operand.tmp 15) (Operand.const (Value.bool true)) (Operand.tmp 28),type:=4,pos:= "check.go:94",after:=#[{ on:=3,ground:=Ground.data },{ on:=16,ground:=Ground.data }],guard:=none }) (v:=_) (fuel:=0) rfl (by kernel_rfl) (by kernel_rfl) (by kernel_rfl) (fun _ _ _ h=>h) (Or.inl ⟨by rfl,?hy17d⟩) (by assumption) ?rest17d
      case hy17d=>(intro w' hSw;(try dsimp only at hSw);go_simp;try with_reducible rfl)
      simp only [Act.put,List.setIfInBounds_toArray,List.set_cons_zero,List.set_cons_succ]
      refine wpAnyH_done (by kernel_rfl) ?_ _
      go_wp2
      go_ret
      exact ⟨jad HNO.out.symm,bx hbd hb3⟩
  ·have e:l.take k=l:=List.take_of_length_le (by omega)
   have hf':=hf.out
   rw [e] at hf'
   have HF:Hid (R=true):=by show _=_;rw [← HR.out];exact hf'
   clear hf'
   go_wp2
   go_ret
   exact ⟨jad HF.out.symm,hb⟩
open Go.RowKit
def je7 (ds:List DomD) (l:List TabD):Bool:=l.all jbd && jdc (·.name) l && l.all fun t=>(jdj ds t.name).isNone
theorem jhi {ds:List DomD} {l:List TabD}:je7 ds l=true↔(∀ t,t∈l→jbd t=true)∧jdc (·.name) l=true∧∀ t,t∈l→jdj ds t.name=none:=by
 unfold je7
 simp only [Bool.and_eq_true,List.all_eq_true,and_assoc,Option.isNone_iff_eq_none]
theorem ya6 {ds:List DomD} {l:List TabD} (k:Nat) (h:je7 ds l=true):je7 ds (l.take k)=true:=by
 rw [jhi] at h ⊢
 exact ⟨fun t ht=>h.1 t (List.mem_of_mem_take ht),jr2 k h.2.1,fun t ht=>h.2.2 t (List.mem_of_mem_take ht)⟩
theorem ya7 {ds:List DomD} {l:List TabD} {k:Nat} (h:je7 ds (l.take k)≠true):je7 ds l=false:=by
 cases hh:je7 ds l
 ·rfl
 ·exact absurd (ya6 k hh) h
theorem jw5 {ds:List DomD} {l:List TabD} {k:Nat} {t:TabD} (h:l[k]? = some t) (hd:jbd t=false):je7 ds l=false:=by
 cases hh:je7 ds l
 ·rfl
 ·rw [(jhi.1 hh).1 t (List.mem_of_getElem? h)] at hd;cases hd
theorem jnj {ds:List DomD} {l:List TabD} {k:Nat} {t:TabD} {d:DomD} (h:l[k]? = some t) (hd:jdj ds t.name=some d):je7 ds l=false:=by
 cases hh:je7 ds l
 ·rfl
 ·rw [(jhi.1 hh).2.2 t (List.mem_of_getElem? h)] at hd;cases hd
theorem yg6 {ds:List DomD} {l:List TabD} {j:Nat} {x y:TabD} (h:l[j+1]? = some x) (h':l[j]? = some y) (hle:leS x.name y.name=true):je7 ds l=false:=by
 refine ya7 (k:=j+1+1) fun hh=>?_
 have:=(jhi.1 hh).2.1
 rw [jqr h h',hle] at this
 simp at this
theorem ya5 {ds:List DomD} {l:List TabD} {t:TabD} (h:l[0]? = some t) (hd:jbd t=true) (hf:jdj ds t.name=none):je7 ds (l.take (0+1))=true:=by
 rw [jai h];simp [je7,hd,jdc,hf]
theorem ydp {ds:List DomD} {l:List TabD} {j:Nat} {x y:TabD} (h:l[j+1]? = some x) (h':l[j]? = some y) (hg:je7 ds (l.take (j+1))=true) (hd:jbd x=true) (hle:leS x.name y.name=false) (hf:jdj ds x.name=none):je7 ds (l.take (j+1+1))=true:=by
 rw [jhi] at hg ⊢
 refine ⟨?_,by rw [jqr h h',hg.2.1,hle];rfl,?_⟩
 ·intro t ht
  rw [jai h] at ht
  rcases List.mem_append.1 ht with ht | ht
  ·exact hg.1 t ht
  ·rw [List.mem_singleton] at ht;subst ht;exact hd
 ·intro t ht
  rw [jai h] at ht
  rcases List.mem_append.1 ht with ht | ht
  ·exact hg.2.2 t ht
  ·rw [List.mem_singleton] at ht;subst ht;exact hf
theorem jtw (b:BookD) (v:Value) (w:World) (h:jar w (Old w) b v) (hs:jgd b) :
  Calls Tryz.prog 52 #[v] w fun e w'=>e = .returned (.bool (jfg b))∧Below w.heap.size w w':=by
 have HSM:=Lib.hid hs.2
 have HBK:=Lib.hid h
 clear hs
 obtain ⟨doms,tabs⟩:=b
 obtain ⟨vd,vt,rfl,h1,h2⟩:=h
 simp only at h1 h2 HSM
 have H:=Lib.hid h2
 obtain ⟨A,c,rfl,hc1,hc2,-⟩:=h1
 obtain ⟨B,d,rfl,hd1,hd2,-⟩:=h2
 unfold maxLen at hc2 hd2
 have HR:Hid (je7 doms tabs=jfg ⟨doms,tabs⟩):=rfl
 generalize jfg ⟨doms,tabs⟩=R at *
 have hb0:=jaa w (.cells #[.slice A doms.length c,.slice B tabs.length d] 38)
 have C0:=Lib.hid (Cs.new w [.slice A doms.length c,.slice B tabs.length d] 38)
 change Hid (Cs (w.alloc (.cells #[.slice A doms.length c,.slice B tabs.length d] 38)) _ _) at C0
 generalize hw0:w.alloc (.cells #[.slice A doms.length c,.slice B tabs.length d] 38)=w0 at *
 have k1:=C0.out.at 1 rfl
 go_enter Tryz.func52,Tryz.ntmps52
 go_wp2
 go_loopw [10] (fun i wr=>∃ k:Nat,k≤tabs.length∧i = .int .i64 k∧Hid (je7 doms (tabs.take k)=true)∧Hid (Cs wr w.heap.size [.slice A doms.length c,.slice B tabs.length d])∧Below w.heap.size w wr) (fun i _=>tabs.length-(intOf i).toNat)
 case atStart=>exact ⟨0,Nat.zero_le _,rfl,rfl,C0,hb0⟩
 case round =>
  clear hw0 k1 hb0
  obtain ⟨k,hk,rfl,hf,CB,hb⟩:=hrel
  by_cases hlt:k<tabs.length
  ·obtain ⟨b,o,nm,pol,comp,ins,rules,vi,vr,rfl,hSb,hx,c1,c2,c3,c4,c5,hi,hr⟩:=(H.out.onOld hb).tab_at hlt
   have HT0:Hid (ja9 wr (Old wr) ⟨nm,pol,comp,ins,rules⟩ (.agg #[.string nm,.int .i64 pol,.bool comp,vi,vr])):=⟨_,_,rfl,hi,hr⟩
   obtain ⟨Ai,ci,rfl,-,-⟩:=hi.form
   obtain ⟨Ar,cr,rfl,-,-⟩:=hr.form
   clear hi hr
   have hbz:=jaa wr (.cells #[.string nm,.int .i64 pol,.bool comp,.slice Ai ins.length ci,.slice Ar rules.length cr] 56)
   have hb2:=bx hb hbz
   have CN:=Lib.hid (Cs.new wr [.string nm,.int .i64 pol,.bool comp,.slice Ai ins.length ci,.slice Ar rules.length cr] 56)
   change Hid (Cs (wr.alloc (.cells #[.string nm,.int .i64 pol,.bool comp,.slice Ai ins.length ci,.slice Ar rules.length cr] 56)) _ _) at CN
   have CBa:=Lib.hid (CB.out.next hbz)
   have q0:=CN.out.at 0 rfl
   have q1:=CN.out.at 1 rfl
   have q2:=CN.out.at 2 rfl
   have q3:=CN.out.at 3 rfl
   have q4:=CN.out.at 4 rfl
   have k0:=CBa.out.at 0 rfl
   have k1:=CBa.out.at 1 rfl
   have HN:=Lib.hid (HSM.out _ (List.mem_of_getElem? hx.out))
   generalize hwa:wr.alloc (.cells #[.string nm,.int .i64 pol,.bool comp,.slice Ai ins.length ci,.slice Ar rules.length cr] 56)=wa at *
   have HTA:=Lib.hid (HT0.out.onOld hbz)
   have hbd:Below w.heap.size w wa.drew:=hb2.drew
   have hbad:Below wa.heap.size wa wa.drew:=(Below.refl _ _).drew
   have HTD:=Lib.hid (HTA.out.onOld hbad)
   have HG:=Lib.hid (jeb ⟨nm,pol,comp,ins,rules⟩ _ _ HTD.out HN.out)
   have CBd:=Lib.hid (CBa.out.next hbad)
   have CNd:=Lib.hid (CN.out.next hbad)
   have hgr:wr.heap.size<wa.drew.heap.size:=CN.out.1
   have hgw:w.heap.size<wa.drew.heap.size:=CBa.out.1
   cases hg:jbd ⟨nm,pol,comp,ins,rules⟩
   ·rw [hg] at HG
    have HNO:Hid (R=false):=by show _=_;rw [← HR.out];exact jw5 hx.out hg
    clear hg
    go_wp2_with fail
    refine wp_region_held_drew (S:=(fun w':World=>w'.cell? ⟨wr.heap.size,0,none⟩=some (.string nm)∧w'.cell? ⟨wr.heap.size,1,none⟩=some (.int .i64 pol)∧w'.cell? ⟨wr.heap.size,2,none⟩=some (.bool comp)∧w'.cell? ⟨wr.heap.size,3,none⟩=some (.slice Ai ins.length ci)∧w'.cell? ⟨wr.heap.size,4,none⟩=some (.slice Ar rules.length cr)∧w'.cell? ⟨w.heap.size,0,none⟩=some (.slice A doms.length c)∧w'.cell? ⟨w.heap.size,1,none⟩=some (.slice (some ⟨b,o,none⟩) tabs.length d))) (by kernel_rfl) ⟨q0,q1,q2,q3,q4,k0,k1⟩ (fun hHeld=>?_)
    generalize wa.drew=wd at *
    refine' wpAnyH_take (i:=0) (oi:={ dst:=some 15,op:=Op.load 56 (Operand.tmp 4),type:=56,pos:= "check.go:105",after:=#[],guard:=none }) (v:=_) (fuel:=18) rfl (by kernel_rfl) (by kernel_rfl) (by kernel_rfl) (fun _ _ _ h=>h) (Or.inl ⟨by rfl,?hy0a⟩) (by assumption) ?rest0a
    case hy0a=>(intro w' hSw;(try dsimp only at hSw);go_simp;try with_reducible rfl)
    simp only [Act.put,List.setIfInBounds_toArray,List.set_cons_zero,List.set_cons_succ]
    refine wpAnyH_ready (rs:=[1]) (fuel:=17) (by kernel_rfl) (by simp) ?_
    refine AllReadyH.cons (o:={ dst:=some 16,op:=Op.call { callee:=Callee.value (Operand.func 83),args:=#[Operand.tmp 15],argTypes:=#[56] },type:=4,pos:= "check.go:105",after:=#[{ on:=0,ground:=Ground.data }],guard:=none }) rfl (fun K hK=>?_) AllReadyH.nil
    go_simp
    go_at_call 83
    refine HG.out.mono ?_
    rintro e w3 ⟨rfl,hb3⟩
    go_wp2_with fail
    refine hK.out _ _ ⟨(hb3.cell (p:=⟨wr.heap.size,0,none⟩) hgr).trans hHeld.1,(hb3.cell (p:=⟨wr.heap.size,1,none⟩) hgr).trans hHeld.2.1,(hb3.cell (p:=⟨wr.heap.size,2,none⟩) hgr).trans hHeld.2.2.1,(hb3.cell (p:=⟨wr.heap.size,3,none⟩) hgr).trans hHeld.2.2.2.1,(hb3.cell (p:=⟨wr.heap.size,4,none⟩) hgr).trans hHeld.2.2.2.2.1,(hb3.cell (p:=⟨w.heap.size,0,none⟩) hgw).trans hHeld.2.2.2.2.2.1,(hb3.cell (p:=⟨w.heap.size,1,none⟩) hgw).trans hHeld.2.2.2.2.2.2⟩ (fun hHeld=>?_)
    clear hK K
    (try simp only [Act.put,List.setIfInBounds_toArray,List.set_cons_zero,List.set_cons_succ])
    refine' wpAnyH_take (i:=2) (oi:={ dst:=some 17,op:=Op.unOp UnOp.not 4 (Operand.tmp 16),type:=4,pos:= "check.go:105",after:=#[{ on:=1,ground:=Ground.data }],guard:=none }) (v:=_) (fuel:=16) rfl (by kernel_rfl) (by kernel_rfl) (by kernel_rfl) (fun _ _ _ h=>h) (Or.inl ⟨by rfl,?hy2a⟩) (by assumption) ?rest2a
    case hy2a=>(intro w' hSw;(try dsimp only at hSw);go_simp;try with_reducible rfl)
    simp only [Act.put,List.setIfInBounds_toArray,List.set_cons_zero,List.set_cons_succ]
    refine' wpAnyH_take (i:=3) (oi:={ dst:=some 18,op:=Op.move (Operand.tmp 17),type:=4,pos:= "check.go:105",after:=#[{ on:=2,ground:=Ground.data },{ on:=1,ground:=Ground.chain }],guard:=none }) (v:=_) (fuel:=15) rfl (by kernel_rfl) (by kernel_rfl) (by kernel_rfl) (fun _ _ _ h=>h) (Or.inl ⟨by rfl,?hy3a⟩) (by assumption) ?rest3a
    case hy3a=>(intro w' hSw;(try dsimp only at hSw);go_simp;try with_reducible rfl)
    simp only [Act.put,List.setIfInBounds_toArray,List.set_cons_zero,List.set_cons_succ]
    refine' wpAnyH_take (i:=4) (oi:={ dst:=some 19,op:=Op.move (Operand.tmp 3),type:=3,pos:= "check.go:105",after:=#[{ on:=3,ground:=Ground.guard }],guard:=some (3,false) }) (v:=undef) (fuel:=14) rfl (by kernel_rfl) (by kernel_rfl) (by kernel_rfl) (fun _ _ _ h=>h) (Or.inr ⟨by rfl,rfl⟩) (by assumption) ?rest4a
    simp only [Act.put,List.setIfInBounds_toArray,List.set_cons_zero,List.set_cons_succ]
    refine' wpAnyH_take (i:=5) (oi:={ dst:=some 20,op:=Op.binOp BinOp.gtr 3 (Operand.tmp 19) (Operand.const (Value.int IntKind.i64 0)) 3,type:=4,pos:= "check.go:105",after:=#[{ on:=4,ground:=Ground.data },{ on:=3,ground:=Ground.guard }],guard:=some (3,false) }) (v:=undef) (fuel:=13) rfl (by kernel_rfl) (by kernel_rfl) (by kernel_rfl) (fun _ _ _ h=>h) (Or.inr ⟨by rfl,rfl⟩) (by assumption) ?rest5a
    simp only [Act.put,List.setIfInBounds_toArray,List.set_cons_zero,List.set_cons_succ]
    refine' wpAnyH_take (i:=6) (oi:={ dst:=some 21,op:=Op.move (Operand.tmp 20),type:=4,pos:= "check.go:105",after:=#[{ on:=5,ground:=Ground.data },{ on:=3,ground:=Ground.chain },{ on:=3,ground:=Ground.guard }],guard:=some (3,false) }) (v:=undef) (fuel:=12) rfl (by kernel_rfl) (by kernel_rfl) (by kernel_rfl) (fun _ _ _ h=>h) (Or.inr ⟨by rfl,rfl⟩) (by assumption) ?rest6a
    simp only [Act.put,List.setIfInBounds_toArray,List.set_cons_zero,List.set_cons_succ]
    refine' wpAnyH_take (i:=7) (oi:={ dst:=some 22,op:=Op.fieldAddr 56 (Operand.tmp 4) 0,type:=0,pos:= "check.go:105",after:=#[{ on:=6,ground:=Ground.guard }],guard:=some (6,true) }) (v:=undef) (fuel:=11) rfl (by kernel_rfl) (by kernel_rfl) (by kernel_rfl) (fun _ _ _ h=>h) (Or.inr ⟨by rfl,rfl⟩) (by assumption) ?rest7a
    simp only [Act.put,List.setIfInBounds_toArray,List.set_cons_zero,List.set_cons_succ]
    refine' wpAnyH_take (i:=8) (oi:={ dst:=some 23,op:=Op.load 9 (Operand.tmp 22),type:=9,pos:= "check.go:105",after:=#[{ on:=7,ground:=Ground.data },{ on:=6,ground:=Ground.guard }],guard:=some (6,true) }) (v:=undef) (fuel:=10) rfl (by kernel_rfl) (by kernel_rfl) (by kernel_rfl) (fun _ _ _ h=>h) (Or.inr ⟨by rfl,rfl⟩) (by assumption) ?rest8a
    simp only [Act.put,List.setIfInBounds_toArray,List.set_cons_zero,List.set_cons_succ]
    refine' wpAnyH_take (i:=9) (oi:={ dst:=some 24,op:=Op.fieldAddr 38 (Operand.tmp 1) 1,type:=0,pos:= "check.go:105",after:=#[{ on:=6,ground:=Ground.guard }],guard:=some (6,true) }) (v:=undef) (fuel:=9) rfl (by kernel_rfl) (by kernel_rfl) (by kernel_rfl) (fun _ _ _ h=>h) (Or.inr ⟨by rfl,rfl⟩) (by assumption) ?rest9a
    simp only [Act.put,List.setIfInBounds_toArray,List.set_cons_zero,List.set_cons_succ]
    refine' wpAnyH_take (i:=10) (oi:={ dst:=some 25,op:=Op.load 36 (Operand.tmp 24),type:=36,pos:= "check.go:105",after:=#[{ on:=9,ground:=Ground.data },{ on:=6,ground:=Ground.guard }],guard:=some (6,true) }) (v:=undef) (fuel:=8) rfl (by kernel_rfl) (by kernel_rfl) (by kernel_rfl) (fun _ _ _ h=>h) (Or.inr ⟨by rfl,rfl⟩) (by assumption) ?rest10a
    simp only [Act.put,List.setIfInBounds_toArray,List.set_cons_zero,List.set_cons_succ]
    refine' wpAnyH_take (i:=11) (oi:={ dst:=some 26,op:=Op.move (Operand.tmp 3),type:=3,pos:= "check.go:105",after:=#[{ on:=6,ground:=Ground.guard }],guard:=some (6,true) }) (v:=undef) (fuel:=7) rfl (by kernel_rfl) (by kernel_rfl) (by kernel_rfl) (fun _ _ _ h=>h) (Or.inr ⟨by rfl,rfl⟩) (by assumption) ?rest11a
    simp only [Act.put,List.setIfInBounds_toArray,List.set_cons_zero,List.set_cons_succ]
    refine' wpAnyH_take (i:=12) (oi:={ dst:=some 27,op:=Op.binOp BinOp.sub 3 (Operand.tmp 26) (Operand.const (Value.int IntKind.i64 1)) 3,type:=3,pos:= "check.go:105",after:=#[{ on:=11,ground:=Ground.data },{ on:=6,ground:=Ground.guard }],guard:=some (6,true) }) (v:=undef) (fuel:=6) rfl (by kernel_rfl) (by kernel_rfl) (by kernel_rfl) (fun _ _ _ h=>h) (Or.inr ⟨by rfl,rfl⟩) (by assumption) ?rest12a
    simp only [Act.put,List.setIfInBounds_toArray,List.set_cons_zero,List.set_cons_succ]
    refine' wpAnyH_take (i:=13) (oi:={ dst:=some 28,op:=Op.indexAddr 36 (Operand.tmp 25) (Operand.tmp 27),type:=0,pos:= "check.go:105",after:=#[{ on:=10,ground:=Ground.data },{ on:=12,ground:=Ground.data },{ on:=6,ground:=Ground.guard }],guard:=some (6,true) }) (v:=undef) (fuel:=5) rfl (by kernel_rfl) (by kernel_rfl) (by kernel_rfl) (fun _ _ _ h=>h) (Or.inr ⟨by rfl,rfl⟩) (by assumption) ?rest13a
    simp only [Act.put,List.setIfInBounds_toArray,List.set_cons_zero,List.set_cons_succ]
    refine' wpAnyH_take (i:=14) (oi:={ dst:=some 29,op:=Op.fieldAddr 56 (Operand.tmp 28) 0,type:=0,pos:= "check.go:105",after:=#[{ on:=13,ground:=Ground.data },{ on:=6,ground:=Ground.guard }],guard:=some (6,true) }) (v:=undef) (fuel:=4) rfl (by kernel_rfl) (by kernel_rfl) (by kernel_rfl) (fun _ _ _ h=>h) (Or.inr ⟨by rfl,rfl⟩) (by assumption) ?rest14a
    simp only [Act.put,List.setIfInBounds_toArray,List.set_cons_zero,List.set_cons_succ]
    refine' wpAnyH_take (i:=15) (oi:={ dst:=some 30,op:=Op.load 9 (Operand.tmp 29),type:=9,pos:= "check.go:105",after:=#[{ on:=14,ground:=Ground.data },{ on:=6,ground:=Ground.guard }],guard:=some (6,true) }) (v:=undef) (fuel:=3) rfl (by kernel_rfl) (by kernel_rfl) (by kernel_rfl) (fun _ _ _ h=>h) (Or.inr ⟨by rfl,rfl⟩) (by assumption) ?rest15a
    simp only [Act.put,List.setIfInBounds_toArray,List.set_cons_zero,List.set_cons_succ]
    refine' wpAnyH_take (i:=16) (oi:={ dst:=some 31,op:=Op.binOp BinOp.leq 9 (Operand.tmp 23) (Operand.tmp 30) 9,type:=4,pos:= "check.go:105",after:=#[{ on:=8,ground:=Ground.data },{ on:=15,ground:=Ground.data },{ on:=6,ground:=Ground.guard }],guard:=some (6,true) }) (v:=undef) (fuel:=2) rfl (by kernel_rfl) (by kernel_rfl) (by kernel_rfl) (fun _ _ _ h=>h) (Or.inr ⟨by rfl,rfl⟩) (by assumption) ?rest16a
    simp only [Act.put,List.setIfInBounds_toArray,List.set_cons_zero,List.set_cons_succ]
    refine' wpAnyH_take (i:=17) (oi:={ dst:=some 32,op:=Op.pick (Operand.tmp 21) (Operand.tmp 31) (Operand.const (Value.bool false)),type:=4,pos:= "check.go:105",after:=#[{ on:=6,ground:=Ground.data },{ on:=16,ground:=Ground.data },{ on:=3,ground:=Ground.guard }],guard:=some (3,false) }) (v:=undef) (fuel:=1) rfl (by kernel_rfl) (by kernel_rfl) (by kernel_rfl) (fun _ _ _ h=>h) (Or.inr ⟨by rfl,rfl⟩) (by assumption) ?rest17a
    simp only [Act.put,List.setIfInBounds_toArray,List.set_cons_zero,List.set_cons_succ]
    refine' wpAnyH_take (i:=18) (oi:={ dst:=some 33,op:=Op.pick (Operand.tmp 18) (Operand.const (Value.bool true)) (Operand.tmp 32),type:=4,pos:= "check.go:105",after:=#[{ on:=3,ground:=Ground.data },{ on:=17,ground:=Ground.data }],guard:=none }) (v:=_) (fuel:=0) rfl (by kernel_rfl) (by kernel_rfl) (by kernel_rfl) (fun _ _ _ h=>h) (Or.inl ⟨by rfl,?hy18a⟩) (by assumption) ?rest18a
    case hy18a=>(intro w' hSw;(try dsimp only at hSw);go_simp;try with_reducible rfl)
    simp only [Act.put,List.setIfInBounds_toArray,List.set_cons_zero,List.set_cons_succ]
    refine wpAnyH_done (by kernel_rfl) ?_ _
    go_wp2
    go_ret
    exact ⟨jad HNO.out.symm,bx hbd hb3⟩
   ·rw [hg] at HG
    have HGD:=Lib.hid hg
    clear hg
    by_cases hk0:k=0
    ·subst hk0
     rw [Nat.zero_mul,Nat.add_zero] at c1 c2 c3 c4 c5
     go_wp2_with fail
     refine wp_region_held_drew (S:=(fun w':World=>w'.cell? ⟨wr.heap.size,0,none⟩=some (.string nm)∧w'.cell? ⟨wr.heap.size,1,none⟩=some (.int .i64 pol)∧w'.cell? ⟨wr.heap.size,2,none⟩=some (.bool comp)∧w'.cell? ⟨wr.heap.size,3,none⟩=some (.slice Ai ins.length ci)∧w'.cell? ⟨wr.heap.size,4,none⟩=some (.slice Ar rules.length cr)∧w'.cell? ⟨w.heap.size,0,none⟩=some (.slice A doms.length c)∧w'.cell? ⟨w.heap.size,1,none⟩=some (.slice (some ⟨b,o,none⟩) tabs.length d))) (by kernel_rfl) ⟨q0,q1,q2,q3,q4,k0,k1⟩ (fun hHeld=>?_)
     generalize wa.drew=wd at *
     refine' wpAnyH_take (i:=0) (oi:={ dst:=some 15,op:=Op.load 56 (Operand.tmp 4),type:=56,pos:= "check.go:105",after:=#[],guard:=none }) (v:=_) (fuel:=18) rfl (by kernel_rfl) (by kernel_rfl) (by kernel_rfl) (fun _ _ _ h=>h) (Or.inl ⟨by rfl,?hy0b⟩) (by assumption) ?rest0b
     case hy0b=>(intro w' hSw;(try dsimp only at hSw);go_simp;try with_reducible rfl)
     simp only [Act.put,List.setIfInBounds_toArray,List.set_cons_zero,List.set_cons_succ]
     refine wpAnyH_ready (rs:=[1]) (fuel:=17) (by kernel_rfl) (by simp) ?_
     refine AllReadyH.cons (o:={ dst:=some 16,op:=Op.call { callee:=Callee.value (Operand.func 83),args:=#[Operand.tmp 15],argTypes:=#[56] },type:=4,pos:= "check.go:105",after:=#[{ on:=0,ground:=Ground.data }],guard:=none }) rfl (fun K hK=>?_) AllReadyH.nil
     go_simp
     go_at_call 83
     refine HG.out.mono ?_
     rintro e w3 ⟨rfl,hb3⟩
     go_wp2_with fail
     refine hK.out _ _ ⟨(hb3.cell (p:=⟨wr.heap.size,0,none⟩) hgr).trans hHeld.1,(hb3.cell (p:=⟨wr.heap.size,1,none⟩) hgr).trans hHeld.2.1,(hb3.cell (p:=⟨wr.heap.size,2,none⟩) hgr).trans hHeld.2.2.1,(hb3.cell (p:=⟨wr.heap.size,3,none⟩) hgr).trans hHeld.2.2.2.1,(hb3.cell (p:=⟨wr.heap.size,4,none⟩) hgr).trans hHeld.2.2.2.2.1,(hb3.cell (p:=⟨w.heap.size,0,none⟩) hgw).trans hHeld.2.2.2.2.2.1,(hb3.cell (p:=⟨w.heap.size,1,none⟩) hgw).trans hHeld.2.2.2.2.2.2⟩ (fun hHeld=>?_)
     clear hK K
     (try simp only [Act.put,List.setIfInBounds_toArray,List.set_cons_zero,List.set_cons_succ])
     refine' wpAnyH_take (i:=2) (oi:={ dst:=some 17,op:=Op.unOp UnOp.not 4 (Operand.tmp 16),type:=4,pos:= "check.go:105",after:=#[{ on:=1,ground:=Ground.data }],guard:=none }) (v:=_) (fuel:=16) rfl (by kernel_rfl) (by kernel_rfl) (by kernel_rfl) (fun _ _ _ h=>h) (Or.inl ⟨by rfl,?hy2b⟩) (by assumption) ?rest2b
     case hy2b=>(intro w' hSw;(try dsimp only at hSw);go_simp;try with_reducible rfl)
     simp only [Act.put,List.setIfInBounds_toArray,List.set_cons_zero,List.set_cons_succ]
     refine' wpAnyH_take (i:=3) (oi:={ dst:=some 18,op:=Op.move (Operand.tmp 17),type:=4,pos:= "check.go:105",after:=#[{ on:=2,ground:=Ground.data },{ on:=1,ground:=Ground.chain }],guard:=none }) (v:=_) (fuel:=15) rfl (by kernel_rfl) (by kernel_rfl) (by kernel_rfl) (fun _ _ _ h=>h) (Or.inl ⟨by rfl,?hy3b⟩) (by assumption) ?rest3b
     case hy3b=>(intro w' hSw;(try dsimp only at hSw);go_simp;try with_reducible rfl)
     simp only [Act.put,List.setIfInBounds_toArray,List.set_cons_zero,List.set_cons_succ]
     refine' wpAnyH_take (i:=4) (oi:={ dst:=some 19,op:=Op.move (Operand.tmp 3),type:=3,pos:= "check.go:105",after:=#[{ on:=3,ground:=Ground.guard }],guard:=some (3,false) }) (v:=_) (fuel:=14) rfl (by kernel_rfl) (by kernel_rfl) (by kernel_rfl) (fun _ _ _ h=>h) (Or.inl ⟨by rfl,?hy4b⟩) (by assumption) ?rest4b
     case hy4b=>(intro w' hSw;(try dsimp only at hSw);go_simp;try with_reducible rfl)
     simp only [Act.put,List.setIfInBounds_toArray,List.set_cons_zero,List.set_cons_succ]
     refine' wpAnyH_take (i:=5) (oi:={ dst:=some 20,op:=Op.binOp BinOp.gtr 3 (Operand.tmp 19) (Operand.const (Value.int IntKind.i64 0)) 3,type:=4,pos:= "check.go:105",after:=#[{ on:=4,ground:=Ground.data },{ on:=3,ground:=Ground.guard }],guard:=some (3,false) }) (v:=_) (fuel:=13) rfl (by kernel_rfl) (by kernel_rfl) (by kernel_rfl) (fun _ _ _ h=>h) (Or.inl ⟨by rfl,?hy5b⟩) (by assumption) ?rest5b
     case hy5b=>(intro w' hSw;(try dsimp only at hSw);go_simp;try with_reducible rfl)
     simp only [Act.put,List.setIfInBounds_toArray,List.set_cons_zero,List.set_cons_succ]
     refine' wpAnyH_take (i:=6) (oi:={ dst:=some 21,op:=Op.move (Operand.tmp 20),type:=4,pos:= "check.go:105",after:=#[{ on:=5,ground:=Ground.data },{ on:=3,ground:=Ground.chain },{ on:=3,ground:=Ground.guard }],guard:=some (3,false) }) (v:=_) (fuel:=12) rfl (by kernel_rfl) (by kernel_rfl) (by kernel_rfl) (fun _ _ _ h=>h) (Or.inl ⟨by rfl,?hy6b⟩) (by assumption) ?rest6b
     case hy6b=>(intro w' hSw;(try dsimp only at hSw);go_simp;try with_reducible rfl)
     simp only [Act.put,List.setIfInBounds_toArray,List.set_cons_zero,List.set_cons_succ]
     refine' wpAnyH_take (i:=7) (oi:={ dst:=some 22,op:=Op.fieldAddr 56 (Operand.tmp 4) 0,type:=0,pos:= "check.go:105",after:=#[{ on:=6,ground:=Ground.guard }],guard:=some (6,true) }) (v:=undef) (fuel:=11) rfl (by kernel_rfl) (by kernel_rfl) (by kernel_rfl) (fun _ _ _ h=>h) (Or.inr ⟨by rfl,rfl⟩) (by assumption) ?rest7b
     simp only [Act.put,List.setIfInBounds_toArray,List.set_cons_zero,List.set_cons_succ]
     refine' wpAnyH_take (i:=8) (oi:={ dst:=some 23,op:=Op.load 9 (Operand.tmp 22),type:=9,pos:= "check.go:105",after:=#[{ on:=7,ground:=Ground.data },{ on:=6,ground:=Ground.guard }],guard:=some (6,true) }) (v:=undef) (fuel:=10) rfl (by kernel_rfl) (by kernel_rfl) (by kernel_rfl) (fun _ _ _ h=>h) (Or.inr ⟨by rfl,rfl⟩) (by assumption) ?rest8b
     simp only [Act.put,List.setIfInBounds_toArray,List.set_cons_zero,List.set_cons_succ]
     refine' wpAnyH_take (i:=9) (oi:={ dst:=some 24,op:=Op.fieldAddr 38 (Operand.tmp 1) 1,type:=0,pos:= "check.go:105",after:=#[{ on:=6,ground:=Ground.guard }],guard:=some (6,true) }) (v:=undef) (fuel:=9) rfl (by kernel_rfl) (by kernel_rfl) (by kernel_rfl) (fun _ _ _ h=>h) (Or.inr ⟨by rfl,rfl⟩) (by assumption) ?rest9b
     simp only [Act.put,List.setIfInBounds_toArray,List.set_cons_zero,List.set_cons_succ]
     refine' wpAnyH_take (i:=10) (oi:={ dst:=some 25,op:=Op.load 36 (Operand.tmp 24),type:=36,pos:= "check.go:105",after:=#[{ on:=9,ground:=Ground.data },{ on:=6,ground:=Ground.guard }],guard:=some (6,true) }) (v:=undef) (fuel:=8) rfl (by kernel_rfl) (by kernel_rfl) (by kernel_rfl) (fun _ _ _ h=>h) (Or.inr ⟨by rfl,rfl⟩) (by assumption) ?rest10b
     simp only [Act.put,List.setIfInBounds_toArray,List.set_cons_zero,List.set_cons_succ]
     refine' wpAnyH_take (i:=11) (oi:={ dst:=some 26,op:=Op.move (Operand.tmp 3),type:=3,pos:= "check.go:105",after:=#[{ on:=6,ground:=Ground.guard }],guard:=some (6,true) }) (v:=undef) (fuel:=7) rfl (by kernel_rfl) (by kernel_rfl) (by kernel_rfl) (fun _ _ _ h=>h) (Or.inr ⟨by rfl,rfl⟩) (by assumption) ?rest11b
     simp only [Act.put,List.setIfInBounds_toArray,List.set_cons_zero,List.set_cons_succ]
     refine' wpAnyH_take (i:=12) (oi:={ dst:=some 27,op:=Op.binOp BinOp.sub 3 (Operand.tmp 26) (Operand.const (Value.int IntKind.i64 1)) 3,type:=3,pos:= "check.go:105",after:=#[{ on:=11,ground:=Ground.data },{ on:=6,ground:=Ground.guard }],guard:=some (6,true) }) (v:=undef) (fuel:=6) rfl (by kernel_rfl) (by kernel_rfl) (by kernel_rfl) (fun _ _ _ h=>h) (Or.inr ⟨by rfl,rfl⟩) (by assumption) ?rest12b
     simp only [Act.put,List.setIfInBounds_toArray,List.set_cons_zero,List.set_cons_succ]
     refine' wpAnyH_take (i:=13) (oi:={ dst:=some 28,op:=Op.indexAddr 36 (Operand.tmp 25) (Operand.tmp 27),type:=0,pos:= "check.go:105",after:=#[{ on:=10,ground:=Ground.data },{ on:=12,ground:=Ground.data },{ on:=6,ground:=Ground.guard }],guard:=some (6,true) }) (v:=undef) (fuel:=5) rfl (by kernel_rfl) (by kernel_rfl) (by kernel_rfl) (fun _ _ _ h=>h) (Or.inr ⟨by rfl,rfl⟩) (by assumption) ?rest13b
     simp only [Act.put,List.setIfInBounds_toArray,List.set_cons_zero,List.set_cons_succ]
     refine' wpAnyH_take (i:=14) (oi:={ dst:=some 29,op:=Op.fieldAddr 56 (Operand.tmp 28) 0,type:=0,pos:= "check.go:105",after:=#[{ on:=13,ground:=Ground.data },{ on:=6,ground:=Ground.guard }],guard:=some (6,true) }) (v:=undef) (fuel:=4) rfl (by kernel_rfl) (by kernel_rfl) (by kernel_rfl) (fun _ _ _ h=>h) (Or.inr ⟨by rfl,rfl⟩) (by assumption) ?rest14b
     simp only [Act.put,List.setIfInBounds_toArray,List.set_cons_zero,List.set_cons_succ]
     refine' wpAnyH_take (i:=15) (oi:={ dst:=some 30,op:=Op.load 9 (Operand.tmp 29),type:=9,pos:= "check.go:105",after:=#[{ on:=14,ground:=Ground.data },{ on:=6,ground:=Ground.guard }],guard:=some (6,true) }) (v:=undef) (fuel:=3) rfl (by kernel_rfl) (by kernel_rfl) (by kernel_rfl) (fun _ _ _ h=>h) (Or.inr ⟨by rfl,rfl⟩) (by assumption) ?rest15b
     simp only [Act.put,List.setIfInBounds_toArray,List.set_cons_zero,List.set_cons_succ]
     refine' wpAnyH_take (i:=16) (oi:={ dst:=some 31,op:=Op.binOp BinOp.leq 9 (Operand.tmp 23) (Operand.tmp 30) 9,type:=4,pos:= "check.go:105",after:=#[{ on:=8,ground:=Ground.data },{ on:=15,ground:=Ground.data },{ on:=6,ground:=Ground.guard }],guard:=some (6,true) }) (v:=undef) (fuel:=2) rfl (by kernel_rfl) (by kernel_rfl) (by kernel_rfl) (fun _ _ _ h=>h) (Or.inr ⟨by rfl,rfl⟩) (by assumption) ?rest16b
     simp only [Act.put,List.setIfInBounds_toArray,List.set_cons_zero,List.set_cons_succ]
     refine' wpAnyH_take (i:=17) (oi:={ dst:=some 32,op:=Op.pick (Operand.tmp 21) (Operand.tmp 31) (Operand.const (Value.bool false)),type:=4,pos:= "check.go:105",after:=#[{ on:=6,ground:=Ground.data },{ on:=16,ground:=Ground.data },{ on:=3,ground:=Ground.guard }],guard:=some (3,false) }) (v:=_) (fuel:=1) rfl (by kernel_rfl) (by kernel_rfl) (by kernel_rfl) (fun _ _ _ h=>h) (Or.inl ⟨by rfl,?hy17b⟩) (by assumption) ?rest17b
     case hy17b=>(intro w' hSw;(try dsimp only at hSw);go_simp;try with_reducible rfl)
     simp only [Act.put,List.setIfInBounds_toArray,List.set_cons_zero,List.set_cons_succ]
     refine' wpAnyH_take (i:=18) (oi:={ dst:=some 33,op:=Op.pick (Operand.tmp 18) (Operand.const (Value.bool true)) (Operand.tmp 32),type:=4,pos:= "check.go:105",after:=#[{ on:=3,ground:=Ground.data },{ on:=17,ground:=Ground.data }],guard:=none }) (v:=_) (fuel:=0) rfl (by kernel_rfl) (by kernel_rfl) (by kernel_rfl) (fun _ _ _ h=>h) (Or.inl ⟨by rfl,?hy18b⟩) (by assumption) ?rest18b
     case hy18b=>(intro w' hSw;(try dsimp only at hSw);go_simp;try with_reducible rfl)
     simp only [Act.put,List.setIfInBounds_toArray,List.set_cons_zero,List.set_cons_succ]
     refine wpAnyH_done (by kernel_rfl) ?_ _
     have hb03:=bx hbd hb3
     have HB3:=Lib.hid (HBK.out.onOld hb03)
     have CN3:=Lib.hid (CNd.out.next hb3)
     have CB3:=Lib.hid (CBd.out.next hb3)
     have r0:=CN3.out.at 0 rfl
     have s0:=CB3.out.at 0 rfl
     have s1:=CB3.out.at 1 rfl
     clear hHeld
     go_wp2_with fail
     refine (jhw ⟨doms,tabs⟩ nm _ _ HB3.out).mono ?_
     rintro e w4 ⟨rfl,hb4⟩
     have hb04:=bx hb03 hb4
     have CB4:=Lib.hid (CB3.out.next hb4)
     simp only
     cases hfd:jdj doms nm with
     | none =>
      have HM:Hid (je7 doms (tabs.take (0+1))=true):=ya5 hx.out HGD.out hfd
      clear hfd
      simp only [Option.getD_none,Option.isSome_none,domV,jnc]
      have hbz4:=jaa w4 (.cells #[.string ⟨#[]⟩,.int .i64 0,.int .i64 0] 58)
      go_wp2
      exact ⟨⟨0+1,by omega,by go_num,HM,CB4.out.next hbz4,bx hb04 hbz4⟩,by simp [intOf];omega⟩
     | some dd =>
      obtain ⟨dn,dl,dh⟩:=dd
      have HNO:Hid (R=false):=by show _=_;rw [← HR.out];exact jnj hx.out hfd
      clear hfd
      simp only [Option.getD_some,Option.isSome_some,domV]
      have hbz4:=jaa w4 (.cells #[.string dn,.int .i64 dl,.int .i64 dh] 58)
      go_wp2
      go_ret
      exact ⟨jad HNO.out.symm,bx hb04 hbz4⟩
    ·obtain ⟨j,rfl⟩:∃ j,k=j+1:=⟨k-1,by omega⟩
     obtain ⟨b',o',pn,ppol,pcomp,pins,prules,pvi,pvr,e',hSb',hx',p0',-⟩:=H.out.tab_at (k:=j) (by omega)
     obtain ⟨rfl,rfl⟩:=jc5 e'
     have hSb2:b<w.heap.size:=hSb'
     have hgb:b<wa.drew.heap.size:=Nat.lt_of_lt_of_le hSb2 hb2.size
     have p0:=(hb2.cell (p:=⟨b,o+j*5,none⟩) hSb2).trans p0'
     have hj2:IntKind.i64.wrap (j:Int)=(j:Int):=IntWalk.i64_in _ (by omega)
     have hj0:(0:Int)≤j:=by omega
     have hj1:(j:Int)<tabs.length:=by omega
     have hj3:(0:Int)<(j:Int)+1:=by omega
     clear p0' e'
     cases hle:leS nm pn
     ·have HLE:=Lib.hid hle
      have hle':(Op.bytesLess nm.toList pn.toList || nm.toList == pn.toList)=false:=hle
      clear hle
      go_wp2_with fail
      refine wp_region_held_drew (S:=(fun w':World=>w'.cell? ⟨wr.heap.size,0,none⟩=some (.string nm)∧w'.cell? ⟨wr.heap.size,1,none⟩=some (.int .i64 pol)∧w'.cell? ⟨wr.heap.size,2,none⟩=some (.bool comp)∧w'.cell? ⟨wr.heap.size,3,none⟩=some (.slice Ai ins.length ci)∧w'.cell? ⟨wr.heap.size,4,none⟩=some (.slice Ar rules.length cr)∧w'.cell? ⟨w.heap.size,0,none⟩=some (.slice A doms.length c)∧w'.cell? ⟨w.heap.size,1,none⟩=some (.slice (some ⟨b,o,none⟩) tabs.length d)∧w'.cell? ⟨b,o+j*5,none⟩=some (.string pn))) (by kernel_rfl) ⟨q0,q1,q2,q3,q4,k0,k1,p0⟩ (fun hHeld=>?_)
      generalize wa.drew=wd at *
      refine' wpAnyH_take (i:=0) (oi:={ dst:=some 15,op:=Op.load 56 (Operand.tmp 4),type:=56,pos:= "check.go:105",after:=#[],guard:=none }) (v:=_) (fuel:=18) rfl (by kernel_rfl) (by kernel_rfl) (by kernel_rfl) (fun _ _ _ h=>h) (Or.inl ⟨by rfl,?hy0c⟩) (by assumption) ?rest0c
      case hy0c=>(intro w' hSw;(try dsimp only at hSw);go_simp;try with_reducible rfl)
      simp only [Act.put,List.setIfInBounds_toArray,List.set_cons_zero,List.set_cons_succ]
      refine wpAnyH_ready (rs:=[1]) (fuel:=17) (by kernel_rfl) (by simp) ?_
      refine AllReadyH.cons (o:={ dst:=some 16,op:=Op.call { callee:=Callee.value (Operand.func 83),args:=#[Operand.tmp 15],argTypes:=#[56] },type:=4,pos:= "check.go:105",after:=#[{ on:=0,ground:=Ground.data }],guard:=none }) rfl (fun K hK=>?_) AllReadyH.nil
      go_simp
      go_at_call 83
      refine HG.out.mono ?_
      rintro e w3 ⟨rfl,hb3⟩
      go_wp2_with fail
      refine hK.out _ _ ⟨(hb3.cell (p:=⟨wr.heap.size,0,none⟩) hgr).trans hHeld.1,(hb3.cell (p:=⟨wr.heap.size,1,none⟩) hgr).trans hHeld.2.1,(hb3.cell (p:=⟨wr.heap.size,2,none⟩) hgr).trans hHeld.2.2.1,(hb3.cell (p:=⟨wr.heap.size,3,none⟩) hgr).trans hHeld.2.2.2.1,(hb3.cell (p:=⟨wr.heap.size,4,none⟩) hgr).trans hHeld.2.2.2.2.1,(hb3.cell (p:=⟨w.heap.size,0,none⟩) hgw).trans hHeld.2.2.2.2.2.1,(hb3.cell (p:=⟨w.heap.size,1,none⟩) hgw).trans hHeld.2.2.2.2.2.2.1,(hb3.cell (p:=⟨b,o+j*5,none⟩) hgb).trans hHeld.2.2.2.2.2.2.2⟩ (fun hHeld=>?_)
      clear hK K
      (try simp only [Act.put,List.setIfInBounds_toArray,List.set_cons_zero,List.set_cons_succ])
      refine' wpAnyH_take (i:=2) (oi:={ dst:=some 17,op:=Op.unOp UnOp.not 4 (Operand.tmp 16),type:=4,pos:= "check.go:105",after:=#[{ on:=1,ground:=Ground.data }],guard:=none }) (v:=_) (fuel:=16) rfl (by kernel_rfl) (by kernel_rfl) (by kernel_rfl) (fun _ _ _ h=>h) (Or.inl ⟨by rfl,?hy2c⟩) (by assumption) ?rest2c
      case hy2c=>(intro w' hSw;(try dsimp only at hSw);go_simp;try with_reducible rfl)
      simp only [Act.put,List.setIfInBounds_toArray,List.set_cons_zero,List.set_cons_succ]
      refine' wpAnyH_take (i:=3) (oi:={ dst:=some 18,op:=Op.move (Operand.tmp 17),type:=4,pos:= "check.go:105",after:=#[{ on:=2,ground:=Ground.data },{ on:=1,ground:=Ground.chain }],guard:=none }) (v:=_) (fuel:=15) rfl (by kernel_rfl) (by kernel_rfl) (by kernel_rfl) (fun _ _ _ h=>h) (Or.inl ⟨by rfl,?hy3c⟩) (by assumption) ?rest3c
      case hy3c=>(intro w' hSw;(try dsimp only at hSw);go_simp;try with_reducible rfl)
      simp only [Act.put,List.setIfInBounds_toArray,List.set_cons_zero,List.set_cons_succ]
      refine' wpAnyH_take (i:=4) (oi:={ dst:=some 19,op:=Op.move (Operand.tmp 3),type:=3,pos:= "check.go:105",after:=#[{ on:=3,ground:=Ground.guard }],guard:=some (3,false) }) (v:=_) (fuel:=14) rfl (by kernel_rfl) (by kernel_rfl) (by kernel_rfl) (fun _ _ _ h=>h) (Or.inl ⟨by rfl,?hy4c⟩) (by assumption) ?rest4c
      case hy4c=>(intro w' hSw;(try dsimp only at hSw);go_simp;try with_reducible rfl)
      simp only [Act.put,List.setIfInBounds_toArray,List.set_cons_zero,List.set_cons_succ]
      refine' wpAnyH_take (i:=5) (oi:={ dst:=some 20,op:=Op.binOp BinOp.gtr 3 (Operand.tmp 19) (Operand.const (Value.int IntKind.i64 0)) 3,type:=4,pos:= "check.go:105",after:=#[{ on:=4,ground:=Ground.data },{ on:=3,ground:=Ground.guard }],guard:=some (3,false) }) (v:=_) (fuel:=13) rfl (by kernel_rfl) (by kernel_rfl) (by kernel_rfl) (fun _ _ _ h=>h) (Or.inl ⟨by rfl,?hy5c⟩) (by assumption) ?rest5c
      case hy5c=>(intro w' hSw;(try dsimp only at hSw);go_simp;try with_reducible rfl)
      simp only [Act.put,List.setIfInBounds_toArray,List.set_cons_zero,List.set_cons_succ]
      refine' wpAnyH_take (i:=6) (oi:={ dst:=some 21,op:=Op.move (Operand.tmp 20),type:=4,pos:= "check.go:105",after:=#[{ on:=5,ground:=Ground.data },{ on:=3,ground:=Ground.chain },{ on:=3,ground:=Ground.guard }],guard:=some (3,false) }) (v:=_) (fuel:=12) rfl (by kernel_rfl) (by kernel_rfl) (by kernel_rfl) (fun _ _ _ h=>h) (Or.inl ⟨by rfl,?hy6c⟩) (by assumption) ?rest6c
      case hy6c=>(intro w' hSw;(try dsimp only at hSw);go_simp;try with_reducible rfl)
      simp only [Act.put,List.setIfInBounds_toArray,List.set_cons_zero,List.set_cons_succ]
      refine' wpAnyH_take (i:=7) (oi:={ dst:=some 22,op:=Op.fieldAddr 56 (Operand.tmp 4) 0,type:=0,pos:= "check.go:105",after:=#[{ on:=6,ground:=Ground.guard }],guard:=some (6,true) }) (v:=_) (fuel:=11) rfl (by kernel_rfl) (by kernel_rfl) (by kernel_rfl) (fun _ _ _ h=>h) (Or.inl ⟨by rfl,?hy7c⟩) (by assumption) ?rest7c
      case hy7c=>(intro w' hSw;(try dsimp only at hSw);go_simp;try with_reducible rfl)
      simp only [Act.put,List.setIfInBounds_toArray,List.set_cons_zero,List.set_cons_succ]
      refine' wpAnyH_take (i:=8) (oi:={ dst:=some 23,op:=Op.load 9 (Operand.tmp 22),type:=9,pos:= "check.go:105",after:=#[{ on:=7,ground:=Ground.data },{ on:=6,ground:=Ground.guard }],guard:=some (6,true) }) (v:=_) (fuel:=10) rfl (by kernel_rfl) (by kernel_rfl) (by kernel_rfl) (fun _ _ _ h=>h) (Or.inl ⟨by rfl,?hy8c⟩) (by assumption) ?rest8c
      case hy8c=>(intro w' hSw;(try dsimp only at hSw);go_simp;try with_reducible rfl)
      simp only [Act.put,List.setIfInBounds_toArray,List.set_cons_zero,List.set_cons_succ]
      refine' wpAnyH_take (i:=9) (oi:={ dst:=some 24,op:=Op.fieldAddr 38 (Operand.tmp 1) 1,type:=0,pos:= "check.go:105",after:=#[{ on:=6,ground:=Ground.guard }],guard:=some (6,true) }) (v:=_) (fuel:=9) rfl (by kernel_rfl) (by kernel_rfl) (by kernel_rfl) (fun _ _ _ h=>h) (Or.inl ⟨by rfl,?hy9c⟩) (by assumption) ?rest9c
      case hy9c=>(intro w' hSw;(try dsimp only at hSw);go_simp;try with_reducible rfl)
      simp only [Act.put,List.setIfInBounds_toArray,List.set_cons_zero,List.set_cons_succ]
      refine' wpAnyH_take (i:=10) (oi:={ dst:=some 25,op:=Op.load 36 (Operand.tmp 24),type:=36,pos:= "check.go:105",after:=#[{ on:=9,ground:=Ground.data },{ on:=6,ground:=Ground.guard }],guard:=some (6,true) }) (v:=_) (fuel:=8) rfl (by kernel_rfl) (by kernel_rfl) (by kernel_rfl) (fun _ _ _ h=>h) (Or.inl ⟨by rfl,?hy10c⟩) (by assumption) ?rest10c
      case hy10c=>(intro w' hSw;(try dsimp only at hSw);go_simp;try with_reducible rfl)
      simp only [Act.put,List.setIfInBounds_toArray,List.set_cons_zero,List.set_cons_succ]
      refine' wpAnyH_take (i:=11) (oi:={ dst:=some 26,op:=Op.move (Operand.tmp 3),type:=3,pos:= "check.go:105",after:=#[{ on:=6,ground:=Ground.guard }],guard:=some (6,true) }) (v:=_) (fuel:=7) rfl (by kernel_rfl) (by kernel_rfl) (by kernel_rfl) (fun _ _ _ h=>h) (Or.inl ⟨by rfl,?hy11c⟩) (by assumption) ?rest11c
      case hy11c=>(intro w' hSw;(try dsimp only at hSw);go_simp;try with_reducible rfl)
      simp only [Act.put,List.setIfInBounds_toArray,List.set_cons_zero,List.set_cons_succ]
      refine' wpAnyH_take (i:=12) (oi:={ dst:=some 27,op:=Op.binOp BinOp.sub 3 (Operand.tmp 26) (Operand.const (Value.int IntKind.i64 1)) 3,type:=3,pos:= "check.go:105",after:=#[{ on:=11,ground:=Ground.data },{ on:=6,ground:=Ground.guard }],guard:=some (6,true) }) (v:=_) (fuel:=6) rfl (by kernel_rfl) (by kernel_rfl) (by kernel_rfl) (fun _ _ _ h=>h) (Or.inl ⟨by rfl,?hy12c⟩) (by assumption) ?rest12c
      case hy12c=>(intro w' hSw;(try dsimp only at hSw);go_simp;try with_reducible rfl)
      simp only [Act.put,List.setIfInBounds_toArray,List.set_cons_zero,List.set_cons_succ]
      refine' wpAnyH_take (i:=13) (oi:={ dst:=some 28,op:=Op.indexAddr 36 (Operand.tmp 25) (Operand.tmp 27),type:=0,pos:= "check.go:105",after:=#[{ on:=10,ground:=Ground.data },{ on:=12,ground:=Ground.data },{ on:=6,ground:=Ground.guard }],guard:=some (6,true) }) (v:=_) (fuel:=5) rfl (by kernel_rfl) (by kernel_rfl) (by kernel_rfl) (fun _ _ _ h=>h) (Or.inl ⟨by rfl,?hy13c⟩) (by assumption) ?rest13c
      case hy13c=>(intro w' hSw;(try dsimp only at hSw);go_simp;try with_reducible rfl)
      simp only [Act.put,List.setIfInBounds_toArray,List.set_cons_zero,List.set_cons_succ]
      refine' wpAnyH_take (i:=14) (oi:={ dst:=some 29,op:=Op.fieldAddr 56 (Operand.tmp 28) 0,type:=0,pos:= "check.go:105",after:=#[{ on:=13,ground:=Ground.data },{ on:=6,ground:=Ground.guard }],guard:=some (6,true) }) (v:=_) (fuel:=4) rfl (by kernel_rfl) (by kernel_rfl) (by kernel_rfl) (fun _ _ _ h=>h) (Or.inl ⟨by rfl,?hy14c⟩) (by assumption) ?rest14c
      case hy14c=>(intro w' hSw;(try dsimp only at hSw);go_simp;try with_reducible rfl)
      simp only [Act.put,List.setIfInBounds_toArray,List.set_cons_zero,List.set_cons_succ]
      refine' wpAnyH_take (i:=15) (oi:={ dst:=some 30,op:=Op.load 9 (Operand.tmp 29),type:=9,pos:= "check.go:105",after:=#[{ on:=14,ground:=Ground.data },{ on:=6,ground:=Ground.guard }],guard:=some (6,true) }) (v:=_) (fuel:=3) rfl (by kernel_rfl) (by kernel_rfl) (by kernel_rfl) (fun _ _ _ h=>h) (Or.inl ⟨by rfl,?hy15c⟩) (by assumption) ?rest15c
      case hy15c=>(intro w' hSw;(try dsimp only at hSw);go_simp;try with_reducible rfl)
      simp only [Act.put,List.setIfInBounds_toArray,List.set_cons_zero,List.set_cons_succ]
      refine' wpAnyH_take (i:=16) (oi:={ dst:=some 31,op:=Op.binOp BinOp.leq 9 (Operand.tmp 23) (Operand.tmp 30) 9,type:=4,pos:= "check.go:105",after:=#[{ on:=8,ground:=Ground.data },{ on:=15,ground:=Ground.data },{ on:=6,ground:=Ground.guard }],guard:=some (6,true) }) (v:=_) (fuel:=2) rfl (by kernel_rfl) (by kernel_rfl) (by kernel_rfl) (fun _ _ _ h=>h) (Or.inl ⟨by rfl,?hy16c⟩) (by assumption) ?rest16c
      case hy16c=>(intro w' hSw;(try dsimp only at hSw);go_simp;try with_reducible rfl)
      simp only [Act.put,List.setIfInBounds_toArray,List.set_cons_zero,List.set_cons_succ]
      refine' wpAnyH_take (i:=17) (oi:={ dst:=some 32,op:=Op.pick (Operand.tmp 21) (Operand.tmp 31) (Operand.const (Value.bool false)),type:=4,pos:= "check.go:105",after:=#[{ on:=6,ground:=Ground.data },{ on:=16,ground:=Ground.data },{ on:=3,ground:=Ground.guard }],guard:=some (3,false) }) (v:=_) (fuel:=1) rfl (by kernel_rfl) (by kernel_rfl) (by kernel_rfl) (fun _ _ _ h=>h) (Or.inl ⟨by rfl,?hy17c⟩) (by assumption) ?rest17c
      case hy17c=>(intro w' hSw;(try dsimp only at hSw);go_simp;try with_reducible rfl)
      simp only [Act.put,List.setIfInBounds_toArray,List.set_cons_zero,List.set_cons_succ]
      refine' wpAnyH_take (i:=18) (oi:={ dst:=some 33,op:=Op.pick (Operand.tmp 18) (Operand.const (Value.bool true)) (Operand.tmp 32),type:=4,pos:= "check.go:105",after:=#[{ on:=3,ground:=Ground.data },{ on:=17,ground:=Ground.data }],guard:=none }) (v:=_) (fuel:=0) rfl (by kernel_rfl) (by kernel_rfl) (by kernel_rfl) (fun _ _ _ h=>h) (Or.inl ⟨by rfl,?hy18c⟩) (by assumption) ?rest18c
      case hy18c=>(intro w' hSw;(try dsimp only at hSw);go_simp;try with_reducible rfl)
      simp only [Act.put,List.setIfInBounds_toArray,List.set_cons_zero,List.set_cons_succ]
      refine wpAnyH_done (by kernel_rfl) ?_ _
      have hb03:=bx hbd hb3
      have HB3:=Lib.hid (HBK.out.onOld hb03)
      have CN3:=Lib.hid (CNd.out.next hb3)
      have CB3:=Lib.hid (CBd.out.next hb3)
      have r0:=CN3.out.at 0 rfl
      have s0:=CB3.out.at 0 rfl
      have s1:=CB3.out.at 1 rfl
      clear hHeld
      go_wp2_with fail
      refine (jhw ⟨doms,tabs⟩ nm _ _ HB3.out).mono ?_
      rintro e w4 ⟨rfl,hb4⟩
      have hb04:=bx hb03 hb4
      have CB4:=Lib.hid (CB3.out.next hb4)
      simp only
      cases hfd:jdj doms nm with
      | none =>
       have HM:Hid (je7 doms (tabs.take (j+1+1))=true):=ydp hx.out hx'.out hf.out HGD.out HLE.out hfd
       clear hfd
       simp only [Option.getD_none,Option.isSome_none,domV,jnc]
       have hbz4:=jaa w4 (.cells #[.string ⟨#[]⟩,.int .i64 0,.int .i64 0] 58)
       go_wp2
       exact ⟨⟨j+1+1,by omega,by go_num,HM,CB4.out.next hbz4,bx hb04 hbz4⟩,by simp [intOf];omega⟩
      | some dd =>
       obtain ⟨dn,dl,dh⟩:=dd
       have HNO:Hid (R=false):=by show _=_;rw [← HR.out];exact jnj hx.out hfd
       clear hfd
       simp only [Option.getD_some,Option.isSome_some,domV]
       have hbz4:=jaa w4 (.cells #[.string dn,.int .i64 dl,.int .i64 dh] 58)
       go_wp2
       go_ret
       exact ⟨jad HNO.out.symm,bx hb04 hbz4⟩
     ·have HNO:Hid (R=false):=by show _=_;rw [← HR.out];exact yg6 hx.out hx'.out hle
      have hle':(Op.bytesLess nm.toList pn.toList || nm.toList == pn.toList)=true:=hle
      clear hle
      go_wp2_with fail
      refine wp_region_held_drew (S:=(fun w':World=>w'.cell? ⟨wr.heap.size,0,none⟩=some (.string nm)∧w'.cell? ⟨wr.heap.size,1,none⟩=some (.int .i64 pol)∧w'.cell? ⟨wr.heap.size,2,none⟩=some (.bool comp)∧w'.cell? ⟨wr.heap.size,3,none⟩=some (.slice Ai ins.length ci)∧w'.cell? ⟨wr.heap.size,4,none⟩=some (.slice Ar rules.length cr)∧w'.cell? ⟨w.heap.size,0,none⟩=some (.slice A doms.length c)∧w'.cell? ⟨w.heap.size,1,none⟩=some (.slice (some ⟨b,o,none⟩) tabs.length d)∧w'.cell? ⟨b,o+j*5,none⟩=some (.string pn))) (by kernel_rfl) ⟨q0,q1,q2,q3,q4,k0,k1,p0⟩ (fun hHeld=>?_)
      generalize wa.drew=wd at *
      refine' wpAnyH_take (i:=0) (oi:={ dst:=some 15,op:=Op.load 56 (Operand.tmp 4),type:=56,pos:= "check.go:105",after:=#[],guard:=none }) (v:=_) (fuel:=18) rfl (by kernel_rfl) (by kernel_rfl) (by kernel_rfl) (fun _ _ _ h=>h) (Or.inl ⟨by rfl,?hy0d⟩) (by assumption) ?rest0d
      case hy0d=>(intro w' hSw;(try dsimp only at hSw);go_simp;try with_reducible rfl)
      simp only [Act.put,List.setIfInBounds_toArray,List.set_cons_zero,List.set_cons_succ]
      refine wpAnyH_ready (rs:=[1]) (fuel:=17) (by kernel_rfl) (by simp) ?_
      refine AllReadyH.cons (o:={ dst:=some 16,op:=Op.call { callee:=Callee.value (Operand.func 83),args:=#[Operand.tmp 15],argTypes:=#[56] },type:=4,pos:= "check.go:105",after:=#[{ on:=0,ground:=Ground.data }],guard:=none }) rfl (fun K hK=>?_) AllReadyH.nil
      go_simp
      go_at_call 83
      refine HG.out.mono ?_
      rintro e w3 ⟨rfl,hb3⟩
      go_wp2_with fail
      refine hK.out _ _ ⟨(hb3.cell (p:=⟨wr.heap.size,0,none⟩) hgr).trans hHeld.1,(hb3.cell (p:=⟨wr.heap.size,1,none⟩) hgr).trans hHeld.2.1,(hb3.cell (p:=⟨wr.heap.size,2,none⟩) hgr).trans hHeld.2.2.1,(hb3.cell (p:=⟨wr.heap.size,3,none⟩) hgr).trans hHeld.2.2.2.1,(hb3.cell (p:=⟨wr.heap.size,4,none⟩) hgr).trans hHeld.2.2.2.2.1,(hb3.cell (p:=⟨w.heap.size,0,none⟩) hgw).trans hHeld.2.2.2.2.2.1,(hb3.cell (p:=⟨w.heap.size,1,none⟩) hgw).trans hHeld.2.2.2.2.2.2.1,(hb3.cell (p:=⟨b,o+j*5,none⟩) hgb).trans hHeld.2.2.2.2.2.2.2⟩ (fun hHeld=>?_)
      clear hK K
      (try simp only [Act.put,List.setIfInBounds_toArray,List.set_cons_zero,List.set_cons_succ])
      refine' wpAnyH_take (i:=2) (oi:={ dst:=some 17,op:=Op.unOp UnOp.not 4 (Operand.tmp 16),type:=4,pos:= "check.go:105",after:=#[{ on:=1,ground:=Ground.data }],guard:=none }) (v:=_) (fuel:=16) rfl (by kernel_rfl) (by kernel_rfl) (by kernel_rfl) (fun _ _ _ h=>h) (Or.inl ⟨by rfl,?hy2d⟩) (by assumption) ?rest2d
      case hy2d=>(intro w' hSw;(try dsimp only at hSw);go_simp;try with_reducible rfl)
      simp only [Act.put,List.setIfInBounds_toArray,List.set_cons_zero,List.set_cons_succ]
      refine' wpAnyH_take (i:=3) (oi:={ dst:=some 18,op:=Op.move (Operand.tmp 17),type:=4,pos:= "check.go:105",after:=#[{ on:=2,ground:=Ground.data },{ on:=1,ground:=Ground.chain }],guard:=none }) (v:=_) (fuel:=15) rfl (by kernel_rfl) (by kernel_rfl) (by kernel_rfl) (fun _ _ _ h=>h) (Or.inl ⟨by rfl,?hy3d⟩) (by assumption) ?rest3d
      case hy3d=>(intro w' hSw;(try dsimp only at hSw);go_simp;try with_reducible rfl)
      simp only [Act.put,List.setIfInBounds_toArray,List.set_cons_zero,List.set_cons_succ]
      refine' wpAnyH_take (i:=4) (oi:={ dst:=some 19,op:=Op.move (Operand.tmp 3),type:=3,pos:= "check.go:105",after:=#[{ on:=3,ground:=Ground.guard }],guard:=some (3,false) }) (v:=_) (fuel:=14) rfl (by kernel_rfl) (by kernel_rfl) (by kernel_rfl) (fun _ _ _ h=>h) (Or.inl ⟨by rfl,?hy4d⟩) (by assumption) ?rest4d
      case hy4d=>(intro w' hSw;(try dsimp only at hSw);go_simp;try with_reducible rfl)
      simp only [Act.put,List.setIfInBounds_toArray,List.set_cons_zero,List.set_cons_succ]
      refine' wpAnyH_take (i:=5) (oi:={ dst:=some 20,op:=Op.binOp BinOp.gtr 3 (Operand.tmp 19) (Operand.const (Value.int IntKind.i64 0)) 3,type:=4,pos:= "check.go:105",after:=#[{ on:=4,ground:=Ground.data },{ on:=3,ground:=Ground.guard }],guard:=some (3,false) }) (v:=_) (fuel:=13) rfl (by kernel_rfl) (by kernel_rfl) (by kernel_rfl) (fun _ _ _ h=>h) (Or.inl ⟨by rfl,?hy5d⟩) (by assumption) ?rest5d
      case hy5d=>(intro w' hSw;(try dsimp only at hSw);go_simp;try with_reducible rfl)
      simp only [Act.put,List.setIfInBounds_toArray,List.set_cons_zero,List.set_cons_succ]
      refine' wpAnyH_take (i:=6) (oi:={ dst:=some 21,op:=Op.move (Operand.tmp 20),type:=4,pos:= "check.go:105",after:=#[{ on:=5,ground:=Ground.data },{ on:=3,ground:=Ground.chain },{ on:=3,ground:=Ground.guard }],guard:=some (3,false) }) (v:=_) (fuel:=12) rfl (by kernel_rfl) (by kernel_rfl) (by kernel_rfl) (fun _ _ _ h=>h) (Or.inl ⟨by rfl,?hy6d⟩) (by assumption) ?rest6d
      case hy6d=>(intro w' hSw;(try dsimp only at hSw);go_simp;try with_reducible rfl)
      simp only [Act.put,List.setIfInBounds_toArray,List.set_cons_zero,List.set_cons_succ]
      refine' wpAnyH_take (i:=7) (oi:={ dst:=some 22,op:=Op.fieldAddr 56 (Operand.tmp 4) 0,type:=0,pos:= "check.go:105",after:=#[{ on:=6,ground:=Ground.guard }],guard:=some (6,true) }) (v:=_) (fuel:=11) rfl (by kernel_rfl) (by kernel_rfl) (by kernel_rfl) (fun _ _ _ h=>h) (Or.inl ⟨by rfl,?hy7d⟩) (by assumption) ?rest7d
      case hy7d=>(intro w' hSw;(try dsimp only at hSw);go_simp;try with_reducible rfl)
      simp only [Act.put,List.setIfInBounds_toArray,List.set_cons_zero,List.set_cons_succ]
      refine' wpAnyH_take (i:=8) (oi:={ dst:=some 23,op:=Op.load 9 (Operand.tmp 22),type:=9,pos:= "check.go:105",after:=#[{ on:=7,ground:=Ground.data },{ on:=6,ground:=Ground.guard }],guard:=some (6,true) }) (v:=_) (fuel:=10) rfl (by kernel_rfl) (by kernel_rfl) (by kernel_rfl) (fun _ _ _ h=>h) (Or.inl ⟨by rfl,?hy8d⟩) (by assumption) ?rest8d
      case hy8d=>(intro w' hSw;(try dsimp only at hSw);go_simp;try with_reducible rfl)
      simp only [Act.put,List.setIfInBounds_toArray,List.set_cons_zero,List.set_cons_succ]
      refine' wpAnyH_take (i:=9) (oi:={ dst:=some 24,op:=Op.fieldAddr 38 (Operand.tmp 1) 1,type:=0,pos:= "check.go:105",after:=#[{ on:=6,ground:=Ground.guard }],guard:=some (6,true) }) (v:=_) (fuel:=9) rfl (by kernel_rfl) (by kernel_rfl) (by kernel_rfl) (fun _ _ _ h=>h) (Or.inl ⟨by rfl,?hy9d⟩) (by assumption) ?rest9d
      case hy9d=>(intro w' hSw;(try dsimp only at hSw);go_simp;try with_reducible rfl)
      simp only [Act.put,List.setIfInBounds_toArray,List.set_cons_zero,List.set_cons_succ]
      refine' wpAnyH_take (i:=10) (oi:={ dst:=some 25,op:=Op.load 36 (Operand.tmp 24),type:=36,pos:= "check.go:105",after:=#[{ on:=9,ground:=Ground.data },{ on:=6,ground:=Ground.guard }],guard:=some (6,true) }) (v:=_) (fuel:=8) rfl (by kernel_rfl) (by kernel_rfl) (by kernel_rfl) (fun _ _ _ h=>h) (Or.inl ⟨by rfl,?hy10d⟩) (by assumption) ?rest10d
      case hy10d=>(intro w' hSw;(try dsimp only at hSw);go_simp;try with_reducible rfl)
      simp only [Act.put,List.setIfInBounds_toArray,List.set_cons_zero,List.set_cons_succ]
      refine' wpAnyH_take (i:=11) (oi:={ dst:=some 26,op:=Op.move (Operand.tmp 3),type:=3,pos:= "check.go:105",after:=#[{ on:=6,ground:=Ground.guard }],guard:=some (6,true) }) (v:=_) (fuel:=7) rfl (by kernel_rfl) (by kernel_rfl) (by kernel_rfl) (fun _ _ _ h=>h) (Or.inl ⟨by rfl,?hy11d⟩) (by assumption) ?rest11d
      case hy11d=>(intro w' hSw;(try dsimp only at hSw);go_simp;try with_reducible rfl)
      simp only [Act.put,List.setIfInBounds_toArray,List.set_cons_zero,List.set_cons_succ]
      refine' wpAnyH_take (i:=12) (oi:={ dst:=some 27,op:=Op.binOp BinOp.sub 3 (Operand.tmp 26) (Operand.const (Value.int IntKind.i64 1)) 3,type:=3,pos:= "check.go:105",after:=#[{ on:=11,ground:=Ground.data },{ on:=6,ground:=Ground.guard }],guard:=some (6,true) }) (v:=_) (fuel:=6) rfl (by kernel_rfl) (by kernel_rfl) (by kernel_rfl) (fun _ _ _ h=>h) (Or.inl ⟨by rfl,?hy12d⟩) (by assumption) ?rest12d
      case hy12d=>(intro w' hSw;(try dsimp only at hSw);go_simp;try with_reducible rfl)
      simp only [Act.put,List.setIfInBounds_toArray,List.set_cons_zero,List.set_cons_succ]
      refine' wpAnyH_take (i:=13) (oi:={ dst:=some 28,op:=Op.indexAddr 36 (Operand.tmp 25) (Operand.tmp 27),type:=0,pos:= "check.go:105",after:=#[{ on:=10,ground:=Ground.data },{ on:=12,ground:=Ground.data },{ on:=6,ground:=Ground.guard }],guard:=some (6,true) }) (v:=_) (fuel:=5) rfl (by kernel_rfl) (by kernel_rfl) (by kernel_rfl) (fun _ _ _ h=>h) (Or.inl ⟨by rfl,?hy13d⟩) (by assumption) ?rest13d
      case hy13d=>(intro w' hSw;(try dsimp only at hSw);go_simp;try with_reducible rfl)
      simp only [Act.put,List.setIfInBounds_toArray,List.set_cons_zero,List.set_cons_succ]
      refine' wpAnyH_take (i:=14) (oi:={ dst:=some 29,op:=Op.fieldAddr 56 (Operand.tmp 28) 0,type:=0,pos:= "check.go:105",after:=#[{ on:=13,ground:=Ground.data },{ on:=6,ground:=Ground.guard }],guard:=some (6,true) }) (v:=_) (fuel:=4) rfl (by kernel_rfl) (by kernel_rfl) (by kernel_rfl) (fun _ _ _ h=>h) (Or.inl ⟨by rfl,?hy14d⟩) (by assumption) ?rest14d
      case hy14d=>(intro w' hSw;(try dsimp only at hSw);go_simp;try with_reducible rfl)
      simp only [Act.put,List.setIfInBounds_toArray,List.set_cons_zero,List.set_cons_succ]
      refine' wpAnyH_take (i:=15) (oi:={ dst:=some 30,op:=Op.load 9 (Operand.tmp 29),type:=9,pos:= "check.go:105",after:=#[{ on:=14,ground:=Ground.data },{ on:=6,ground:=Ground.guard }],guard:=some (6,true) }) (v:=_) (fuel:=3) rfl (by kernel_rfl) (by kernel_rfl) (by kernel_rfl) (fun _ _ _ h=>h) (Or.inl ⟨by rfl,?hy15d⟩) (by assumption) ?rest15d
      case hy15d=>(intro w' hSw;(try dsimp only at hSw);go_simp;try with_reducible rfl)
      simp only [Act.put,List.setIfInBounds_toArray,List.set_cons_zero,List.set_cons_succ]
      refine' wpAnyH_take (i:=16) (oi:={ dst:=some 31,op:=Op.binOp BinOp.leq 9 (Operand.tmp 23) (Operand.tmp 30) 9,type:=4,pos:= "check.go:105",after:=#[{ on:=8,ground:=Ground.data },{ on:=15,ground:=Ground.data },{ on:=6,ground:=Ground.guard }],guard:=some (6,true) }) (v:=_) (fuel:=2) rfl (by kernel_rfl) (by kernel_rfl) (by kernel_rfl) (fun _ _ _ h=>h) (Or.inl ⟨by rfl,?hy16d⟩) (by assumption) ?rest16d
      case hy16d=>(intro w' hSw;(try dsimp only at hSw);go_simp;try with_reducible rfl)
      simp only [Act.put,List.setIfInBounds_toArray,List.set_cons_zero,List.set_cons_succ]
      refine' wpAnyH_take (i:=17) (oi:={ dst:=some 32,op:=Op.pick (Operand.tmp 21) (Operand.tmp 31) (Operand.const (Value.bool false)),type:=4,pos:= "check.go:105",after:=#[{ on:=6,ground:=Ground.data },{ on:=16,ground:=Ground.data },{ on:=3,ground:=Ground.guard }],guard:=some (3,false) }) (v:=_) (fuel:=1) rfl (by kernel_rfl) (by kernel_rfl) (by kernel_rfl) (fun _ _ _ h=>h) (Or.inl ⟨by rfl,?hy17d⟩) (by assumption) ?rest17d
      case hy17d=>(intro w' hSw;(try dsimp only at hSw);go_simp;try with_reducible rfl)
      simp only [Act.put,List.setIfInBounds_toArray,List.set_cons_zero,List.set_cons_succ]
      refine' wpAnyH_take (i:=18) (oi:={ dst:=some 33,op:=Op.pick (Operand.tmp 18) (Operand.const (Value.bool true)) (Operand.tmp 32),type:=4,pos:= "check.go:105",after:=#[{ on:=3,ground:=Ground.data },{ on:=17,ground:=Ground.data }],guard:=none }) (v:=_) (fuel:=0) rfl (by kernel_rfl) (by kernel_rfl) (by kernel_rfl) (fun _ _ _ h=>h) (Or.inl ⟨by rfl,?hy18d⟩) (by assumption) ?rest18d
      case hy18d=>(intro w' hSw;(try dsimp only at hSw);go_simp;try with_reducible rfl)
      simp only [Act.put,List.setIfInBounds_toArray,List.set_cons_zero,List.set_cons_succ]
      refine wpAnyH_done (by kernel_rfl) ?_ _
      go_wp2
      go_ret
      exact ⟨jad HNO.out.symm,bx hbd hb3⟩
  ·have e:tabs.take k=tabs:=List.take_of_length_le (by omega)
   have hf':=hf.out
   rw [e] at hf'
   have HF:Hid (R=true):=by show _=_;rw [← HR.out];exact hf'
   clear hf'
   go_wp2
   go_ret
   exact ⟨jad HF.out.symm,hb⟩
end Go.Proofs.YthmlndmlnlfhnaaGreatDoor
