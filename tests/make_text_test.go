package tests

import (
	"testing"

	"loop.example/tealang/impl"
)

// Each way from a schema to another, by itself.
func TestMakeWays(t *testing.T) {
	for _, c := range []struct{ from, to, words string }{
		// The two have one text.
		{"{}", "{}", "emit old"},
		{"{a:num}", "{a:num}", "emit old"},
		{"{a:?num,b:[{c:??text}],end:flag}", "{a:?num,b:[{c:??text}],end:flag}", "emit old"},
		{"{a:num}", "{a:num,b:?num}", "emit form a get a old b none num end"},
		{"{a:?num}", "{a:?num,b:?num}", "emit form a get a old b none num end"},
		{"{a:[num]}", "{a:[num],b:?num}", "emit form a get a old b none num end"},
		{"{a:{c:num}}", "{a:{c:num},b:?num}", "emit form a get a old b none num end"},
		// From a maybe to a maybe.
		{"{a:?{}}", "{a:?{b:?num}}", "emit form a case x0 get a old some form b none num end none {b:?num} end"},
		{"{a:?[num]}", "{a:?[?num]}", "emit form a case x0 get a old some map x1 x0 some x1 none [?num] end"},
		{"{a:?num}", "{a:??num}", "emit form a case x0 get a old some some x0 none ?num end"},
		// To a maybe from none.
		{"{a:num}", "{a:?num}", "emit form a some get a old end"},
		{"{a:text}", "{a:?text}", "emit form a some get a old end"},
		{"{a:flag}", "{a:?flag}", "emit form a some get a old end"},
		{"{a:[num]}", "{a:?[num]}", "emit form a some get a old end"},
		{"{a:{b:num}}", "{a:?{b:num}}", "emit form a some get a old end"},
		{"{a:[num]}", "{a:?[?num]}", "emit form a some map x0 get a old some x0 end"},
		{"{a:{}}", "{a:?{b:?num}}", "emit form a some form b none num end end"},
		// To a list.
		{"{a:[num]}", "{a:[?num]}", "emit form a map x0 get a old some x0 end"},
		{"{a:[?num]}", "{a:[??num]}", "emit form a map x0 get a old case x1 x0 some some x1 none ?num end"},
		{"{a:[{}]}", "{a:[{b:?num}]}", "emit form a map x0 get a old form b none num end end"},
		// To a form, with names that from has and has not.
		{"{}", "{a:?num}", "emit form a none num end"},
		{"{}", "{a:?num,b:?[text],c:??{d:flag},e:?{}}", "emit form a none num b none [text] c none ?{d:flag} e none {} end"},
		{"{b:num}", "{a:?num,b:num,c:?num}", "emit form a none num b get b old c none num end"},
		{"{a:num,c:num}", "{a:num,b:?num,c:num}", "emit form a get a old b none num c get c old end"},
		{"{a:num,aa:text}", "{a:?num,a0:?flag,aa:text,ab:?text}", "emit form a some get a old a0 none flag aa get aa old ab none text end"},
		{"{a:{b:num}}", "{a:{b:?num}}", "emit form a form b some get b get a old end end"},
		{"{a:{b:{c:num}}}", "{a:{b:{c:?num}}}", "emit form a form b form c some get c get b get a old end end end"},
		{"{a:{b:num},c:num}", "{a:{b:num,z:?num},c:num}", "emit form a form b get b get a old z none num end c get c old end"},
	} {
		mustMake(t, c.from, c.to, c.words)
		mustMakeAsSaid(t, kindOf(c.from), kindOf(c.to))
	}
}

// Maybe within maybe: each of to's is made by a `case`, as long as from has one, and by a `some` behind that.
func TestMakeMaybeWithinMaybe(t *testing.T) {
	for _, c := range []struct{ from, to, words string }{
		{"num", "??num", "some some get a old"},
		{"num", "???num", "some some some get a old"},
		{"num", "????num", "some some some some get a old"},
		{"?num", "???num", "case x0 get a old some some some x0 none ??num"},
		{"??num", "???num", "case x0 get a old some case x1 x0 some some x1 none ?num none ??num"},
		{"??num", "????num", "case x0 get a old some case x1 x0 some some some x1 none ??num none ???num"},
		{"???num", "????num", "case x0 get a old some case x1 x0 some case x2 x1 some some x2 none ?num none ??num none ???num"},
		{"?[num]", "??[num]", "case x0 get a old some some x0 none ?[num]"},
		{"[num]", "??[?num]", "some some map x0 get a old some x0"},
		{"?[num]", "??[?num]", "case x0 get a old some some map x1 x0 some x1 none ?[?num]"},
		{"{}", "??{b:?num}", "some some form b none num end"},
		{"?{}", "??{b:?num}", "case x0 get a old some some form b none num end none ?{b:?num}"},
		{"??{}", "??{b:?num}", "case x0 get a old some case x1 x0 some form b none num end none {b:?num} none ?{b:?num}"},
	} {
		mustMake(t, "{a:"+c.from+"}", "{a:"+c.to+"}", "emit form a "+c.words+" end")
	}
	for _, c := range [][2]string{{"??num", "?num"}, {"?num", "num"}, {"???num", "??num"}, {"??num", "num"}, {"?num", "?text"}, {"?num", "??text"}} {
		mustMake(t, "{a:"+c[0]+"}", "{a:"+c[1]+"}", "")
	}
}

// The names that are bound: d counts those around V alone, so that it is what it was ahead beside a list or a maybe, and one more within.
func TestMakeNamesBound(t *testing.T) {
	for _, c := range []struct{ from, to, words string }{
		// A list within a list.
		{"{a:[[num]]}", "{a:[[?num]]}", "emit form a map x0 get a old map x1 x0 some x1 end"},
		{"{a:[[[num]]]}", "{a:[[[?num]]]}", "emit form a map x0 get a old map x1 x0 map x2 x1 some x2 end"},
		{"{a:[[num]]}", "{a:[?[num]]}", "emit form a map x0 get a old some x0 end"},
		{"{a:[[num]]}", "{a:[?[?num]]}", "emit form a map x0 get a old some map x1 x0 some x1 end"},
		{"{a:[[num]]}", "{a:?[[?num]]}", "emit form a some map x0 get a old map x1 x0 some x1 end"},
		// A maybe within a list, and a list within a maybe.
		{"{a:[?num]}", "{a:[??num]}", "emit form a map x0 get a old case x1 x0 some some x1 none ?num end"},
		{"{a:[?[num]]}", "{a:[?[?num]]}", "emit form a map x0 get a old case x1 x0 some map x2 x1 some x2 none [?num] end"},
		{"{a:?[?num]}", "{a:?[??num]}", "emit form a case x0 get a old some map x1 x0 case x2 x1 some some x2 none ?num none [??num] end"},
		{"{a:??[num]}", "{a:??[?num]}", "emit form a case x0 get a old some case x1 x0 some map x2 x1 some x2 none [?num] none ?[?num] end"},
		// One beside another.
		{"{a:[num],b:[num]}", "{a:[?num],b:[?num]}", "emit form a map x0 get a old some x0 b map x0 get b old some x0 end"},
		{"{a:?[num],b:[num],c:[[num]]}", "{a:?[?num],b:[?num],c:[[?num]]}", "emit form a case x0 get a old some map x1 x0 some x1 none [?num] b map x0 get b old some x0 c map x0 get c old map x1 x0 some x1 end"},
		{"{a:{b:[num]},c:{d:[num]}}", "{a:{b:[?num]},c:{d:[?num]}}", "emit form a form b map x0 get b get a old some x0 end c form d map x0 get d get c old some x0 end end"},
		// Forms within, and forms beside each other there.
		{"{a:[{b:[num],c:[num]}]}", "{a:[{b:[?num],c:[?num]}]}", "emit form a map x0 get a old form b map x1 get b x0 some x1 c map x1 get c x0 some x1 end end"},
		{"{a:[{b:num,c:{d:num}}],z:num}", "{a:[{b:?num,c:{d:num,e:?num}}],z:?num}", "emit form a map x0 get a old form b some get b x0 c form d get d get c x0 e none num end end z some get z old end"},
		{"{a:?{b:?num},d:?{}}", "{a:?{b:??num},d:?{e:?num}}", "emit form a case x0 get a old some form b case x1 get b x0 some some x1 none ?num end none {b:??num} d case x0 get d old some form e none num end none {e:?num} end"},
		{"{a:[{b:?num,c:[num]}],d:[num]}", "{a:[{b:??num,c:[?num]}],d:[?num]}", "emit form a map x0 get a old form b case x1 get b x0 some some x1 none ?num c map x1 get c x0 some x1 end d map x0 get d old some x0 end"},
		// Names of fields that are those that are bound.
		{"{old:num,x0:[num],x1:[[num]]}", "{old:?num,x0:[?num],x1:[[?num]]}", "emit form old some get old old x0 map x0 get x0 old some x0 x1 map x0 get x1 old map x1 x0 some x1 end"},
		{"{x0:[{x0:[num],x1:num}]}", "{x0:[{x0:[?num],x1:num}]}", "emit form x0 map x0 get x0 old form x0 map x1 get x0 x0 some x1 x1 get x1 x0 end end"},
		// And those that are words of ops.
		{"{emit:num,form:[num],none:text}", "{emit:?num,form:[?num],none:text,some:?num}", "emit form emit some get emit old form map x0 get form old some x0 none get none old some none num end"},
	} {
		mustMake(t, c.from, c.to, c.words)
		mustMakeAsSaid(t, kindOf(c.from), kindOf(c.to))
	}
}

// The name `end` is none of a form that is made, but may stand in one that stays, in a `get`, and in a schema's text.
func TestMakeEnd(t *testing.T) {
	for _, c := range []struct{ from, to, words string }{
		{"{end:num}", "{end:num}", "emit old"},
		{"{}", "{end:?num}", ""},
		{"{end:num}", "{end:?num}", ""},
		{"{end:num}", "{a:?num,end:num}", ""},
		{"{end:num}", "{end:num,z:?num}", ""},
		{"{a:{end:num}}", "{a:{end:num},b:?num}", "emit form a get a old b none num end"},
		{"{a:{end:num}}", "{a:{end:?num}}", ""},
		{"{a:{end:num}}", "{a:?{end:num}}", "emit form a some get a old end"},
		{"{a:{end:num}}", "{a:?{end:?num}}", ""},
		{"{a:[{end:num}]}", "{a:[?{end:num}]}", "emit form a map x0 get a old some x0 end"},
		{"{a:[{end:num}]}", "{a:[{end:?num}]}", ""},
		{"{a:?{}}", "{a:?{end:?num}}", ""},
		{"{}", "{a:?{end:?num}}", "emit form a none {end:?num} end"},
		{"{a:?{end:num}}", "{a:??{end:num}}", "emit form a case x0 get a old some some x0 none ?{end:num} end"},
		{"{ends:num}", "{en:?num,ends:num}", "emit form en none num ends get ends old end"},
	} {
		mustMake(t, c.from, c.to, c.words)
	}
}

// What is made of all small schemas is what the document says, and of all others nothing is; likewise of forms that have them at one name.
func TestMakeSmall(t *testing.T) {
	made, not := 0, 0
	look := func(from, to impl.Kind) {
		switch {
		case fitsInto(from, to) && mustMakeAsSaid(t, from, to):
			made++
		case makes(t, from, to) != "":
			t.Errorf("%s to %s is made", impl.KindWrite(from), impl.KindWrite(to))
		default:
			not++
		}
	}
	all := smallKinds(4)
	for _, from := range all {
		for _, to := range all {
			look(from, to)
			if fitsInto(from, to) {
				look(formKind("q", from), formKind("q", to))
				look(formKind("q z", listKind(from), from), formKind("p q z", maybeKind(from), listKind(to), maybeKind(to)))
			}
		}
	}
	if made < 1500 || not < 100000 {
		t.Errorf("too few: %d made, %d not", made, not)
	}
}
