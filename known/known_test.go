package known_test

import (
	"fmt"
	"math"
	"slices"
	"strings"
	"testing"

	"polyglot/api"
	"polyglot/bag"
	"polyglot/known"
)

// allowed are the bytes that a build may have, written out.
const allowed = "abcdefghijklmnopqrstuvwxyz0123456789.-"

func field(tag int, data string) api.Field {
	return api.Field{Tag: tag, Data: []byte(data)}
}

// far are numbers that are neither tags of names nor levels, some of which look like one in fewer bits.
func far() []int {
	l := []int{math.MinInt, math.MinInt + 1, math.MinInt32, -65536, -256, -34, -33, -32, -3, -2, -1, 0, 4, 5, 30, 31, 35, 36, 255, 256, 65535, 65536, math.MaxInt32, math.MaxInt - 1, math.MaxInt}
	for _, n := range []int{1, 2, 3, 32, 33, 34} {
		l = append(l, math.MinInt+n, -1<<32+n, -1<<16+n, -256+n, 256+n, 1<<16+n, 1<<32+n)
	}
	return l
}

// tags are those of names, those beside them, and far ones.
func tags() []int {
	return append(far(), 1, 2, 3, 32, 33, 34)
}

// levels are those that have a table, and others.
func levels() []int {
	return append(far(), 1, 2, 3, 32, 33, 34)
}

// table is a level's table as the chapter has it.
func table(level int) []int {
	switch level {
	case 2:
		return []int{32, 33}
	case 3:
		return []int{32, 33, 34}
	}
	return nil
}

// equal holds fields against each other, nil and empty bytes as the same.
func equal(a, b []api.Field) bool {
	return slices.EqualFunc(a, b, func(x, y api.Field) bool {
		return x.Tag == y.Tag && string(x.Data) == string(y.Data)
	})
}

// show is a bag for a remark: its first fields, of long bytes the beginning.
func show(b []api.Field) string {
	text := fmt.Sprintf("%d fields:", len(b))
	for _, f := range b[:min(len(b), 8)] {
		text += fmt.Sprintf(" %d %.20q", f.Tag, f.Data)
	}
	return text
}

// drawer is a source of draws that are the same in each run.
func drawer() func(below int) int {
	seed := uint64(7)
	return func(below int) int {
		seed = seed*6364136223846793005 + 1442695040888963407
		return int((seed >> 33) % uint64(below))
	}
}

// drawn are bags of tags at and beside those of names, in any order, with bytes of any form: most of them may not be.
func drawn(n int) [][]api.Field {
	draw := drawer()
	bytes := []string{"", "\x00", "\x07", "\xff", "\x01\x02", "\xff\xff", "v1.0", "A", "a b", "\x00\x00\x00", strings.Repeat("x", 17)}
	var l [][]api.Field
	for range n {
		var b []api.Field
		for range draw(6) {
			b = append(b, field(30+draw(7), bytes[draw(len(bytes))]))
		}
		l = append(l, b)
	}
	return l
}

// chosen are bags that may be and such as may not.
func chosen() [][]api.Field {
	z, l, v, x := field(32, "\x09"), field(33, "\x01\x02"), field(34, "v1.0"), field(90, "x")
	bags := [][]api.Field{
		nil, {}, {z}, {l}, {v}, {x}, {z, l}, {z, v}, {l, v}, {z, l, v}, {z, l, v, x}, {z, x}, {v, x},
		{z, z}, {z, field(32, "\x0a"), l}, {l, field(33, ""), v}, {v, field(34, "v2"), v, x}, {x, x, field(91, "")},
		{field(32, ""), field(33, "\x00"), field(34, "A B")}, {field(32, "two"), field(33, "three"), field(34, strings.Repeat("y", 4000))},
		{v, l, z}, {x, z, x, l, x, v, x}, {l, z, l, z}, {field(31, "a"), field(35, "b"), z}, {{}, z, {}},
		{field(32, strings.Repeat("z", 5000)), field(40, strings.Repeat("w", 5000)), v},
		slices.Repeat([]api.Field{z, x}, 40), slices.Repeat([]api.Field{x}, 33),
	}
	for _, tag := range tags() {
		bags = append(bags, []api.Field{field(tag, "t")}, []api.Field{z, field(tag, "u"), x, field(tag, ""), v})
	}
	return append(bags, drawn(300)...)
}

// split is what a level's table has of a bag and what it has not, field by field.
func split(level int, b []api.Field) (in, out []api.Field) {
	for _, f := range b {
		if slices.Contains(table(level), f.Tag) {
			in = append(in, f)
		} else {
			out = append(out, f)
		}
	}
	return in, out
}

func wantZone(t *testing.T, b []api.Field, want int, ok bool) {
	t.Helper()
	if got, is := known.ZoneOf(b); got != want || is != ok {
		t.Errorf("zone of %v: %d, %v; want %d, %v", show(b), got, is, want, ok)
	}
}

func wantLoad(t *testing.T, b []api.Field, want int, ok bool) {
	t.Helper()
	if got, is := known.LoadOf(b); got != want || is != ok {
		t.Errorf("load of %v: %d, %v; want %d, %v", show(b), got, is, want, ok)
	}
}

func wantBuild(t *testing.T, b []api.Field, want string, ok bool) {
	t.Helper()
	if got, is := known.BuildOf(b); got != want || is != ok {
		t.Errorf("build of %v: %q, %v; want %q, %v", show(b), got, is, want, ok)
	}
}

func wantMade(t *testing.T, zone, load int, build string, want ...api.Field) {
	t.Helper()
	if got, e := known.Make(zone, load, build); e != api.OK || !equal(got, want) {
		t.Errorf("make of %d, %d, %q: %v, %v; want %v", zone, load, build, show(got), e, show(want))
	}
}

func wantNotMade(t *testing.T, zone, load int, build string, want api.Errno) {
	t.Helper()
	if got, e := known.Make(zone, load, build); e != want || len(got) != 0 {
		t.Errorf("make of %d, %d, %.20q of %d bytes: %v, %v; want %v", zone, load, build, len(build), show(got), e, want)
	}
}

// 7.1: the constants, which may stand where a constant has to.
func TestConstants(t *testing.T) {
	const zone, load, build = known.Zone, known.Load, known.Build
	if zone != 32 || load != 33 || build != 34 {
		t.Errorf("%d, %d, %d", zone, load, build)
	}
}

// 7.1: the three names, and none for any other tag.
func TestName(t *testing.T) {
	names := map[int]string{32: "zone", 33: "load", 34: "build"}
	for tag := -300; tag <= 600; tag++ {
		if got := known.Name(tag); got != names[tag] {
			t.Errorf("name of %d: %q", tag, got)
		}
	}
	for _, tag := range far() {
		if got := known.Name(tag); got != "" {
			t.Errorf("name of %d: %q", tag, got)
		}
	}
}

// 7.1: the tags of the three names.
func TestTag(t *testing.T) {
	for _, c := range []struct {
		name string
		tag  int
	}{{"zone", 32}, {"load", 33}, {"build", 34}} {
		if tag, ok := known.Tag(c.name); tag != c.tag || !ok {
			t.Errorf("tag of %q: %d, %v", c.name, tag, ok)
		}
	}
}

// 7.1: texts that are no names: a first or a last part of one, one with something at its sides, one in other letters.
func TestTagOfWrong(t *testing.T) {
	wrong := []string{"", " ", "x", "zoom", "loan", "builds", "32", "33", "34", "zone load", "zoneload", "zone\x00load", "Ωone", "\xff", strings.Repeat("zone", 1000)}
	for _, name := range []string{"zone", "load", "build"} {
		for i := 1; i < len(name); i++ {
			wrong = append(wrong, name[:i], name[i:])
		}
		for _, more := range []string{" ", "\x00", "\n", "s", "é", "\xff", name} {
			wrong = append(wrong, name+more, more+name)
		}
		wrong = append(wrong, strings.ToUpper(name), strings.ToUpper(name[:1])+name[1:], name[:len(name)-1]+strings.ToUpper(name[len(name)-1:]))
	}
	for _, name := range wrong {
		if tag, ok := known.Tag(name); tag != 0 || ok {
			t.Errorf("tag of %.20q: %d, %v", name, tag, ok)
		}
	}
}

// 7.1: the tag of a tag's name is that tag.
func TestTagOfName(t *testing.T) {
	for _, tag := range tags() {
		want, named := 0, tag == 32 || tag == 33 || tag == 34
		if named {
			want = tag
		}
		if got, ok := known.Tag(known.Name(tag)); got != want || ok != named {
			t.Errorf("tag of the name of %d: %d, %v", tag, got, ok)
		}
	}
}

// 7.2: each level's table, also of levels that have none.
func TestKnows(t *testing.T) {
	for _, level := range levels() {
		for _, tag := range tags() {
			want := slices.Contains(table(level), tag)
			if got := known.Knows(level, tag); got != want {
				t.Errorf("knows of %d, %d: %v", level, tag, got)
			}
		}
	}
	for level := -10; level <= 40; level++ {
		for tag := -10; tag <= 300; tag++ {
			if got := known.Knows(level, tag); got != slices.Contains(table(level), tag) {
				t.Errorf("knows of %d, %d: %v", level, tag, got)
			}
		}
	}
}

// 7.2: written out, of one bag with all three names and one field beside them.
func TestKnownAndUnknown(t *testing.T) {
	z, l, v, x := field(32, "\x09"), field(33, "\x01\x02"), field(34, "v1.0"), field(90, "x")
	all := []api.Field{z, l, v, x}
	for _, c := range []struct {
		level   int
		in, out []api.Field
	}{
		{0, nil, all}, {1, nil, all}, {2, []api.Field{z, l}, []api.Field{v, x}}, {3, []api.Field{z, l, v}, []api.Field{x}}, {4, nil, all}, {-2, nil, all}, {math.MaxInt, nil, all},
	} {
		if in := known.Known(c.level, all); !equal(in, c.in) {
			t.Errorf("known of level %d: %v", c.level, show(in))
		}
		if out := known.Unknown(c.level, all); !equal(out, c.out) {
			t.Errorf("unknown of level %d: %v", c.level, show(out))
		}
	}
}

// 7.2: of all levels and of bags of any kind, each field stands where it stood among those that stay.
func TestKnownAndUnknownOfAny(t *testing.T) {
	for _, level := range levels() {
		for _, b := range chosen() {
			in, out := split(level, b)
			if got := known.Known(level, b); !equal(got, in) {
				t.Errorf("known of level %d of %v: %v; want %v", level, show(b), show(got), show(in))
			}
			if got := known.Unknown(level, b); !equal(got, out) {
				t.Errorf("unknown of level %d of %v: %v; want %v", level, show(b), show(got), show(out))
			}
		}
	}
}

// 7.5: known and unknown fields together are all fields, each of both in order.
func TestKnownWithUnknownIsAll(t *testing.T) {
	for _, level := range levels() {
		for _, b := range chosen() {
			in, out := known.Known(level, b), known.Unknown(level, b)
			var merged []api.Field
			for _, f := range b {
				if known.Knows(level, f.Tag) {
					merged, in = first(merged, in)
				} else {
					merged, out = first(merged, out)
				}
			}
			if !equal(merged, b) || len(in) != 0 || len(out) != 0 {
				t.Errorf("level %d: together %v; want %v; left over %v, %v", level, show(merged), show(b), show(in), show(out))
			}
		}
	}
}

// first moves the first field of l, if there is one, behind those of to.
func first(to, l []api.Field) (more, rest []api.Field) {
	if len(l) == 0 {
		return to, l
	}
	return append(to, l[0]), l[1:]
}

// 7.3: a zone is one byte, whichever.
func TestZoneOf(t *testing.T) {
	for v := range 256 {
		wantZone(t, []api.Field{{Tag: 32, Data: []byte{byte(v)}}}, v, true)
	}
	for _, data := range []string{"", "\x00\x00", "\x00\x07", "\x07\x00", "\xff\xff", "abc", strings.Repeat("\x00", 7), strings.Repeat("\x07", 8), strings.Repeat("z", 5000)} {
		wantZone(t, []api.Field{field(32, data)}, 0, false)
	}
}

// 7.3: a load is two bytes, the highest one first.
func TestLoadOf(t *testing.T) {
	for v := range 65536 {
		wantLoad(t, []api.Field{{Tag: 33, Data: []byte{byte(v / 256), byte(v % 256)}}}, v, true)
	}
	for _, data := range []string{"", "\x00", "\x07", "\xff", "\x00\x00\x00", "\x00\x01\x02", "\x01\x02\x00", "\xff\xff\xff", strings.Repeat("\x00", 7), strings.Repeat("\x07", 8), strings.Repeat("z", 5000)} {
		wantLoad(t, []api.Field{field(33, data)}, 0, false)
	}
}

// 7.3: a build has 1 to 16 bytes.
func TestBuildOfByLength(t *testing.T) {
	for n := 1; n <= 16; n++ {
		for _, c := range []string{"a", "z", "0", "9", ".", "-"} {
			wantBuild(t, []api.Field{field(34, strings.Repeat(c, n))}, strings.Repeat(c, n), true)
		}
	}
	for _, n := range []int{0, 17, 18, 32, 255, 256, 257, 272, 4096, 65536 + 3} {
		wantBuild(t, []api.Field{field(34, strings.Repeat("a", n))}, "", false)
	}
	for _, build := range []string{"v1.0", "2026-11-18", "..", "--", "-a", ".a", "a.", allowed[:16], allowed[10:26], allowed[22:]} {
		wantBuild(t, []api.Field{field(34, build)}, build, true)
	}
}

// around is a byte alone, first, last and in between, also where it makes up 16 bytes.
func around(c byte) []string {
	one := string([]byte{c})
	return []string{one, one + "a", "a" + one, "a" + one + "b", one + "23456789abcdef.", "-23456789abcdef" + one, "1234567" + one + "9abcdef0"}
}

// 7.3: each byte there is, wherever it stands.
func TestBuildOfByByte(t *testing.T) {
	for c := range 256 {
		may := strings.Contains(allowed, string([]byte{byte(c)}))
		for _, build := range around(byte(c)) {
			want := ""
			if may {
				want = build
			}
			wantBuild(t, []api.Field{field(34, build)}, want, may)
		}
	}
	for _, build := range []string{"é", "ａ", "v1٠", "a\u0301", "\u2010", "\xc3", "v1 ", " v1", "v1\n", "v_1", "v+1"} {
		wantBuild(t, []api.Field{field(34, build)}, "", false)
	}
}

// 7.3: bags without the field, though others have bytes of that form.
func TestOfNone(t *testing.T) {
	forms := []string{"", "\x07", "\x01\x02", "v1", "a"}
	for _, b := range [][]api.Field{nil, {}, make([]api.Field, 3)} {
		wantZone(t, b, 0, false)
		wantLoad(t, b, 0, false)
		wantBuild(t, b, "", false)
	}
	for _, tag := range tags() {
		for _, data := range forms {
			b := []api.Field{field(tag, data), field(90, data)}
			if tag != 32 {
				wantZone(t, b, 0, false)
			}
			if tag != 33 {
				wantLoad(t, b, 0, false)
			}
			if tag != 34 {
				wantBuild(t, b, "", false)
			}
		}
	}
}

// 7.3: of two fields the first one tells, whether or not it has the form.
func TestOfTwo(t *testing.T) {
	z1, z2, l1, l2, v1, v2 := field(32, "\x09"), field(32, "\x03"), field(33, "\x01\x02"), field(33, "\x00\x03"), field(34, "v9"), field(34, "v3")
	wantZone(t, []api.Field{z1, z2}, 9, true)
	wantLoad(t, []api.Field{l1, l2}, 258, true)
	wantBuild(t, []api.Field{v1, v2}, "v9", true)
	for _, bad := range []string{"", "A B", strings.Repeat("a", 17)} {
		z, l, v := field(32, bad), field(33, bad), field(34, bad)
		wantZone(t, []api.Field{z1, z}, 9, true)
		wantZone(t, []api.Field{z, z1}, 0, false)
		wantZone(t, []api.Field{z, z}, 0, false)
		wantLoad(t, []api.Field{l1, l}, 258, true)
		wantLoad(t, []api.Field{l, l1}, 0, false)
		wantLoad(t, []api.Field{l, l}, 0, false)
		wantBuild(t, []api.Field{v1, v}, "v9", true)
		wantBuild(t, []api.Field{v, v1}, "", false)
		wantBuild(t, []api.Field{v, v}, "", false)
	}
}

// 7.3: behind others, and in bags that may not be.
func TestOfBehindOthers(t *testing.T) {
	z, l, v, x := field(32, "\x09"), field(33, "\x01\x02"), field(34, "v1.0"), field(90, "x")
	bags := [][]api.Field{
		{z, l, v}, {z, l, v, x}, {v, l, z}, {x, v, x, l, x, z}, {l, z, v, l, z, v}, {field(-1, "a"), z, field(math.MaxInt, "b"), l, field(0, "c"), v},
		{field(31, "\x01"), field(35, "\x00\x01"), v, z, l}, {field(40, strings.Repeat("w", 5000)), z, l, v},
		append(slices.Repeat([]api.Field{x}, 500), v, z, l), append([]api.Field{{}, {}, z, l, v}, slices.Repeat([]api.Field{z, x}, 40)...),
	}
	for _, b := range bags {
		wantZone(t, b, 9, true)
		wantLoad(t, b, 258, true)
		wantBuild(t, b, "v1.0", true)
	}
	for _, b := range [][]api.Field{{x, field(32, ""), z, l, v}, {v, l, field(32, "zz"), x, z}} {
		wantZone(t, b, 0, false)
		wantLoad(t, b, 258, true)
		wantBuild(t, b, "v1.0", true)
	}
}

// 7.4: with all, some and none of the three, in order.
func TestMake(t *testing.T) {
	z, l, v := field(32, "\x07"), field(33, "\x01\x02"), field(34, "v2")
	wantMade(t, 7, 258, "v2", z, l, v)
	wantMade(t, 7, 258, "", z, l)
	wantMade(t, 7, -1, "v2", z, v)
	wantMade(t, 7, -1, "", z)
	wantMade(t, -1, 258, "v2", l, v)
	wantMade(t, -1, 258, "", l)
	wantMade(t, -1, -1, "v2", v)
	wantMade(t, -1, -1, "")
	wantMade(t, 0, 0, "0", field(32, "\x00"), field(33, "\x00\x00"), field(34, "0"))
	wantMade(t, 255, 65535, strings.Repeat("z", 16), field(32, "\xff"), field(33, "\xff\xff"), field(34, strings.Repeat("z", 16)))
}

// 7.4: the numbers that a zone may be, and those that it may not.
func TestMakeByZone(t *testing.T) {
	for zone := range 256 {
		wantMade(t, zone, -1, "", api.Field{Tag: 32, Data: []byte{byte(zone)}})
	}
	for _, zone := range []int{-2, -3, -255, -256, -257, 256, 257, 263, 65535, 65536, 65543, math.MinInt32, -1<<32 - 1, 1<<32 + 7, math.MaxInt32, math.MinInt, math.MinInt + 7, math.MaxInt - 1, math.MaxInt} {
		for _, load := range []int{-1, 0, 65535} {
			wantNotMade(t, zone, load, "", api.ErrRange)
			wantNotMade(t, zone, load, "v2", api.ErrRange)
		}
	}
}

// 7.4: the numbers that a load may be, and those that it may not.
func TestMakeByLoad(t *testing.T) {
	for load := range 65536 {
		wantMade(t, -1, load, "", api.Field{Tag: 33, Data: []byte{byte(load / 256), byte(load % 256)}})
	}
	for _, load := range []int{-2, -3, -256, -65535, -65536, -65537, 65536, 65537, 65543, 1 << 24, math.MinInt32, -1<<32 - 1, 1<<32 + 7, math.MaxInt32, math.MinInt, math.MinInt + 7, math.MaxInt - 1, math.MaxInt} {
		for _, zone := range []int{-1, 0, 255} {
			wantNotMade(t, zone, load, "", api.ErrRange)
			wantNotMade(t, zone, load, "v2", api.ErrRange)
		}
	}
}

// 7.4: how many bytes a build may have.
func TestMakeByLength(t *testing.T) {
	for n := 1; n <= 16; n++ {
		for _, c := range []string{"a", "z", "0", "9", ".", "-"} {
			wantMade(t, -1, -1, strings.Repeat(c, n), field(34, strings.Repeat(c, n)))
		}
	}
	for _, n := range []int{17, 18, 32, 255, 256, 257, 272, 4096, 65536, 65536 + 3} {
		wantNotMade(t, -1, -1, strings.Repeat("a", n), api.ErrForm)
		wantNotMade(t, 0, 0, strings.Repeat("A", n), api.ErrForm)
	}
}

// 7.4: each byte there is, wherever it stands.
func TestMakeByByte(t *testing.T) {
	for c := range 256 {
		may := strings.Contains(allowed, string([]byte{byte(c)}))
		for _, build := range around(byte(c)) {
			if may {
				wantMade(t, -1, -1, build, field(34, build))
			} else {
				wantNotMade(t, -1, -1, build, api.ErrForm)
				wantNotMade(t, 255, 65535, build, api.ErrForm)
			}
		}
	}
	for _, build := range []string{"é", "ａ", "v1٠", "a\u0301", "\u2010", "\xc3", " ", "a b", "v2\n", "v_1", "V2"} {
		wantNotMade(t, 7, 7, build, api.ErrForm)
	}
}

// 7.4 and P1: ErrRange is named ahead of ErrForm, so that it comes where both apply.
func TestMakeErrorsInOrder(t *testing.T) {
	for _, build := range []string{"A", "a b", "\x00", strings.Repeat("a", 17), strings.Repeat("A", 17)} {
		for _, c := range []struct{ zone, load int }{{-2, 0}, {256, -1}, {0, -2}, {-1, 65536}, {-2, -2}, {256, 65536}, {math.MaxInt, math.MinInt}} {
			wantNotMade(t, c.zone, c.load, build, api.ErrRange)
		}
		for _, c := range []struct{ zone, load int }{{-1, -1}, {0, 0}, {255, 65535}} {
			wantNotMade(t, c.zone, c.load, build, api.ErrForm)
		}
	}
}

// wantReadAgain holds what a bag tells against what it was made of.
func wantReadAgain(t *testing.T, zone, load int, build string) {
	t.Helper()
	b, e := known.Make(zone, load, build)
	if e != api.OK || !bag.Valid(b) || !bag.Light(b) {
		t.Fatalf("make of %d, %d, %q: %v, %v", zone, load, build, show(b), e)
	}
	wantZone(t, b, max(zone, 0), zone != -1)
	wantLoad(t, b, max(load, 0), load != -1)
	wantBuild(t, b, build, build != "")
	if in, out := known.Known(3, b), known.Unknown(3, b); !equal(in, b) || len(out) != 0 {
		t.Errorf("what was made is not known: %v, %v", show(in), show(out))
	}
}

// 7.5: what was made is read again, and is a bag that may be.
func TestMadeIsReadAgain(t *testing.T) {
	for zone := -1; zone <= 255; zone++ {
		for _, load := range []int{-1, 0, 1, 255, 256, 65535} {
			for _, build := range []string{"", "a", "v1.0", "-", ".", "0123456789abcdef"} {
				wantReadAgain(t, zone, load, build)
			}
		}
	}
	for load := range 65536 {
		wantReadAgain(t, load%257-1, load, allowed[load%30:][:load%9])
	}
	for i := range allowed {
		wantReadAgain(t, -1, 7, allowed[i:i+1])
	}
}

// R3: nil and empty are the same, of bags and of bytes.
func TestNilAndEmptyAreTheSame(t *testing.T) {
	for _, tag := range []int{32, 33, 34, 90} {
		for _, data := range [][]byte{nil, {}} {
			b := []api.Field{{Tag: tag, Data: data}}
			wantZone(t, b, 0, false)
			wantLoad(t, b, 0, false)
			wantBuild(t, b, "", false)
			in, out := split(3, b)
			if !equal(known.Known(3, b), in) || !equal(known.Unknown(3, b), out) {
				t.Errorf("tag %d: known %v, unknown %v", tag, known.Known(3, b), known.Unknown(3, b))
			}
		}
	}
	for _, level := range levels() {
		for _, b := range [][]api.Field{nil, {}} {
			if in, out := known.Known(level, b), known.Unknown(level, b); len(in) != 0 || len(out) != 0 {
				t.Errorf("level %d of no field: %v, %v", level, in, out)
			}
		}
	}
}

// roomy is a bag of four fields in room for more, their bytes in room for more too.
func roomy() (b, room []api.Field) {
	room = []api.Field{field(32, "\x09room"), field(33, "\x01\x02room"), field(34, "v1room"), field(90, "x, room"), field(32, "\x08behind"), field(-1, "far behind")}
	for i, n := range []int{1, 2, 2, 1} {
		room[i].Data = room[i].Data[:n]
	}
	return room[:4], room
}

// whole is all that a list holds, also in the room behind its bytes.
func whole(l []api.Field) []api.Field {
	var w []api.Field
	for _, f := range l[:cap(l)] {
		w = append(w, field(f.Tag, string(f.Data[:cap(f.Data)])))
	}
	return w
}

// scribble writes over all of a bag, also over the room behind it and behind its bytes.
func scribble(l []api.Field) {
	l = l[:cap(l)]
	for i := range l {
		d := l[i].Data[:cap(l[i].Data)]
		for k := range d {
			d[k] = '#'
		}
		l[i] = field(77, "scribbled")
	}
}

// R3: what is handed in is as it was, also in the room behind it.
func TestArgumentsStay(t *testing.T) {
	b, room := roomy()
	was := whole(room)
	for _, l := range [][]api.Field{b, b[:0], b[1:3], room} {
		for _, level := range levels() {
			known.Known(level, l)
			known.Unknown(level, l)
		}
		known.ZoneOf(l)
		known.LoadOf(l)
		known.BuildOf(l)
	}
	if !equal(whole(room), was) {
		t.Errorf("an argument was changed: %v", show(room))
	}
}

// R3: what was answered stays, whatever becomes of what was handed in.
func TestArgumentsAreNotKept(t *testing.T) {
	b, _ := roomy()
	in, out := known.Known(2, b), known.Unknown(2, b)
	all, none := known.Unknown(1, b), known.Known(1, b)
	build, ok := known.BuildOf(b)
	scribble(b)
	old, _ := roomy()
	if !equal(in, old[:2]) || !equal(out, old[2:]) || !equal(all, old) || len(none) != 0 {
		t.Errorf("an argument was kept: %v, %v, %v, %v", show(in), show(out), show(all), show(none))
	}
	if build != "v1" || !ok {
		t.Errorf("build kept its argument: %q, %v", build, ok)
	}
}

// R3: who writes to what was answered, also to the room behind it, changes nothing that was handed in and no later answer.
func TestAnswersAreNewMemory(t *testing.T) {
	b, room := roomy()
	was := whole(room)
	for range 3 {
		for _, level := range []int{0, 1, 2, 3, 4} {
			wantIn, wantOut := split(level, b)
			in, out := known.Known(level, b), known.Unknown(level, b)
			scribble(in[:0])
			if again := known.Known(level, b); !equal(again, wantIn) || !equal(out, wantOut) {
				t.Fatalf("level %d: known %v, unknown %v", level, show(again), show(out))
			}
			scribble(out)
			if again := known.Unknown(level, b); !equal(again, wantOut) {
				t.Fatalf("level %d: unknown %v", level, show(again))
			}
		}
		if !equal(whole(room), was) {
			t.Fatalf("an argument was changed: %v", show(room))
		}
	}
}

// R3: each bag that was made is a new one.
func TestMadeIsNewMemory(t *testing.T) {
	build := "v1.0"
	kept, _ := known.Make(7, 258, build)
	for range 3 {
		b, e := known.Make(7, 258, build)
		if e != api.OK || !equal(b, []api.Field{field(32, "\x07"), field(33, "\x01\x02"), field(34, "v1.0")}) {
			t.Fatalf("make: %v, %v", show(b), e)
		}
		scribble(b)
		none, _ := known.Make(-1, -1, "")
		scribble(none)
	}
	if build != "v1.0" || !equal(kept, []api.Field{field(32, "\x07"), field(33, "\x01\x02"), field(34, "v1.0")}) {
		t.Errorf("what was made ahead was changed: %v", show(kept))
	}
}

// R3: no two fields of one answer share bytes, though those that were handed in do.
func TestFieldsOfAnAnswerShareNothing(t *testing.T) {
	shared := []byte("v1 shared")
	b := []api.Field{{Tag: 34, Data: shared[:2]}, {Tag: 34, Data: shared[:2]}, {Tag: 34, Data: shared}}
	made, _ := known.Make(7, 258, "v1.0")
	for i := range 3 {
		again, _ := known.Make(7, 258, "v1.0")
		for _, c := range []struct{ got, want []api.Field }{{known.Known(3, b), b}, {known.Unknown(2, b), b}, {again, made}} {
			clear(c.got[i].Data[:cap(c.got[i].Data)])
			_ = append(c.got[i].Data, "over the end"...)
			got, want := slices.Delete(c.got, i, i+1), slices.Delete(slices.Clone(c.want), i, i+1)
			if !equal(got, want) {
				t.Errorf("field %d shares bytes: %v; want %v", i, show(got), show(want))
			}
		}
	}
	if string(shared) != "v1 shared" {
		t.Errorf("an argument was changed: %q", shared)
	}
}

// R4: the same arguments come to the same, whatever was asked ahead.
func TestAgainIsTheSame(t *testing.T) {
	b := []api.Field{field(32, "\x09"), field(34, "v1.0")}
	for range 3 {
		wantNotMade(t, 256, 0, "", api.ErrRange)
		wantMade(t, 0, -1, "", field(32, "\x00"))
		wantNotMade(t, 0, -1, "A", api.ErrForm)
		wantZone(t, b, 9, true)
		wantLoad(t, b, 0, false)
		wantBuild(t, b, "v1.0", true)
		if known.Knows(2, 34) || !known.Knows(3, 34) || known.Knows(4, 34) {
			t.Error("a table changed")
		}
	}
}

// The chapter's examples.
func TestExamples(t *testing.T) {
	if !known.Knows(2, 33) || known.Knows(2, 34) {
		t.Errorf("knows: %v, %v", known.Knows(2, 33), known.Knows(2, 34))
	}
	wantMade(t, 7, -1, "v2", field(32, "\x07"), field(34, "v2"))
	wantNotMade(t, 256, 0, "", api.ErrRange)
}
