package msg_test

import (
	"fmt"
	"math"
	"slices"
	"strings"
	"testing"

	"polyglot/api"
	"polyglot/msg"
)

func field(tag int, data string) api.Field {
	return api.Field{Tag: tag, Data: []byte(data)}
}

func bagOf(fields ...api.Field) []api.Field {
	return fields
}

// member is a record of an id that may be, but for that id.
func member(id int) api.Rec {
	return api.Rec{ID: id, Inc: 7, Status: api.Suspect, Span: api.Span{Lo: 1, Hi: 2}, Bag: bagOf(field(40, "x"))}
}

// members are records of those ids.
func members(ids ...int) []api.Rec {
	var l []api.Rec
	for _, id := range ids {
		l = append(l, member(id))
	}
	return l
}

// crowd is a list of n records that is sorted.
func crowd(n int) []api.Rec {
	var l []api.Rec
	for id := range n {
		l = append(l, member(3*id))
	}
	return l
}

// with is a message that was changed.
func with(m api.Msg, change func(*api.Msg)) api.Msg {
	change(&m)
	return m
}

// line is a kind as the chapter tells it; has is Seq, Target, Life, Base and Recs.
type line struct {
	kind  int
	name  string
	greet bool
	has   [5]bool
}

// table is the chapter's table.
func table() []line {
	return []line{
		{1, "hello", true, [5]bool{true, false, false, false, false}},
		{2, "welcome", true, [5]bool{true, false, false, false, false}},
		{3, "reject", true, [5]bool{false, true, false, false, false}},
		{4, "ping", false, [5]bool{true, false, false, false, true}},
		{5, "ack", false, [5]bool{true, false, false, false, true}},
		{6, "ask", false, [5]bool{true, true, false, false, true}},
		{7, "push", false, [5]bool{false, false, true, true, true}},
		{8, "pull", false, [5]bool{false, false, true, false, true}},
		{9, "reset", false, [5]bool{false, false, true, false, false}},
	}
}

// goods are a message of each kind, in its place, that has all that its kind may have; none stands at 0.
func goods() []api.Msg {
	s := api.Span{Lo: 1, Hi: 3}
	return []api.Msg{
		{},
		{Kind: 1, From: 11, Inc: 21, Span: s, Seq: 31},
		{Kind: 2, From: 12, Inc: 22, Span: s, Seq: 32},
		{Kind: 3, From: 13, Inc: 23, Span: s, Target: 2},
		{Kind: 4, From: 14, Inc: 24, Span: s, Seq: 34, Recs: members(3, 5)},
		{Kind: 5, From: 15, Inc: 25, Span: s, Seq: 35, Recs: members(5)},
		{Kind: 6, From: 16, Inc: 26, Span: s, Seq: 36, Target: 46, Recs: members(5, 7)},
		{Kind: 7, From: 17, Inc: 27, Span: s, Life: 57, Epoch: 67, Base: 6, Recs: members(3, 5, 7)},
		{Kind: 8, From: 18, Inc: 28, Span: s, Life: 58, Epoch: 68, Recs: members(7)},
		{Kind: 9, From: 19, Inc: 29, Span: s, Life: 59, Epoch: 69},
	}
}

// plain is a message of each kind, in its place, of which as much is 0 as may be.
func plain() []api.Msg {
	l := make([]api.Msg, 10)
	for kind := 1; kind <= 9; kind++ {
		l[kind] = api.Msg{Kind: kind, Span: api.Span{Lo: 1, Hi: 1}}
	}
	l[3].Target, l[9].Epoch = 1, 1
	return l
}

// both are the goods and the plain ones of some kinds.
func both(kinds ...int) []api.Msg {
	var l []api.Msg
	for _, kind := range kinds {
		l = append(l, goods()[kind], plain()[kind])
	}
	return l
}

// every is the good and the plain one of each kind.
func every() []api.Msg {
	return both(1, 2, 3, 4, 5, 6, 7, 8, 9)
}

// far are numbers that are below 0 or very large, some of which look like a small one in fewer bits.
func far() []int {
	return []int{math.MinInt, math.MinInt + 1, math.MinInt + 4, -1 << 62, -1<<48 + 3, -1<<32 + 3, math.MinInt32, -1<<16 + 3, -4096, -4095, -256 + 3, -7, -4, -3, -2, -1, 1 << 48, 1<<48 + 3, 1 << 52, 1 << 56, 1 << 62, 1<<62 + 4, math.MaxInt - 1, math.MaxInt}
}

// looksLike are numbers that are n in fewer bits alone, and n with another sign.
func looksLike(n int) []int {
	l := []int{math.MinInt + n}
	for _, bit := range []int{4, 5, 6, 8, 16, 31, 32, 48, 62} {
		l = append(l, n+1<<bit, n-1<<bit)
	}
	return l
}

// spans are those that may be.
func spans() []api.Span {
	return []api.Span{{Lo: 1, Hi: 1}, {Lo: 1, Hi: 2}, {Lo: 1, Hi: 3}, {Lo: 2, Hi: 2}, {Lo: 2, Hi: 3}, {Lo: 3, Hi: 3}}
}

// wrongSpans are some that may not be.
func wrongSpans() []api.Span {
	l := []api.Span{{}, {Lo: 0, Hi: 1}, {Lo: 0, Hi: 3}, {Lo: 1, Hi: 0}, {Lo: 2, Hi: 1}, {Lo: 3, Hi: 1}, {Lo: 3, Hi: 2}, {Lo: 1, Hi: 4}, {Lo: 3, Hi: 4}, {Lo: 4, Hi: 4}, {Lo: -1, Hi: 2}, {Lo: 257, Hi: 258}}
	for _, n := range far() {
		l = append(l, api.Span{Lo: n, Hi: 3}, api.Span{Lo: 1, Hi: n}, api.Span{Lo: n, Hi: n})
	}
	return l
}

// lists are such as may stand in a message.
func lists() [][]api.Rec {
	cut := api.Rec{ID: 9, Inc: 1<<48 - 1, Status: 3, Span: api.Span{Lo: 3, Hi: 3}, Cut: true}
	heavy := api.Rec{ID: 4095, Span: api.Span{Lo: 1, Hi: 1}, Bag: bagOf(field(40, strings.Repeat("s", 4096)))}
	return [][]api.Rec{
		nil, {}, members(0), members(4095), members(0, 4095), members(3, 7), members(2047, 2048, 2049), {member(3), cut}, {cut, heavy}, {heavy},
		crowd(2), crowd(48), crowd(49), crowd(127), crowd(128), crowd(253), crowd(254), crowd(255),
	}
}

// wrongRecs are records of an id in each of which one thing alone may not be.
func wrongRecs(id int) []api.Rec {
	var l []api.Rec
	add := func(change func(*api.Rec)) {
		r := member(id)
		change(&r)
		l = append(l, r)
	}
	add(func(r *api.Rec) { r.Inc = -1 })
	add(func(r *api.Rec) { r.Inc = 1 << 48 })
	add(func(r *api.Rec) { r.Status = -1 })
	add(func(r *api.Rec) { r.Status = 4 })
	add(func(r *api.Rec) { r.Span = api.Span{} })
	add(func(r *api.Rec) { r.Span = api.Span{Lo: 2, Hi: 1} })
	add(func(r *api.Rec) { r.Span.Hi = 4 })
	add(func(r *api.Rec) { r.Cut = true })
	add(func(r *api.Rec) { r.Cut, r.Bag = true, bagOf(field(40, "")) })
	add(func(r *api.Rec) { r.Bag = bagOf(field(31, "a")) })
	add(func(r *api.Rec) { r.Bag = bagOf(field(256, "a")) })
	add(func(r *api.Rec) { r.Bag = bagOf(field(41, "a"), field(40, "a")) })
	add(func(r *api.Rec) { r.Bag = bagOf(field(40, strings.Repeat("s", 4097))) })
	add(func(r *api.Rec) { r.Bag = slices.Repeat(bagOf(field(40, "")), 33) })
	return l
}

// wrongLists are such as may stand in no message.
func wrongLists() [][]api.Rec {
	l := [][]api.Rec{
		{{}}, members(-1), members(4096), members(-1, 3), members(3, 4096), members(3, 3), members(5, 3), members(3, 5, 5), members(3, 3, 5), members(3, 7, 5), members(7, 3, 5), members(0, 0),
		crowd(256), crowd(257), crowd(300), crowd(511), crowd(512), crowd(1000), append(crowd(254), member(3)), append(members(1), crowd(254)...), append(crowd(254), crowd(1)...), make([]api.Rec, 255), make([]api.Rec, 70000),
	}
	for i := range wrongRecs(4) {
		l = append(l, []api.Rec{wrongRecs(4)[i]}, []api.Rec{member(3), wrongRecs(4)[i]}, []api.Rec{wrongRecs(4)[i], member(5)}, []api.Rec{member(3), wrongRecs(4)[i], member(5)}, append(crowd(254), wrongRecs(4095)[i]))
	}
	return l
}

// equalBags holds fields against each other without the program, nil and empty as the same.
func equalBags(a, b []api.Field) bool {
	return slices.EqualFunc(a, b, func(x, y api.Field) bool {
		return x.Tag == y.Tag && string(x.Data) == string(y.Data)
	})
}

// equalRecs holds records against each other without the program.
func equalRecs(a, b api.Rec) bool {
	return a.ID == b.ID && a.Inc == b.Inc && a.Status == b.Status && a.Span.Lo == b.Span.Lo && a.Span.Hi == b.Span.Hi && a.Cut == b.Cut && equalBags(a.Bag, b.Bag)
}

// numbers are all numbers of a message, in order.
func numbers(m api.Msg) [10]int {
	return [10]int{m.Kind, m.From, m.Inc, m.Span.Lo, m.Span.Hi, m.Seq, m.Target, m.Life, m.Epoch, m.Base}
}

// equal holds messages against each other without the program.
func equal(a, b api.Msg) bool {
	return numbers(a) == numbers(b) && slices.EqualFunc(a.Recs, b.Recs, equalRecs)
}

// deep is the same message in other memory, made without the program.
func deep(m api.Msg) api.Msg {
	var l []api.Rec
	for _, r := range m.Recs {
		var b []api.Field
		for _, f := range r.Bag {
			b = append(b, field(f.Tag, string(f.Data)))
		}
		r.Bag = b
		l = append(l, r)
	}
	m.Recs = l
	return m
}

// show is a message for a remark: of its records the first ones, of long bytes the beginning.
func show(m api.Msg) string {
	text := fmt.Sprintf("{kind, from, inc, lo, hi, seq, target, life, epoch, base %v, %d records:", numbers(m), len(m.Recs))
	for _, r := range m.Recs[:min(len(m.Recs), 3)] {
		text += fmt.Sprintf(" {%d inc %d status %d span %d-%d cut %v, %d fields:", r.ID, r.Inc, r.Status, r.Span.Lo, r.Span.Hi, r.Cut, len(r.Bag))
		for _, f := range r.Bag[:min(len(r.Bag), 3)] {
			text += fmt.Sprintf(" %d %.12q of %d", f.Tag, f.Data, len(f.Data))
		}
		text += "}"
	}
	return text + "}"
}

func wantValid(t *testing.T, m api.Msg, want bool) {
	t.Helper()
	if got := msg.Valid(m); got != want {
		t.Errorf("valid of %v: %v", show(m), got)
	}
}

func wantSame(t *testing.T, a, b api.Msg, want bool) {
	t.Helper()
	if got := msg.Same(a, b); got != want {
		t.Errorf("same of %v and %v: %v", show(a), show(b), got)
	}
	if got := msg.Same(b, a); got != want {
		t.Errorf("same of %v and %v: %v", show(b), show(a), got)
	}
}

func wantHas(t *testing.T, kind, p int, want bool) {
	t.Helper()
	if got := msg.Has(kind, msg.Part(p)); got != want {
		t.Errorf("has of %d and %d: %v", kind, p, got)
	}
}

func wantKind(t *testing.T, name string, kind int, ok bool) {
	t.Helper()
	if got, is := msg.Kind(name); got != kind || is != ok {
		t.Errorf("kind of %.40q: %d, %v; want %d, %v", name, got, is, kind, ok)
	}
}

// wantNumber asks for the numbers that may stand in a place of a message, and for those that may not.
func wantNumber(t *testing.T, m api.Msg, put func(m *api.Msg, n int), may, mayNot []int) {
	t.Helper()
	for _, n := range may {
		wantValid(t, with(m, func(m *api.Msg) { put(m, n) }), true)
	}
	for _, n := range mayNot {
		wantValid(t, with(m, func(m *api.Msg) { put(m, n) }), false)
	}
}

// 10.1: the numbers of the parts, which are of the type Part.
func TestParts(t *testing.T) {
	for i, p := range []msg.Part{msg.Seq, msg.Target, msg.Life, msg.Base, msg.Recs} {
		if int(p) != i {
			t.Errorf("part %d has the number %d", i, p)
		}
	}
	const seq, target, life, base, recs msg.Part = 0, 1, 2, 3, 4
	if msg.Seq != seq || msg.Target != target || msg.Life != life || msg.Base != base || msg.Recs != recs {
		t.Errorf("parts: %d, %d, %d, %d, %d", msg.Seq, msg.Target, msg.Life, msg.Base, msg.Recs)
	}
	for _, p := range []any{msg.Seq, msg.Target, msg.Life, msg.Base, msg.Recs} {
		if _, ok := p.(msg.Part); !ok {
			t.Errorf("%v is no Part", p)
		}
	}
}

// 10.1: Has of each kind with each part.
func TestHas(t *testing.T) {
	for _, l := range table() {
		for p, want := range l.has {
			wantHas(t, l.kind, p, want)
		}
	}
}

// 10.1: no other kind has a part, and no kind has another part.
func TestHasOfOthers(t *testing.T) {
	for n := -300; n <= 600; n++ {
		for kind := range 12 {
			if n < 0 || n > 4 {
				wantHas(t, kind, n, false)
			}
		}
		for p := range 7 {
			if n < 1 || n > 9 {
				wantHas(t, n, p, false)
			}
		}
		wantHas(t, n, n+20, false)
	}
}

// 10.1: kinds and parts that are very large or very small, also such as look like others in fewer bits.
func TestHasOfFar(t *testing.T) {
	for _, n := range far() {
		for i := range 12 {
			wantHas(t, n, i, false)
			wantHas(t, i, n, false)
		}
		for _, m := range far() {
			wantHas(t, n, m, false)
		}
	}
	for kind := range 10 {
		for p := range 5 {
			for _, n := range looksLike(kind) {
				wantHas(t, n, p, false)
			}
			for _, n := range looksLike(p) {
				wantHas(t, kind, n, false)
			}
			wantHas(t, -kind, p, false)
			wantHas(t, kind, -1-p, false)
		}
	}
}

// 10.1: Greets of each kind and of other numbers.
func TestGreets(t *testing.T) {
	for _, l := range table() {
		if got := msg.Greets(l.kind); got != l.greet {
			t.Errorf("greets of %s: %v", l.name, got)
		}
	}
	others := far()
	for n := -300; n <= 600; n++ {
		if n < 1 || n > 9 {
			others = append(others, n)
		}
	}
	for kind := range 5 {
		others = append(others, looksLike(kind)...)
	}
	for _, n := range others {
		if msg.Greets(n) {
			t.Errorf("greets of %d", n)
		}
	}
}

// 10.2: Name of each kind.
func TestName(t *testing.T) {
	for _, l := range table() {
		if got := msg.Name(l.kind); got != l.name {
			t.Errorf("name of %d: %q; want %q", l.kind, got, l.name)
		}
	}
}

// 10.2: other numbers have the empty text.
func TestNameOfOthers(t *testing.T) {
	others := far()
	for n := -300; n <= 600; n++ {
		if n < 1 || n > 9 {
			others = append(others, n)
		}
	}
	for kind := range 10 {
		others = append(others, looksLike(kind)...)
	}
	for _, n := range others {
		if got := msg.Name(n); got != "" {
			t.Errorf("name of %d: %q", n, got)
		}
	}
}

// 10.2: Kind of each name, and back.
func TestKind(t *testing.T) {
	for _, l := range table() {
		wantKind(t, l.name, l.kind, true)
		wantKind(t, msg.Name(l.kind), l.kind, true)
		kind, _ := msg.Kind(l.name)
		if got := msg.Name(kind); got != l.name {
			t.Errorf("name of the kind of %q: %q", l.name, got)
		}
	}
}

// 10.2: texts that are no kind's name.
func TestKindOfOthers(t *testing.T) {
	for _, name := range []string{
		"", " ", "\x00", "0", "1", "9", "none", "kind", "alive", "suspect", "dead", "left", "seq", "target", "life", "base", "recs", "zone", "pong", "hi", "join", "hello welcome", "hello,", "hello\n",
		"Hello", "HELLO", "hELLO", "Welcome", "REJECT", "Ping", "ACK", "Ask", "PUSH", "Pull", "Reset", "as", "ak", "pu", "p", "re", "res", "reje", "welcom", "hell", "elcome", "ello",
		"\u0440ing", "a\u0441k", "p\u00fall", "pu\u017fh", "\ufb00", "\u212ack", strings.Repeat("ping", 100), strings.Repeat("p", 100000), strings.Repeat("\x00", 9),
	} {
		wantKind(t, name, 0, false)
	}
}

// 10.2: names with something ahead, behind or in between, with a byte less and with another byte.
func TestKindOneByteOff(t *testing.T) {
	kinds := map[string]int{}
	for _, l := range table() {
		kinds[l.name] = l.kind
	}
	for _, l := range table() {
		var off []string
		for i := range l.name {
			off = append(off, l.name[:i], l.name[i+1:], l.name[:i]+l.name[i+1:])
			for b := range 256 {
				off = append(off, l.name[:i]+string([]byte{byte(b)})+l.name[i+1:])
			}
		}
		for i := range len(l.name) + 1 {
			for b := range 256 {
				off = append(off, l.name[:i]+string([]byte{byte(b)})+l.name[i:])
			}
		}
		for _, other := range table() {
			off = append(off, l.name+other.name, l.name+" "+other.name)
		}
		for _, name := range off {
			kind, ok := kinds[name]
			wantKind(t, name, kind, ok)
		}
	}
}

// 10.3: a message of each kind, with all and with as little as its kind may have.
func TestValidOfEachKind(t *testing.T) {
	for _, m := range every() {
		wantValid(t, m, true)
	}
	wantValid(t, api.Msg{}, false)
}

// 10.3: a message of another kind may not be, whatever it has.
func TestValidByKind(t *testing.T) {
	others := far()
	for n := -20; n <= 300; n++ {
		if n < 1 || n > 9 {
			others = append(others, n)
		}
	}
	for kind := range 10 {
		others = append(others, looksLike(kind)...)
	}
	for _, n := range others {
		for _, m := range append(every(), api.Msg{Span: api.Span{Lo: 1, Hi: 3}}) {
			wantValid(t, with(m, func(m *api.Msg) { m.Kind = n }), false)
		}
	}
}

// 10.3: who may send a message of each kind.
func TestValidByFrom(t *testing.T) {
	for _, m := range every() {
		wantNumber(t, m, func(m *api.Msg, n int) { m.From = n },
			[]int{0, 1, 2, 47, 48, 255, 256, 2047, 2048, 4094, 4095},
			append(far(), 4096, 4097, 8191, 65535, 65536, 65540, 1<<32, 1<<32+4))
	}
}

// 10.3: the incarnation in which a message of each kind is sent.
func TestValidByInc(t *testing.T) {
	for _, m := range every() {
		wantNumber(t, m, func(m *api.Msg, n int) { m.Inc = n },
			[]int{0, 1, 255, 256, 4096, 65535, 65536, 1<<32 - 1, 1 << 32, 1<<47 + 1, 1<<48 - 2, 1<<48 - 1},
			append(far(), 1<<48+1, 1<<49-1, 1<<49))
	}
}

// 10.3: the sender's span in a message of each kind.
func TestValidBySpan(t *testing.T) {
	for _, m := range every() {
		for _, s := range spans() {
			wantValid(t, with(m, func(m *api.Msg) { m.Span = s }), true)
		}
		for _, s := range wrongSpans() {
			wantValid(t, with(m, func(m *api.Msg) { m.Span = s }), false)
		}
	}
}

// 10.3: Seq in the kinds that have it.
func TestValidBySeq(t *testing.T) {
	for _, m := range both(1, 2, 4, 5, 6) {
		wantNumber(t, m, func(m *api.Msg, n int) { m.Seq = n },
			[]int{0, 1, 2, 3, 255, 256, 4095, 4096, 32767, 32768, 65534, 65535},
			append(far(), 65536, 65537, 131071, 1<<31, 1<<32, 1<<32+1, 1<<48-1))
	}
}

// 10.3: Target in a Reject is a generation, and in an Ask an id.
func TestValidByTarget(t *testing.T) {
	put := func(m *api.Msg, n int) { m.Target = n }
	for _, m := range both(3) {
		wantNumber(t, m, put, []int{1, 2, 3}, append(far(), 0, 4, 5, 7, 255, 256, 257, 4095, 4096, 65537, 1<<32+1))
	}
	for _, m := range both(6) {
		wantNumber(t, m, put, []int{0, 1, 2, 3, 4, 47, 48, 255, 256, 4094, 4095}, append(far(), 4096, 4097, 8191, 65535, 65536, 1<<32+1))
	}
}

// 10.3: a Target does not hang on who sends, nor on whom the records are of.
func TestValidByTargetAndSender(t *testing.T) {
	for _, m := range both(3, 6) {
		for target := 1; target <= 3; target++ {
			for from := range 5 {
				for _, s := range spans() {
					wantValid(t, with(m, func(m *api.Msg) { m.Target, m.From, m.Span = target, from, s }), true)
				}
			}
		}
	}
}

// 10.3: Life in the kinds that have it, where Epoch is not 0.
func TestValidByLife(t *testing.T) {
	for _, m := range both(7, 8, 9) {
		for _, epoch := range []int{1, 2, 100, 65535} {
			m.Epoch, m.Base = epoch, 0
			wantNumber(t, m, func(m *api.Msg, n int) { m.Life = n },
				[]int{0, 1, 2, 255, 65535, 65536, 1<<32 - 1, 1 << 32, 1<<47 + 1, 1<<48 - 2, 1<<48 - 1},
				append(far(), 1<<48+1, 1<<49-1, 1<<49))
		}
	}
}

// 10.3: Epoch in the kinds that have it; 0 stands elsewhere.
func TestValidByEpoch(t *testing.T) {
	for _, m := range both(7, 8, 9) {
		for _, life := range []int{0, 1, 100, 1<<48 - 1} {
			m.Life, m.Base = life, 0
			wantNumber(t, m, func(m *api.Msg, n int) { m.Epoch = n },
				[]int{1, 2, 3, 255, 256, 4096, 32768, 65534, 65535},
				append(far(), 65536, 65537, 131071, 1<<31, 1<<32, 1<<32+1, 1<<48-1))
		}
	}
}

// 10.3: Life and Epoch against each other: Life is 0 if Epoch is, and Epoch is not 0 in a Reset.
func TestValidByLifeAndEpoch(t *testing.T) {
	lives := append(far(), 0, 1, 2, 255, 65535, 65536, 1<<48-1)
	for _, m := range both(7, 8, 9) {
		for _, life := range lives {
			m.Life, m.Base = life, 0
			m.Epoch = 0
			wantValid(t, m, life == 0 && m.Kind != 9)
			m.Epoch = 1
			wantValid(t, m, 0 <= life && life < 1<<48)
			m.Epoch = -1
			wantValid(t, m, false)
			m.Epoch = 65536
			wantValid(t, m, false)
		}
	}
}

// 10.3: a life does not hang on the incarnation.
func TestValidByLifeAndInc(t *testing.T) {
	for _, m := range both(7, 8, 9) {
		for _, n := range []int{0, 1, 7, 1<<48 - 1} {
			for _, life := range []int{0, 1, 7, 1<<48 - 1} {
				wantValid(t, with(m, func(m *api.Msg) { m.Inc, m.Life, m.Epoch, m.Base = n, life, 7, 0 }), true)
			}
		}
	}
}

// 10.3: Base against Epoch in a Push.
func TestValidByBase(t *testing.T) {
	for _, m := range both(7) {
		m.Life = 0
		for epoch := range 12 {
			for base := -12; base <= 24; base++ {
				m.Epoch, m.Base = epoch, base
				wantValid(t, m, base == 0 || base >= 1 && base <= epoch-1)
			}
		}
		for _, epoch := range []int{255, 256, 257, 32768, 65534, 65535} {
			m.Epoch = epoch
			wantNumber(t, m, func(m *api.Msg, n int) { m.Base = n },
				[]int{0, 1, 2, epoch / 2, epoch - 2, epoch - 1},
				append(far(), epoch, epoch+1, 2*epoch, 65535, 65536, 65537, 1<<32, 1<<32+1))
		}
		for _, epoch := range []int{0, 1} {
			m.Epoch = epoch
			wantNumber(t, m, func(m *api.Msg, n int) { m.Base = n }, []int{0}, append(far(), 1, 2, 65535, 65536))
		}
	}
}

// 10.3: a base below an epoch that may not be does not help.
func TestValidByBaseOfWrongEpoch(t *testing.T) {
	for _, m := range both(7) {
		m.Life = 0
		for _, epoch := range append(far(), 65536, 65537, 1<<32) {
			for _, base := range append(far(), 0, 1, 2, 65534, 65535, 65536, epoch-1, epoch, epoch+1, -epoch) {
				m.Epoch, m.Base = epoch, base
				wantValid(t, m, false)
			}
		}
	}
}

// 10.3: the records in the kinds that have them.
func TestValidByRecs(t *testing.T) {
	for _, m := range both(4, 5, 6, 7, 8) {
		for _, l := range lists() {
			wantValid(t, with(m, func(m *api.Msg) { m.Recs = l }), true)
		}
		for _, l := range wrongLists() {
			wantValid(t, with(m, func(m *api.Msg) { m.Recs = l }), false)
		}
	}
}

// 10.3: the records may be of whomever, the sender and the target among them, or not.
func TestValidByRecsOfTheSender(t *testing.T) {
	for _, m := range both(4, 5, 6, 7, 8) {
		m.Recs = members(3, 5)
		for from := range 8 {
			m.From = from
			if m.Kind == 6 {
				m.Target = 5
			}
			wantValid(t, m, true)
		}
	}
}

// 10.3: a part that the kind has not is 0.
func TestValidByPartsThatAreNotThere(t *testing.T) {
	puts := [4][]func(*api.Msg, int){
		{func(m *api.Msg, n int) { m.Seq = n }},
		{func(m *api.Msg, n int) { m.Target = n }},
		{func(m *api.Msg, n int) { m.Epoch = n }, func(m *api.Msg, n int) { m.Life = n }, func(m *api.Msg, n int) { m.Life, m.Epoch = n, n }, func(m *api.Msg, n int) { m.Life, m.Epoch = n, 1 }},
		{func(m *api.Msg, n int) { m.Base = n }},
	}
	not := append(far(), 1, 2, 3, 4, 5, 6, 255, 256, 4095, 4096, 65535, 65536, 1<<32)
	for _, l := range table() {
		for _, m := range both(l.kind) {
			for p, has := range l.has[:4] {
				for _, put := range puts[p] {
					if !has {
						wantNumber(t, m, put, nil, not)
					}
				}
			}
		}
	}
}

// 10.3: no records in a kind that has none, be they sorted or not.
func TestValidByRecsThatAreNotThere(t *testing.T) {
	for _, m := range both(1, 2, 3, 9) {
		for _, l := range append(lists(), wrongLists()...) {
			wantValid(t, with(m, func(m *api.Msg) { m.Recs = l }), len(l) == 0)
		}
	}
}

// 10.3: two things that may not be are not better than one.
func TestValidByTwoThings(t *testing.T) {
	faults := []func(*api.Msg){
		func(m *api.Msg) { m.From = -1 },
		func(m *api.Msg) { m.Inc = 1 << 48 },
		func(m *api.Msg) { m.Span = api.Span{} },
		func(m *api.Msg) { m.Seq = -1 },
		func(m *api.Msg) { m.Target = -1 },
		func(m *api.Msg) { m.Life = -1 },
		func(m *api.Msg) { m.Epoch = -1 },
		func(m *api.Msg) { m.Base = -1 },
		func(m *api.Msg) { m.Recs = members(5, 3) },
	}
	for _, m := range every() {
		for _, one := range faults {
			for _, two := range faults {
				wantValid(t, with(with(m, one), two), false)
			}
		}
	}
}

// numbersMayBe tells by hand, kind by kind, whether the numbers of the parts may be; has is whether there are records.
func numbersMayBe(m api.Msg, has bool) bool {
	seq, target := 0 <= m.Seq && m.Seq < 65536, 0 <= m.Target && m.Target < 4096
	life := m.Life == 0 && m.Epoch == 0 || 0 <= m.Life && m.Life < 1<<48 && 1 <= m.Epoch && m.Epoch < 65536
	noTarget, noLife := m.Target == 0, m.Life == 0 && m.Epoch == 0 && m.Base == 0
	switch m.Kind {
	case 1, 2:
		return seq && noTarget && noLife && !has
	case 3:
		return m.Seq == 0 && (m.Target == 1 || m.Target == 2 || m.Target == 3) && noLife && !has
	case 4, 5:
		return seq && noTarget && noLife
	case 6:
		return seq && target && noLife
	case 7:
		return m.Seq == 0 && noTarget && life && (m.Base == 0 || m.Base > 0 && m.Epoch > m.Base)
	case 8:
		return m.Seq == 0 && noTarget && life && m.Base == 0
	case 9:
		return m.Seq == 0 && noTarget && life && m.Epoch > 0 && m.Base == 0 && !has
	}
	return false
}

// drawer is a source of draws that are the same in each run.
func drawer() func(below int) int {
	seed := uint64(10)
	return func(below int) int {
		seed = seed*6364136223846793005 + 1442695040888963407
		return int((seed >> 33) % uint64(below))
	}
}

// 10.3: messages whose numbers were drawn of a few, most of them 0.
func TestValidOfDrawn(t *testing.T) {
	draw, may := drawer(), 0
	some := [][]int{{0, 1, 65535}, {0, 1, 3}, {0, 1, 1<<48 - 1}, {0, 1, 65535}, {0, 1, 65534}}
	wild := []int{-1, 2, 4, 4095, 4096, 65535, 65536, 1 << 48}
	number := func(of int) int {
		switch draw(20) {
		case 0:
			return wild[draw(len(wild))]
		case 1, 2, 3, 4, 5, 6, 7, 8:
			return some[of][draw(3)]
		}
		return 0
	}
	for range 300000 {
		m := api.Msg{Kind: draw(11), From: draw(4096), Inc: draw(1 << 30), Span: spans()[draw(6)], Seq: number(0), Target: number(1), Life: number(2), Epoch: number(3), Base: number(4), Recs: members(3, 5)[:draw(3)]}
		want := numbersMayBe(m, len(m.Recs) > 0)
		if want {
			may++
		}
		wantValid(t, m, want)
		if t.Failed() {
			return
		}
	}
	if may < 10000 {
		t.Errorf("%d of the drawn messages may be, which is too few to tell anything", may)
	}
}

// steps change a message in one thing each.
func steps() []func(*api.Msg) {
	return []func(*api.Msg){
		func(m *api.Msg) { m.Kind++ },
		func(m *api.Msg) { m.From++ },
		func(m *api.Msg) { m.Inc++ },
		func(m *api.Msg) { m.Span.Lo++ },
		func(m *api.Msg) { m.Span.Hi++ },
		func(m *api.Msg) { m.Seq++ },
		func(m *api.Msg) { m.Target++ },
		func(m *api.Msg) { m.Life++ },
		func(m *api.Msg) { m.Epoch++ },
		func(m *api.Msg) { m.Base++ },
		func(m *api.Msg) { m.Recs = append(m.Recs, member(4000)) },
	}
}

// anyMessages are such as differ from one another, those that may be and such as may not.
func anyMessages() []api.Msg {
	l := append(every(), api.Msg{}, api.Msg{Kind: 10}, api.Msg{Kind: -1, From: -1, Recs: members(5, 3, 3)})
	for i := range 10 {
		for _, n := range far() {
			m := goods()[7]
			switch i {
			case 0:
				m.Kind = n
			case 1:
				m.From = n
			case 2:
				m.Inc = n
			case 3:
				m.Span.Lo = n
			case 4:
				m.Span.Hi = n
			case 5:
				m.Seq = n
			case 6:
				m.Target = n
			case 7:
				m.Life = n
			case 8:
				m.Epoch = n
			case 9:
				m.Base = n
			}
			l = append(l, m)
		}
	}
	for _, r := range wrongLists() {
		if len(r) < 1000 {
			l = append(l, api.Msg{Kind: 4, Span: api.Span{Lo: 1, Hi: 3}, Recs: r})
		}
	}
	return l
}

// 10.3: messages that differ in one thing are not the same, also in a part that the kind has not.
func TestSameByOneThing(t *testing.T) {
	for _, m := range append(every(), api.Msg{}) {
		for _, step := range steps() {
			wantSame(t, m, with(deep(m), step), false)
			wantSame(t, with(m, step), with(deep(m), step), true)
		}
		for i, one := range steps() {
			for k, two := range steps() {
				wantSame(t, with(m, one), with(deep(m), two), i == k)
			}
		}
	}
}

// 10.3: messages that differ in one thing by far, also by what is the same in fewer bits.
func TestSameByFar(t *testing.T) {
	for _, m := range every() {
		for _, d := range []int{-1, 1 << 8, 1 << 16, 1 << 31, 1 << 32, 1 << 48, 1 << 62, math.MinInt} {
			for _, change := range []func(*api.Msg){
				func(m *api.Msg) { m.Kind += d }, func(m *api.Msg) { m.From += d }, func(m *api.Msg) { m.Inc += d }, func(m *api.Msg) { m.Span.Lo += d }, func(m *api.Msg) { m.Span.Hi += d },
				func(m *api.Msg) { m.Seq += d }, func(m *api.Msg) { m.Target += d }, func(m *api.Msg) { m.Life += d }, func(m *api.Msg) { m.Epoch += d }, func(m *api.Msg) { m.Base += d },
			} {
				wantSame(t, m, with(m, change), false)
			}
		}
	}
}

// 10.3: what two numbers are in all does not count, nor what they are turned about.
func TestSameByNumbersTurnedAbout(t *testing.T) {
	a := api.Msg{Kind: 1, From: 2, Inc: 3, Span: api.Span{Lo: 4, Hi: 5}, Seq: 6, Target: 7, Life: 8, Epoch: 9, Base: 10}
	places := func(m *api.Msg) []*int {
		return []*int{&m.Kind, &m.From, &m.Inc, &m.Span.Lo, &m.Span.Hi, &m.Seq, &m.Target, &m.Life, &m.Epoch, &m.Base}
	}
	for i := range 10 {
		for k := range i {
			b := a
			p := places(&b)
			*p[i], *p[k] = *p[k], *p[i]
			wantSame(t, a, b, false)
			b = a
			*p[i]++
			*p[k]--
			wantSame(t, a, b, false)
		}
	}
}

// 10.3: messages whose records differ in one thing, first, last and in between, their bags among it.
func TestSameByRecs(t *testing.T) {
	changes := []func(*api.Rec){
		func(r *api.Rec) { r.ID++ },
		func(r *api.Rec) { r.Inc++ },
		func(r *api.Rec) { r.Status++ },
		func(r *api.Rec) { r.Span.Lo++ },
		func(r *api.Rec) { r.Span.Hi++ },
		func(r *api.Rec) { r.Cut = true },
		func(r *api.Rec) { r.Bag = nil },
		func(r *api.Rec) { r.Bag = bagOf(field(40, "")) },
		func(r *api.Rec) { r.Bag = bagOf(field(40, "y")) },
		func(r *api.Rec) { r.Bag = bagOf(field(40, "xx")) },
		func(r *api.Rec) { r.Bag = bagOf(field(41, "x")) },
		func(r *api.Rec) { r.Bag = bagOf(field(40, "x"), field(40, "x")) },
		func(r *api.Rec) { r.Bag = bagOf(field(40, "x"), field(41, "")) },
		func(r *api.Rec) { r.Bag = bagOf(field(40, ""), field(40, "x")) },
	}
	for _, kind := range []int{0, 1, 4, 7, 9} {
		m := goods()[kind]
		m.Recs = members(3, 5, 7)
		for i := range 3 {
			for _, change := range changes {
				other := deep(m)
				change(&other.Recs[i])
				wantSame(t, m, other, false)
				wantSame(t, deep(other), other, true)
			}
		}
	}
}

// 10.3: as many records, and in order the same ones.
func TestSameByOrderOfRecs(t *testing.T) {
	all := [][]api.Rec{nil, members(3), members(5), members(3, 3), members(3, 5), members(5, 3), members(3, 5, 7), members(3, 7, 5), members(5, 7), crowd(255), crowd(256), {{}}, {{}, {}}}
	for i, a := range all {
		for k, b := range all {
			for _, kind := range []int{1, 4, 8} {
				x, y := plain()[kind], plain()[kind]
				x.Recs, y.Recs = a, b
				wantSame(t, x, deep(y), i == k)
			}
		}
	}
}

// 10.3: Same of each two of many, those that may not be among them.
func TestSameOfAny(t *testing.T) {
	all := anyMessages()
	for _, a := range all {
		wantSame(t, a, deep(a), true)
		for _, b := range all {
			wantSame(t, a, b, equal(a, b))
		}
	}
}

// R3: nil and the empty list are the same, of records, of fields and of bytes.
func TestNilAndEmptyAreTheSame(t *testing.T) {
	l := members(3, 5)
	for kind := range 10 {
		m := plain()[kind]
		for _, a := range [][]api.Rec{nil, {}, l[:0]} {
			for _, b := range [][]api.Rec{nil, {}, l[:0]} {
				wantSame(t, with(m, func(m *api.Msg) { m.Recs = a }), with(m, func(m *api.Msg) { m.Recs = b }), true)
			}
			wantValid(t, with(m, func(m *api.Msg) { m.Recs = a }), kind > 0)
			wantSame(t, with(m, func(m *api.Msg) { m.Recs = a }), with(m, func(m *api.Msg) { m.Recs = l }), false)
		}
		for _, a := range [][]api.Field{nil, {}, bagOf(field(40, "x"))[:0]} {
			for _, b := range [][]api.Field{nil, {}} {
				x, y := with(m, func(m *api.Msg) { m.Recs = members(3) }), with(m, func(m *api.Msg) { m.Recs = members(3) })
				x.Recs[0].Bag, y.Recs[0].Bag = a, b
				wantSame(t, x, y, true)
			}
		}
		x, y := with(m, func(m *api.Msg) { m.Recs = members(3) }), with(m, func(m *api.Msg) { m.Recs = members(3) })
		x.Recs[0].Bag[0].Data, y.Recs[0].Bag[0].Data = nil, []byte{}
		wantSame(t, x, y, true)
	}
}

// 10.3: Head of a message with and without records, those that may not be among them.
func TestHead(t *testing.T) {
	for _, m := range anyMessages() {
		for _, l := range [][]api.Rec{m.Recs, nil, {}, members(3, 5), members(5, 3), crowd(256), {{}}} {
			m.Recs = l
			h := msg.Head(m)
			if len(h.Recs) != 0 || numbers(h) != numbers(m) {
				t.Errorf("head of %v: %v", show(m), show(h))
			}
			if again := msg.Head(h); !equal(again, h) {
				t.Errorf("head of the head %v: %v", show(h), show(again))
			}
			wantSame(t, m, h, len(l) == 0)
		}
	}
}

// 10.3: the head of a message that may be, may be too.
func TestHeadMayBe(t *testing.T) {
	for _, m := range every() {
		wantValid(t, msg.Head(m), true)
	}
}

// P1 and R2: with a false the kind is 0.
func TestZeroWithFalse(t *testing.T) {
	for _, name := range []string{"", "x", "reset ", " hello", "Reset", "hello\x00"} {
		wantKind(t, name, 0, false)
	}
}

// roomy is a message whose records, bags and bytes stand in room for more.
func roomy() (m api.Msg, room []api.Rec) {
	for _, id := range []int{3, 5, 7, 6, 6} {
		r := member(id)
		b := bagOf(field(40, "x, room"), field(41, "yy, room"), field(42, "behind"), field(-1, "far behind"))
		b[0].Data, b[1].Data = b[0].Data[:1], b[1].Data[:2]
		r.Bag = b[:2]
		room = append(room, r)
	}
	m = goods()[7]
	m.Recs = room[:3]
	return m, room
}

// whole is all that a list holds, also in the room behind it, behind its bags and behind their bytes.
func whole(l []api.Rec) []api.Rec {
	var w []api.Rec
	for _, r := range l[:cap(l)] {
		var b []api.Field
		for _, f := range r.Bag[:cap(r.Bag)] {
			b = append(b, field(f.Tag, string(f.Data[:cap(f.Data)])))
		}
		r.Bag = b
		w = append(w, r)
	}
	return w
}

// callAll calls all that takes a message.
func callAll(a, b api.Msg) {
	msg.Valid(a)
	msg.Valid(b)
	msg.Same(a, b)
	msg.Same(b, a)
	msg.Head(a)
	msg.Head(b)
}

// R3: what is handed in is as it was, also in the room behind it.
func TestArgumentsStay(t *testing.T) {
	m, room := roomy()
	was, numbersWere := whole(room), numbers(m)
	for _, l := range [][]api.Rec{m.Recs, room, room[:0], room[1:4], nil, members(3)} {
		other := m
		other.Recs = l
		callAll(m, other)
		callAll(other, other)
	}
	for kind := range 11 {
		other := m
		other.Kind = kind
		callAll(m, other)
	}
	if !slices.EqualFunc(whole(room), was, equalRecs) || len(m.Recs) != 3 || numbers(m) != numbersWere {
		t.Errorf("an argument was changed: %v", show(m))
	}
}

// R3: the head shares no memory with the message, also in the room behind it, and stays whatever becomes of that.
func TestHeadIsNewMemory(t *testing.T) {
	m, room := roomy()
	was := whole(room)
	h := msg.Head(m)
	want := h
	_ = append(h.Recs, api.Rec{ID: 99}, api.Rec{ID: 98}, api.Rec{ID: 97}, api.Rec{ID: 96})
	for i := range h.Recs[:cap(h.Recs)] {
		h.Recs[:cap(h.Recs)][i] = api.Rec{ID: 95}
	}
	h.Kind, h.Seq = 1, 99
	if !slices.EqualFunc(whole(room), was, equalRecs) || m.Kind != 7 || m.Seq != 0 {
		t.Errorf("the head shares memory with the message: %v", show(m))
	}
	for i := range room {
		room[i] = api.Rec{ID: 94}
	}
	m.Kind = 2
	if len(want.Recs) != 0 || numbers(want) != numbers(goods()[7]) {
		t.Errorf("the head hangs on the message: %v", show(want))
	}
}

// R3: nothing that was handed in is kept: who writes to it is answered as of something new.
func TestArgumentsAreNotKept(t *testing.T) {
	m, room := roomy()
	other, _ := roomy()
	for range 3 {
		wantValid(t, m, true)
		wantSame(t, m, other, true)
		room[1].ID = 3
		wantValid(t, m, false)
		wantSame(t, m, other, false)
		room[1].ID = 5
		wantSame(t, m, other, true)
		room[2].Bag[1].Data[0] = 'z'
		wantValid(t, m, true)
		wantSame(t, m, other, false)
		room[2].Bag[1].Data[0] = 'y'
		wantSame(t, m, other, true)
		room[0].Bag[0].Tag = 31
		wantValid(t, m, false)
		wantSame(t, m, other, false)
		room[0].Bag[0].Tag = 40
	}
}

// P1: each call ends and none panics, of any kinds, parts, names and messages.
func TestNothingPanics(t *testing.T) {
	numbersToAsk := far()
	for kind := range 12 {
		numbersToAsk = append(numbersToAsk, kind)
		numbersToAsk = append(numbersToAsk, looksLike(kind)...)
	}
	for _, n := range numbersToAsk {
		msg.Greets(n)
		msg.Name(n)
		for _, p := range numbersToAsk {
			msg.Has(n, msg.Part(p))
		}
		m := api.Msg{Kind: n, From: n, Inc: n, Span: api.Span{Lo: n, Hi: n}, Seq: n, Target: n, Life: n, Epoch: n, Base: n, Recs: []api.Rec{{ID: n, Inc: n, Status: n}}}
		for kind := range 11 {
			callAll(m, with(m, func(m *api.Msg) { m.Kind = kind }))
			callAll(with(m, func(m *api.Msg) { m.Kind, m.From, m.Inc, m.Span, m.Recs = kind, 0, 0, api.Span{Lo: 1, Hi: 1}, nil }), m)
		}
	}
	for b := range 256 {
		msg.Kind(string([]byte{byte(b)}))
		msg.Kind(strings.Repeat(string([]byte{byte(b)}), b))
	}
}

// P1: long lists come to an end too.
func TestLongLists(t *testing.T) {
	m := goods()[4]
	m.Recs = slices.Repeat(members(3, 5), 200000)
	wantValid(t, m, false)
	wantSame(t, m, m, true)
	wantSame(t, m, msg.Head(m), false)
}

// R4: the same arguments come to the same, whatever was asked ahead.
func TestAgainIsTheSame(t *testing.T) {
	for range 3 {
		for _, l := range table() {
			for p, want := range l.has {
				wantHas(t, l.kind, p, want)
			}
			wantHas(t, l.kind, -1, false)
			wantHas(t, l.kind, 5, false)
			wantKind(t, l.name, l.kind, true)
			wantKind(t, l.name+" ", 0, false)
			wantValid(t, goods()[l.kind], true)
			wantValid(t, with(goods()[l.kind], func(m *api.Msg) { m.Kind = 0 }), false)
			wantSame(t, goods()[l.kind], plain()[l.kind], false)
		}
	}
}

// The chapter's examples.
func TestExamples(t *testing.T) {
	for p, want := range []bool{true, true, false, false, true} {
		wantHas(t, api.Ask, p, want)
		wantHas(t, api.Reject, p, p == int(msg.Target))
	}
	push := api.Msg{Kind: api.Push, Span: api.Span{Lo: 1, Hi: 3}, Epoch: 3}
	wantValid(t, with(push, func(m *api.Msg) { m.Base = 3 }), false)
	wantValid(t, with(push, func(m *api.Msg) { m.Base = 2 }), true)
	wantKind(t, "pull", 8, true)
}
