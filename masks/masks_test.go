package masks_test

import (
	"math"
	"math/rand"
	"slices"
	"testing"

	"slotrules/api"
	"slotrules/masks"
)

// day is a mask told the slow way, minute by minute.
type day [api.Minutes]bool

func span(a, b int) api.Span { return api.Span{A: a, B: b} }

func of(l ...api.Span) api.Mask { return masks.Of(l) }

func dayOf(m api.Mask) day {
	var d day
	for i := range d {
		d[i] = m[i/64]>>(i%64)&1 == 1
	}
	return d
}

func (d day) mask() api.Mask {
	var m api.Mask
	for i, has := range d {
		if has {
			m[i/64] |= 1 << (i % 64)
		}
	}
	return m
}

func (d day) holds(s api.Span) bool {
	if s.A < 0 || s.B > api.Minutes || s.A > s.B {
		return false
	}
	for i := s.A; i < s.B; i++ {
		if !d[i] {
			return false
		}
	}
	return true
}

// dirty has all bits behind the last minute set, which mean nothing.
func dirty(m api.Mask) api.Mask {
	m[api.Words-1] |= ^uint64(1<<(api.Minutes%64) - 1)
	return m
}

func allBits() api.Mask { return dirty(of(span(0, api.Minutes))) }

// samples are masks of every shape that the document names, each one with and without bits behind the last minute.
func samples() []api.Mask {
	clean := []api.Mask{
		{},
		of(span(0, api.Minutes)),
		of(span(0, 1)),
		of(span(1439, 1440)),
		of(span(0, 1), span(1439, 1440)),
		of(span(63, 64)), of(span(64, 65)), of(span(63, 65)),
		of(span(0, 64)), of(span(64, 128)), of(span(0, 128)), of(span(1, 1439)),
		of(span(1407, 1408)), of(span(1408, 1409)), of(span(1407, 1409)), of(span(1408, 1440)),
		of(span(60, 130), span(130, 200)),
		of(span(540, 720), span(780, 1020)),
	}
	r := rand.New(rand.NewSource(2))
	for range 12 {
		var d day
		for i, has := 0, false; i < len(d); has = !has {
			for n := 1 + r.Intn(1+r.Intn(200)); n > 0 && i < len(d); n, i = n-1, i+1 {
				d[i] = has
			}
		}
		clean = append(clean, d.mask())
	}
	var l []api.Mask
	for _, m := range clean {
		l = append(l, m, dirty(m))
	}
	return l
}

func TestB1Of(t *testing.T) {
	for _, c := range []struct {
		l    []api.Span
		want []api.Span
	}{
		{nil, nil},
		{[]api.Span{}, nil},
		{[]api.Span{span(60, 130)}, []api.Span{span(60, 130)}},
		{[]api.Span{span(60, 130), span(130, 200)}, []api.Span{span(60, 200)}},
		{[]api.Span{span(130, 200), span(60, 130)}, []api.Span{span(60, 200)}},
		{[]api.Span{span(60, 129), span(130, 200)}, []api.Span{span(60, 129), span(130, 200)}},
		{[]api.Span{span(60, 150), span(100, 200), span(110, 120)}, []api.Span{span(60, 200)}},
		{[]api.Span{span(900, 910), span(60, 70), span(60, 70)}, []api.Span{span(60, 70), span(900, 910)}},
		{[]api.Span{span(0, 1), span(1439, 1440)}, []api.Span{span(0, 1), span(1439, 1440)}},
		{[]api.Span{span(63, 64), span(64, 65)}, []api.Span{span(63, 65)}},
		{[]api.Span{span(0, 64), span(128, 192)}, []api.Span{span(0, 64), span(128, 192)}},
		{[]api.Span{span(0, api.Minutes)}, []api.Span{span(0, api.Minutes)}},
	} {
		m := masks.Of(c.l)
		if got := masks.Spans(m); !slices.Equal(got, c.want) {
			t.Errorf("Spans(Of(%v)) is %v, not %v", c.l, got, c.want)
		}
	}
}

func TestB1OfLeavesOutWhatIsNoMinute(t *testing.T) {
	for _, c := range []struct {
		l    []api.Span
		want []api.Span
	}{
		{[]api.Span{span(-5, 3)}, []api.Span{span(0, 3)}},
		{[]api.Span{span(-64, 1)}, []api.Span{span(0, 1)}},
		{[]api.Span{span(1400, 2000)}, []api.Span{span(1400, 1440)}},
		{[]api.Span{span(1439, 1441)}, []api.Span{span(1439, 1440)}},
		{[]api.Span{span(1440, 1441), span(1440, 1472), span(1472, 1500)}, nil},
		{[]api.Span{span(-10, -5), span(-1, 0), span(2000, 3000)}, nil},
		{[]api.Span{span(500, 400), span(1, 0), span(1440, 0), span(70, 60)}, nil},
		{[]api.Span{span(0, 0), span(64, 64), span(1440, 1440), span(7, 7)}, nil},
		{[]api.Span{span(math.MinInt, math.MaxInt)}, []api.Span{span(0, 1440)}},
		{[]api.Span{span(math.MinInt, 5), span(1435, math.MaxInt)}, []api.Span{span(0, 5), span(1435, 1440)}},
		{[]api.Span{span(math.MaxInt, math.MinInt), span(math.MaxInt, math.MaxInt), span(math.MinInt, math.MinInt)}, nil},
		{[]api.Span{span(2000, -5), span(60, 70)}, []api.Span{span(60, 70)}},
	} {
		m := masks.Of(c.l)
		if got := masks.Spans(m); !slices.Equal(got, c.want) {
			t.Errorf("Spans(Of(%v)) is %v, not %v", c.l, got, c.want)
		}
		if m[api.Words-1]>>(api.Minutes%64) != 0 {
			t.Errorf("Of(%v) has bits behind the last minute", c.l)
		}
	}
}

func TestB1OfEverySpanNearTheEndsOfWords(t *testing.T) {
	places := []int{-65, -64, -1, 0, 1, 62, 63, 64, 65, 127, 128, 129, 1375, 1376, 1407, 1408, 1409, 1438, 1439, 1440, 1441, 1471, 1472, 1473}
	for _, a := range places {
		for _, b := range places {
			var want day
			for i := range want {
				want[i] = a <= i && i < b
			}
			if got := of(span(a, b)); got != want.mask() {
				t.Errorf("Of(%d to %d) is %x, not %x", a, b, got, want.mask())
			}
		}
	}
}

func TestB1OfOnlyReads(t *testing.T) {
	room := []api.Span{span(5, 3), span(-1, 9), span(100, 200), span(300, 400)}
	if got := masks.Of(room[:2]); got != of(span(0, 9)) {
		t.Errorf("Of looks at the room behind its list: %v", masks.Spans(got))
	}
	if !slices.Equal(room, []api.Span{span(5, 3), span(-1, 9), span(100, 200), span(300, 400)}) {
		t.Errorf("Of changes its list: %v", room)
	}
}

func TestB1SpansAreFewestAndRising(t *testing.T) {
	for _, m := range samples() {
		l := masks.Spans(m)
		for i, s := range l {
			if s.A < 0 || s.A >= s.B || s.B > api.Minutes || i > 0 && l[i-1].B >= s.A {
				t.Fatalf("Spans are %v", l)
			}
		}
		if got := masks.Of(l); got != dayOf(m).mask() {
			t.Errorf("Of(Spans) is %x, not %x", got, dayOf(m).mask())
		}
	}
	if got := masks.Spans(allBits()); !slices.Equal(got, []api.Span{span(0, api.Minutes)}) {
		t.Errorf("Spans of all bits are %v", got)
	}
	if got := masks.Spans(dirty(api.Mask{})); len(got) != 0 {
		t.Errorf("Spans of bits behind the last minute are %v", got)
	}
}

func TestB1UnionDiffBoth(t *testing.T) {
	for _, a := range samples() {
		for _, b := range samples() {
			var union, diff, both day
			x, y := dayOf(a), dayOf(b)
			for i := range x {
				union[i], diff[i], both[i] = x[i] || y[i], x[i] && !y[i], x[i] && y[i]
			}
			if got := masks.Union(a, b); got != union.mask() {
				t.Errorf("Union(%x, %x) is %x", a, b, got)
			}
			if got := masks.Diff(a, b); got != diff.mask() {
				t.Errorf("Diff(%x, %x) is %x", a, b, got)
			}
			if got := masks.Both(a, b); got != both.mask() {
				t.Errorf("Both(%x, %x) is %x", a, b, got)
			}
		}
	}
}

func TestB1Shift(t *testing.T) {
	for _, m := range samples() {
		d := dayOf(m)
		for by := -1475; by <= 1475; by++ {
			var want day
			for i, has := range d {
				if to := i + by; has && to >= 0 && to < api.Minutes {
					want[to] = true
				}
			}
			if got := masks.Shift(m, by); got != want.mask() {
				t.Fatalf("Shift(%v, %d) is %v", masks.Spans(m), by, masks.Spans(got))
			}
		}
	}
}

func TestB1ShiftByADayAndMore(t *testing.T) {
	for _, m := range samples() {
		for _, by := range []int{math.MinInt, math.MinInt + 1, -1 << 32, -2880, -1441, -1440, 1440, 1441, 2880, 1 << 32, math.MaxInt} {
			if got := masks.Shift(m, by); got != (api.Mask{}) {
				t.Errorf("Shift(%v, %d) is %v", masks.Spans(m), by, masks.Spans(got))
			}
		}
	}
}

func TestB1Count(t *testing.T) {
	if got := masks.Count(of(span(60, 130))); got != 70 {
		t.Errorf("minutes 60 to 130 are %d", got)
	}
	if got := masks.Count(allBits()); got != api.Minutes {
		t.Errorf("all bits are %d minutes", got)
	}
	for _, m := range samples() {
		want := 0
		for _, has := range dayOf(m) {
			if has {
				want++
			}
		}
		if got := masks.Count(m); got != want {
			t.Errorf("Count(%v) is %d, not %d", masks.Spans(m), got, want)
		}
	}
}

func TestB2Holds(t *testing.T) {
	m := of(span(60, 130), span(130, 200), span(300, 301))
	for s, want := range map[api.Span]bool{
		span(60, 200): true, span(60, 130): true, span(199, 200): true, span(300, 301): true,
		span(59, 61): false, span(199, 201): false, span(200, 201): false, span(150, 301): false,
		span(0, 0): true, span(700, 700): true, span(1440, 1440): true,
		span(0, 1440): false, span(9, 8): false, span(130, 129): false,
	} {
		if got := masks.Holds(m, s); got != want {
			t.Errorf("Holds(%v) is %v", s, got)
		}
	}
}

func TestB2HoldsNothingOutsideTheDay(t *testing.T) {
	for _, s := range []api.Span{
		span(-1, -1), span(-1, 0), span(-1, 5), span(5, 1441), span(1440, 1441), span(1441, 1441), span(1450, 1460),
		span(1440, 1439), span(1, 0), span(9, 8), span(math.MinInt, math.MaxInt), span(math.MaxInt, math.MinInt),
		span(math.MinInt, math.MinInt), span(math.MaxInt, math.MaxInt), span(0, math.MaxInt), span(math.MinInt, 0),
	} {
		if masks.Holds(allBits(), s) {
			t.Errorf("all bits hold %v", s)
		}
	}
}

func TestB2HoldsMinuteByMinute(t *testing.T) {
	places := []int{-1, 0, 1, 63, 64, 65, 128, 200, 600, 1407, 1408, 1409, 1439, 1440, 1441}
	for _, m := range samples() {
		d := dayOf(m)
		for _, a := range places {
			for _, b := range places {
				if got := masks.Holds(m, span(a, b)); got != d.holds(span(a, b)) {
					t.Errorf("Holds(%v, %d to %d) is %v", masks.Spans(m), a, b, got)
				}
			}
		}
	}
}

func TestB2Next(t *testing.T) {
	m := of(span(60, 130), span(200, 300), span(1380, 1440))
	for _, c := range []struct {
		from, length, at int
		ok               bool
	}{
		{0, 1, 60, true}, {0, 70, 60, true}, {0, 71, 200, true}, {0, 100, 200, true}, {0, 101, 0, false},
		{60, 70, 60, true}, {61, 69, 61, true}, {61, 70, 200, true}, {129, 1, 129, true}, {130, 1, 200, true},
		{300, 60, 1380, true}, {300, 61, 0, false}, {1380, 60, 1380, true}, {1381, 60, 0, false},
		{1439, 1, 1439, true}, {1440, 1, 0, false}, {-5, 1, 60, true}, {math.MinInt, 70, 60, true},
		{0, 0, 0, true}, {-5, 0, 0, true}, {math.MinInt, 0, 0, true}, {131, 0, 131, true}, {1440, 0, 1440, true},
		{1441, 0, 0, false}, {1441, 1, 0, false}, {math.MaxInt, 0, 0, false}, {math.MaxInt, 1, 0, false},
		{0, -1, 0, false}, {0, 1441, 0, false}, {0, math.MinInt, 0, false}, {0, math.MaxInt, 0, false},
		{-5, -1, 0, false}, {math.MinInt, math.MinInt, 0, false}, {math.MaxInt, math.MaxInt, 0, false},
	} {
		if at, ok := masks.Next(m, c.from, c.length); at != c.at || ok != c.ok {
			t.Errorf("Next(%d, %d) is %d, %v, not %d, %v", c.from, c.length, at, ok, c.at, c.ok)
		}
	}
}

func TestB2NextOfEmptyAndFullMasks(t *testing.T) {
	for _, empty := range []api.Mask{{}, dirty(api.Mask{})} {
		for _, from := range []int{-1, 0, 1439, 1440} {
			if at, ok := masks.Next(empty, from, 0); at != max(from, 0) || !ok {
				t.Errorf("Next of an empty mask from %d on, of no minutes, is %d, %v", from, at, ok)
			}
			if at, ok := masks.Next(empty, from, 1); at != 0 || ok {
				t.Errorf("Next of an empty mask from %d on is %d, %v", from, at, ok)
			}
		}
	}
	for _, full := range []api.Mask{of(span(0, api.Minutes)), allBits()} {
		if at, ok := masks.Next(full, 0, api.Minutes); at != 0 || !ok {
			t.Errorf("Next of a full mask is %d, %v", at, ok)
		}
		for _, from := range []int{1, 700, 1440} {
			if at, ok := masks.Next(full, from, api.Minutes+1-from); at != 0 || ok {
				t.Errorf("Next of a full mask from %d on is %d, %v", from, at, ok)
			}
			if at, ok := masks.Next(full, from, api.Minutes-from); at != from || !ok {
				t.Errorf("Next of a full mask from %d on is %d, %v", from, at, ok)
			}
		}
	}
}

// firstPlace tries every place in turn, as the promise says it.
func firstPlace(d day, from, length int) (int, bool) {
	if length < 0 || length > api.Minutes {
		return 0, false
	}
	for at := max(from, 0); at <= api.Minutes; at++ {
		if d.holds(span(at, at+length)) {
			return at, true
		}
	}
	return 0, false
}

func TestB2NextPlaceByPlace(t *testing.T) {
	for _, m := range samples() {
		d := dayOf(m)
		for _, from := range []int{-1, 0, 1, 60, 63, 64, 65, 500, 1400, 1407, 1408, 1439, 1440, 1441} {
			for _, length := range []int{-1, 0, 1, 2, 31, 32, 33, 63, 64, 65, 140, 180, 1438, 1439, 1440, 1441} {
				at, ok := masks.Next(m, from, length)
				if x, is := firstPlace(d, from, length); at != x || ok != is {
					t.Errorf("Next(%v, %d, %d) is %d, %v, not %d, %v", masks.Spans(m), from, length, at, ok, x, is)
				}
			}
		}
	}
}
