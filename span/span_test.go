package span

import (
	"math"
	"slices"
	"testing"
)

const top = math.MaxUint64

// someSpans: ordinary ones, empty ones, turned ones, those at either end of all addresses.
var someSpans = []Span{
	{10, 20}, {20, 30}, {15, 25}, {12, 13}, {0, 10}, {0, 1}, {0, 100}, {29, 30}, {30, 31},
	{0, 0}, {10, 10}, {20, 10}, {15, 15}, {top, 0}, {top, top}, {top, 5},
	{top - 1, top}, {top - 10, top}, {1 << 63, top}, {0, top}, {0, 1 << 63},
}

// somePlaces lie at the edges of these.
var somePlaces = []uint64{0, 1, 9, 10, 11, 12, 13, 15, 19, 20, 24, 25, 29, 30, 31, 99, 100, 1<<63 - 1, 1 << 63, top - 11, top - 10, top - 2, top - 1, top}

// of: is an address of a span, as the document words it?
func of(s Span, at uint64) bool { return at >= s.Lo && at < s.Hi }

// P3.1.
func TestSpanLen(t *testing.T) {
	for _, c := range []struct {
		s    Span
		want uint64
	}{
		{Span{10, 20}, 10},
		{Span{0, 1}, 1},
		{Span{0, 0}, 0},
		{Span{20, 10}, 0},
		{Span{top, 0}, 0},
		{Span{top, top}, 0},
		{Span{0, top}, top},
		{Span{top - 1, top}, 1},
	} {
		if got := c.s.Len(); got != c.want {
			t.Errorf("%v.Len() = %d", c.s, got)
		}
	}
}

// P3.1.
func TestSpanHas(t *testing.T) {
	for _, c := range []struct {
		s    Span
		at   uint64
		want bool
	}{
		{Span{10, 20}, 9, false},
		{Span{10, 20}, 10, true},
		{Span{10, 20}, 19, true},
		{Span{10, 20}, 20, false},
		{Span{20, 10}, 15, false},
		{Span{20, 10}, 20, false},
		{Span{10, 10}, 10, false},
		{Span{top - 1, top}, top - 1, true},
		{Span{top - 1, top}, top, false},
		{Span{top, 0}, top, false},
	} {
		if got := c.s.Has(c.at); got != c.want {
			t.Errorf("%v.Has(%d) = %v", c.s, c.at, got)
		}
	}
}

// P3.1: somePlaces has an address of each part that the spans cut from one another.
func TestSpanMeetsAndWithin(t *testing.T) {
	for _, s := range someSpans {
		for _, o := range someSpans {
			meets, within := false, true
			for _, at := range somePlaces {
				meets = meets || of(s, at) && of(o, at)
				within = within && (!of(s, at) || of(o, at))
			}
			if got := s.Meets(o); got != meets {
				t.Errorf("%v.Meets(%v) = %v", s, o, got)
			}
			if got := s.Within(o); got != within {
				t.Errorf("%v.Within(%v) = %v", s, o, got)
			}
		}
	}
}

// spansOf a set, as a list.
func spansOf(s *Set) []Span {
	var l []Span
	for x := range s.All() {
		l = append(l, x)
	}
	return l
}

// made: a set of spans.
func made(t *testing.T, l ...Span) *Set {
	t.Helper()
	s := new(Set)
	for _, x := range l {
		if !s.Add(x) {
			t.Fatalf("Add(%v) to %v", x, spansOf(s))
		}
	}
	return s
}

// wantSpans: are these a set's spans, and have they all its addresses?
func wantSpans(t *testing.T, s *Set, want ...Span) {
	t.Helper()
	if got := spansOf(s); !slices.Equal(got, want) {
		t.Errorf("spans %v, not %v", got, want)
	}
	var n uint64
	for _, x := range want {
		n += x.Hi - x.Lo
	}
	if got := s.Len(); got != n {
		t.Errorf("Len() = %d, not %d", got, n)
	}
}

// P3.2.
func TestSetZero(t *testing.T) {
	var s Set
	wantSpans(t, &s)
	if s.Covers(Span{0, 1}) || s.Meets(Span{0, top}) || s.Remove(Span{0, 1}) {
		t.Error("the zero value has addresses")
	}
	if !s.Covers(Span{5, 5}) || !s.Covers(Span{5, 4}) {
		t.Error("an empty span isn't covered")
	}
	if s.Meets(Span{5, 5}) {
		t.Error("an empty span is met")
	}
}

// P3.2.
func TestSetAdd(t *testing.T) {
	wantSpans(t, made(t, Span{10, 20}, Span{20, 30}), Span{10, 30})
	wantSpans(t, made(t, Span{20, 30}, Span{10, 20}), Span{10, 30})
	wantSpans(t, made(t, Span{20, 30}, Span{40, 50}, Span{0, 10}), Span{0, 10}, Span{20, 30}, Span{40, 50})
	wantSpans(t, made(t, Span{0, 10}, Span{20, 30}, Span{10, 20}), Span{0, 30})
	wantSpans(t, made(t, Span{0, 10}, Span{20, 30}, Span{11, 20}), Span{0, 10}, Span{11, 30})
	wantSpans(t, made(t, Span{0, 10}, Span{20, 30}, Span{10, 19}), Span{0, 19}, Span{20, 30})
	wantSpans(t, made(t, Span{top - 1, top}, Span{0, 1}), Span{0, 1}, Span{top - 1, top})
	wantSpans(t, made(t, Span{0, top}), Span{0, top})

	s := made(t, Span{10, 20}, Span{30, 40})
	for _, x := range []Span{
		{10, 20}, {9, 11}, {19, 21}, {12, 13}, {0, 100}, {20, 31}, {19, 30}, {39, 40}, {0, top},
		{5, 5}, {15, 15}, {30, 10}, {25, 20}, {top, 0}, {0, 0},
	} {
		if s.Add(x) {
			t.Errorf("Add(%v)", x)
		}
		wantSpans(t, s, Span{10, 20}, Span{30, 40})
	}
}

// P3.2.
func TestSetRemove(t *testing.T) {
	for _, c := range []struct {
		x    Span
		want []Span
	}{
		{Span{10, 20}, []Span{{30, 40}}},
		{Span{30, 40}, []Span{{10, 20}}},
		{Span{10, 15}, []Span{{15, 20}, {30, 40}}},
		{Span{15, 20}, []Span{{10, 15}, {30, 40}}},
		{Span{14, 16}, []Span{{10, 14}, {16, 20}, {30, 40}}},
		{Span{39, 40}, []Span{{10, 20}, {30, 39}}},
	} {
		s := made(t, Span{10, 20}, Span{30, 40})
		if !s.Remove(c.x) {
			t.Errorf("Remove(%v)", c.x)
		}
		wantSpans(t, s, c.want...)
	}

	s := made(t, Span{10, 20}, Span{30, 40})
	for _, x := range []Span{
		{9, 11}, {19, 21}, {20, 30}, {10, 40}, {0, 5}, {50, 60}, {25, 26}, {0, top},
		{15, 15}, {20, 10}, {0, 0}, {top, 0},
	} {
		if s.Remove(x) {
			t.Errorf("Remove(%v)", x)
		}
		wantSpans(t, s, Span{10, 20}, Span{30, 40})
	}
}

// P3.2.
func TestSetCoversAndMeets(t *testing.T) {
	s := made(t, Span{10, 20}, Span{30, 40}, Span{top - 10, top})
	for _, c := range []struct {
		x             Span
		covers, meets bool
	}{
		{Span{10, 20}, true, true},
		{Span{12, 13}, true, true},
		{Span{30, 40}, true, true},
		{Span{10, 21}, false, true},
		{Span{9, 20}, false, true},
		{Span{15, 35}, false, true},
		{Span{19, 30}, false, true},
		{Span{0, 100}, false, true},
		{Span{20, 30}, false, false},
		{Span{0, 10}, false, false},
		{Span{40, top - 10}, false, false},
		{Span{top - 1, top}, true, true},
		{Span{top - 11, top}, false, true},
		{Span{15, 15}, true, false},
		{Span{25, 25}, true, false},
		{Span{35, 15}, true, false},
		{Span{top, top}, true, false},
	} {
		if got := s.Covers(c.x); got != c.covers {
			t.Errorf("Covers(%v) = %v", c.x, got)
		}
		if got := s.Meets(c.x); got != c.meets {
			t.Errorf("Meets(%v) = %v", c.x, got)
		}
	}
}

// P3.2: what is ranged over ends when it is told to, and may be gone through again.
func TestSetAll(t *testing.T) {
	s := made(t, Span{30, 40}, Span{10, 20}, Span{50, 60})
	all := s.All()
	for range 2 {
		var met []Span
		for x := range all {
			met = append(met, x)
			if len(met) == 2 {
				break
			}
		}
		if !slices.Equal(met, []Span{{10, 20}, {30, 40}}) {
			t.Error(met)
		}
	}
	wantSpans(t, s, Span{10, 20}, Span{30, 40}, Span{50, 60})
}

// P3.2, P3.3.
func TestSetNil(t *testing.T) {
	var s *Set
	for _, x := range someSpans {
		if s.Add(x) || s.Remove(x) || s.Covers(x) || s.Meets(x) {
			t.Errorf("a nil set answers true of %v", x)
		}
		if at, ok := s.Fit(1, 1, x); at != 0 || ok {
			t.Errorf("Fit of a nil set: %d %v", at, ok)
		}
	}
	wantSpans(t, s)
}

// P3.3.
func TestSetFit(t *testing.T) {
	s := made(t, Span{10, 20}, Span{20, 30}, Span{40, 50}, Span{top - 20, top - 10})
	for _, c := range []struct {
		n, align uint64
		in       Span
		want     uint64
		ok       bool
	}{
		{5, 4, Span{0, 100}, 0, true},
		{5, 8, Span{8, 100}, 32, true},
		{10, 1, Span{0, 100}, 0, true},
		{11, 1, Span{0, 100}, 50, true},
		{10, 1, Span{1, 100}, 30, true},
		{10, 7, Span{1, 100}, 56, true},
		{9, 7, Span{1, 44}, 0, false},
		{5, 7, Span{7, 40}, 35, true},
		{5, 7, Span{7, 39}, 0, false},
		{50, 1, Span{10, 100}, 50, true},
		{51, 1, Span{10, 100}, 0, false},
		{1, 1, Span{15, 30}, 0, false},
		{1, 1, Span{15, 31}, 30, true},
		{1, 1, Span{15, 16}, 0, false},
		{1, 64, Span{1, 64}, 0, false},
		{1, 64, Span{1, 65}, 64, true},
		{1, top, Span{0, top}, 0, true},
		{1, top, Span{1, top}, 0, false},
		{1, 1 << 63, Span{1, top}, 1 << 63, true},
		{1, 1 << 63, Span{1<<63 + 1, top}, 0, false},
		{10, 1, Span{top - 25, top}, top - 10, true},
		{11, 1, Span{top - 25, top}, 0, false},
		{5, 1, Span{top - 25, top}, top - 25, true},
		{top, 1, Span{0, top}, 0, false},
		{top, 1, Span{top - 5, top}, 0, false},
		{1, 1, Span{top, top}, 0, false},
		{1, 1, Span{5, 5}, 0, false},
		{1, 1, Span{8, 3}, 0, false},
		{0, 1, Span{0, 100}, 0, false},
		{1, 0, Span{0, 100}, 0, false},
		{0, 0, Span{0, 100}, 0, false},
	} {
		if at, ok := s.Fit(c.n, c.align, c.in); at != c.want || ok != c.ok {
			t.Errorf("Fit(%d, %d, %v) = %d %v", c.n, c.align, c.in, at, ok)
		}
	}
	wantSpans(t, s, Span{10, 30}, Span{40, 50}, Span{top - 20, top - 10})
}

// P3.3.
func TestSetFitOfEmptySet(t *testing.T) {
	var s Set
	if at, ok := s.Fit(top, 1, Span{0, top}); at != 0 || !ok {
		t.Error(at, ok)
	}
	if at, ok := s.Fit(1, 256, Span{top - 100, top}); at != 0 || ok {
		t.Error(at, ok)
	}
}

// few is how many addresses a plain set has in all.
const few = 12

// plain is a set of few addresses, told one by one.
type plain [few]bool

func (p *plain) count(x Span) (in, all uint64) {
	for at := x.Lo; at < x.Hi; at++ {
		all++
		if p[at] {
			in++
		}
	}
	return in, all
}

func (p *plain) fill(x Span, there bool) {
	for at := x.Lo; at < x.Hi; at++ {
		p[at] = there
	}
}

func (p *plain) spans(base uint64) []Span {
	var l []Span
	for at := range uint64(few) {
		if !p[at] {
			continue
		}
		if n := len(l); n > 0 && l[n-1].Hi == base+at {
			l[n-1].Hi++
		} else {
			l = append(l, Span{base + at, base + at + 1})
		}
	}
	return l
}

func (p *plain) fit(n, align, base uint64, x Span) (uint64, bool) {
	for at := x.Lo; n > 0 && align > 0 && at < x.Hi; at++ {
		in, _ := p.count(Span{at, min(at+n, x.Hi)})
		if at+n <= x.Hi && in == 0 && (base+at)%align == 0 {
			return base + at, true
		}
	}
	return 0, false
}

// P3.2, P3.3: many steps, against a set that is told address by address, at both ends of all addresses.
func TestSetAgainstPlain(t *testing.T) {
	for _, base := range []uint64{0, 1000, 1<<63 - 5, top - few + 1} {
		var s Set
		var p plain
		seed := uint64(base + 1)
		next := func(below uint64) uint64 {
			seed = seed*6364136223846793005 + 1442695040888963407
			return seed >> 33 % below
		}
		for range 20000 {
			x := Span{next(few), next(few)}
			y := Span{base + x.Lo, base + x.Hi}
			in, all := p.count(x)
			if s.Covers(y) != (in == all) || s.Meets(y) != (in > 0) {
				t.Fatalf("%v: Covers or Meets of %v", spansOf(&s), y)
			}
			n, align := next(5), next(6)
			at, ok := s.Fit(n, align, y)
			if wantAt, want := p.fit(n, align, base, x); at != wantAt || ok != want {
				t.Fatalf("%v: Fit(%d, %d, %v) = %d %v", spansOf(&s), n, align, y, at, ok)
			}
			if next(2) == 0 {
				if s.Add(y) != (all > 0 && in == 0) {
					t.Fatalf("%v: Add(%v)", spansOf(&s), y)
				}
				if in == 0 {
					p.fill(x, true)
				}
			} else {
				if s.Remove(y) != (all > 0 && in == all) {
					t.Fatalf("%v: Remove(%v)", spansOf(&s), y)
				}
				if in == all {
					p.fill(x, false)
				}
			}
			wantSpans(t, &s, p.spans(base)...)
			if t.Failed() {
				t.FailNow()
			}
		}
	}
}
