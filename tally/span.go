package tally

import (
	"slices"

	"couchant/api"
)

// maxSpans is how many intervals can be joined.
const maxSpans = 200

// maxNumber is the greatest number in an interval.
const maxNumber = 100000000

// span is an interval that can be joined with others.
type span api.Interval

func (a span) empty() bool { return a == span{} }

func (a span) valid() bool {
	return a.empty() || a.Some && within(0, maxNumber, a.Low, a.High) && a.Low <= a.High
}

// to returns the numbers from low to high.
func to(low, high int) span {
	if low > high {
		return span{}
	}
	return span{low, high, true}
}

// both returns the numbers that are in both.
func (a span) both(b span) span {
	if a.empty() || b.empty() {
		return span{}
	}
	return to(max(a.Low, b.Low), min(a.High, b.High))
}

// plus returns the sums of two that are not empty; it panics if one is too great.
func (a span) plus(b span) span {
	if a.High+b.High > maxNumber {
		panic(api.ErrLimit)
	}
	return to(a.Low+b.Low, a.High+b.High)
}

// less returns the differences, of at least 0.
func (a span) less(b span) span {
	if a.empty() || b.empty() {
		return span{}
	}
	return to(max(a.Low-b.High, 0), a.High-b.Low)
}

// joined returns what becomes of a span when it is joined with each of some others.
func joined(a span, others []span, with func(a, b span) span) span {
	for _, b := range others {
		a = with(a, b)
	}
	return a
}

// joinedTwo returns what becomes of two intervals, if they are valid.
func joinedTwo(a, b api.Interval, with func(a, b span) span) api.Interval {
	if !span(a).valid() || !span(b).valid() {
		return api.Interval{}
	}
	return api.Interval(with(span(a), span(b)))
}

// Both returns the numbers that are in two intervals.
func Both(a, b api.Interval) api.Interval { return joinedTwo(a, b, span.both) }

// Less returns the differences, of at least 0, of a number of a less one of b.
func Less(a, b api.Interval) api.Interval { return joinedTwo(a, b, span.less) }

// Sum returns the sums of one number of each of some intervals.
func Sum(l []api.Interval) (sum api.Interval, e api.Errno) {
	if len(l) > maxSpans {
		return api.Interval{}, api.ErrLimit
	}
	var spans []span
	for _, x := range l {
		if !span(x).valid() {
			return api.Interval{}, api.ErrArg
		}
		spans = append(spans, span(x))
	}
	// Without any sum none is too great, so this comes before they are added.
	if slices.ContainsFunc(spans, span.empty) {
		return api.Interval{}, api.OK
	}
	defer func() {
		if recover() != nil {
			sum, e = api.Interval{}, api.ErrLimit
		}
	}()
	return api.Interval(joined(to(0, 0), spans, span.plus)), api.OK
}

// firstApart returns the indices of the first two spans that have nothing in common, perhaps of one that is empty.
func firstApart(spans []span) []int {
	for i, a := range spans {
		for j, b := range spans[i:] {
			if a.both(b).empty() {
				return []int{i, i + j}
			}
		}
	}
	return nil
}

// Passage returns the true numbers that fit each of some tallies, or the first two of these which contradict each other.
func Passage(rates []api.Rate, counts []api.Count) (api.Interval, []int, api.Errno) {
	if len(counts) > maxSpans {
		return api.Interval{}, nil, api.ErrLimit
	}
	if len(counts) == 0 || len(rates) != len(counts) {
		return api.Interval{}, nil, api.ErrArg
	}
	var spans []span
	for i, c := range counts {
		if !isRate(rates[i]) || !isCount(c) {
			return api.Interval{}, nil, api.ErrArg
		}
		spans = append(spans, allowedBy(rates[i], c))
	}
	// Intervals of which any two have a number in common all have one in common.
	common := joined(to(0, api.MaxBeasts), spans, span.both)
	return api.Interval(common), firstApart(spans), api.OK
}
