package span_test

import (
	"runtime"
	"slices"
	"testing"

	"redraft/api"
	"redraft/span"
)

func TestP2_10EachGivesThePlaces(t *testing.T) {
	for _, base := range []int{0, end - 7} {
		for bits := range 128 {
			a := listOf(smallSet(bits, base))
			var want []int
			for q := base; q < base+7; q++ {
				if bits>>(q-base)&1 == 1 {
					want = append(want, q)
				}
			}
			each := span.Each(a)
			for range 2 {
				if got := slices.Collect(each); !slices.Equal(got, want) {
					t.Errorf("P2.10: Each(%v) gives %v, want %v", a, got, want)
				}
			}
		}
	}
	want := 0
	for q := range span.Each(list(0, end)) {
		if q != want {
			t.Fatalf("P2.10: Each of all places gives %d, want %d", q, want)
		}
		want++
	}
	if want != end {
		t.Errorf("P2.10: Each of all places gives %d of them", want)
	}
}

func TestP2_10WhatIsNoListGivesNone(t *testing.T) {
	wrong := append(wrongLists(), wrongList{}, wrongList{a: []api.Range{}})
	for _, w := range wrong {
		each := span.Each(w.a)
		if each == nil {
			t.Fatalf("P2.10: Each(%v) is nil", short(w.a))
		}
		for q := range each {
			t.Fatalf("P2.10: Each(%v) gives %d", short(w.a), q)
		}
	}
}

func TestP2_10EachHoldsACopy(t *testing.T) {
	a := list(2, 4, 6, 7)
	each := span.Each(a)
	a[0], a[1] = api.Range{Lo: 0, Hi: 9}, api.Range{Lo: 5, Hi: 2}
	if got := slices.Collect(each); !slices.Equal(got, []int{2, 3, 6}) {
		t.Errorf("P2.10: behind a change of the list Each gives %v", got)
	}
	b := list(5, 5)
	each = span.Each(b)
	b[0].Hi = 9
	for q := range each {
		t.Fatalf("P2.10: a list that was mended later gives %d", q)
	}
	c := list(2, 4, 6, 7)
	var got []int
	for q := range span.Each(c) {
		c[1] = api.Range{Lo: 100, Hi: 200}
		got = append(got, q)
	}
	if !slices.Equal(got, []int{2, 3, 6}) {
		t.Errorf("P2.10: a change on the way shows: %v", got)
	}
}

// What is left early asks no more: a second call of the same yield would be counted.
func TestP2_10LeftEarly(t *testing.T) {
	each := span.Each(list(2, 4, 6, 9, 20, 21))
	all := []int{2, 3, 6, 7, 8, 20}
	for k := 1; k <= len(all); k++ {
		var got []int
		each(func(q int) bool {
			got = append(got, q)
			return len(got) < k
		})
		if !slices.Equal(got, all[:k]) {
			t.Errorf("P2.10: left behind %d places it has given %v", k, got)
		}
	}
	if got := slices.Collect(each); !slices.Equal(got, all) {
		t.Errorf("P2.10: gone through again behind that it gives %v", got)
	}
}

func TestP2_10InsideItself(t *testing.T) {
	all := []int{2, 3, 6}
	each := span.Each(list(2, 4, 6, 7))
	var got, want [][2]int
	for x := range each {
		for y := range each {
			got = append(got, [2]int{x, y})
		}
	}
	for _, x := range all {
		for _, y := range all {
			want = append(want, [2]int{x, y})
		}
	}
	if !slices.Equal(got, want) {
		t.Errorf("P2.10: Each inside itself gives %v", got)
	}
}

// A million places made ahead of time would be megabytes; the ranges are a few bytes.
func TestP2_10MadeAsItGoes(t *testing.T) {
	var ahead, behind runtime.MemStats
	a := list(0, end)
	runtime.ReadMemStats(&ahead)
	for range 100 {
		for q := range span.Each(a) {
			if q == 3 {
				break
			}
		}
	}
	runtime.ReadMemStats(&behind)
	if used := behind.TotalAlloc - ahead.TotalAlloc; used > 1<<20 {
		t.Errorf("P2.10: left early a hundred times, Each took %d bytes", used)
	}
}
