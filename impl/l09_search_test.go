package impl

import "testing"

// No square among those tried makes a mate search of more than 11040 trials, and smaller limits stand for MaxTrials
// here.
func TestMatesUpToALimit(t *testing.T) {
	cases := []struct {
		text string
		made trials // until the mate, or in all
		code int64
	}{
		{"0", 1, ErrNone},
		{"01/10", 0, ErrNotFound},
		{"012/120/201", 3, ErrNone},
		{"01234/10342/24013/32401/43120", 3, ErrNotFound},
		{"0123456/1032564/2305641/3456012/4561203/5614320/6240135", 19, ErrNotFound},
		{"16374502/43621057/57260413/21053764/75142630/30416275/64507321/02735146", 308, ErrNone},
		{"46571302/17403526/01647235/52364170/73052614/30125467/64230751/25716043", 2167, ErrNone},
		{"50762314/42170635/67051243/36407521/05314762/13246057/71523406/24635170", 6144, ErrNotFound},
		{"05712364/23460517/64321705/71504632/17056423/46237150/32645071/50173246", 11040, ErrNotFound},
	}
	for _, c := range cases {
		q, _ := ParseSquare(c.text)
		want, code := MateOf(q)
		if code != c.code {
			t.Errorf("MateOf(%s): code %d", c.text, code)
		}
		for _, most := range []trials{c.made, c.made + 1, MaxTrials} {
			if mate, code := mateOf(q, most); mate != want || code != c.code {
				t.Errorf("at most %d trials for %s: %v, %d", most, c.text, mate, code)
			}
		}
		for _, most := range []trials{0, c.made / 2, c.made - 1} {
			if most < 0 || most >= c.made {
				continue
			}
			if mate, code := mateOf(q, most); mate != (Square{}) || code != ErrLimit {
				t.Errorf("at most %d trials for %s: %v, %d", most, c.text, mate, code)
			}
		}
	}
}

// Endings end a search, and nothing else does.
func TestEndOf(t *testing.T) {
	called := false
	if end := endOf(func() { called = true }); end != (ending{code: ErrNotFound}) || !called {
		t.Errorf("a search that tries all: %v, %v", end, called)
	}
	q, _ := CyclicSquare(3)
	for _, want := range []ending{{square: q, code: ErrNone}, {code: ErrLimit}} {
		if end := endOf(func() { panic(want) }); end != want {
			t.Errorf("a search that ends with %v: %v", want, end)
		}
	}
	defer func() {
		if recover() == nil {
			t.Error("another panic did not go on")
		}
	}()
	endOf(func() { panic("another reason") })
}
