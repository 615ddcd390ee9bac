package impl

import (
	"errors"
	"slices"
	"testing"
)

// A witness is found behind other errors, too, and tells the elements with which a law fails.
func TestWitness(t *testing.T) {
	err := errors.Join(errors.New("another error"), witness{[]int64{1, 0, 2}})
	list, code := witnessOf(Square{}, func(Square) error { return err })
	if !slices.Equal(list, []int64{1, 0, 2}) || code != ErrNone {
		t.Errorf("witnessOf = %v, %d", list, code)
	}
	list, code = witnessOf(Square{}, func(Square) error { return nil })
	if len(list) != 0 || code != ErrNotFound {
		t.Errorf("witnessOf = %v, %d", list, code)
	}
	if text := (witness{[]int64{1, 0, 2}}).Error(); text != "a law fails with 1 0 2" {
		t.Errorf("the error is %q", text)
	}
}

// All loops are checked, and the error is that of the first one, whichever is ready first.
func TestFailureAmong(t *testing.T) {
	var loops []Square
	for n := range int64(10) {
		loops = append(loops, Square{Order: n + 1})
	}
	for least := range int64(12) {
		fromLeast := func(q Square) error {
			if q.Order < least {
				return nil
			}
			return witness{[]int64{q.Order}}
		}
		var w witness
		found := errors.As(failureAmong(loops, fromLeast), &w)
		if want := max(least, 1); found != (want <= 10) || found && w.elements[0] != want {
			t.Errorf("from %d on: %v, %v", least, found, w)
		}
	}
}
