package window_test

import (
	"errors"
	"slices"
	"testing"

	"oocore/api"
	"oocore/window"
)

const many = 1000

func made(t *testing.T, size, registers int) *window.Window {
	t.Helper()
	w, err := window.New(size, registers)
	if err != nil || w == nil {
		t.Fatalf("W1: New(%d, %d) = %v, %v", size, registers, w != nil, err)
	}
	return w
}

func entry(c api.Class, src1, src2, dest int) api.Entry {
	return api.Entry{Class: c, Src1: src1, Src2: src2, Dest: dest}
}

func enters(t *testing.T, w *window.Window, e api.Entry, number int) {
	t.Helper()
	if n, err := w.Enter(e); n != number || err != nil {
		t.Errorf("W2: Enter(%+v) = %d, %v, want %d", e, n, err, number)
	}
}

func noEnter(t *testing.T, w *window.Window, e api.Entry, want error) {
	t.Helper()
	if n, err := w.Enter(e); n != 0 || !errors.Is(err, want) {
		t.Errorf("W2: Enter(%+v) = %d, %v, want %v", e, n, err, want)
	}
}

func wakes(t *testing.T, w *window.Window, p int, want error) {
	t.Helper()
	if err := w.Wake(p); !errors.Is(err, want) {
		t.Errorf("W3: Wake(%d) = %v, want %v", p, err, want)
	}
}

func ready(t *testing.T, w *window.Window, c api.Class, most int, want ...int) {
	t.Helper()
	if got := w.Ready(c, most); !slices.Equal(got, want) {
		t.Errorf("W3: Ready(%d, %d) = %v, want %v", c, most, got, want)
	}
}

func issues(t *testing.T, w *window.Window, number int, want error) {
	t.Helper()
	if err := w.Issue(number); !errors.Is(err, want) {
		t.Errorf("W4: Issue(%d) = %v, want %v", number, err, want)
	}
}

func again(t *testing.T, w *window.Window, number int, want error) {
	t.Helper()
	if err := w.Again(number); !errors.Is(err, want) {
		t.Errorf("W4: Again(%d) = %v, want %v", number, err, want)
	}
}

func does(t *testing.T, w *window.Window, number int, want error) {
	t.Helper()
	if err := w.Done(number); !errors.Is(err, want) {
		t.Errorf("W4: Done(%d) = %v, want %v", number, err, want)
	}
}

func head(t *testing.T, w *window.Window, number int, done bool) {
	t.Helper()
	if n, d, is := w.Head(); n != number || d != done || !is {
		t.Errorf("W5: Head() = %d, %v, %v, want %d, %v, true", n, d, is, number, done)
	}
}

func empty(t *testing.T, w *window.Window) {
	t.Helper()
	if n, d, is := w.Head(); n != 0 || d || is {
		t.Errorf("W5: Head() = %d, %v, %v of an empty window", n, d, is)
	}
	length(t, w, 0)
}

func length(t *testing.T, w *window.Window, want int) {
	t.Helper()
	if got := w.Len(); got != want {
		t.Errorf("W5: Len() = %d, want %d", got, want)
	}
}

func retires(t *testing.T, w *window.Window, number int) {
	t.Helper()
	if n, err := w.Retire(); n != number || err != nil {
		t.Errorf("W5: Retire() = %d, %v, want %d", n, err, number)
	}
}

func noRetire(t *testing.T, w *window.Window) {
	t.Helper()
	if n, err := w.Retire(); n != 0 || !errors.Is(err, api.ErrState) {
		t.Errorf("W5: Retire() = %d, %v, want ErrState", n, err)
	}
}

func squashes(t *testing.T, w *window.Window, after int, want ...int) {
	t.Helper()
	if got := w.Squash(after); !slices.Equal(got, want) {
		t.Errorf("W5: Squash(%d) = %v, want %v", after, got, want)
	}
}

// through takes one that may begin to its end.
func through(t *testing.T, w *window.Window, number int) {
	t.Helper()
	issues(t, w, number, nil)
	does(t, w, number, nil)
}

func classes() []api.Class {
	return []api.Class{api.Alu, api.Muldiv, api.Branch, api.Jump, api.Load, api.Store, api.Atomic, api.System}
}
