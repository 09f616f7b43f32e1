package cache_test

import (
	"errors"
	"testing"

	"oocore/api"
	"oocore/cache"
)

type bytes = [api.LineSize]byte

var (
	sizes  = []int{1, 2, 4}
	states = []api.State{api.Shared, api.Exclusive, api.Modified}
)

func made(t *testing.T, sets, ways int) *cache.Cache {
	t.Helper()
	c, err := cache.New(api.Shape{Sets: sets, Ways: ways})
	if err != nil || c == nil {
		t.Fatalf("K1: New(%d, %d) = %v, %v", sets, ways, c != nil, err)
	}
	return c
}

// row has the bytes n, n+1, ...
func row(n int) bytes {
	var b bytes
	for i := range b {
		b[i] = byte(n + i)
	}
	return b
}

// fills lays a line in that needs no other to leave.
func fills(t *testing.T, c *cache.Cache, addr uint32, b bytes, s api.State) {
	t.Helper()
	if l, left, err := c.Fill(addr, b, s); l != (api.Line{}) || left || err != nil {
		t.Errorf("K3: Fill(%x, %d) = %x, %v, %v, want none that leaves", addr, s, l, left, err)
	}
}

// drives lays a line in for which another has to leave.
func drives(t *testing.T, c *cache.Cache, addr uint32, b bytes, s api.State, want api.Line) {
	t.Helper()
	if l, left, err := c.Fill(addr, b, s); l != want || !left || err != nil {
		t.Errorf("K3: Fill(%x, %d) = %x, %v, %v, want %x that leaves", addr, s, l, left, err, want)
	}
}

func noFill(t *testing.T, c *cache.Cache, addr uint32, s api.State, want error) {
	t.Helper()
	if l, left, err := c.Fill(addr, row(200), s); l != (api.Line{}) || left || !errors.Is(err, want) {
		t.Errorf("K3: Fill(%x, %d) = %x, %v, %v, want %v", addr, s, l, left, err, want)
	}
}

func lowers(t *testing.T, c *cache.Cache, addr uint32, s api.State, was api.State, b bytes) {
	t.Helper()
	if l, err := c.Lower(addr, s); l != (api.Line{Addr: addr, State: was, Bytes: b}) || err != nil {
		t.Errorf("K4: Lower(%x, %d) = %x, %v, want state %d, %x", addr, s, l, err, was, b)
	}
}

func noLower(t *testing.T, c *cache.Cache, addr uint32, s api.State, want error) {
	t.Helper()
	if l, err := c.Lower(addr, s); l != (api.Line{}) || !errors.Is(err, want) {
		t.Errorf("K4: Lower(%x, %d) = %x, %v, want %v", addr, s, l, err, want)
	}
}

func state(t *testing.T, c *cache.Cache, addr uint32, want api.State) {
	t.Helper()
	if got := c.State(addr); got != want {
		t.Errorf("K1: State(%x) = %d, want %d", addr, got, want)
	}
}

func reads(t *testing.T, c *cache.Cache, addr uint32, size int, want uint32) {
	t.Helper()
	if v, ok := c.Read(addr, size); v != want || !ok {
		t.Errorf("K2: Read(%x, %d) = %x, %v, want %x", addr, size, v, ok, want)
	}
}

func noRead(t *testing.T, c *cache.Cache, addr uint32, size int) {
	t.Helper()
	if v, ok := c.Read(addr, size); v != 0 || ok {
		t.Errorf("K2: Read(%x, %d) = %x, %v, want false", addr, size, v, ok)
	}
}

func writes(t *testing.T, c *cache.Cache, addr uint32, size int, data uint32) {
	t.Helper()
	if !c.Write(addr, size, data) {
		t.Errorf("K2: Write(%x, %d, %x) = false", addr, size, data)
	}
}

func noWrite(t *testing.T, c *cache.Cache, addr uint32, size int) {
	t.Helper()
	if c.Write(addr, size, 0xffffffff) {
		t.Errorf("K2: Write(%x, %d) = true", addr, size)
	}
}
