package tests

import (
	"runtime/debug"
	"testing"
)

// The tests make very many images that live but shortly: the collector would take half of
// their time if it came as often as it does by itself.
func TestMain(m *testing.M) {
	debug.SetGCPercent(800)
	m.Run()
}
