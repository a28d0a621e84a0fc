package tests

import (
	"testing"

	"loop.example/homeconsole/impl"
)

func TestConstantsOfTheTable(t *testing.T) {
	for _, c := range []struct {
		name  string
		value int
		want  int
	}{
		{"BankSize", impl.BankSize, 256},
		{"MaxBanks", impl.MaxBanks, 4},
		{"Top", impl.Top, 1023},
		{"OpWait", impl.OpWait, 0},
		{"OpSet", impl.OpSet, 1},
		{"OpLoad", impl.OpLoad, 2},
		{"OpStore", impl.OpStore, 3},
		{"OpAdd", impl.OpAdd, 4},
		{"OpSub", impl.OpSub, 5},
		{"OpAnd", impl.OpAnd, 6},
		{"OpXor", impl.OpXor, 7},
		{"OpLeft", impl.OpLeft, 8},
		{"OpRight", impl.OpRight, 9},
		{"OpJump", impl.OpJump, 10},
		{"OpZero", impl.OpZero, 11},
		{"OpCarry", impl.OpCarry, 12},
		{"OpCall", impl.OpCall, 13},
		{"OpReturn", impl.OpReturn, 14},
		{"OpStop", impl.OpStop, 15},
		{"MaxOrders", impl.MaxOrders, 60},
		{"MaxCalls", impl.MaxCalls, 8},
		{"MaxRun", impl.MaxRun, 500},
		{"Start", impl.Start, 512},
		{"MaxReload", impl.MaxReload, 1000},
		{"MaxCycles", impl.MaxCycles, 100000},
		{"ColorTop", impl.ColorTop, 31},
		{"MaxField", impl.MaxField, 8},
		{"MaxTiles", impl.MaxTiles, 16},
		{"LineSize", impl.LineSize, 32},
		{"Lines", impl.Lines, 16},
		{"MaxShift", impl.MaxShift, 255},
		{"MaxSprites", impl.MaxSprites, 12},
		{"MaxOnLine", impl.MaxOnLine, 4},
		{"MaxChanges", impl.MaxChanges, 8},
		{"MaxVoices", impl.MaxVoices, 4},
		{"MaxSamples", impl.MaxSamples, 400},
		{"MaxState", impl.MaxState, 512},
		{"MaxRing", impl.MaxRing, 16},
		{"MaxSave", impl.MaxSave, 32},
		{"MaxFrames", impl.MaxFrames, 300},
		{"StopAt", impl.StopAt, 1},
		{"StopA", impl.StopA, 2},
		{"StopCell", impl.StopCell, 3},
		{"MaxStops", impl.MaxStops, 8},
		{"MaxPlace", impl.MaxPlace, 1000},
		{"MaxSide", impl.MaxSide, 40},
		{"MaxMove", impl.MaxMove, 64},
		{"MaxPacked", impl.MaxPacked, 256},
		{"MaxPitch", impl.MaxPitch, 35},
		{"MaxNotes", impl.MaxNotes, 40},
		{"MaxCheats", impl.MaxCheats, 8},
		{"FrameSteps", impl.FrameSteps, 40},
		{"KeyCell", impl.KeyCell, 255},
		{"ColumnCell", impl.ColumnCell, 254},
		{"RowCell", impl.RowCell, 253},
	} {
		if c.value != c.want {
			t.Error(c.name, c.value, c.want)
		}
	}
}
