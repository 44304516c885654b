package dominate_test

import (
	"testing"

	"tableau/dominate"
	"tableau/sample"
	"tableau/trial"
)

// TestErrors: models that are not well formed, stacks of other sizes, and none; of several errors the least.
func TestErrors(t *testing.T) {
	if fault := trial.ErrorFault(dominate.Sweep); fault != "" {
		t.Errorf("P20, errors: %s", fault)
	}
}

// TestMemory: with models of each kind, and stacks behind each kind of step.
func TestMemory(t *testing.T) {
	for seed := range 200 {
		if fault := trial.MemoryFault(dominate.Sweep, sample.Prunable(seed)); fault != "" {
			t.Errorf("P20, memory, of %v: %s", sample.Prunable(seed), fault)
		}
	}
	for i, m := range sample.Models() {
		if fault := trial.MemoryFault(dominate.Sweep, m); fault != "" {
			t.Errorf("P20, memory, model %d: %s", i, fault)
		}
	}
	for _, from := range []string{
		"min 5 / col y 3 1 inf / col x -2 0 inf / row r 2 inf 1 y 3 x / row q -inf 4 -1/2 x",
		"min 5 / col y 3 1 inf / col x 2 -inf 6 / row r -inf 2 1 y 3 x / row q -4 inf -1/2 x",
		"min 5 / col y 1 5 5 / col z 0 -inf inf / col v -5 -5 5 / col w 5 5 -5",
	} {
		if fault := trial.MemoryFault(dominate.Sweep, read(t, from)); fault != "" {
			t.Errorf("P20, memory, of %s: %s", from, fault)
		}
	}
}
