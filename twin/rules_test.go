package twin_test

import (
	"testing"

	"tableau/sample"
	"tableau/trial"
	"tableau/twin"
)

// TestErrors: models that are not well formed, stacks of other sizes, and none; of several errors the least.
func TestErrors(t *testing.T) {
	if fault := trial.ErrorFault(twin.Sweep); fault != "" {
		t.Errorf("P23, errors: %s", fault)
	}
}

// TestMemory: with models of each kind, and stacks behind each kind of step.
func TestMemory(t *testing.T) {
	for seed := range 200 {
		if fault := trial.MemoryFault(twin.Sweep, sample.Prunable(seed)); fault != "" {
			t.Errorf("P23, memory, of %v: %s", sample.Prunable(seed), fault)
		}
		if fault := trial.MemoryFault(twin.Sweep, doubled(seed)); fault != "" {
			t.Errorf("P23, memory, of %v: %s", doubled(seed), fault)
		}
	}
	for i, m := range sample.Models() {
		if fault := trial.MemoryFault(twin.Sweep, m); fault != "" {
			t.Errorf("P23, memory, model %d: %s", i, fault)
		}
	}
}
