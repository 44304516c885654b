package pairup_test

import (
	"testing"

	"tableau/pairup"
	"tableau/sample"
	"tableau/trial"
)

// TestErrors: models that are not well formed, stacks of other sizes, and none; of several errors the least.
func TestErrors(t *testing.T) {
	if fault := trial.ErrorFault(pairup.Sweep); fault != "" {
		t.Errorf("P21, errors: %s", fault)
	}
}

// TestMemory: with models of each kind, and stacks behind each kind of step.
func TestMemory(t *testing.T) {
	for seed := range 200 {
		if fault := trial.MemoryFault(pairup.Sweep, sample.Prunable(seed)); fault != "" {
			t.Errorf("P21, memory, of %v: %s", sample.Prunable(seed), fault)
		}
		if fault := trial.MemoryFault(pairup.Sweep, equations(seed)); fault != "" {
			t.Errorf("P21, memory, of %v: %s", equations(seed), fault)
		}
	}
	for i, m := range sample.Models() {
		if fault := trial.MemoryFault(pairup.Sweep, m); fault != "" {
			t.Errorf("P21, memory, model %d: %s", i, fault)
		}
	}
}
