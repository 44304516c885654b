package tighten_test

import (
	"testing"

	"tableau/sample"
	"tableau/tighten"
	"tableau/trial"
)

// TestErrors: models that are not well formed, stacks of other sizes, and none; of several errors the least.
func TestErrors(t *testing.T) {
	if fault := trial.ErrorFault(tighten.Sweep); fault != "" {
		t.Errorf("P24, errors: %s", fault)
	}
}

// TestMemory: with models of each kind, and stacks behind each kind of step.
func TestMemory(t *testing.T) {
	for seed := range 300 {
		if fault := trial.MemoryFault(tighten.Sweep, sample.Prunable(seed)); fault != "" {
			t.Errorf("P24, memory, of %v: %s", sample.Prunable(seed), fault)
		}
		if fault := trial.MemoryFault(tighten.Sweep, bounded(seed)); fault != "" {
			t.Errorf("P24, memory, of %v: %s", bounded(seed), fault)
		}
	}
	for i, m := range sample.Models() {
		if fault := trial.MemoryFault(tighten.Sweep, m); fault != "" {
			t.Errorf("P24, memory, model %d: %s", i, fault)
		}
	}
}
